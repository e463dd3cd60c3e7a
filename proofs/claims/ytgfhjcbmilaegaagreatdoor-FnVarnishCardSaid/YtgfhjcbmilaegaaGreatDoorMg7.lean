/-
  Texts that stand together: Reg.
-/
import Derived.OrdersHeld
import Derived.OrdersIn
import Derived.Deep.Quiet
import Derived.Deep.RegionHeld
import Derived.RangeFuncCalls
import Derived.TacticsIn
import Derived.KernelRfl
import Derived.Test.YtgfhjcbmilaegaaGreatDoorMg1
namespace Go.Proofs.YtgfhjcbmilaegaaGreatDoor
set_option linter.unusedVariables false
set_option linter.unusedSimpArgs false
section
variable {P : Program} {ops pre : Array Oper} {md : Region.Mode} {Q : Exit → Act → World → Prop} {m : Nat}
/-- what operation j waits for -/
def depsOf (md : Region.Mode) (ops : Array Oper) (j : Nat) : List Nat :=
  match ops[j]? with
  | none => []
  | some o => (o.after.toList.filter fun e => Region.binds md e).map (·.on)
theorem mem_deps {j x : Nat} {o : Oper} (ho : ops[j]? = some o) : x ∈ depsOf md ops j ↔ ∃ e ∈ o.after, Region.binds md e = true ∧ e.on = x := by
  unfold depsOf
  rw [ho]
  simp only [List.mem_map, List.mem_filter, Array.mem_toList_iff, and_assoc]
/-- all that stands before j on whom A waits -/
def reachN (md : Region.Mode) (ops : Array Oper) : Nat → List Nat → List Nat
  | 0, A => A
  | j + 1, A => reachN md ops j (if A.contains j then A ++ depsOf md ops j else A)
def Closed (md : Region.Mode) (ops : Array Oper) (L : Array Bool) : Prop := ∀ i, L.getD i false = true → ∀ x ∈ depsOf md ops i, L.getD x false = true
theorem reach_listed {L : Array Bool} (hc : Closed md ops L) : ∀ (j : Nat) (A : List Nat), (∀ x ∈ A, L.getD x false = true) → ∀ x ∈ reachN md ops j A, L.getD x false = true
  | 0, A, h, x, hx => h x hx
  | j + 1, A, h, x, hx => by
    refine reach_listed hc j _ (fun y hy => ?_) x hx
    by_cases hj : A.contains j = true
    · rw [if_pos hj] at hy
      rcases List.mem_append.1 hy with hy | hy
      · exact h y hy
      · exact hc j (h j (by simpa using hj)) y hy
    · rw [if_neg hj] at hy; exact h y hy
/-- the operations from m on wait, each, for all that stand before it; nobody waits for a later one; guards of the first m stand among them -/
def ordB (md : Region.Mode) (ops : Array Oper) (m : Nat) : Bool :=
  decide (m ≤ ops.size) && (List.range ops.size).all (fun i => (depsOf md ops i).all fun x => decide (x < i)) &&
  (List.range (ops.size - m)).all (fun t => (List.range (m + t)).all fun x => (reachN md ops (m + t) (depsOf md ops (m + t))).contains x) &&
  (List.range m).all fun i => match ops[i]? with
    | some o => (match o.guard with | some (g, _) => decide (g < m) | none => true)
    | none => true
structure Ord (md : Region.Mode) (ops : Array Oper) (m : Nat) : Prop where
  size : m ≤ ops.size
  low : ∀ i, i < ops.size → ∀ x ∈ depsOf md ops i, x < i
  wait : ∀ k, m ≤ k → k < ops.size → ∀ x, x < k → x ∈ reachN md ops k (depsOf md ops k)
  guards : ∀ i o, i < m → ops[i]? = some o → ∀ g b, o.guard = some (g, b) → g < m
theorem ord_of (h : ordB md ops m = true) : Ord md ops m := by
  simp only [ordB, Bool.and_eq_true, decide_eq_true_eq, List.all_eq_true, List.mem_range] at h
  obtain ⟨⟨⟨h1, h2⟩, h3⟩, h4⟩ := h
  refine ⟨h1, h2, fun k hk hks x hx => ?_, fun i o hi ho g b hg => ?_⟩
  · have := h3 (k - m) (by omega) x (by omega)
    rw [show m + (k - m) = k by omega] at this
    simpa using this
  · have := h4 i hi
    rw [ho] at this
    simp only [hg, decide_eq_true_eq] at this
    exact this
theorem ready_iff {j : Nat} {L : Array Bool} : j ∈ Region.ready md ops L ↔ L.getD j true = false ∧ j < ops.size ∧ ∀ x ∈ depsOf md ops j, L.getD x false = true := by
  rw [mem_ready]
  constructor
  · rintro ⟨h0, o, ho, h⟩
    refine ⟨h0, (Array.getElem?_eq_some_iff.1 ho).1, fun x hx => ?_⟩
    obtain ⟨e, he, hb, rfl⟩ := (mem_deps ho).1 hx
    exact h e he hb
  · rintro ⟨h0, hj, h⟩
    refine ⟨h0, ops[j], Array.getElem?_eq_getElem hj, fun e he hb => h _ ((mem_deps (Array.getElem?_eq_getElem hj)).2 ⟨e, he, hb, rfl⟩)⟩
theorem getD_tf {L : Array Bool} {j : Nat} (h : L.getD j false = true) : L.getD j true = true := by
  rw [Array.getD_eq_getD_getElem?] at h ⊢
  cases e : L[j]? with
  | none => rw [e] at h; simp at h
  | some b => rw [e] at h; simpa using h
theorem getD_ff {L : Array Bool} {j : Nat} (h : L.getD j true = false) : L.getD j false = false := by
  rw [Array.getD_eq_getD_getElem?] at h ⊢
  cases e : L[j]? with
  | none => rfl
  | some b => rw [e] at h; simpa using h
theorem getD_in {L : Array Bool} {j : Nat} (hj : j < L.size) (d d' : Bool) : L.getD j d = L.getD j d' := by
  rw [Array.getD_eq_getD_getElem?, Array.getD_eq_getD_getElem?, Array.getElem?_eq_getElem hj]; rfl
theorem closed_set {L : Array Bool} {i : Nat} (hc : Closed md ops L) (hi : ∀ x ∈ depsOf md ops i, L.getD x false = true) : Closed md ops (L.setIfInBounds i true) := by
  intro j hj x hx
  refine getD_set_true ?_
  by_cases h : i = j
  · subst h; exact hi x hx
  · rw [getD_set_ne false h] at hj; exact hc j hj x hx
/-- the last ones: all before k are listed, none from k on -/
theorem tail_any (ho : Ord md ops m) : ∀ (t k : Nat) (L : Array Bool) (a : Act) (w : World), m ≤ k → k + t = ops.size → L.size = ops.size → (∀ i, i < k → L.getD i false = true) → (∀ i, k ≤ i → L.getD i false = false) →
    wpOps P ops Q (List.range' k t) a w → wpAny P md ops Q t L a w
  | 0, k, L, a, w, hk, hn, hs, h1, h2, h => by
    refine ⟨?_, h⟩
    refine List.eq_nil_iff_forall_not_mem.2 fun j hj => ?_
    obtain ⟨h3, h4, _⟩ := ready_iff.1 hj
    have := getD_tf (h1 j (by omega))
    rw [h3] at this; cases this
  | t + 1, k, L, a, w, hk, hn, hs, h1, h2, h => by
    have hrk : k ∈ Region.ready md ops L := ready_iff.2 ⟨by rw [getD_in (by omega) true false]; exact h2 k (Nat.le_refl _), by omega, fun x hx => h1 x (ho.low k (by omega) x hx)⟩
    refine ⟨fun h0 => (by rw [h0] at hrk; cases hrk), fun i hi => ?_⟩
    have hik : i = k := by
      obtain ⟨h3, h4, h5⟩ := ready_iff.1 hi
      rcases Nat.lt_trichotomy i k with hlt | heq | hgt
      · have := getD_tf (h1 i hlt); rw [h3] at this; cases this
      · exact heq
      · have hc : Closed md ops L := fun j hj x hx => by
          rcases Nat.lt_or_ge j k with hjk | hjk
          · exact h1 x (Nat.lt_trans (ho.low j (by omega) x hx) hjk)
          · rw [h2 j hjk] at hj; cases hj
        have := reach_listed hc i _ h5 k (ho.wait i (by omega) h4 k hgt)
        rw [h2 k (Nat.le_refl _)] at this; cases this
    subst hik
    rw [List.range'_succ, wpOps_cons] at h
    refine wpOp_mono (fun a' w' h' => ?_) h
    exact tail_any ho t (i + 1) _ a' w' (by omega) (by omega) (by simp [hs]) (fun j hj => by
      by_cases hji : i = j
      · subst hji
        have hlt : i < L.size := by omega
        simp [hlt]
      · rw [getD_set_ne false hji]; exact h1 j (by omega)) (fun j hj => by rw [getD_set_ne false (by omega)]; exact h2 j (by omega)) h'
/-- behind the first m operations: the others in their order -/
def tailQ (P : Program) (ops : Array Oper) (m : Nat) (Q : Exit → Act → World → Prop) : Exit → Act → World → Prop
  | .normal, a, w => wpOps P ops Q (List.range' m (ops.size - m)) a w
  | e, a, w => Q e a w
theorem yielded_pre (hp : ∀ i, i < m → pre[i]? = ops[i]?) (tmps : Array Value) {g : Nat} (hg : g < m) : yielded ops tmps g = yielded pre tmps g := by
  unfold yielded; rw [hp g hg]
theorem wanted_pre (ho : Ord md ops m) (hp : ∀ i, i < m → pre[i]? = ops[i]?) (tmps : Array Value) {i : Nat} {o : Oper} (hi : i < m) (hio : ops[i]? = some o) :
    Region.wanted o (yielded ops tmps) = Region.wanted o (yielded pre tmps) := by
  unfold Region.wanted
  cases hg : o.guard with
  | none => rfl
  | some gb =>
    obtain ⟨g, b⟩ := gb
    simp only []
    rw [yielded_pre hp tmps (ho.guards i o hi hio g b hg)]
theorem upon_tail {o : Oper} {a : Act} {w : World} {K K' : Act → World → Prop} (h : ∀ a w, K a w → K' a w) (hh : o.wp P a w K (tailQ P ops m Q) ∨ (o.asks P a w ∧ LetsOut (tailQ P ops m Q))) : o.wp P a w K' Q ∨ (o.asks P a w ∧ LetsOut Q) := by
  rcases hh with hh | ⟨h1, a2, w2, h2⟩
  · left
    unfold Oper.wp at *
    generalize (execOp a.eval o).run P w = r at *
    cases r with
    | ok x w' =>
      cases x <;> simp only [Oper.upon] at hh ⊢ <;>
        first
          | exact h _ _ hh
          | exact hh.mono (fun e w'' he => by cases e <;> first | exact h _ _ he | exact he)
          | exact Rows.mono hh (fun _ _ he => h _ _ he)
          | exact hh
    | halt x w' => cases x <;> simp only [Oper.upon] at hh ⊢ <;> exact hh
  · exact .inr ⟨h1, a2, w2, h2⟩
theorem pre_any (ho : Ord md ops m) (hm : pre.size = m) (hp : ∀ i, i < m → pre[i]? = ops[i]?) : ∀ (fuel : Nat) (LP L : Array Bool) (a : Act) (w : World), LP.size = m → L.size = ops.size →
    (∀ i, i < m → L.getD i false = LP.getD i false) → (∀ i, m ≤ i → L.getD i false = false) → Closed md ops L → fuel = ((List.range m).filter fun i => !LP.getD i false).length →
    wpAny P md pre (tailQ P ops m Q) fuel LP a w → wpAny P md ops Q (fuel + (ops.size - m)) L a w := by
  intro fuel
  have hdeps : ∀ i, i < m → depsOf md pre i = depsOf md ops i := fun i hi => by unfold depsOf; rw [hp i hi]
  -- all listed: on to the tail
  have done : ∀ (fuel : Nat) (LP L : Array Bool) (a : Act) (w : World), L.size = ops.size → (∀ i, i < m → L.getD i false = true) → (∀ i, m ≤ i → L.getD i false = false) → wpOps P ops Q (List.range' m (ops.size - m)) a w → wpAny P md ops Q (ops.size - m) L a w :=
    fun fuel LP L a w hs h1 h2 h => tail_any ho (ops.size - m) m L a w (Nat.le_refl _) (by have := ho.size; omega) hs h1 h2 h
  induction fuel with
  | zero =>
    intro LP L a w hLP hL h1 h2 hc hf h
    have hall : ∀ i, i < m → LP.getD i false = true := fun i hi => by
      cases e : LP.getD i false with
      | true => rfl
      | false =>
        have : i ∈ (List.range m).filter fun i => !LP.getD i false := List.mem_filter.2 ⟨List.mem_range.2 hi, by rw [e]; rfl⟩
        rw [List.eq_nil_of_length_eq_zero hf.symm] at this; cases this
    rw [Nat.zero_add]
    exact done 0 LP L a w hL (fun i hi => by rw [h1 i hi]; exact hall i hi) h2 h.2
  | succ fuel ih =>
    intro LP L a w hLP hL h1 h2 hc hf h
    -- one is not listed: none of the tail may come up
    have hone : ∃ i, i < m ∧ LP.getD i false = false := by
      have hne : ((List.range m).filter fun i => !LP.getD i false) ≠ [] := fun e => by rw [e] at hf; cases hf
      obtain ⟨i, hi⟩ := List.exists_mem_of_ne_nil _ hne
      obtain ⟨h3, h4⟩ := List.mem_filter.1 hi
      exact ⟨i, List.mem_range.1 h3, by simpa using h4⟩
    have hlow : ∀ i ∈ Region.ready md ops L, i < m := fun i hi => by
      obtain ⟨h3, h4, h5⟩ := ready_iff.1 hi
      rcases Nat.lt_or_ge i m with hlt | hge
      · exact hlt
      · obtain ⟨j, hj, hj2⟩ := hone
        have := reach_listed hc i _ h5 j (ho.wait i hge h4 j (by omega))
        rw [h1 j hj, hj2] at this; cases this
    have hsame : ∀ i, i < m → (i ∈ Region.ready md ops L ↔ i ∈ Region.ready md pre LP) := fun i hi => by
      rw [ready_iff, ready_iff, hdeps i hi, getD_in (by have := ho.size; omega) true false, getD_in (L := LP) (by omega) true false, h1 i hi]
      constructor
      · rintro ⟨h3, _, h5⟩
        exact ⟨h3, by omega, fun x hx => by have := ho.low i (by have := ho.size; omega) x hx; rw [← h1 x (by omega)]; exact h5 x hx⟩
      · rintro ⟨h3, _, h5⟩
        exact ⟨h3, by have := ho.size; omega, fun x hx => by have := ho.low i (by have := ho.size; omega) x hx; rw [h1 x (by omega)]; exact h5 x hx⟩
    have hsome : ∃ i, i < m ∧ i ∈ Region.ready md ops L := by
      obtain ⟨j, hj, hj2⟩ := hone
      have : ∀ n j, j < n → j < m → LP.getD j false = false → ∃ i, i < m ∧ i ∈ Region.ready md ops L := by
        intro n
        induction n with
        | zero => intro j hj _ _; omega
        | succ n ihn =>
          intro j hjn hjm hj0
          by_cases hd : ∀ x ∈ depsOf md ops j, L.getD x false = true
          · exact ⟨j, hjm, ready_iff.2 ⟨by rw [getD_in (by have := ho.size; omega) true false, h1 j hjm]; exact hj0, by have := ho.size; omega, hd⟩⟩
          · simp only [Classical.not_forall] at hd
            obtain ⟨x, hx, hx2⟩ := hd
            have hxj := ho.low j (by have := ho.size; omega) x hx
            refine ihn x (by omega) (by omega) ?_
            rw [← h1 x (by omega)]
            simpa using hx2
      exact this (j + 1) j (by omega) hj hj2
    rw [Nat.succ_add]
    refine ⟨fun h0 => ?_, fun i hi => ?_⟩
    · obtain ⟨i, _, hi⟩ := hsome
      rw [h0] at hi; cases hi
    · have him := hlow i hi
      have hip := (hsame i him).1 hi
      have h3 := h.2 i hip
      obtain ⟨h4, h5, h6⟩ := ready_iff.1 hi
      have hi0 : LP.getD i false = false := by rw [← h1 i him]; exact getD_ff h4
      have hcnt : fuel = ((List.range m).filter fun j => !(LP.setIfInBounds i true).getD j false).length := by
        have e1 : ((List.range m).filter fun j => !(LP.setIfInBounds i true).getD j false) = ((List.range m).filter fun j => !LP.getD j false).erase i := by
          rw [List.Nodup.erase_eq_filter (List.nodup_range.filter _), List.filter_filter]
          refine List.filter_congr fun x hx => ?_
          by_cases hxi : i = x
          · subst hxi
            have : i < LP.size := by omega
            simp [this]
          · rw [getD_set_ne false hxi]
            simp [Ne.symm hxi]
        rw [e1, List.length_erase_of_mem (List.mem_filter.2 ⟨List.mem_range.2 him, by rw [hi0]; rfl⟩), ← hf]
        rfl
      have next : ∀ a' w', wpAny P md pre (tailQ P ops m Q) fuel (LP.setIfInBounds i true) a' w' → wpAny P md ops Q (fuel + (ops.size - m)) (L.setIfInBounds i true) a' w' := fun a' w' h7 =>
        ih (LP.setIfInBounds i true) (L.setIfInBounds i true) a' w' (by simp [hLP]) (by simp [hL]) (fun j hj => by
          by_cases hij : i = j
          · subst hij
            have q1 : i < L.size := by have := ho.size; omega
            have q2 : i < LP.size := by omega
            simp [q1, q2]
          · rw [getD_set_ne false hij, getD_set_ne false hij]; exact h1 j hj) (fun j hj => by rw [getD_set_ne false (by omega)]; exact h2 j hj) (closed_set hc h6) hcnt h7
      have hoi : ops[i]? = some ops[i] := Array.getElem?_eq_getElem h5
      unfold wpOp at h3 ⊢
      rw [hp i him, hoi] at h3
      simp only [hoi] at h3 ⊢
      rw [wanted_pre ho hp a.tmps him hoi]
      by_cases hw : Region.wanted ops[i] (yielded pre a.tmps) = true
      · rw [if_pos hw] at h3 ⊢
        exact upon_tail next h3
      · rw [if_neg hw] at h3 ⊢
        exact next _ _ h3
/-- a region: its first operations in whatever order, then the others -/
theorem any_of_pre {a : Act} {w : World} (hB : ordB md ops m = true) (hm : pre.size = m) (hp : ∀ i, i < m → pre[i]? = ops[i]?) (h : wpAny P md pre (tailQ P ops m Q) pre.size (Array.replicate pre.size false) a w) :
    wpAny P md ops Q ops.size (Array.replicate ops.size false) a w := by
  have ho := ord_of hB
  have hr : ∀ (n i : Nat), (Array.replicate n false).getD i false = false := fun n i => by
    rw [Array.getD_eq_getD_getElem?, Array.getElem?_replicate]; split <;> rfl
  have := pre_any (P := P) (Q := Q) ho hm hp pre.size (Array.replicate pre.size false) (Array.replicate ops.size false) a w (by simp [hm]) (by simp) (fun i _ => by rw [hr, hr]) (fun i _ => hr _ _)
    (fun i hi => by rw [hr] at hi; cases hi) (by
      rw [hm, List.filter_eq_self.2 (fun i _ => by rw [hr]; rfl), List.length_range]) h
  rwa [hm, Nat.add_sub_cancel' ho.size] at this
end
/-! ### within a round -/
section
variable {P : Program} {ops : Array Oper} {md : Region.Mode} {Q : Exit → Act → World → Prop} {l n : Nat}
theorem rows_round {row : String} {args : Array Value} {w : World} {R : Value → World → Prop} (h : Rows P row args w R) : RowsIn (Fence.wide.inRound l) n P row args w R :=
  fun c cs _ => let ⟨v, w', r, s⟩ := h c cs; ⟨v, w', r, stepsIn_wide.2 s⟩
theorem op_round {o : Oper} {a : Act} {w : World} {K K' : Act → World → Prop} (hd : ∀ c, o.op ≠ .defer c) (hQ : ¬ LetsOut Q) (h : ∀ a w, K a w → K' a w) (hh : o.wp P a w K Q ∨ (o.asks P a w ∧ LetsOut Q)) : o.wpIn (Fence.wide.inRound l) n P a w K' Q := by
  rcases hh with hh | ⟨_, h2⟩
  · refine ⟨fun _ _ => trivial, ?_⟩
    rw [show (Fence.wide.inRound l).round = some l from rfl, Oper.semAt_some l _ _ hd]
    unfold Oper.wp at hh
    generalize (execOp a.eval o).run P w = r at *
    cases r with
    | ok x w' =>
      cases x <;> simp only [Oper.upon, Oper.uponIn] at hh ⊢
      case value v => exact h _ _ hh
      case skip => exact h _ _ hh
      case defer d => exact h _ _ hh
      case enter f args => exact ⟨fun e => (by cases e), (CallsIn.inRound l (callsIn_wide.2 hh)).mono (fun e w'' he => by cases e <;> first | exact h _ _ he | exact he)⟩
      case row r args => exact ⟨fun e => (by cases e), (rows_round hh).mono (fun _ _ he => h _ _ he)⟩
    | halt x w' => cases x <;> simp only [Oper.upon, Oper.uponIn] at hh ⊢ <;> exact hh
  · exact absurd h2 hQ
def noDeferB (ops : Array Oper) : Bool := ops.all fun o => match o.op with | .defer _ => false | _ => true
theorem noDefer_of (h : noDeferB ops = true) {i : Nat} {o : Oper} (ho : ops[i]? = some o) : ∀ c, o.op ≠ .defer c := by
  intro c hc
  obtain ⟨hi, rfl⟩ := Array.getElem?_eq_some_iff.1 ho
  have := (Array.all_eq_true.1 h) i hi
  rw [hc] at this
  simp at this
theorem any_round (hd : noDeferB ops = true) (hQ : ¬ LetsOut Q) : ∀ (fuel : Nat) (L : Array Bool) (a : Act) (w : World), wpAny P md ops Q fuel L a w → wpAnyIn (Fence.wide.inRound l) n P md ops Q fuel L a w
  | 0, _, _, _, h => h
  | fuel + 1, L, a, w, h => by
    refine ⟨h.1, fun i hi => ?_⟩
    have h2 := h.2 i hi
    unfold wpOp at h2
    unfold wpOpIn
    cases ho : ops[i]? with
    | none => rw [ho] at h2; exact any_round hd hQ fuel _ _ _ h2
    | some o =>
      rw [ho] at h2
      simp only [] at h2 ⊢
      by_cases hw : Region.wanted o (yielded ops a.tmps) = true
      · rw [if_pos hw] at h2 ⊢
        exact op_round (noDefer_of hd ho) hQ (fun a w => any_round hd hQ fuel _ a w) h2
      · rw [if_neg hw] at h2 ⊢
        exact ⟨fun _ _ => trivial, any_round hd hQ fuel _ _ _ h2⟩
theorem ops_round (hd : noDeferB ops = true) (hQ : ¬ LetsOut Q) : ∀ (L : List Nat) (a : Act) (w : World), wpOps P ops Q L a w → wpOpsIn (Fence.wide.inRound l) n P ops Q L a w
  | [], _, _, h => h
  | i :: L, a, w, h => by
    unfold wpOps at h
    unfold wpOpsIn
    cases ho : ops[i]? with
    | none => rw [ho] at h; exact ops_round hd hQ L _ _ h
    | some o =>
      rw [ho] at h
      simp only [] at h ⊢
      by_cases hw : Region.wanted o (yielded ops a.tmps) = true
      · rw [if_pos hw] at h ⊢
        exact op_round (noDefer_of hd ho) hQ (fun a w => ops_round hd hQ L a w) h
      · rw [if_neg hw] at h ⊢
        exact ⟨fun _ _ => trivial, ops_round hd hQ L _ _ h⟩
end
/-! ### the laws for a walk -/
section
variable {P : Program} {C : World → Prop} {Q : Exit → Act → World → Prop} {l n : Nat}
theorem any_calm {a : Act} {w : World} {ops pre : Array Oper} (m : Nat) (hB : ordB .any ops m = true) (hm : pre.size = m) (hp : ∀ i, i < m → pre[i]? = ops[i]?) (hL : Region.lexB .any pre = true) (hC : C w)
    (h : wpQuiet P pre C (fun a' => ∀ w', C w' → wpOps P ops Q (List.range' m (ops.size - m)) a' w') pre.toList a) : wpAny P .any ops Q ops.size (Array.replicate ops.size false) a w := by
  refine any_of_pre hB hm hp ?_
  simp only [Region.lexB, Bool.and_eq_true] at hL
  refine wpAny_of_quiet (C := C) (Q := fun a' => ∀ w', C w' → wpOps P ops Q (List.range' m (ops.size - m)) a' w') (fun _ w' hw' h => h w' hw') _ _ _ _ hC ?_
  have := wpAnyQ_lex (C := C) (md := .any) hL.1 pre.toList 0 (Array.replicate pre.size false) a (by simp) (by simpa using hL.2) h
  simpa using this
theorem pre_list {ls tl : List Oper} : ∀ i, i < ls.length → ls.toArray[i]? = (ls ++ tl).toArray[i]? := fun i hi => by
  simp [List.getElem?_append_left hi]
theorem pre_take {ops : List Oper} {k : Nat} (hk : k ≤ ops.length) : ∀ i, i < k → (ops.take k).toArray[i]? = ops.toArray[i]? := fun i hi => by
  simp [List.getElem?_take, hi]
theorem tail_list {ops : List Oper} {k : Nat} (hk : k ≤ ops.length) : wpOps P ops.toArray Q (List.range' k (ops.toArray.size - k)) = wpList P ops.toArray Q (ops.drop k) := by
  have := wpOps_eq_wpList (P := P) (ops := ops.toArray) (Q := Q) (ops.drop k) k (fun j => by simp)
  rw [← this]; simp
theorem take_size {ops : List Oper} {k : Nat} (hk : k ≤ ops.length) : (ops.take k).toArray.size = k := by simp; omega
/-- a drawn region: the first k operations leave the class C as it is, the others go last, in their order -/
theorem wp_calm {id : Nat} {a : Act} {w : World} {ops : List Oper} (k : Nat) (C : World → Prop) (hm : P.follows .mixedOrders = true) (hk : decide (k ≤ ops.length) = true) (hB : ordB .any ops.toArray k = true) (hL : Region.lexB .any (ops.take k).toArray = true) (hC : C w.drew)
    (h : wpQuiet P (ops.take k).toArray C (fun a' => ∀ w', C w' → wpList P ops.toArray Q (ops.drop k) a' w') (ops.take k) a) : (Code.region id ops.toArray true).wp P Q a w := by
  have hk' : k ≤ ops.length := by simpa using hk
  refine wp_region_any hm (any_calm k hB (take_size hk') (pre_take hk') hL hC ?_)
  rw [tail_list hk']
  simpa using h
theorem wpIn_calm {id : Nat} {a : Act} {w : World} {ops : List Oper} (k : Nat) (C : World → Prop) (hm : P.follows .mixedOrders = true) (hd : noDeferB ops.toArray = true) (hQ : ¬ LetsOut Q) (hk : decide (k ≤ ops.length) = true) (hB : ordB .any ops.toArray k = true) (hL : Region.lexB .any (ops.take k).toArray = true) (hC : C w.drew)
    (h : wpQuiet P (ops.take k).toArray C (fun a' => ∀ w', C w' → wpList P ops.toArray Q (ops.drop k) a' w') (ops.take k) a) : (Code.region id ops.toArray true).wpIn (Fence.wide.inRound l) n P Q a w := by
  have hk' : k ≤ ops.length := by simpa using hk
  refine wpIn_region_any hm (any_round hd hQ _ _ _ _ (any_calm k hB (take_size hk') (pre_take hk') hL hC ?_))
  rw [tail_list hk']
  simpa using h
/-- .. held facts for the first ones, whatever order -/
theorem tailQ_list {ops : List Oper} {k : Nat} (hk : k ≤ ops.length) {a : Act} {w : World} (h : wpList P ops.toArray Q (ops.drop k) a w) : tailQ P ops.toArray k Q .normal a w := by
  show wpOps P ops.toArray Q (List.range' k (ops.toArray.size - k)) a w
  rw [tail_list hk]; exact h
theorem wp_held_tail {S : World → Prop} {id : Nat} {a : Act} {w : World} {ops : List Oper} (k : Nat) (hm : P.follows .mixedOrders = true) (hk : decide (k ≤ ops.length) = true) (hB : ordB .any ops.toArray k = true) (hS : S w.drew)
    (h : S w.drew → wpAnyH P .any (ops.take k).toArray (tailQ P ops.toArray k Q) S k (Array.replicate k false) a w.drew) : (Code.region id ops.toArray true).wp P Q a w := by
  have hk' : k ≤ ops.length := by simpa using hk
  exact wp_region_any hm (any_of_pre hB (take_size hk') (pre_take hk') (wpAny_of_held _ _ _ _ (by rw [take_size hk']; exact h hS)))
theorem wpIn_held_tail {S : World → Prop} {id : Nat} {a : Act} {w : World} {ops : List Oper} (k : Nat) (hm : P.follows .mixedOrders = true) (hd : noDeferB ops.toArray = true) (hQ : ¬ LetsOut Q) (hk : decide (k ≤ ops.length) = true) (hB : ordB .any ops.toArray k = true) (hS : S w.drew)
    (h : S w.drew → wpAnyH P .any (ops.take k).toArray (tailQ P ops.toArray k Q) S k (Array.replicate k false) a w.drew) : (Code.region id ops.toArray true).wpIn (Fence.wide.inRound l) n P Q a w := by
  have hk' : k ≤ ops.length := by simpa using hk
  exact wpIn_region_any hm (any_round hd hQ _ _ _ _ (any_of_pre hB (take_size hk') (pre_take hk') (wpAny_of_held _ _ _ _ (by rw [take_size hk']; exact h hS))))
/-! one operation of the walk -/
variable {ops : Array Oper} {QA : Act → Prop} {o : Oper} {rest : List Oper} {a : Act}
theorem calm_take {v : Value} (hw : Region.wanted o (yielded ops a.tmps) = true) (hy : ∀ w, C w → (execOp a.eval o).run P w = .ok (.value v) w) (h : wpQuiet P ops C QA rest (a.put o.dst v)) : wpQuiet P ops C QA (o :: rest) a := by
  refine wpQuiet_step fun K hK => ?_
  rw [if_pos hw]
  refine ⟨v, fun w hw' => ?_, hK _ h⟩
  unfold Oper.quietAt
  rw [hy w hw']
  exact ⟨rfl, rfl⟩
theorem calm_skip (hw : Region.wanted o (yielded ops a.tmps) = false) (h : wpQuiet P ops C QA rest (a.put o.dst undef)) : wpQuiet P ops C QA (o :: rest) a := by
  refine wpQuiet_step fun K hK => ?_
  rw [if_neg (by rw [hw]; exact Bool.false_ne_true)]
  exact hK _ h
theorem calm_call {v : Value} {f : FuncId} {args : Array Value} (hw : Region.wanted o (yielded ops a.tmps) = true) (he : ∀ w, C w → (execOp a.eval o).run P w = .ok (.enter f args) w)
    (hc : ∀ w, C w → Calls P f args w fun e w'' => e = .returned v ∧ C w'') (h : wpQuiet P ops C QA rest (a.put o.dst v)) : wpQuiet P ops C QA (o :: rest) a := by
  refine wpQuiet_step fun K hK => ?_
  rw [if_pos hw]
  refine ⟨v, fun w hw' => ?_, hK _ h⟩
  unfold Oper.quietAt
  rw [he w hw']
  exact ⟨rfl, hc w hw'⟩
end
end Go.Proofs.YtgfhjcbmilaegaaGreatDoor
