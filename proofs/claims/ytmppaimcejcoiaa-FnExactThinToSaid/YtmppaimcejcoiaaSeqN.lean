/-
  A loop over an iterator that leaves the world alone: what holds between rounds may speak of all cells.
-/
import Derived.Test.YtmppaimcejcoiaaPla2
namespace Go.Proofs.Ytmppaimcejcoiaa
open Go.ChangeShapes Go.WideShapes Go.ChangeAt Go.RowKit Go.Deep
set_option linter.unusedVariables false
set_option linter.unusedSimpArgs false
attribute [local go_sem] Oper.semAt_some
/-- all cells lie as they lay -/
structure SameCells (A B : World) : Prop where
  size : A.heap.size ≤ B.heap.size
  same : ∀ (k : Nat) (o : Obj), A.heap[k]? = some o → o.isCells = true → B.heap[k]? = some o
theorem SameCells.trans {A B C : World} (h : SameCells A B) (k : SameCells B C) : SameCells A C :=
  ⟨Nat.le_trans h.size k.size, fun i o hi ho => k.same i o (h.same i o hi ho) ho⟩
theorem SameCells.alloc (A : World) (o : Obj) : SameCells A (A.alloc o) :=
  ⟨by simp, fun k q hk _ => (Below.heap_alloc _ _ _ (lt_of_some hk)).trans hk⟩
theorem SameCells.putObj {l : Nat} {A : World} {o : Obj} (o' : Obj) (h : A.heap[l]? = some o) (hc : o.isCells = false) : SameCells A (A.putObj l o') :=
  ⟨by simp, fun k q hk hq => by
    by_cases e : k = l
    · subst e; rw [h] at hk; cases hk; rw [hc] at hq; cases hq
    · exact (World.putObj_heap_other e).trans hk⟩
/-- what is said of a world lives through new blocks and turned records -/
def Stab {β : Type} (n : Nat) (I : β → World → Prop) : Prop := ∀ s A B, I s A → Below n A B → SameCells A B → I s B
/-- the iterator gf, lb gives the elements of D one by one, and does nothing else -/
def SeqN {α : Type} (n : Nat) (P : Program) (gf : Nat) (lb : Array Value) (encs : α → Array Value) (Kb : Nat → Prop) (D : List α) (w : World) : Prop :=
  ∀ (l : Nat) (J Jx : List α → World → Prop) (W : World), Below w.heap.size w W →
    (∀ pre x W1, pre ++ [x] <+: D → J pre W1 → YieldAt Fence.wide (n - 1) P l (encs x) W1 fun e W' =>
      (e = .returned (.bool true) ∧ J (pre ++ [x]) W' ∧ Keeps Kb W1 W') ∨ (e = .returned (.bool false) ∧ Jx (pre ++ [x]) W')) →
    J [] W →
    CallsIn Fence.wide n P gf (#[.func (.yield l) #[] #[]] ++ lb) W fun e W' => (∃ v, e = .returned v) ∧ (J D W' ∨ ∃ pre, pre <+: D ∧ Jx pre W')
theorem rangeN {α : Type} {n : Nat} {P : Program} {g : Operand} {ps : Array Tmp} {assign body : Code} {Q : Exit → Act → World → Prop} {a : Act} {w : World}
    {gf : Nat} {lb : Array Value} (hg : a.eval g = .func (.func gf) #[] lb) (eg : ∀ args w, (callFunc gf args).run P w = .ok (.enter gf args) w)
    {encs : α → Array Value} {Kb : Nat → Prop} {D : List α} (hps : ∀ x, (encs x).size = ps.size) (hseq : SeqN (n - 1) P gf lb encs Kb D w)
    (I : List α → World → Prop) (Ix : Code → List α → World → Prop) (hI : Stab w.heap.size I) (hIx : ∀ c, Stab w.heap.size (Ix c)) (h0 : I [] w)
    (A1 : α → Nat → Act) (cs : α → Array Value) (T : TypeId)
    (hassign : ∀ (l : Nat) (x : α) (W : World) (K : Act → World → Prop), K (A1 x W.heap.size) (W.alloc (.cells (cs x) T)) →
      assign.wpIn (Fence.wide.inRound l) (n - 1 - 1) P (Exit.then K (fun _ _ _ => False)) { tmps := (ps.zip (encs x)).foldl (fun t (p, v) => t.setIfInBounds p v) a.tmps, defers := [] } W)
    (hbody : ∀ (l B : Nat) (pre : List α) (x : α) (W : World), pre ++ [x] <+: D → w.heap.size ≤ l → l < B → B < W.heap.size → I pre W → W.heap[B]? = some (.cells (cs x) T (0, 0)) → w.heap.size ≤ W.heap.size →
      body.wpIn (Fence.wide.inRound l) (n - 1 - 1) P (ownPostG w.heap.size (Keeps Kb) I Ix (pre ++ [x]) W) (A1 x B) W)
    (hdone : ∀ (K : Nat) (W : World), w.heap.size ≤ K → I D W → W.heap[K]? = some (.deferred (some [])) → Q .normal { a with defers := { target := .collected K, args := #[] } :: a.defers } W)
    (hstop : ∀ (K : Nat) (c : Code) (pre : List α) (W : World), w.heap.size ≤ K → pre <+: D → Ix c pre W → W.heap[K]? = some (.deferred (some [])) → c.wpIn Fence.wide n P Q { a with defers := { target := .collected K, args := #[] } :: a.defers } W) :
    (Code.rangeFunc g ps assign body).wpIn Fence.wide n P Q a w := by
  refine wpIn_rangeFunc fun fn hfn => ?_
  obtain ⟨L, hL⟩ : ∃ L : Nat, L = w.heap.size + 1 := ⟨_, rfl⟩
  let rc : LoopState → Option Code → Obj := fun st pe => .loop { state := st, pending := pe, fn, tmps := a.tmps, params := ps, assign, body, defers := w.heap.size }
  let W1 : World := (w.alloc (.deferred (some []))).alloc (rc .ready none)
  have hsz : W1.heap.size = w.heap.size + 2 := by simp [W1]
  have q1 : W1.heap[L]? = some (rc .ready none) := by
    have := World.alloc_heap_new (w.alloc (.deferred (some []))) (rc .ready none)
    rw [World.size_alloc] at this; rw [hL]; exact this
  have q2 : W1.heap[w.heap.size]? = some (.deferred (some [])) := (Below.heap_alloc _ _ _ (by simp)).trans (World.alloc_heap_new w _)
  have bw : Below w.heap.size w W1 := ((Below.refl _ w).alloc (Nat.le_refl _) _).alloc (by simp) _
  refine ⟨L, [{ target := .collected w.heap.size, args := #[] }], W1, { target := .fn (.func gf) lb, args := #[.func (.yield L) #[] #[]] }, W1, gf, #[.func (.yield L) #[] #[]] ++ lb, W1, ?_, ?_, ?_, ?_, ?_, ?_⟩
  · rw [hL]; exact run_enterLoop_outer _ _ _ _ _
  · simp only [resolve, hg]; simp [go_sem]
  · intro f' _; trivial
  · simp [invoke, go_sem, eg]
  · intro h; cases h
  have sw : SameCells w W1 := (SameCells.alloc _ _).trans (SameCells.alloc _ _)
  have low2 : ∀ {A B : World}, Below W1.heap.size A B → Below w.heap.size A B := fun h => h.mono (by omega)
  have put : ∀ {A : World} (o : Obj), w.heap.size ≤ A.heap.size → Below w.heap.size A (A.putObj L o) := fun o h => below_put _ _ (by omega) h
  have keep : ∀ {A B : World} {k : Nat} {o : Obj}, k < W1.heap.size → A.heap[k]? = some o → Below W1.heap.size A B → B.heap[k]? = some o := fun hk h hb => (hb.block _ hk).trans h
  refine (hseq L (fun pre W => I pre W ∧ W.heap[L]? = some (rc .ready none) ∧ W.heap[w.heap.size]? = some (.deferred (some [])))
    (fun pre W => ∃ c, Ix c pre W ∧ W.heap[L]? = some (rc .done (some c)) ∧ W.heap[w.heap.size]? = some (.deferred (some []))) W1 bw
    ?_ ⟨hI _ _ _ h0 bw sw, q1, q2⟩).mono ?_
  · rintro pre x W hpre ⟨i0, r0, k0⟩
    have hLW := lt_of_some r0
    refine ⟨fn, _, assign, body, run_yield r0 (hps x), roundIn_of_wpIn hfn (hassign L x W _ ?_)⟩
    have r1 : (W.alloc (.cells (cs x) T)).heap[L]? = some (rc .ready none) := (Below.heap_alloc _ _ _ hLW).trans r0
    have k1 : (W.alloc (.cells (cs x) T)).heap[w.heap.size]? = some (.deferred (some [])) := (Below.heap_alloc _ _ _ (by omega)).trans k0
    refine ⟨_, run_beginRound r1 rfl, ?_⟩
    have r2 : ((W.alloc (.cells (cs x) T)).putObj L (rc .busy none)).heap[L]? = some (rc .busy none) := World.putObj_heap_same (lt_of_some r1)
    have k2 : ((W.alloc (.cells (cs x) T)).putObj L (rc .busy none)).heap[w.heap.size]? = some (.deferred (some [])) := (World.putObj_heap_other (by omega)).trans k1
    have b2 : ((W.alloc (.cells (cs x) T)).putObj L (rc .busy none)).heap[W.heap.size]? = some (.cells (cs x) T (0, 0)) := (World.putObj_heap_other (by omega)).trans (World.alloc_heap_new W _)
    have i2 : I pre ((W.alloc (.cells (cs x) T)).putObj L (rc .busy none)) := hI _ _ _ (hI _ _ _ i0 ((Below.refl _ W).alloc (by omega) _) (SameCells.alloc _ _)) (put _ (by simp; omega)) (SameCells.putObj _ r1 rfl)
    have c2 : Keeps Kb W ((W.alloc (.cells (cs x) T)).putObj L (rc .busy none)) := (Keeps.alloc _ _ _).trans (Keeps.putObj _ r1 rfl)
    refine wpIn_mono (hbody L W.heap.size pre x _ hpre (by omega) hLW (by simp) i2 b2 (by simp; omega)) ?_
    have fin : ∀ (j : Option Code) (W3 : World), KeepsFrom w.heap.size ((W.alloc (.cells (cs x) T)).putObj L (rc .busy none)) W3 →
        (Instr.endRound L j).run P W3 = .ok (.bool j.isNone) (W3.putObj L (rc (if j.isNone then .ready else .done) j)) ∧ W3.heap[L]? = some (rc .busy none) ∧
        (W3.putObj L (rc (if j.isNone then .ready else .done) j)).heap[L]? = some (rc (if j.isNone then .ready else .done) j) ∧
        (W3.putObj L (rc (if j.isNone then .ready else .done) j)).heap[w.heap.size]? = some (.deferred (some [])) := fun j W3 h => by
      have r3 := h.same L _ (by omega) r2 rfl
      have k3 := h.same w.heap.size _ (Nat.le_refl _) k2 rfl
      exact ⟨run_endRound j r3, r3, World.putObj_heap_same (lt_of_some r3), (World.putObj_heap_other (by omega)).trans k3⟩
    have hz2 : w.heap.size ≤ ((W.alloc (.cells (cs x) T)).putObj L (rc .busy none)).heap.size := by simp; omega
    rintro e a3 W3 hp
    cases e with
    | normal =>
      obtain ⟨h1, h2, h3⟩ := hp
      obtain ⟨e1, e2, e3, e4⟩ := fin none W3 h1
      exact ⟨_, _, e1, .inl ⟨rfl, ⟨hI _ _ _ h3 (put _ (Nat.le_trans hz2 h1.size)) (SameCells.putObj _ e2 rfl), e3, e4⟩, (c2.trans h2).trans (Keeps.putObj _ e2 rfl)⟩⟩
    | ret =>
      obtain ⟨e1, e2, e3, e4⟩ := fin (some .ret) W3 hp.1
      exact ⟨_, _, e1, .inr ⟨rfl, .ret, hIx _ _ _ _ hp.2 (put _ (Nat.le_trans hz2 hp.1.size)) (SameCells.putObj _ e2 rfl), e3, e4⟩⟩
    | exit id =>
      obtain ⟨e1, e2, e3, e4⟩ := fin (some (.exit id)) W3 hp.1
      exact ⟨_, _, e1, .inr ⟨rfl, .exit id, hIx _ _ _ _ hp.2 (put _ (Nat.le_trans hz2 hp.1.size)) (SameCells.putObj _ e2 rfl), e3, e4⟩⟩
    | goto t =>
      obtain ⟨e1, e2, e3, e4⟩ := fin (some (.goto t)) W3 hp.1
      exact ⟨_, _, e1, .inr ⟨rfl, .goto t, hIx _ _ _ _ hp.2 (put _ (Nat.le_trans hz2 hp.1.size)) (SameCells.putObj _ e2 rfl), e3, e4⟩⟩
    | panic ch => exact hp.elim
    | outgrown => exact hp.elim
  · rintro e W2 ⟨⟨v, rfl⟩, (⟨i, r, k⟩ | ⟨pre, hpre, c, i, r, k⟩)⟩
    · refine ⟨none, _, run_endLoop r (by simp), ?_⟩
      exact hdone _ _ (Nat.le_refl _) (hI _ _ _ i (put _ (by have := lt_of_some r; omega)) (SameCells.putObj _ r rfl)) ((World.putObj_heap_other (by omega)).trans k)
    · refine ⟨some c, _, run_endLoop r (by simp), ?_⟩
      exact hstop _ c pre _ (Nat.le_refl _) hpre (hIx c _ _ _ i (put _ (by have := lt_of_some r; omega)) (SameCells.putObj _ r rfl)) ((World.putObj_heap_other (by omega)).trans k)
set_option maxHeartbeats 3200000 in
theorem places_seqN (n bg g o cap R C : Nat) (Kb : Nat → Prop) (w : World) (h : PlH w bg g o cap R C) (k1 : Kb bg) (k2 : Kb g) : SeqN n Try.prog 59 #[.pointer (some ⟨bg, 0, none⟩)] (fun x => #[encP x]) Kb (plAll R C) w := by
  intro l J Jx W hW hY h0
  have hP0 := Lib.hid (h.below hW)
  have hR1 := h.R10
  have hC1 := h.C10
  have hY' := Lib.hid hY
  have hJ0 : Hid (J (plTo C 0 0) W) := Lib.hid (by rw [plTo_zero]; exact h0)
  have c00 := hP0.out.box
  clear hY h0 h hW
  have hk1 := Lib.hid k1
  have hk2 := Lib.hid k2
  clear k1 k2
  refine callsIn_of_wp Try.func59 rfl trivial ?_ rfl
  simp only [Try.ntmps59, List.size_toArray, List.length_cons, List.length_nil, Nat.reduceAdd, Nat.reduceSub, Array.replicate_succ, Array.replicate_zero, List.push_toArray, List.append_toArray, List.nil_append, List.cons_append]
  gi_wp2_with fail
  gi_loopw [7] (fun i wr => ∃ k : Nat, k ≤ R ∧ i = .int .i64 k ∧ Hid (J (plTo C k 0) wr) ∧ Hid (PlH wr bg g o cap R C)) (fun i _ => R - (intOf i).toNat)
  case atStart => exact ⟨0, by omega, rfl, hJ0, hP0⟩
  case round =>
    obtain ⟨k, hk, rfl, hJ, hP⟩ := hrel
    by_cases hlt : k < R
    · have c0 := hP.out.box
      obtain ⟨a, cc, c1⟩ := hP.out.rows k hlt
      have hkI : (k : Int) < (R : Int) := by omega
      clear c00
      gi_wp2_with fail
      gi_loopw [15] (fun j wr => ∃ m : Nat, m ≤ C ∧ j = .int .i64 m ∧ Hid (J (plTo C k m) wr) ∧ Hid (PlH wr bg g o cap R C)) (fun j _ => C - (intOf j).toNat)
      case atStart => exact ⟨0, by omega, rfl, hJ, hP⟩
      case round =>
        obtain ⟨m, hm, rfl, hJm, hPm⟩ := hrel
        by_cases hlm : m < C
        · have hpre : plTo C k m ++ [(k, m)] <+: plAll R C := by
            rw [← plTo_next]
            by_cases hc : m + 1 = C
            · rw [hc, plTo_row]; exact plTo_pre (by omega) (by omega) (fun _ => rfl)
            · exact plTo_pre (by omega) (by omega) (by omega)
          obtain ⟨fn, tmps, assign, body, hy, hR⟩ := hY'.out (plTo C k m) (k, m) wr hpre hJm.out
          have hy' : (Instr.yield l #[.agg #[.int .i64 (k : Int), .int .i64 (m : Int)]]).run Try.prog wr = .ok (.round l fn tmps assign body) wr := hy
          have hpre' := Lib.hid hpre
          clear hy c0 c1 hpre
          gi_wp2
          refine ⟨fun h => (by cases h), hR.mono ?_⟩
          clear hR hy'
          rintro e W2 (⟨rfl, hJ2, hk3⟩ | ⟨rfl, hJx2⟩)
          · have hP2 := Lib.hid (hPm.out.keeps hk1.out hk2.out hk3)
            have hJ3 : Hid (J (plTo C k (m + 1)) W2) := Lib.hid (by rw [plTo_next]; exact hJ2)
            clear hk3 hJ2
            gi_wp2
            go_roundw
            case rel => exact ⟨m + 1, by omega, by go_num, hJ3, hP2⟩
            case measure => simp [intOf]; omega
          · gi_wp2
            refine bodyPost_ret (results_none rfl _ _ _) rfl ?_
            exact ⟨⟨_, rfl⟩, .inr ⟨_, hpre'.out, hJx2⟩⟩
        · have hmC : m = C := by omega
          have hJ3 : Hid (J (plTo C (k + 1) 0) wr) := Lib.hid (by have := hJm.out; rw [hmC, plTo_row] at this; exact this)
          clear hmC hJm c0 c1
          gi_wp2
          go_roundw
          case rel => exact ⟨k + 1, by omega, by go_num, hJ3, hPm⟩
          case measure => simp [intOf]; omega
    · have hkR : k = R := by omega
      have hJ3 : Hid (J (plAll R C) wr) := Lib.hid (by have := hJ.out; rw [hkR] at this; exact this)
      clear hkR hJ
      gi_wp2
      go_end0
      exact ⟨⟨_, rfl⟩, .inl hJ3.out⟩
theorem rangePN {n : Nat} {gop : Operand} {p15 : Tmp} {assign body : Code} {Q : Exit → Act → World → Prop} {a : Act} {w : World} {gf : Nat} {lb : Array Value} {R C : Nat}
    (hg : a.eval gop = .func (.func gf) #[] lb) (eg : ∀ args w, (callFunc gf args).run Try.prog w = .ok (.enter gf args) w)
    {Kb : Nat → Prop} (hseq : SeqN (n - 1) Try.prog gf lb (fun x => #[encP x]) Kb (plAll R C) w)
    (I : List (Nat × Nat) → World → Prop) (Ix : Code → List (Nat × Nat) → World → Prop) (hI : Stab w.heap.size I) (hIx : ∀ c, Stab w.heap.size (Ix c)) (h0 : I [] w) {A1 : Nat × Nat → Nat → Act}
    (hassign : ∀ (l B : Nat) (x : Nat × Nat) (W : World) (K : Act → World → Prop), W.heap.size = B → K (A1 x B) (W.alloc (.cells #[.int .i64 (x.1 : Int), .int .i64 (x.2 : Int)] 57)) →
      assign.wpIn (Fence.wide.inRound l) (n - 1 - 1) Try.prog (Exit.then K (fun _ _ _ => False)) { tmps := (#[p15].zip #[encP x]).foldl (fun t (p, v) => t.setIfInBounds p v) a.tmps, defers := [] } W)
    (hbody : ∀ (l B : Nat) (pre : List (Nat × Nat)) (x : Nat × Nat) (W : World), pre ++ [x] <+: plAll R C → w.heap.size ≤ l → w.heap.size ≤ B → B < W.heap.size → I pre W → W.heap[B]? = some (.cells #[.int .i64 (x.1 : Int), .int .i64 (x.2 : Int)] 57 (0, 0)) → w.heap.size ≤ W.heap.size →
      body.wpIn (Fence.wide.inRound l) (n - 1 - 1) Try.prog (ownPostG w.heap.size (Keeps Kb) I Ix (pre ++ [x]) W) (A1 x B) W)
    (hdone : ∀ (K : Nat) (W : World), w.heap.size ≤ K → I (plAll R C) W → W.heap[K]? = some (.deferred (some [])) → Q .normal { a with defers := { target := .collected K, args := #[] } :: a.defers } W)
    (hstop : ∀ (K : Nat) (c : Code) (pre : List (Nat × Nat)) (W : World), w.heap.size ≤ K → pre <+: plAll R C → Ix c pre W → W.heap[K]? = some (.deferred (some [])) → c.wpIn Fence.wide n Try.prog Q { a with defers := { target := .collected K, args := #[] } :: a.defers } W) :
    (Code.rangeFunc gop #[p15] assign body).wpIn Fence.wide n Try.prog Q a w :=
  rangeN hg eg (encs := fun x => #[encP x]) (fun _ => rfl) hseq I Ix hI hIx h0 A1 csP 57 (fun l x W K hK => hassign l _ x W K rfl hK)
    (fun l B pre x W h1 h2 h3 h4 h5 h6 h7 => hbody l B pre x W h1 h2 (by omega) h4 h5 h6 h7) hdone hstop
end Go.Proofs.Ytmppaimcejcoiaa
