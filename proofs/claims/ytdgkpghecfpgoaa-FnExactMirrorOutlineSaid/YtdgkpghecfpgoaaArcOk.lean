/-
  Outlines: the model's validity of a list of arcs.
-/
import Derived.Test.YtdgkpghecfpgoaaArcs3
import Derived.Test.YtdgkpghecfpgoaaRowMath
namespace Go.Proofs.Ytdgkpghecfpgoaa
open Go.ChangeShapes Go.WideShapes Go.ChangeAt Go.RowKit Go.Deep
set_option linter.unusedVariables false
set_option linter.unusedSimpArgs false
set_option maxRecDepth 1000000
def arc0 : Arc := ⟨0, 0, 0, 0, 0, 0⟩
/-- arc number i is valid, and the next one begins where it ends -/
def outS (Z : List Arc) (i : Nat) : Bool := arcB (Z.getD i arc0) && meetB (Z.getD i arc0) (Z.getD ((i + 1) % Z.length) arc0)
/-- an outline is valid -/
def outB (Z : List Arc) : Bool := allK (outS Z) Z.length && decide (2 ≤ Z.length ∧ Z.length ≤ 16)
/-- arc number i is valid, and begins where the one before it ends -/
def joinS (Z : List Arc) (i : Nat) : Bool := arcB (Z.getD i arc0) && (decide (i = 0) || meetB (Z.getD (i - 1) arc0) (Z.getD i arc0))
def joinB (Z : List Arc) : Bool := allK (joinS Z) Z.length
theorem outB_no {Z : List Arc} {k : Nat} (h : outS Z k = false) (hk : k < Z.length) : outB Z = false := by unfold outB; rw [allK_no h hk]; rfl
theorem outB_split (Z : List Arc) : outB Z = (inB Z.length 2 16 && joinB Z && meetB (Z.getD (Z.length - 1) arc0) (Z.getD 0 arc0)) := by
  rw [Bool.eq_iff_iff]
  unfold outB joinB
  simp only [Bool.and_eq_true, allK_iff, decide_eq_true_eq, inB_iff]
  constructor
  · rintro ⟨h, h2, h16⟩
    refine ⟨⟨⟨by omega, by omega⟩, fun i hi => ?_⟩, ?_⟩
    · have h1 := h i hi
      unfold outS at h1
      unfold joinS
      rw [Bool.and_eq_true] at h1
      rw [h1.1, Bool.true_and]
      by_cases h0 : i = 0
      · rw [decide_eq_true h0]; rfl
      · have h3 := h (i - 1) (by omega)
        unfold outS at h3
        rw [Bool.and_eq_true, show i - 1 + 1 = i by omega, Nat.mod_eq_of_lt hi] at h3
        rw [h3.2, Bool.or_true]
    · have h3 := h (Z.length - 1) (by omega)
      unfold outS at h3
      rw [Bool.and_eq_true, show Z.length - 1 + 1 = Z.length by omega, Nat.mod_self] at h3
      exact h3.2
  · rintro ⟨⟨⟨h2, h16⟩, h⟩, hl⟩
    refine ⟨fun i hi => ?_, by omega, by omega⟩
    have h1 := h i hi
    unfold joinS at h1
    rw [Bool.and_eq_true] at h1
    unfold outS
    rw [h1.1, Bool.true_and]
    by_cases he : i + 1 = Z.length
    · rw [he, Nat.mod_self, show i = Z.length - 1 by omega]; exact hl
    · have h3 := h (i + 1) (by omega)
      unfold joinS at h3
      rw [Bool.and_eq_true, decide_eq_false (by omega : ¬ i + 1 = 0), Bool.false_or, show i + 1 - 1 = i by omega] at h3
      rw [Nat.mod_eq_of_lt (by omega)]; exact h3.2
set_option maxHeartbeats 3200000 in
theorem l05Ok_any (v : Value) (Z : List Arc) (w : World) (hn : Z.length ≤ 1048576) (hv : ArcsAt w v Z) : Calls Try.prog 52 #[v] w fun e w' => e = .returned (.bool (outB Z)) ∧ Below w.heap.size w w' := by
  obtain ⟨p, cap, rfl, hcap, _, hread⟩ := hv
  have hread' := Lib.hid hread
  clear hread
  go_enter Try.func52, Try.ntmps52
  go_wp2
  go_loopw [4] (fun i wr => ∃ k : Nat, k ≤ Z.length ∧ i = .int .i64 k ∧ Hid (allK (outS Z) k = true) ∧ Below w.heap.size w wr) (fun i _ => Z.length - (intOf i).toNat)
  case atStart => exact ⟨0, by omega, rfl, Lib.hid rfl, Below.refl _ _⟩
  case round =>
    obtain ⟨k, hk, rfl, hok, hb⟩ := hrel
    by_cases hlt : k < Z.length
    · rcases hread'.out with h | ⟨g, o, rfl, hg, hc⟩
      · subst h; simp at hlt
      obtain ⟨m, hm⟩ : ∃ m, m = (k + 1) % Z.length := ⟨_, rfl⟩
      have hml : m < Z.length := by rw [hm]; exact Nat.mod_lt _ (by omega)
      obtain ⟨x, hx⟩ : ∃ x, x = Z[k] := ⟨_, rfl⟩
      obtain ⟨y, hy⟩ : ∃ y, y = Z[m] := ⟨_, rfl⟩
      have hr := range_below (hc k hlt) hg hb
      have hr2 := range_below (hc m hml) hg hb
      rw [← hx] at hr
      rw [← hy] at hr2
      have hgr : g < wr.heap.size := Nat.lt_of_lt_of_le hg hb.size
      have hst : Hid (outS Z k = (arcB x && meetB x y)) := Lib.hid (by unfold outS; rw [← hm, getD_of _ hlt, getD_of _ hml, ← hx, ← hy])
      have P1 := arcAt_of hr
      have P2 := arcAt_of hr2
      have hmI : (m : Int) < (Z.length : Int) := by omega
      have hmod : ((k : Int) + 1).tmod (Z.length : Int) = (m : Int) := by rw [hm, Int.tmod_eq_emod_of_nonneg (by omega)]; rfl
      have hwk : IntKind.i64.wrap ((k : Int) + 1) = (k : Int) + 1 := IntWalk.i64_in _ (by omega)
      have hZ0 : Z ≠ [] := fun h => by rw [h] at hlt; exact absurd hlt (Nat.not_lt_zero _)
      have hn0 : ((Z.length : Int) == 0) = false := beq_false_of_ne (by omega)
      have hkI : (k : Int) < (Z.length : Int) := by omega
      clear hm hx hy hc hr hr2
      obtain ⟨a, b, c, d, p, s⟩ := x
      obtain ⟨a', b', c', d', p', s'⟩ := y
      have cO0 : ∀ W, (((W.cell? ⟨g, o + k * 6, none⟩ = some (.int .i64 a) ∧ W.cell? ⟨g, o + k * 6 + 1, none⟩ = some (.int .i64 b) ∧ W.cell? ⟨g, o + k * 6 + 2, none⟩ = some (.int .i64 c) ∧ W.cell? ⟨g, o + k * 6 + 3, none⟩ = some (.int .i64 d) ∧ W.cell? ⟨g, o + k * 6 + 4, none⟩ = some (.int .i64 p) ∧ W.cell? ⟨g, o + k * 6 + 5, none⟩ = some (.int .i64 s)) ∧ (W.cell? ⟨g, o + m * 6 + 2, none⟩ = some (.int .i64 c') ∧ W.cell? ⟨g, o + m * 6 + 3, none⟩ = some (.int .i64 d'))) ∧ Below wr.heap.size wr W) → Calls Try.prog 48 #[.pointer (some ⟨g, o + k * 6, none⟩)] W fun e w' => e = .returned (.bool (arcB ⟨a, b, c, d, p, s⟩)) ∧ Below W.heap.size W w' := fun W h => l05One_any a b c d p s W g (o + k * 6) (Nat.lt_of_lt_of_le hgr h.2.size) h.1.1
      have hS : (((wr.cell? ⟨g, o + k * 6, none⟩ = some (.int .i64 a) ∧ wr.cell? ⟨g, o + k * 6 + 1, none⟩ = some (.int .i64 b) ∧ wr.cell? ⟨g, o + k * 6 + 2, none⟩ = some (.int .i64 c) ∧ wr.cell? ⟨g, o + k * 6 + 3, none⟩ = some (.int .i64 d) ∧ wr.cell? ⟨g, o + k * 6 + 4, none⟩ = some (.int .i64 p) ∧ wr.cell? ⟨g, o + k * 6 + 5, none⟩ = some (.int .i64 s)) ∧ (wr.cell? ⟨g, o + m * 6 + 2, none⟩ = some (.int .i64 c') ∧ wr.cell? ⟨g, o + m * 6 + 3, none⟩ = some (.int .i64 d'))) ∧ Below wr.heap.size wr wr) := ⟨⟨P1, P2.2.2.1, P2.2.2.2.1⟩, Below.refl _ _⟩
      have keep : ∀ W1 W2, (((W1.cell? ⟨g, o + k * 6, none⟩ = some (.int .i64 a) ∧ W1.cell? ⟨g, o + k * 6 + 1, none⟩ = some (.int .i64 b) ∧ W1.cell? ⟨g, o + k * 6 + 2, none⟩ = some (.int .i64 c) ∧ W1.cell? ⟨g, o + k * 6 + 3, none⟩ = some (.int .i64 d) ∧ W1.cell? ⟨g, o + k * 6 + 4, none⟩ = some (.int .i64 p) ∧ W1.cell? ⟨g, o + k * 6 + 5, none⟩ = some (.int .i64 s)) ∧ (W1.cell? ⟨g, o + m * 6 + 2, none⟩ = some (.int .i64 c') ∧ W1.cell? ⟨g, o + m * 6 + 3, none⟩ = some (.int .i64 d'))) ∧ Below wr.heap.size wr W1) → Below W1.heap.size W1 W2 → (((W2.cell? ⟨g, o + k * 6, none⟩ = some (.int .i64 a) ∧ W2.cell? ⟨g, o + k * 6 + 1, none⟩ = some (.int .i64 b) ∧ W2.cell? ⟨g, o + k * 6 + 2, none⟩ = some (.int .i64 c) ∧ W2.cell? ⟨g, o + k * 6 + 3, none⟩ = some (.int .i64 d) ∧ W2.cell? ⟨g, o + k * 6 + 4, none⟩ = some (.int .i64 p) ∧ W2.cell? ⟨g, o + k * 6 + 5, none⟩ = some (.int .i64 s)) ∧ (W2.cell? ⟨g, o + m * 6 + 2, none⟩ = some (.int .i64 c') ∧ W2.cell? ⟨g, o + m * 6 + 3, none⟩ = some (.int .i64 d'))) ∧ Below wr.heap.size wr W2) := fun W1 W2 h1 h2 => by
        obtain ⟨⟨p0, p1, p2⟩, hb⟩ := h1
        have hgw := Nat.lt_of_lt_of_le hgr hb.size
        exact ⟨⟨ArcAt.below (x := ⟨a, b, c, d, p, s⟩) (o := o + k * 6) p0 hgw h2, (h2.cell (p := ⟨g, o + m * 6 + 2, none⟩) hgw).trans p1, (h2.cell (p := ⟨g, o + m * 6 + 3, none⟩) hgw).trans p2⟩, hb.trans (h2.mono hb.size)⟩
      have keepH := Lib.hid keep
      clear keep P1 P2
      cases hv : arcB ⟨a, b, c, d, p, s⟩
      · have hno := Lib.hid (outB_no (by rw [hst.out, hv]; rfl) hlt)
        rw [hv] at cO0
        have cO := Lib.hid cO0
        clear cO0
        go_wp2
        refine wp_region_noPanic ?_
        refine wp_region_held_drew (S := (fun w' => (((w'.cell? ⟨g, o + k * 6, none⟩ = some (.int .i64 a) ∧ w'.cell? ⟨g, o + k * 6 + 1, none⟩ = some (.int .i64 b) ∧ w'.cell? ⟨g, o + k * 6 + 2, none⟩ = some (.int .i64 c) ∧ w'.cell? ⟨g, o + k * 6 + 3, none⟩ = some (.int .i64 d) ∧ w'.cell? ⟨g, o + k * 6 + 4, none⟩ = some (.int .i64 p) ∧ w'.cell? ⟨g, o + k * 6 + 5, none⟩ = some (.int .i64 s)) ∧ (w'.cell? ⟨g, o + m * 6 + 2, none⟩ = some (.int .i64 c') ∧ w'.cell? ⟨g, o + m * 6 + 3, none⟩ = some (.int .i64 d'))) ∧ Below wr.heap.size wr w'))) (by kernel_rfl) ?_ (fun hHeld => ?_)
        · exact ⟨hS.1, belowN hS.2 1⟩
        refine wpAnyH_take (i := 0) (oi := ⟨some 12, _, _, _, _, _⟩) (v := ?vvz156) rfl (by kernel_rfl) (by kernel_rfl) (by kernel_rfl) (fun _ _ _ h => h) (Or.inl ⟨by rfl, ?hyz156⟩) (by assumption) ?restz156
        case hyz156 => (intro w hSw; (try dsimp only at hSw); go_simp; try with_reducible rfl)
        try simp only [Act.put, List.setIfInBounds_toArray, List.set_cons_zero, List.set_cons_succ]
        refine wpAnyH_take (i := 1) (oi := ⟨some 13, _, _, _, _, _⟩) (v := ?vvz157) rfl (by kernel_rfl) (by kernel_rfl) (by kernel_rfl) (fun _ _ _ h => h) (Or.inl ⟨by rfl, ?hyz157⟩) (by assumption) ?restz157
        case hyz157 => (intro w hSw; (try dsimp only at hSw); go_simp; try with_reducible rfl)
        try simp only [Act.put, List.setIfInBounds_toArray, List.set_cons_zero, List.set_cons_succ]
        refine wpAnyH_take (i := 2) (oi := ⟨some 14, _, _, _, _, _⟩) (v := ?vvz158) rfl (by kernel_rfl) (by kernel_rfl) (by kernel_rfl) (fun _ _ _ h => h) (Or.inl ⟨by rfl, ?hyz158⟩) (by assumption) ?restz158
        case hyz158 => (intro w hSw; (try dsimp only at hSw); go_simp; try with_reducible rfl)
        try simp only [Act.put, List.setIfInBounds_toArray, List.set_cons_zero, List.set_cons_succ]
        refine wpAnyH_ready (rs := [3]) (by kernel_rfl) (by simp) ?_
        refine AllReadyH.cons (o := ⟨some 15, _, _, _, _, _⟩) rfl (fun K hK => ?_) AllReadyH.nil
        go_simp
        (go_at_call 48; (with_reducible refine (cO.out _ (by assumption)).mono ?_); rintro e w' ⟨rfl, hbel⟩)
        try go_wp2_with fail
        refine hK.out _ _ ?_ (fun hHeld2 => ?_)
        · exact keepH.out _ _ (by assumption) (by assumption)
        clear hK K hHeld
        have hHeld := hHeld2
        clear hHeld2
        try simp only [Act.put, List.setIfInBounds_toArray, List.set_cons_zero, List.set_cons_succ]
        refine wpAnyH_take (i := 4) (oi := ⟨some 16, _, _, _, _, _⟩) (v := ?vvz159) rfl (by kernel_rfl) (by kernel_rfl) (by kernel_rfl) (fun _ _ _ h => h) (Or.inl ⟨by rfl, ?hyz159⟩) (by assumption) ?restz159
        case hyz159 => (intro w hSw; (try dsimp only at hSw); go_simp; try with_reducible rfl)
        try simp only [Act.put, List.setIfInBounds_toArray, List.set_cons_zero, List.set_cons_succ]
        refine wpAnyH_take (i := 5) (oi := ⟨some 17, _, _, _, _, _⟩) (v := ?vvz160) rfl (by kernel_rfl) (by kernel_rfl) (by kernel_rfl) (fun _ _ _ h => h) (Or.inl ⟨by rfl, ?hyz160⟩) (by assumption) ?restz160
        case hyz160 => (intro w hSw; (try dsimp only at hSw); go_simp; try with_reducible rfl)
        try simp only [Act.put, List.setIfInBounds_toArray, List.set_cons_zero, List.set_cons_succ]
        refine wpAnyH_take (i := 6) (oi := ⟨some 18, _, _, _, _, _⟩) (v := undef) rfl (by kernel_rfl) (by kernel_rfl) (by kernel_rfl) (fun _ _ _ h => h) (Or.inr ⟨by rfl, rfl⟩) (by assumption) ?_
        try simp only [Act.put, List.setIfInBounds_toArray, List.set_cons_zero, List.set_cons_succ]
        refine wpAnyH_take (i := 7) (oi := ⟨some 19, _, _, _, _, _⟩) (v := undef) rfl (by kernel_rfl) (by kernel_rfl) (by kernel_rfl) (fun _ _ _ h => h) (Or.inr ⟨by rfl, rfl⟩) (by assumption) ?_
        try simp only [Act.put, List.setIfInBounds_toArray, List.set_cons_zero, List.set_cons_succ]
        refine wpAnyH_take (i := 8) (oi := ⟨some 20, _, _, _, _, _⟩) (v := undef) rfl (by kernel_rfl) (by kernel_rfl) (by kernel_rfl) (fun _ _ _ h => h) (Or.inr ⟨by rfl, rfl⟩) (by assumption) ?_
        try simp only [Act.put, List.setIfInBounds_toArray, List.set_cons_zero, List.set_cons_succ]
        refine wpAnyH_take (i := 9) (oi := ⟨some 21, _, _, _, _, _⟩) (v := undef) rfl (by kernel_rfl) (by kernel_rfl) (by kernel_rfl) (fun _ _ _ h => h) (Or.inr ⟨by rfl, rfl⟩) (by assumption) ?_
        try simp only [Act.put, List.setIfInBounds_toArray, List.set_cons_zero, List.set_cons_succ]
        refine wpAnyH_take (i := 10) (oi := ⟨some 22, _, _, _, _, _⟩) (v := undef) rfl (by kernel_rfl) (by kernel_rfl) (by kernel_rfl) (fun _ _ _ h => h) (Or.inr ⟨by rfl, rfl⟩) (by assumption) ?_
        try simp only [Act.put, List.setIfInBounds_toArray, List.set_cons_zero, List.set_cons_succ]
        refine wpAnyH_take (i := 11) (oi := ⟨some 23, _, _, _, _, _⟩) (v := undef) rfl (by kernel_rfl) (by kernel_rfl) (by kernel_rfl) (fun _ _ _ h => h) (Or.inr ⟨by rfl, rfl⟩) (by assumption) ?_
        try simp only [Act.put, List.setIfInBounds_toArray, List.set_cons_zero, List.set_cons_succ]
        refine wpAnyH_take (i := 12) (oi := ⟨some 24, _, _, _, _, _⟩) (v := undef) rfl (by kernel_rfl) (by kernel_rfl) (by kernel_rfl) (fun _ _ _ h => h) (Or.inr ⟨by rfl, rfl⟩) (by assumption) ?_
        try simp only [Act.put, List.setIfInBounds_toArray, List.set_cons_zero, List.set_cons_succ]
        refine wpAnyH_take (i := 13) (oi := ⟨some 25, _, _, _, _, _⟩) (v := undef) rfl (by kernel_rfl) (by kernel_rfl) (by kernel_rfl) (fun _ _ _ h => h) (Or.inr ⟨by rfl, rfl⟩) (by assumption) ?_
        try simp only [Act.put, List.setIfInBounds_toArray, List.set_cons_zero, List.set_cons_succ]
        refine wpAnyH_take (i := 14) (oi := ⟨some 26, _, _, _, _, _⟩) (v := undef) rfl (by kernel_rfl) (by kernel_rfl) (by kernel_rfl) (fun _ _ _ h => h) (Or.inr ⟨by rfl, rfl⟩) (by assumption) ?_
        try simp only [Act.put, List.setIfInBounds_toArray, List.set_cons_zero, List.set_cons_succ]
        refine wpAnyH_take (i := 15) (oi := ⟨some 27, _, _, _, _, _⟩) (v := undef) rfl (by kernel_rfl) (by kernel_rfl) (by kernel_rfl) (fun _ _ _ h => h) (Or.inr ⟨by rfl, rfl⟩) (by assumption) ?_
        try simp only [Act.put, List.setIfInBounds_toArray, List.set_cons_zero, List.set_cons_succ]
        refine wpAnyH_take (i := 16) (oi := ⟨some 28, _, _, _, _, _⟩) (v := undef) rfl (by kernel_rfl) (by kernel_rfl) (by kernel_rfl) (fun _ _ _ h => h) (Or.inr ⟨by rfl, rfl⟩) (by assumption) ?_
        try simp only [Act.put, List.setIfInBounds_toArray, List.set_cons_zero, List.set_cons_succ]
        refine wpAnyH_take (i := 17) (oi := ⟨some 29, _, _, _, _, _⟩) (v := undef) rfl (by kernel_rfl) (by kernel_rfl) (by kernel_rfl) (fun _ _ _ h => h) (Or.inr ⟨by rfl, rfl⟩) (by assumption) ?_
        try simp only [Act.put, List.setIfInBounds_toArray, List.set_cons_zero, List.set_cons_succ]
        refine wpAnyH_take (i := 18) (oi := ⟨some 30, _, _, _, _, _⟩) (v := undef) rfl (by kernel_rfl) (by kernel_rfl) (by kernel_rfl) (fun _ _ _ h => h) (Or.inr ⟨by rfl, rfl⟩) (by assumption) ?_
        try simp only [Act.put, List.setIfInBounds_toArray, List.set_cons_zero, List.set_cons_succ]
        refine wpAnyH_take (i := 19) (oi := ⟨some 31, _, _, _, _, _⟩) (v := undef) rfl (by kernel_rfl) (by kernel_rfl) (by kernel_rfl) (fun _ _ _ h => h) (Or.inr ⟨by rfl, rfl⟩) (by assumption) ?_
        try simp only [Act.put, List.setIfInBounds_toArray, List.set_cons_zero, List.set_cons_succ]
        refine wpAnyH_take (i := 20) (oi := ⟨some 32, _, _, _, _, _⟩) (v := ?vvz161) rfl (by kernel_rfl) (by kernel_rfl) (by kernel_rfl) (fun _ _ _ h => h) (Or.inl ⟨by rfl, ?hyz161⟩) (by assumption) ?restz161
        case hyz161 => (intro w hSw; (try dsimp only at hSw); go_simp; try with_reducible rfl)
        try simp only [Act.put, List.setIfInBounds_toArray, List.set_cons_zero, List.set_cons_succ]
        refine wpAnyH_done (by kernel_rfl) ?_ _
        refine NoPanic.normal ?_
        clear hS
        have hb2 := below2 hb hHeld.2
        go_wp2
        go_ret
        exact ⟨ret_bool hno.out.symm, hb2⟩
      rw [hv] at cO0
      have cO := Lib.hid cO0
      clear cO0
      cases e1 : p == c'
      · have hm0 : meetB ⟨a, b, c, d, p, s⟩ ⟨a', b', c', d', p', s'⟩ = false := by unfold meetB; simp only [e1]; rfl
        have hno := Lib.hid (outB_no (by rw [hst.out, hv, hm0]; rfl) hlt)
        clear hm0
        go_wp2
        refine wp_region_noPanic ?_
        refine wp_region_held_drew (S := (fun w' => (((w'.cell? ⟨g, o + k * 6, none⟩ = some (.int .i64 a) ∧ w'.cell? ⟨g, o + k * 6 + 1, none⟩ = some (.int .i64 b) ∧ w'.cell? ⟨g, o + k * 6 + 2, none⟩ = some (.int .i64 c) ∧ w'.cell? ⟨g, o + k * 6 + 3, none⟩ = some (.int .i64 d) ∧ w'.cell? ⟨g, o + k * 6 + 4, none⟩ = some (.int .i64 p) ∧ w'.cell? ⟨g, o + k * 6 + 5, none⟩ = some (.int .i64 s)) ∧ (w'.cell? ⟨g, o + m * 6 + 2, none⟩ = some (.int .i64 c') ∧ w'.cell? ⟨g, o + m * 6 + 3, none⟩ = some (.int .i64 d'))) ∧ Below wr.heap.size wr w'))) (by kernel_rfl) ?_ (fun hHeld => ?_)
        · exact ⟨hS.1, belowN hS.2 1⟩
        refine wpAnyH_take (i := 0) (oi := ⟨some 12, _, _, _, _, _⟩) (v := ?vvz162) rfl (by kernel_rfl) (by kernel_rfl) (by kernel_rfl) (fun _ _ _ h => h) (Or.inl ⟨by rfl, ?hyz162⟩) (by assumption) ?restz162
        case hyz162 => (intro w hSw; (try dsimp only at hSw); go_simp; try with_reducible rfl)
        try simp only [Act.put, List.setIfInBounds_toArray, List.set_cons_zero, List.set_cons_succ]
        refine wpAnyH_take (i := 1) (oi := ⟨some 13, _, _, _, _, _⟩) (v := ?vvz163) rfl (by kernel_rfl) (by kernel_rfl) (by kernel_rfl) (fun _ _ _ h => h) (Or.inl ⟨by rfl, ?hyz163⟩) (by assumption) ?restz163
        case hyz163 => (intro w hSw; (try dsimp only at hSw); go_simp; try with_reducible rfl)
        try simp only [Act.put, List.setIfInBounds_toArray, List.set_cons_zero, List.set_cons_succ]
        refine wpAnyH_take (i := 2) (oi := ⟨some 14, _, _, _, _, _⟩) (v := ?vvz164) rfl (by kernel_rfl) (by kernel_rfl) (by kernel_rfl) (fun _ _ _ h => h) (Or.inl ⟨by rfl, ?hyz164⟩) (by assumption) ?restz164
        case hyz164 => (intro w hSw; (try dsimp only at hSw); go_simp; try with_reducible rfl)
        try simp only [Act.put, List.setIfInBounds_toArray, List.set_cons_zero, List.set_cons_succ]
        refine wpAnyH_ready (rs := [3]) (by kernel_rfl) (by simp) ?_
        refine AllReadyH.cons (o := ⟨some 15, _, _, _, _, _⟩) rfl (fun K hK => ?_) AllReadyH.nil
        go_simp
        (go_at_call 48; (with_reducible refine (cO.out _ (by assumption)).mono ?_); rintro e w' ⟨rfl, hbel⟩)
        try go_wp2_with fail
        refine hK.out _ _ ?_ (fun hHeld2 => ?_)
        · exact keepH.out _ _ (by assumption) (by assumption)
        clear hK K hHeld
        have hHeld := hHeld2
        clear hHeld2
        try simp only [Act.put, List.setIfInBounds_toArray, List.set_cons_zero, List.set_cons_succ]
        refine wpAnyH_take (i := 4) (oi := ⟨some 16, _, _, _, _, _⟩) (v := ?vvz165) rfl (by kernel_rfl) (by kernel_rfl) (by kernel_rfl) (fun _ _ _ h => h) (Or.inl ⟨by rfl, ?hyz165⟩) (by assumption) ?restz165
        case hyz165 => (intro w hSw; (try dsimp only at hSw); go_simp; try with_reducible rfl)
        try simp only [Act.put, List.setIfInBounds_toArray, List.set_cons_zero, List.set_cons_succ]
        refine wpAnyH_take (i := 5) (oi := ⟨some 17, _, _, _, _, _⟩) (v := ?vvz166) rfl (by kernel_rfl) (by kernel_rfl) (by kernel_rfl) (fun _ _ _ h => h) (Or.inl ⟨by rfl, ?hyz166⟩) (by assumption) ?restz166
        case hyz166 => (intro w hSw; (try dsimp only at hSw); go_simp; try with_reducible rfl)
        try simp only [Act.put, List.setIfInBounds_toArray, List.set_cons_zero, List.set_cons_succ]
        refine wpAnyH_take (i := 6) (oi := ⟨some 18, _, _, _, _, _⟩) (v := ?vvz167) rfl (by kernel_rfl) (by kernel_rfl) (by kernel_rfl) (fun _ _ _ h => h) (Or.inl ⟨by rfl, ?hyz167⟩) (by assumption) ?restz167
        case hyz167 => (intro w hSw; (try dsimp only at hSw); go_simp; try with_reducible rfl)
        try simp only [Act.put, List.setIfInBounds_toArray, List.set_cons_zero, List.set_cons_succ]
        refine wpAnyH_take (i := 7) (oi := ⟨some 19, _, _, _, _, _⟩) (v := ?vvz168) rfl (by kernel_rfl) (by kernel_rfl) (by kernel_rfl) (fun _ _ _ h => h) (Or.inl ⟨by rfl, ?hyz168⟩) (by assumption) ?restz168
        case hyz168 => (intro w hSw; (try dsimp only at hSw); go_simp; try with_reducible rfl)
        try simp only [Act.put, List.setIfInBounds_toArray, List.set_cons_zero, List.set_cons_succ]
        refine wpAnyH_take (i := 8) (oi := ⟨some 20, _, _, _, _, _⟩) (v := ?vvz169) rfl (by kernel_rfl) (by kernel_rfl) (by kernel_rfl) (fun _ _ _ h => h) (Or.inl ⟨by rfl, ?hyz169⟩) (by assumption) ?restz169
        case hyz169 => (intro w hSw; (try dsimp only at hSw); go_simp; try with_reducible rfl)
        try simp only [Act.put, List.setIfInBounds_toArray, List.set_cons_zero, List.set_cons_succ]
        refine wpAnyH_take (i := 9) (oi := ⟨some 21, _, _, _, _, _⟩) (v := ?vvz170) rfl (by kernel_rfl) (by kernel_rfl) (by kernel_rfl) (fun _ _ _ h => h) (Or.inl ⟨by rfl, ?hyz170⟩) (by assumption) ?restz170
        case hyz170 => (intro w hSw; (try dsimp only at hSw); go_simp; try with_reducible rfl)
        try simp only [Act.put, List.setIfInBounds_toArray, List.set_cons_zero, List.set_cons_succ]
        refine wpAnyH_take (i := 10) (oi := ⟨some 22, _, _, _, _, _⟩) (v := ?vvz171) rfl (by kernel_rfl) (by kernel_rfl) (by kernel_rfl) (fun _ _ _ h => h) (Or.inl ⟨by rfl, ?hyz171⟩) (by assumption) ?restz171
        case hyz171 => (intro w hSw; (try dsimp only at hSw); go_simp; try with_reducible rfl)
        try simp only [Act.put, List.setIfInBounds_toArray, List.set_cons_zero, List.set_cons_succ]
        refine wpAnyH_take (i := 11) (oi := ⟨some 23, _, _, _, _, _⟩) (v := ?vvz172) rfl (by kernel_rfl) (by kernel_rfl) (by kernel_rfl) (fun _ _ _ h => h) (Or.inl ⟨by rfl, ?hyz172⟩) (by assumption) ?restz172
        case hyz172 => (intro w hSw; (try dsimp only at hSw); go_simp; try with_reducible rfl)
        try simp only [Act.put, List.setIfInBounds_toArray, List.set_cons_zero, List.set_cons_succ]
        refine wpAnyH_take (i := 12) (oi := ⟨some 24, _, _, _, _, _⟩) (v := ?vvz173) rfl (by kernel_rfl) (by kernel_rfl) (by kernel_rfl) (fun _ _ _ h => h) (Or.inl ⟨by rfl, ?hyz173⟩) (by assumption) ?restz173
        case hyz173 => (intro w hSw; (try dsimp only at hSw); go_simp; try with_reducible rfl)
        try simp only [Act.put, List.setIfInBounds_toArray, List.set_cons_zero, List.set_cons_succ]
        refine wpAnyH_take (i := 13) (oi := ⟨some 25, _, _, _, _, _⟩) (v := ?vvz174) rfl (by kernel_rfl) (by kernel_rfl) (by kernel_rfl) (fun _ _ _ h => h) (Or.inl ⟨by rfl, ?hyz174⟩) (by assumption) ?restz174
        case hyz174 => (intro w hSw; (try dsimp only at hSw); go_simp; try with_reducible rfl)
        try simp only [Act.put, List.setIfInBounds_toArray, List.set_cons_zero, List.set_cons_succ]
        refine wpAnyH_take (i := 14) (oi := ⟨some 26, _, _, _, _, _⟩) (v := ?vvz175) rfl (by kernel_rfl) (by kernel_rfl) (by kernel_rfl) (fun _ _ _ h => h) (Or.inl ⟨by rfl, ?hyz175⟩) (by assumption) ?restz175
        case hyz175 => (intro w hSw; (try dsimp only at hSw); go_simp; try with_reducible rfl)
        try simp only [Act.put, List.setIfInBounds_toArray, List.set_cons_zero, List.set_cons_succ]
        refine wpAnyH_take (i := 15) (oi := ⟨some 27, _, _, _, _, _⟩) (v := ?vvz176) rfl (by kernel_rfl) (by kernel_rfl) (by kernel_rfl) (fun _ _ _ h => h) (Or.inl ⟨by rfl, ?hyz176⟩) (by assumption) ?restz176
        case hyz176 => (intro w hSw; (try dsimp only at hSw); go_simp; try with_reducible rfl)
        try simp only [Act.put, List.setIfInBounds_toArray, List.set_cons_zero, List.set_cons_succ]
        refine wpAnyH_take (i := 16) (oi := ⟨some 28, _, _, _, _, _⟩) (v := ?vvz177) rfl (by kernel_rfl) (by kernel_rfl) (by kernel_rfl) (fun _ _ _ h => h) (Or.inl ⟨by rfl, ?hyz177⟩) (by assumption) ?restz177
        case hyz177 => (intro w hSw; (try dsimp only at hSw); go_simp; try with_reducible rfl)
        try simp only [Act.put, List.setIfInBounds_toArray, List.set_cons_zero, List.set_cons_succ]
        refine wpAnyH_take (i := 17) (oi := ⟨some 29, _, _, _, _, _⟩) (v := ?vvz178) rfl (by kernel_rfl) (by kernel_rfl) (by kernel_rfl) (fun _ _ _ h => h) (Or.inl ⟨by rfl, ?hyz178⟩) (by assumption) ?restz178
        case hyz178 => (intro w hSw; (try dsimp only at hSw); go_simp; try with_reducible rfl)
        try simp only [Act.put, List.setIfInBounds_toArray, List.set_cons_zero, List.set_cons_succ]
        refine wpAnyH_take (i := 18) (oi := ⟨some 30, _, _, _, _, _⟩) (v := ?vvz179) rfl (by kernel_rfl) (by kernel_rfl) (by kernel_rfl) (fun _ _ _ h => h) (Or.inl ⟨by rfl, ?hyz179⟩) (by assumption) ?restz179
        case hyz179 => (intro w hSw; (try dsimp only at hSw); go_simp; try with_reducible rfl)
        try simp only [Act.put, List.setIfInBounds_toArray, List.set_cons_zero, List.set_cons_succ]
        refine wpAnyH_take (i := 19) (oi := ⟨some 31, _, _, _, _, _⟩) (v := ?vvz180) rfl (by kernel_rfl) (by kernel_rfl) (by kernel_rfl) (fun _ _ _ h => h) (Or.inl ⟨by rfl, ?hyz180⟩) (by assumption) ?restz180
        case hyz180 => (intro w hSw; (try dsimp only at hSw); go_simp; try with_reducible rfl)
        try simp only [Act.put, List.setIfInBounds_toArray, List.set_cons_zero, List.set_cons_succ]
        refine wpAnyH_take (i := 20) (oi := ⟨some 32, _, _, _, _, _⟩) (v := ?vvz181) rfl (by kernel_rfl) (by kernel_rfl) (by kernel_rfl) (fun _ _ _ h => h) (Or.inl ⟨by rfl, ?hyz181⟩) (by assumption) ?restz181
        case hyz181 => (intro w hSw; (try dsimp only at hSw); go_simp; try with_reducible rfl)
        try simp only [Act.put, List.setIfInBounds_toArray, List.set_cons_zero, List.set_cons_succ]
        refine wpAnyH_done (by kernel_rfl) ?_ _
        refine NoPanic.normal ?_
        clear hS
        have hb2 := below2 hb hHeld.2
        go_wp2
        go_ret
        exact ⟨ret_bool hno.out.symm, hb2⟩
      cases e2 : s == d'
      · have hm0 : meetB ⟨a, b, c, d, p, s⟩ ⟨a', b', c', d', p', s'⟩ = false := by unfold meetB; simp only [e1, e2]; rfl
        have hno := Lib.hid (outB_no (by rw [hst.out, hv, hm0]; rfl) hlt)
        clear hm0
        go_wp2
        refine wp_region_noPanic ?_
        refine wp_region_held_drew (S := (fun w' => (((w'.cell? ⟨g, o + k * 6, none⟩ = some (.int .i64 a) ∧ w'.cell? ⟨g, o + k * 6 + 1, none⟩ = some (.int .i64 b) ∧ w'.cell? ⟨g, o + k * 6 + 2, none⟩ = some (.int .i64 c) ∧ w'.cell? ⟨g, o + k * 6 + 3, none⟩ = some (.int .i64 d) ∧ w'.cell? ⟨g, o + k * 6 + 4, none⟩ = some (.int .i64 p) ∧ w'.cell? ⟨g, o + k * 6 + 5, none⟩ = some (.int .i64 s)) ∧ (w'.cell? ⟨g, o + m * 6 + 2, none⟩ = some (.int .i64 c') ∧ w'.cell? ⟨g, o + m * 6 + 3, none⟩ = some (.int .i64 d'))) ∧ Below wr.heap.size wr w'))) (by kernel_rfl) ?_ (fun hHeld => ?_)
        · exact ⟨hS.1, belowN hS.2 1⟩
        refine wpAnyH_take (i := 0) (oi := ⟨some 12, _, _, _, _, _⟩) (v := ?vvz182) rfl (by kernel_rfl) (by kernel_rfl) (by kernel_rfl) (fun _ _ _ h => h) (Or.inl ⟨by rfl, ?hyz182⟩) (by assumption) ?restz182
        case hyz182 => (intro w hSw; (try dsimp only at hSw); go_simp; try with_reducible rfl)
        try simp only [Act.put, List.setIfInBounds_toArray, List.set_cons_zero, List.set_cons_succ]
        refine wpAnyH_take (i := 1) (oi := ⟨some 13, _, _, _, _, _⟩) (v := ?vvz183) rfl (by kernel_rfl) (by kernel_rfl) (by kernel_rfl) (fun _ _ _ h => h) (Or.inl ⟨by rfl, ?hyz183⟩) (by assumption) ?restz183
        case hyz183 => (intro w hSw; (try dsimp only at hSw); go_simp; try with_reducible rfl)
        try simp only [Act.put, List.setIfInBounds_toArray, List.set_cons_zero, List.set_cons_succ]
        refine wpAnyH_take (i := 2) (oi := ⟨some 14, _, _, _, _, _⟩) (v := ?vvz184) rfl (by kernel_rfl) (by kernel_rfl) (by kernel_rfl) (fun _ _ _ h => h) (Or.inl ⟨by rfl, ?hyz184⟩) (by assumption) ?restz184
        case hyz184 => (intro w hSw; (try dsimp only at hSw); go_simp; try with_reducible rfl)
        try simp only [Act.put, List.setIfInBounds_toArray, List.set_cons_zero, List.set_cons_succ]
        refine wpAnyH_ready (rs := [3]) (by kernel_rfl) (by simp) ?_
        refine AllReadyH.cons (o := ⟨some 15, _, _, _, _, _⟩) rfl (fun K hK => ?_) AllReadyH.nil
        go_simp
        (go_at_call 48; (with_reducible refine (cO.out _ (by assumption)).mono ?_); rintro e w' ⟨rfl, hbel⟩)
        try go_wp2_with fail
        refine hK.out _ _ ?_ (fun hHeld2 => ?_)
        · exact keepH.out _ _ (by assumption) (by assumption)
        clear hK K hHeld
        have hHeld := hHeld2
        clear hHeld2
        try simp only [Act.put, List.setIfInBounds_toArray, List.set_cons_zero, List.set_cons_succ]
        refine wpAnyH_take (i := 4) (oi := ⟨some 16, _, _, _, _, _⟩) (v := ?vvz185) rfl (by kernel_rfl) (by kernel_rfl) (by kernel_rfl) (fun _ _ _ h => h) (Or.inl ⟨by rfl, ?hyz185⟩) (by assumption) ?restz185
        case hyz185 => (intro w hSw; (try dsimp only at hSw); go_simp; try with_reducible rfl)
        try simp only [Act.put, List.setIfInBounds_toArray, List.set_cons_zero, List.set_cons_succ]
        refine wpAnyH_take (i := 5) (oi := ⟨some 17, _, _, _, _, _⟩) (v := ?vvz186) rfl (by kernel_rfl) (by kernel_rfl) (by kernel_rfl) (fun _ _ _ h => h) (Or.inl ⟨by rfl, ?hyz186⟩) (by assumption) ?restz186
        case hyz186 => (intro w hSw; (try dsimp only at hSw); go_simp; try with_reducible rfl)
        try simp only [Act.put, List.setIfInBounds_toArray, List.set_cons_zero, List.set_cons_succ]
        refine wpAnyH_take (i := 6) (oi := ⟨some 18, _, _, _, _, _⟩) (v := ?vvz187) rfl (by kernel_rfl) (by kernel_rfl) (by kernel_rfl) (fun _ _ _ h => h) (Or.inl ⟨by rfl, ?hyz187⟩) (by assumption) ?restz187
        case hyz187 => (intro w hSw; (try dsimp only at hSw); go_simp; try with_reducible rfl)
        try simp only [Act.put, List.setIfInBounds_toArray, List.set_cons_zero, List.set_cons_succ]
        refine wpAnyH_take (i := 7) (oi := ⟨some 19, _, _, _, _, _⟩) (v := ?vvz188) rfl (by kernel_rfl) (by kernel_rfl) (by kernel_rfl) (fun _ _ _ h => h) (Or.inl ⟨by rfl, ?hyz188⟩) (by assumption) ?restz188
        case hyz188 => (intro w hSw; (try dsimp only at hSw); go_simp; try with_reducible rfl)
        try simp only [Act.put, List.setIfInBounds_toArray, List.set_cons_zero, List.set_cons_succ]
        refine wpAnyH_take (i := 8) (oi := ⟨some 20, _, _, _, _, _⟩) (v := ?vvz189) rfl (by kernel_rfl) (by kernel_rfl) (by kernel_rfl) (fun _ _ _ h => h) (Or.inl ⟨by rfl, ?hyz189⟩) (by assumption) ?restz189
        case hyz189 => (intro w hSw; (try dsimp only at hSw); go_simp; try with_reducible rfl)
        try simp only [Act.put, List.setIfInBounds_toArray, List.set_cons_zero, List.set_cons_succ]
        refine wpAnyH_take (i := 9) (oi := ⟨some 21, _, _, _, _, _⟩) (v := ?vvz190) rfl (by kernel_rfl) (by kernel_rfl) (by kernel_rfl) (fun _ _ _ h => h) (Or.inl ⟨by rfl, ?hyz190⟩) (by assumption) ?restz190
        case hyz190 => (intro w hSw; (try dsimp only at hSw); go_simp; try with_reducible rfl)
        try simp only [Act.put, List.setIfInBounds_toArray, List.set_cons_zero, List.set_cons_succ]
        refine wpAnyH_take (i := 10) (oi := ⟨some 22, _, _, _, _, _⟩) (v := ?vvz191) rfl (by kernel_rfl) (by kernel_rfl) (by kernel_rfl) (fun _ _ _ h => h) (Or.inl ⟨by rfl, ?hyz191⟩) (by assumption) ?restz191
        case hyz191 => (intro w hSw; (try dsimp only at hSw); go_simp; try with_reducible rfl)
        try simp only [Act.put, List.setIfInBounds_toArray, List.set_cons_zero, List.set_cons_succ]
        refine wpAnyH_take (i := 11) (oi := ⟨some 23, _, _, _, _, _⟩) (v := ?vvz192) rfl (by kernel_rfl) (by kernel_rfl) (by kernel_rfl) (fun _ _ _ h => h) (Or.inl ⟨by rfl, ?hyz192⟩) (by assumption) ?restz192
        case hyz192 => (intro w hSw; (try dsimp only at hSw); go_simp; try with_reducible rfl)
        try simp only [Act.put, List.setIfInBounds_toArray, List.set_cons_zero, List.set_cons_succ]
        refine wpAnyH_take (i := 12) (oi := ⟨some 24, _, _, _, _, _⟩) (v := ?vvz193) rfl (by kernel_rfl) (by kernel_rfl) (by kernel_rfl) (fun _ _ _ h => h) (Or.inl ⟨by rfl, ?hyz193⟩) (by assumption) ?restz193
        case hyz193 => (intro w hSw; (try dsimp only at hSw); go_simp; try with_reducible rfl)
        try simp only [Act.put, List.setIfInBounds_toArray, List.set_cons_zero, List.set_cons_succ]
        refine wpAnyH_take (i := 13) (oi := ⟨some 25, _, _, _, _, _⟩) (v := ?vvz194) rfl (by kernel_rfl) (by kernel_rfl) (by kernel_rfl) (fun _ _ _ h => h) (Or.inl ⟨by rfl, ?hyz194⟩) (by assumption) ?restz194
        case hyz194 => (intro w hSw; (try dsimp only at hSw); go_simp; try with_reducible rfl)
        try simp only [Act.put, List.setIfInBounds_toArray, List.set_cons_zero, List.set_cons_succ]
        refine wpAnyH_take (i := 14) (oi := ⟨some 26, _, _, _, _, _⟩) (v := ?vvz195) rfl (by kernel_rfl) (by kernel_rfl) (by kernel_rfl) (fun _ _ _ h => h) (Or.inl ⟨by rfl, ?hyz195⟩) (by assumption) ?restz195
        case hyz195 => (intro w hSw; (try dsimp only at hSw); go_simp; try with_reducible rfl)
        try simp only [Act.put, List.setIfInBounds_toArray, List.set_cons_zero, List.set_cons_succ]
        refine wpAnyH_take (i := 15) (oi := ⟨some 27, _, _, _, _, _⟩) (v := ?vvz196) rfl (by kernel_rfl) (by kernel_rfl) (by kernel_rfl) (fun _ _ _ h => h) (Or.inl ⟨by rfl, ?hyz196⟩) (by assumption) ?restz196
        case hyz196 => (intro w hSw; (try dsimp only at hSw); go_simp; try with_reducible rfl)
        try simp only [Act.put, List.setIfInBounds_toArray, List.set_cons_zero, List.set_cons_succ]
        refine wpAnyH_take (i := 16) (oi := ⟨some 28, _, _, _, _, _⟩) (v := ?vvz197) rfl (by kernel_rfl) (by kernel_rfl) (by kernel_rfl) (fun _ _ _ h => h) (Or.inl ⟨by rfl, ?hyz197⟩) (by assumption) ?restz197
        case hyz197 => (intro w hSw; (try dsimp only at hSw); go_simp; try with_reducible rfl)
        try simp only [Act.put, List.setIfInBounds_toArray, List.set_cons_zero, List.set_cons_succ]
        refine wpAnyH_take (i := 17) (oi := ⟨some 29, _, _, _, _, _⟩) (v := ?vvz198) rfl (by kernel_rfl) (by kernel_rfl) (by kernel_rfl) (fun _ _ _ h => h) (Or.inl ⟨by rfl, ?hyz198⟩) (by assumption) ?restz198
        case hyz198 => (intro w hSw; (try dsimp only at hSw); go_simp; try with_reducible rfl)
        try simp only [Act.put, List.setIfInBounds_toArray, List.set_cons_zero, List.set_cons_succ]
        refine wpAnyH_take (i := 18) (oi := ⟨some 30, _, _, _, _, _⟩) (v := ?vvz199) rfl (by kernel_rfl) (by kernel_rfl) (by kernel_rfl) (fun _ _ _ h => h) (Or.inl ⟨by rfl, ?hyz199⟩) (by assumption) ?restz199
        case hyz199 => (intro w hSw; (try dsimp only at hSw); go_simp; try with_reducible rfl)
        try simp only [Act.put, List.setIfInBounds_toArray, List.set_cons_zero, List.set_cons_succ]
        refine wpAnyH_take (i := 19) (oi := ⟨some 31, _, _, _, _, _⟩) (v := ?vvz200) rfl (by kernel_rfl) (by kernel_rfl) (by kernel_rfl) (fun _ _ _ h => h) (Or.inl ⟨by rfl, ?hyz200⟩) (by assumption) ?restz200
        case hyz200 => (intro w hSw; (try dsimp only at hSw); go_simp; try with_reducible rfl)
        try simp only [Act.put, List.setIfInBounds_toArray, List.set_cons_zero, List.set_cons_succ]
        refine wpAnyH_take (i := 20) (oi := ⟨some 32, _, _, _, _, _⟩) (v := ?vvz201) rfl (by kernel_rfl) (by kernel_rfl) (by kernel_rfl) (fun _ _ _ h => h) (Or.inl ⟨by rfl, ?hyz201⟩) (by assumption) ?restz201
        case hyz201 => (intro w hSw; (try dsimp only at hSw); go_simp; try with_reducible rfl)
        try simp only [Act.put, List.setIfInBounds_toArray, List.set_cons_zero, List.set_cons_succ]
        refine wpAnyH_done (by kernel_rfl) ?_ _
        refine NoPanic.normal ?_
        clear hS
        have hb2 := below2 hb hHeld.2
        go_wp2
        go_ret
        exact ⟨ret_bool hno.out.symm, hb2⟩
      have hm0 : meetB ⟨a, b, c, d, p, s⟩ ⟨a', b', c', d', p', s'⟩ = true := by unfold meetB; simp only [e1, e2]; rfl
      have hyes := Lib.hid (allK_yes hok.out (by rw [hst.out, hv, hm0]; rfl))
      clear hm0
      go_wp2
      refine wp_region_noPanic ?_
      refine wp_region_held_drew (S := (fun w' => (((w'.cell? ⟨g, o + k * 6, none⟩ = some (.int .i64 a) ∧ w'.cell? ⟨g, o + k * 6 + 1, none⟩ = some (.int .i64 b) ∧ w'.cell? ⟨g, o + k * 6 + 2, none⟩ = some (.int .i64 c) ∧ w'.cell? ⟨g, o + k * 6 + 3, none⟩ = some (.int .i64 d) ∧ w'.cell? ⟨g, o + k * 6 + 4, none⟩ = some (.int .i64 p) ∧ w'.cell? ⟨g, o + k * 6 + 5, none⟩ = some (.int .i64 s)) ∧ (w'.cell? ⟨g, o + m * 6 + 2, none⟩ = some (.int .i64 c') ∧ w'.cell? ⟨g, o + m * 6 + 3, none⟩ = some (.int .i64 d'))) ∧ Below wr.heap.size wr w'))) (by kernel_rfl) ?_ (fun hHeld => ?_)
      · exact ⟨hS.1, belowN hS.2 1⟩
      refine wpAnyH_take (i := 0) (oi := ⟨some 12, _, _, _, _, _⟩) (v := ?vvz202) rfl (by kernel_rfl) (by kernel_rfl) (by kernel_rfl) (fun _ _ _ h => h) (Or.inl ⟨by rfl, ?hyz202⟩) (by assumption) ?restz202
      case hyz202 => (intro w hSw; (try dsimp only at hSw); go_simp; try with_reducible rfl)
      try simp only [Act.put, List.setIfInBounds_toArray, List.set_cons_zero, List.set_cons_succ]
      refine wpAnyH_take (i := 1) (oi := ⟨some 13, _, _, _, _, _⟩) (v := ?vvz203) rfl (by kernel_rfl) (by kernel_rfl) (by kernel_rfl) (fun _ _ _ h => h) (Or.inl ⟨by rfl, ?hyz203⟩) (by assumption) ?restz203
      case hyz203 => (intro w hSw; (try dsimp only at hSw); go_simp; try with_reducible rfl)
      try simp only [Act.put, List.setIfInBounds_toArray, List.set_cons_zero, List.set_cons_succ]
      refine wpAnyH_take (i := 2) (oi := ⟨some 14, _, _, _, _, _⟩) (v := ?vvz204) rfl (by kernel_rfl) (by kernel_rfl) (by kernel_rfl) (fun _ _ _ h => h) (Or.inl ⟨by rfl, ?hyz204⟩) (by assumption) ?restz204
      case hyz204 => (intro w hSw; (try dsimp only at hSw); go_simp; try with_reducible rfl)
      try simp only [Act.put, List.setIfInBounds_toArray, List.set_cons_zero, List.set_cons_succ]
      refine wpAnyH_ready (rs := [3]) (by kernel_rfl) (by simp) ?_
      refine AllReadyH.cons (o := ⟨some 15, _, _, _, _, _⟩) rfl (fun K hK => ?_) AllReadyH.nil
      go_simp
      (go_at_call 48; (with_reducible refine (cO.out _ (by assumption)).mono ?_); rintro e w' ⟨rfl, hbel⟩)
      try go_wp2_with fail
      refine hK.out _ _ ?_ (fun hHeld2 => ?_)
      · exact keepH.out _ _ (by assumption) (by assumption)
      clear hK K hHeld
      have hHeld := hHeld2
      clear hHeld2
      try simp only [Act.put, List.setIfInBounds_toArray, List.set_cons_zero, List.set_cons_succ]
      refine wpAnyH_take (i := 4) (oi := ⟨some 16, _, _, _, _, _⟩) (v := ?vvz205) rfl (by kernel_rfl) (by kernel_rfl) (by kernel_rfl) (fun _ _ _ h => h) (Or.inl ⟨by rfl, ?hyz205⟩) (by assumption) ?restz205
      case hyz205 => (intro w hSw; (try dsimp only at hSw); go_simp; try with_reducible rfl)
      try simp only [Act.put, List.setIfInBounds_toArray, List.set_cons_zero, List.set_cons_succ]
      refine wpAnyH_take (i := 5) (oi := ⟨some 17, _, _, _, _, _⟩) (v := ?vvz206) rfl (by kernel_rfl) (by kernel_rfl) (by kernel_rfl) (fun _ _ _ h => h) (Or.inl ⟨by rfl, ?hyz206⟩) (by assumption) ?restz206
      case hyz206 => (intro w hSw; (try dsimp only at hSw); go_simp; try with_reducible rfl)
      try simp only [Act.put, List.setIfInBounds_toArray, List.set_cons_zero, List.set_cons_succ]
      refine wpAnyH_take (i := 6) (oi := ⟨some 18, _, _, _, _, _⟩) (v := ?vvz207) rfl (by kernel_rfl) (by kernel_rfl) (by kernel_rfl) (fun _ _ _ h => h) (Or.inl ⟨by rfl, ?hyz207⟩) (by assumption) ?restz207
      case hyz207 => (intro w hSw; (try dsimp only at hSw); go_simp; try with_reducible rfl)
      try simp only [Act.put, List.setIfInBounds_toArray, List.set_cons_zero, List.set_cons_succ]
      refine wpAnyH_take (i := 7) (oi := ⟨some 19, _, _, _, _, _⟩) (v := ?vvz208) rfl (by kernel_rfl) (by kernel_rfl) (by kernel_rfl) (fun _ _ _ h => h) (Or.inl ⟨by rfl, ?hyz208⟩) (by assumption) ?restz208
      case hyz208 => (intro w hSw; (try dsimp only at hSw); go_simp; try with_reducible rfl)
      try simp only [Act.put, List.setIfInBounds_toArray, List.set_cons_zero, List.set_cons_succ]
      refine wpAnyH_take (i := 8) (oi := ⟨some 20, _, _, _, _, _⟩) (v := ?vvz209) rfl (by kernel_rfl) (by kernel_rfl) (by kernel_rfl) (fun _ _ _ h => h) (Or.inl ⟨by rfl, ?hyz209⟩) (by assumption) ?restz209
      case hyz209 => (intro w hSw; (try dsimp only at hSw); go_simp; try with_reducible rfl)
      try simp only [Act.put, List.setIfInBounds_toArray, List.set_cons_zero, List.set_cons_succ]
      refine wpAnyH_take (i := 9) (oi := ⟨some 21, _, _, _, _, _⟩) (v := ?vvz210) rfl (by kernel_rfl) (by kernel_rfl) (by kernel_rfl) (fun _ _ _ h => h) (Or.inl ⟨by rfl, ?hyz210⟩) (by assumption) ?restz210
      case hyz210 => (intro w hSw; (try dsimp only at hSw); go_simp; try with_reducible rfl)
      try simp only [Act.put, List.setIfInBounds_toArray, List.set_cons_zero, List.set_cons_succ]
      refine wpAnyH_take (i := 10) (oi := ⟨some 22, _, _, _, _, _⟩) (v := ?vvz211) rfl (by kernel_rfl) (by kernel_rfl) (by kernel_rfl) (fun _ _ _ h => h) (Or.inl ⟨by rfl, ?hyz211⟩) (by assumption) ?restz211
      case hyz211 => (intro w hSw; (try dsimp only at hSw); go_simp; try with_reducible rfl)
      try simp only [Act.put, List.setIfInBounds_toArray, List.set_cons_zero, List.set_cons_succ]
      refine wpAnyH_take (i := 11) (oi := ⟨some 23, _, _, _, _, _⟩) (v := ?vvz212) rfl (by kernel_rfl) (by kernel_rfl) (by kernel_rfl) (fun _ _ _ h => h) (Or.inl ⟨by rfl, ?hyz212⟩) (by assumption) ?restz212
      case hyz212 => (intro w hSw; (try dsimp only at hSw); go_simp; try with_reducible rfl)
      try simp only [Act.put, List.setIfInBounds_toArray, List.set_cons_zero, List.set_cons_succ]
      refine wpAnyH_take (i := 12) (oi := ⟨some 24, _, _, _, _, _⟩) (v := ?vvz213) rfl (by kernel_rfl) (by kernel_rfl) (by kernel_rfl) (fun _ _ _ h => h) (Or.inl ⟨by rfl, ?hyz213⟩) (by assumption) ?restz213
      case hyz213 => (intro w hSw; (try dsimp only at hSw); go_simp; try with_reducible rfl)
      try simp only [Act.put, List.setIfInBounds_toArray, List.set_cons_zero, List.set_cons_succ]
      refine wpAnyH_take (i := 13) (oi := ⟨some 25, _, _, _, _, _⟩) (v := ?vvz214) rfl (by kernel_rfl) (by kernel_rfl) (by kernel_rfl) (fun _ _ _ h => h) (Or.inl ⟨by rfl, ?hyz214⟩) (by assumption) ?restz214
      case hyz214 => (intro w hSw; (try dsimp only at hSw); go_simp; try with_reducible rfl)
      try simp only [Act.put, List.setIfInBounds_toArray, List.set_cons_zero, List.set_cons_succ]
      refine wpAnyH_take (i := 14) (oi := ⟨some 26, _, _, _, _, _⟩) (v := ?vvz215) rfl (by kernel_rfl) (by kernel_rfl) (by kernel_rfl) (fun _ _ _ h => h) (Or.inl ⟨by rfl, ?hyz215⟩) (by assumption) ?restz215
      case hyz215 => (intro w hSw; (try dsimp only at hSw); go_simp; try with_reducible rfl)
      try simp only [Act.put, List.setIfInBounds_toArray, List.set_cons_zero, List.set_cons_succ]
      refine wpAnyH_take (i := 15) (oi := ⟨some 27, _, _, _, _, _⟩) (v := ?vvz216) rfl (by kernel_rfl) (by kernel_rfl) (by kernel_rfl) (fun _ _ _ h => h) (Or.inl ⟨by rfl, ?hyz216⟩) (by assumption) ?restz216
      case hyz216 => (intro w hSw; (try dsimp only at hSw); go_simp; try with_reducible rfl)
      try simp only [Act.put, List.setIfInBounds_toArray, List.set_cons_zero, List.set_cons_succ]
      refine wpAnyH_take (i := 16) (oi := ⟨some 28, _, _, _, _, _⟩) (v := ?vvz217) rfl (by kernel_rfl) (by kernel_rfl) (by kernel_rfl) (fun _ _ _ h => h) (Or.inl ⟨by rfl, ?hyz217⟩) (by assumption) ?restz217
      case hyz217 => (intro w hSw; (try dsimp only at hSw); go_simp; try with_reducible rfl)
      try simp only [Act.put, List.setIfInBounds_toArray, List.set_cons_zero, List.set_cons_succ]
      refine wpAnyH_take (i := 17) (oi := ⟨some 29, _, _, _, _, _⟩) (v := ?vvz218) rfl (by kernel_rfl) (by kernel_rfl) (by kernel_rfl) (fun _ _ _ h => h) (Or.inl ⟨by rfl, ?hyz218⟩) (by assumption) ?restz218
      case hyz218 => (intro w hSw; (try dsimp only at hSw); go_simp; try with_reducible rfl)
      try simp only [Act.put, List.setIfInBounds_toArray, List.set_cons_zero, List.set_cons_succ]
      refine wpAnyH_take (i := 18) (oi := ⟨some 30, _, _, _, _, _⟩) (v := ?vvz219) rfl (by kernel_rfl) (by kernel_rfl) (by kernel_rfl) (fun _ _ _ h => h) (Or.inl ⟨by rfl, ?hyz219⟩) (by assumption) ?restz219
      case hyz219 => (intro w hSw; (try dsimp only at hSw); go_simp; try with_reducible rfl)
      try simp only [Act.put, List.setIfInBounds_toArray, List.set_cons_zero, List.set_cons_succ]
      refine wpAnyH_take (i := 19) (oi := ⟨some 31, _, _, _, _, _⟩) (v := ?vvz220) rfl (by kernel_rfl) (by kernel_rfl) (by kernel_rfl) (fun _ _ _ h => h) (Or.inl ⟨by rfl, ?hyz220⟩) (by assumption) ?restz220
      case hyz220 => (intro w hSw; (try dsimp only at hSw); go_simp; try with_reducible rfl)
      try simp only [Act.put, List.setIfInBounds_toArray, List.set_cons_zero, List.set_cons_succ]
      refine wpAnyH_take (i := 20) (oi := ⟨some 32, _, _, _, _, _⟩) (v := ?vvz221) rfl (by kernel_rfl) (by kernel_rfl) (by kernel_rfl) (fun _ _ _ h => h) (Or.inl ⟨by rfl, ?hyz221⟩) (by assumption) ?restz221
      case hyz221 => (intro w hSw; (try dsimp only at hSw); go_simp; try with_reducible rfl)
      try simp only [Act.put, List.setIfInBounds_toArray, List.set_cons_zero, List.set_cons_succ]
      refine wpAnyH_done (by kernel_rfl) ?_ _
      refine NoPanic.normal ?_
      clear hS
      have hb2 := below2 hb hHeld.2
      go_wp2
      go_roundw
      case rel => exact ⟨k + 1, by omega, by go_num, hyes, hb2⟩
      case measure => simp [intOf]; omega
    · have hkl : k = Z.length := by omega
      have hall : Hid (allK (outS Z) Z.length = true) := Lib.hid (hkl ▸ hok.out)
      have hfin : Hid (outB Z = decide (2 ≤ Z.length ∧ Z.length ≤ 16)) := Lib.hid (by unfold outB; rw [hall.out]; rfl)
      clear hkl
      by_cases h2 : 2 ≤ Z.length
      · by_cases h16 : Z.length ≤ 16
        · go_wp2
          go_ret
          exact ⟨ret_bool (by rw [hfin.out, decide_eq_true (show 2 ≤ Z.length ∧ Z.length ≤ 16 from ⟨h2, h16⟩)]; exact decide_eq_true (by omega)), hb⟩
        · go_wp2
          go_ret
          exact ⟨ret_bool (by rw [hfin.out, decide_eq_false (show ¬ (2 ≤ Z.length ∧ Z.length ≤ 16) from fun h => h16 h.2)]; exact decide_eq_false (by omega)), hb⟩
      · go_wp2
        go_ret
        exact ⟨ret_bool (by rw [hfin.out, decide_eq_false (show ¬ (2 ≤ Z.length ∧ Z.length ≤ 16) from fun h => h2 h.1)]), hb⟩
end Go.Proofs.Ytdgkpghecfpgoaa
