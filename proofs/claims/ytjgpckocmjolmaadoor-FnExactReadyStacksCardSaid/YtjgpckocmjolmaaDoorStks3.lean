/-
  Rows of Stack: the law's comparison.
-/
import Derived.Test.YtjgpckocmjolmaaDoorStks2
namespace Go.Proofs.YtjgpckocmjolmaaDoor
open Go.ChangeShapes Go.WideShapes Go.ChangeAt Go.RowKit Go.Deep
set_option linter.unusedVariables false
set_option linter.unusedSimpArgs false
set_option maxRecDepth 1000000
set_option maxHeartbeats 1600000 in
theorem eqStackS_any (v v' : Value) (Z : List Stk) (w : World) (hn : Z.length ≤ 1048576) (h1 : StksAt w v Z) (h2 : StksAt w v' Z) : Calls Tryd.prog 9 #[v, v'] w fun e w' => e = .returned (.bool true) ∧ Below w.heap.size w w' := by
  obtain ⟨p, cap, rfl, hcap, _, hread⟩ := h1
  obtain ⟨p', cap', rfl, hcap', _, hread'⟩ := h2
  have hr1 := Lib.hid hread
  have hr2 := Lib.hid hread'
  clear hread hread'
  go_enter Tryd.func9, Tryd.ntmps9
  go_wp2
  go_loopw [5] (fun i wr => ∃ j : Nat, j ≤ Z.length ∧ i = .int .i64 j ∧ Below w.heap.size w wr) (fun i _ => Z.length - (intOf i).toNat)
  case atStart => exact ⟨0, by omega, rfl, Below.refl _ _⟩
  case round =>
    obtain ⟨j, hj, rfl, hb⟩ := hrel
    by_cases hlt : j < Z.length
    · rcases hr1.out with h | ⟨g, o, rfl, hg, hc⟩
      · subst h; simp at hlt
      rcases hr2.out with h | ⟨g', o', rfl, hg', hc'⟩
      · subst h; simp at hlt
      obtain ⟨x, hx⟩ : ∃ x, x = Z[j] := ⟨_, rfl⟩
      have q1 := range_below (hc j hlt) hg hb
      have q2 := range_below (hc' j hlt) hg' hb
      rw [← hx] at q1 q2
      have hgr : g < wr.heap.size := Nat.lt_of_lt_of_le hg hb.size
      have hgr' : g' < wr.heap.size := Nat.lt_of_lt_of_le hg' hb.size
      have P1 := stkAt_of q1
      have P2 := stkAt_of q2
      obtain ⟨s, a, b, c⟩ := x
      clear hx hc hc' q1 q2
      have keep : ∀ W1 W2, (((W1.cell? ⟨g, o + j * 4, none⟩ = some (.string s) ∧ W1.cell? ⟨g, o + j * 4 + 1, none⟩ = some (.int .i64 a) ∧ W1.cell? ⟨g, o + j * 4 + 2, none⟩ = some (.int .i64 b) ∧ W1.cell? ⟨g, o + j * 4 + 3, none⟩ = some (.int .i64 c)) ∧ (W1.cell? ⟨g', o' + j * 4, none⟩ = some (.string s) ∧ W1.cell? ⟨g', o' + j * 4 + 1, none⟩ = some (.int .i64 a) ∧ W1.cell? ⟨g', o' + j * 4 + 2, none⟩ = some (.int .i64 b) ∧ W1.cell? ⟨g', o' + j * 4 + 3, none⟩ = some (.int .i64 c))) ∧ Below wr.heap.size wr W1) → Below W1.heap.size W1 W2 → (((W2.cell? ⟨g, o + j * 4, none⟩ = some (.string s) ∧ W2.cell? ⟨g, o + j * 4 + 1, none⟩ = some (.int .i64 a) ∧ W2.cell? ⟨g, o + j * 4 + 2, none⟩ = some (.int .i64 b) ∧ W2.cell? ⟨g, o + j * 4 + 3, none⟩ = some (.int .i64 c)) ∧ (W2.cell? ⟨g', o' + j * 4, none⟩ = some (.string s) ∧ W2.cell? ⟨g', o' + j * 4 + 1, none⟩ = some (.int .i64 a) ∧ W2.cell? ⟨g', o' + j * 4 + 2, none⟩ = some (.int .i64 b) ∧ W2.cell? ⟨g', o' + j * 4 + 3, none⟩ = some (.int .i64 c))) ∧ Below wr.heap.size wr W2) := fun W1 W2 h1 h2 => by
        obtain ⟨⟨p0, p1⟩, hb⟩ := h1
        have q0 := StkAt.below (x := ⟨s, a, b, c⟩) (o := o + j * 4) p0 (Nat.lt_of_lt_of_le hgr hb.size) h2
        have q1 := StkAt.below (x := ⟨s, a, b, c⟩) (o := o' + j * 4) p1 (Nat.lt_of_lt_of_le hgr' hb.size) h2
        exact ⟨⟨q0, q1⟩, hb.trans (h2.mono hb.size)⟩
      have keepH := Lib.hid keep
      have hS : (((wr.cell? ⟨g, o + j * 4, none⟩ = some (.string s) ∧ wr.cell? ⟨g, o + j * 4 + 1, none⟩ = some (.int .i64 a) ∧ wr.cell? ⟨g, o + j * 4 + 2, none⟩ = some (.int .i64 b) ∧ wr.cell? ⟨g, o + j * 4 + 3, none⟩ = some (.int .i64 c)) ∧ (wr.cell? ⟨g', o' + j * 4, none⟩ = some (.string s) ∧ wr.cell? ⟨g', o' + j * 4 + 1, none⟩ = some (.int .i64 a) ∧ wr.cell? ⟨g', o' + j * 4 + 2, none⟩ = some (.int .i64 b) ∧ wr.cell? ⟨g', o' + j * 4 + 3, none⟩ = some (.int .i64 c))) ∧ Below wr.heap.size wr wr) := ⟨⟨P1, P2⟩, Below.refl _ _⟩
      clear keep P1 P2
      have hltI : (j : Int) < (Z.length : Int) := by omega
      go_wp2
      go_region_held3 (fun w' => (((w'.cell? ⟨g, o + j * 4, none⟩ = some (.string s) ∧ w'.cell? ⟨g, o + j * 4 + 1, none⟩ = some (.int .i64 a) ∧ w'.cell? ⟨g, o + j * 4 + 2, none⟩ = some (.int .i64 b) ∧ w'.cell? ⟨g, o + j * 4 + 3, none⟩ = some (.int .i64 c)) ∧ (w'.cell? ⟨g', o' + j * 4, none⟩ = some (.string s) ∧ w'.cell? ⟨g', o' + j * 4 + 1, none⟩ = some (.int .i64 a) ∧ w'.cell? ⟨g', o' + j * 4 + 2, none⟩ = some (.int .i64 b) ∧ w'.cell? ⟨g', o' + j * 4 + 3, none⟩ = some (.int .i64 c))) ∧ Below wr.heap.size wr w'))
        (first | exact ⟨hS.1, belowN hS.2 1⟩ | exact keepH.out _ _ (by assumption) (by assumption) | assumption)
        (first | (go_at_call 26; (with_reducible refine (eqStack_any s a b c _).mono ?_); rintro e w' ⟨rfl, hbel⟩))
      rename_i hHeld
      have hb2 := below2 hb hHeld.2
      clear hS keepH hHeld
      go_wp2
      go_roundw
      case rel => exact ⟨j + 1, by omega, by go_num, hb2⟩
      case measure => simp [intOf]; omega
    · go_wp2
      go_ret
      exact ⟨rfl, hb⟩
end Go.Proofs.YtjgpckocmjolmaaDoor
