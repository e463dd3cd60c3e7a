/-
  Rows of arcs that a call makes and hands back; ovals.
-/
import Derived.Test.YtdgkpghecfpgoaaArcC
import Derived.Test.YtdgkpghecfpgoaaArcsK
namespace Go.Proofs.Ytdgkpghecfpgoaa
open Go.ChangeShapes Go.WideShapes Go.ChangeAt Go.RowKit Go.Deep
set_option linter.unusedVariables false
set_option linter.unusedSimpArgs false
set_option maxRecDepth 1000000
/-- all cells of a list of arcs -/
def flatA (Z : List Arc) : List Value := Z.flatMap Arc.cells
theorem cells_six (x : Arc) : x.cells.length = 6 := rfl
theorem flatA_len : ∀ Z : List Arc, (flatA Z).length = Z.length * 6
  | [] => rfl
  | x :: Z => by
    have := flatA_len Z
    unfold flatA at this ⊢
    rw [List.flatMap_cons, List.length_append, this, cells_six, List.length_cons]; omega
theorem flatA_get : ∀ (Z : List Arc) (i : Nat) (hi : i < Z.length) (j : Nat), j < 6 → (flatA Z)[i * 6 + j]? = (Z[i]).cells[j]?
  | x :: Z, 0, _, j, hj => by
    unfold flatA
    rw [List.flatMap_cons, Nat.zero_mul, Nat.zero_add, List.getElem?_append_left (by rw [cells_six]; exact hj)]; rfl
  | x :: Z, i + 1, hi, j, hj => by
    have := flatA_get Z i (by simpa using hi) j hj
    unfold flatA at this ⊢
    rw [List.flatMap_cons, List.getElem?_append_right (by rw [cells_six]; omega), cells_six, show (i + 1) * 6 + j - 6 = i * 6 + j by omega, this]; rfl
/-- a row of arcs of the call's own -/
def OwnA (B : Nat) (v : Value) (Z : List Arc) (w : World) : Prop := ArcsAt w v Z ∧ ((Z = [] ∧ v = .slice none 0 0) ∨ ∃ g cap, v = .slice (some ⟨g, 0, none⟩) Z.length cap ∧ B ≤ g ∧ g < w.heap.size ∧ w.there g 0 (Z.length * 6))
theorem OwnA.below {B : Nat} {v : Value} {Z : List Arc} {w w' : World} (h : OwnA B v Z w) (hb : Below w.heap.size w w') : OwnA B v Z w' := by
  obtain ⟨h1, h2⟩ := h
  refine ⟨h1.below hb, ?_⟩
  rcases h2 with h2 | ⟨g, cap, e, h3, h4, h5⟩
  · exact Or.inl h2
  · exact Or.inr ⟨g, cap, e, h3, Nat.lt_of_lt_of_le h4 hb.size, there_below h5 h4 hb⟩
theorem OwnA.low {B B' : Nat} {v : Value} {Z : List Arc} {w : World} (h : OwnA B v Z w) (hb : B' ≤ B) : OwnA B' v Z w := by
  obtain ⟨h1, h2⟩ := h
  refine ⟨h1, ?_⟩
  rcases h2 with h2 | ⟨g, cap, e, h3, h4, h5⟩
  · exact Or.inl h2
  · exact Or.inr ⟨g, cap, e, Nat.le_trans hb h3, h4, h5⟩
theorem ownA_nil (B : Nat) (w : World) : OwnA B (.slice none 0 0) [] w := ⟨⟨none, 0, rfl, Nat.le_refl _, fun _ _ => trivial, Or.inl rfl⟩, Or.inl ⟨rfl, rfl⟩⟩
theorem ownA_new (W : World) (Z : List Arc) (cs : Array Value) (hcs : cs.toList = flatA Z) : OwnA W.heap.size (.slice (some ⟨W.heap.size, 0, none⟩) Z.length Z.length) Z (W.alloc (.cells cs 29)) := by
  obtain ⟨q1, hB, hs⟩ := one_box W cs 29
  have hq : ∀ i v, (flatA Z)[i]? = some v → (W.alloc (.cells cs 29)).cell? ⟨W.heap.size, i, none⟩ = some v := fun i v h => q1 i v (by rw [← hcs] at h; simpa using h)
  refine ⟨⟨_, _, rfl, Nat.le_refl _, fun _ _ => trivial, Or.inr ⟨W.heap.size, 0, rfl, hs, fun i hi j v hv => ?_⟩⟩, Or.inr ⟨_, _, rfl, Nat.le_refl _, hs, fun j hj => ⟨?_, ?_⟩⟩⟩
  · have hj : j < 6 := by have := (List.getElem?_eq_some_iff.1 hv).1; rwa [cells_six] at this
    rw [Nat.zero_add]
    exact hq _ _ ((flatA_get Z i hi j hj).trans hv)
  · rw [Nat.zero_add]
    obtain ⟨u, hu⟩ : ∃ u, (flatA Z)[j]? = some u := ⟨_, List.getElem?_eq_getElem (by rw [flatA_len]; exact hj)⟩
    rw [hq _ _ hu]; rfl
  · exact freeB (heap_alloc_new _ _) _
/-- a row of arcs and a code -/
def RowA (Z : List Arc) (c : Int) (w : World) (e : Ending) (w' : World) : Prop := ∃ v, e = .returned (.tuple #[v, .int .i64 c]) ∧ OwnA w.heap.size v Z w' ∧ Below w.heap.size w w'
theorem rowA_mk {Z Z' : List Arc} {c c' : Int} {v : Value} {w w' : World} {B : Nat} (hZ : Z = Z') (hc : c = c') (hB : w.heap.size ≤ B) (h : OwnA B v Z' w') (hb : Below w.heap.size w w') : RowA Z c w (.returned (.tuple #[v, .int .i64 c'])) w' := by
  subst hZ hc; exact ⟨_, rfl, h.low hB, hb⟩
theorem rowA_nil {Z : List Arc} {c c' : Int} {w w' : World} (hZ : Z = []) (hc : c = c') (hb : Below w.heap.size w w') : RowA Z c w (.returned (.tuple #[.slice none 0 0, .int .i64 c'])) w' := by
  subst hZ hc; exact ⟨_, rfl, ownA_nil _ _, hb⟩
def ovalL (k m : Int) : List Arc := [⟨0, -4 * k, 3 * k + 3 * m, 4 * m, -(3 * k + 3 * m), 4 * m⟩, ⟨-3 * k, 0, -(3 * k + 3 * m), 4 * m, -(3 * k + 3 * m), -(4 * m)⟩, ⟨0, 4 * k, -(3 * k + 3 * m), -(4 * m), 3 * k + 3 * m, -(4 * m)⟩, ⟨3 * k, 0, 3 * k + 3 * m, -(4 * m), 3 * k + 3 * m, 4 * m⟩]
def ovB (k m : Int) : Bool := inB k 0 10000 && inB m 1 10000
def ovV (k m : Int) : List Arc := if ovB k m = true then ovalL k m else []
def ovC (k m : Int) : Int := if ovB k m = true then 0 else 2
theorem ov_bad {k m : Int} (h : ovB k m = false) : ovV k m = [] ∧ ovC k m = 2 := by unfold ovV ovC; rw [h]; exact ⟨rfl, rfl⟩
theorem ov_good {k m : Int} (h : ovB k m = true) : ovV k m = ovalL k m ∧ ovC k m = 0 := by unfold ovV ovC; rw [h]; exact ⟨rfl, rfl⟩
set_option maxHeartbeats 3200000 in
theorem implOvalOutline_any (k m : Int) (w : World) : Calls Try.prog 36 #[.int .i64 k, .int .i64 m] w (RowA (ovV k m) (ovC k m) w) := by
  cases h1 : inB k 0 10000
  · have hv := Lib.hid (ov_bad (k := k) (m := m) (by unfold ovB; rw [h1]; rfl))
    go_enter Try.func36, Try.ntmps36
    go_wp2_with (go_at_call 63; refine (within64_any _ _ _ _).mono ?_; rintro e w' ⟨rfl, rfl⟩)
    go_ret2
    exact rowA_nil hv.out.1 hv.out.2 (Below.refl _ _)
  cases h2 : inB m 1 10000
  · have hv := Lib.hid (ov_bad (k := k) (m := m) (by unfold ovB; rw [h1, h2]; rfl))
    go_enter Try.func36, Try.ntmps36
    go_wp2_with (go_at_call 63; refine (within64_any _ _ _ _).mono ?_; rintro e w' ⟨rfl, rfl⟩)
    go_ret2
    exact rowA_nil hv.out.1 hv.out.2 (Below.refl _ _)
  have hv := Lib.hid (ov_good (k := k) (m := m) (by unfold ovB; rw [h1, h2]; rfl))
  have b1 := inB_iff.1 h1
  have b2 := inB_iff.1 h2
  go_enter Try.func36, Try.ntmps36
  go_wp2_with (go_at_call 63; refine (within64_any _ _ _ _).mono ?_; rintro e w' ⟨rfl, rfl⟩)
  go_ret2
  exact rowA_mk hv.out.1 hv.out.2 (Nat.le_refl _) (ownA_new w (ovalL k m) _ rfl) ((Below.refl _ _).alloc (Nat.le_refl _) _)
theorem l05Arc_any (a : Int) (b : Int) (c : Int) (d : Int) (p : Int) (s : Int) (w : World) : Calls Try.prog 80 #[.int .i64 a, .int .i64 b, .int .i64 c, .int .i64 d, .int .i64 p, .int .i64 s] w fun e w' => e = .returned (.agg #[.int .i64 a, .int .i64 b, .int .i64 c, .int .i64 d, .int .i64 p, .int .i64 s]) ∧ Below w.heap.size w w' := by
  go_enter Try.func80, Try.ntmps80
  go_wp2
  exact bodyPost_ret (v := .agg #[.int .i64 a, .int .i64 b, .int .i64 c, .int .i64 d, .int .i64 p, .int .i64 s]) (by simp [results, Try.results80, go_sem]) rfl ⟨rfl, (Below.refl _ _).alloc (Nat.le_refl _) _⟩
def RowA1 (Z : List Arc) (w : World) (e : Ending) (w' : World) : Prop := ∃ v, e = .returned v ∧ OwnA w.heap.size v Z w' ∧ Below w.heap.size w w'
theorem l05Oval_any (k m : Int) (b1 : 0 ≤ k ∧ k ≤ 10000) (b2 : 1 ≤ m ∧ m ≤ 10000) (w : World) : Calls Try.prog 62 #[.int .i64 k, .int .i64 m] w (RowA1 (ovalL k m) w) := by
  have hS : Below w.heap.size w w := Below.refl _ _
  have keep : ∀ W1 W2, Below w.heap.size w W1 → Below W1.heap.size W1 W2 → Below w.heap.size w W2 := fun W1 W2 h1 h2 => below2 h1 h2
  have keepH := Lib.hid keep
  clear keep
  go_enter Try.func62, Try.ntmps62
  go_wp2_with (go_at_call 80; (with_reducible refine (l05Arc_any _ _ _ _ _ _ _).mono ?_); rintro e w' ⟨rfl, hbel⟩; replace hS := keepH.out _ _ hS hbel; clear hbel)
  go_ret
  exact ⟨_, rfl, (ownA_new _ (ovalL k m) _ rfl).low hS.size, hS.alloc hS.size _⟩
set_option maxHeartbeats 3200000 in
theorem specOvalOutline_any (k m : Int) (w : World) : Calls Try.prog 35 #[.int .i64 k, .int .i64 m] w (RowA (ovV k m) (ovC k m) w) := by
  cases h1 : inB k 0 10000
  · have hv := Lib.hid (ov_bad (k := k) (m := m) (by unfold ovB; rw [h1]; rfl))
    go_enter Try.func35, Try.ntmps35
    go_wp2_with (go_at_call 61; refine (l00In_any _ _ _ _).mono ?_; rintro e w' ⟨rfl, rfl⟩)
    go_ret2
    exact rowA_nil hv.out.1 hv.out.2 (Below.refl _ _)
  cases h2 : inB m 1 10000
  · have hv := Lib.hid (ov_bad (k := k) (m := m) (by unfold ovB; rw [h1, h2]; rfl))
    go_enter Try.func35, Try.ntmps35
    go_wp2_with (go_at_call 61; refine (l00In_any _ _ _ _).mono ?_; rintro e w' ⟨rfl, rfl⟩)
    go_ret2
    exact rowA_nil hv.out.1 hv.out.2 (Below.refl _ _)
  have hv := Lib.hid (ov_good (k := k) (m := m) (by unfold ovB; rw [h1, h2]; rfl))
  have b1 := inB_iff.1 h1
  have b2 := inB_iff.1 h2
  go_enter Try.func35, Try.ntmps35
  go_wp2_with (first | (go_at_call 61; refine (l00In_any _ _ _ _).mono ?_; rintro e w' ⟨rfl, rfl⟩) | (go_at_call 62; (with_reducible refine (l05Oval_any _ _ b1 b2 _).mono ?_); rintro e w' ⟨v', rfl, ho, hbel⟩))
  go_ret2
  exact rowA_mk hv.out.1 hv.out.2 (Nat.le_refl _) ho hbel
end Go.Proofs.Ytdgkpghecfpgoaa
