/-
  The gap of two colours: both functions.
-/
import Derived.Test.YtjnpladpegmiiaaCt
import Derived.Deep.RegionHeld3
import Derived.Laws.FloatArith
namespace Go.Proofs.Ytjnpladpegmiiaa
open Go.ChangeShapes Go.WideShapes Go.ChangeAt Go.RowKit Go.Deep
set_option linter.unusedVariables false
set_option linter.unusedSimpArgs false
set_option maxRecDepth 1000000
def gapL (A B : List Int) : Int := gap3 (A.getD 0 0) (A.getD 1 0) (A.getD 2 0) (B.getD 0 0) (B.getD 1 0) (B.getD 2 0)
theorem gapL_mk (a b c a' b' c' : Int) : gapL [a, b, c] [a', b', c'] = gap3 a b c a' b' c' := rfl
/-- a row of three numbers in memory -/
theorem row3 {w : World} {v : Value} {a b c : Int} (h : IntsAt w v [a, b, c]) : ∃ g o cap, v = .slice (some ⟨g, o, none⟩) 3 cap ∧ g < w.heap.size ∧ w.cell? ⟨g, o, none⟩ = some (.int .i64 a) ∧ w.cell? ⟨g, o + 1, none⟩ = some (.int .i64 b) ∧ w.cell? ⟨g, o + 2, none⟩ = some (.int .i64 c) := by
  obtain ⟨p, cap, rfl, hcap, _, hread⟩ := h
  rcases hread with h | ⟨g, o, rfl, hg, hcl⟩
  · cases h
  · exact ⟨g, o, cap, rfl, hg, hcl 0 (by simp), hcl 1 (by simp), hcl 2 (by simp)⟩
theorem run_arrayAt3 {p : Option Addr} {len cap : Nat} (h : 3 ≤ len) (w : World) : Sem.run Try.prog (Instr.arrayAt 70 (.slice p len cap)) w = .ok (.pointer p) w := by
  unfold Instr.arrayAt
  go_simp
def gapV (A B : List Int) : Int := pick (colB A && colB B) (gapL A B)
def gapC (A B : List Int) : Int := code (colB A && colB B) 1
set_option maxHeartbeats 1600000 in
theorem specColourGap_any (v : Value) (A : List Int) (v' : Value) (B : List Int) (w : World) (hA : A.length ≤ 1048576) (h1 : IntsAt w v A) (hB : B.length ≤ 1048576) (h2 : IntsAt w v' B) : Calls Try.prog 27 #[v, v'] w fun e w' => e = .returned (.tuple #[.int .i64 (gapV A B), .int .i64 (gapC A B)]) ∧ Below w.heap.size w w' := by
  have c1 := fun W (h : IntsAt W v A) => l13Colour_any v A W (by unfold maxLen; omega) h
  have c2 := fun W (h : IntsAt W v' B) => l13Colour_any v' B W (by unfold maxLen; omega) h
  have d1 := c1 w h1
  have d2 := c2 w h2
  have hV : Hid (gapV A B = pick (colB A && colB B) (gapL A B)) := Lib.hid rfl
  have hC : Hid (gapC A B = code (colB A && colB B) 1) := Lib.hid rfl
  clear c1 c2
  cases q1 : colB A
  · rw [q1] at d1 hV hC
    have d1' := Lib.hid d1
    clear d1 d2
    go_enter Try.func27, Try.ntmps27
    go_wp2_with (go_at_call 53; (with_reducible refine d1'.out.mono ?_); rintro e w1 ⟨rfl, rfl⟩)
    go_ret2
    exact ⟨ret_int2 hV.out.symm hC.out.symm, Below.refl _ _⟩
  · cases q2 : colB B
    · rw [q1] at d1 hV hC
      rw [q2] at d2 hV hC
      have d1' := Lib.hid d1
      have d2' := Lib.hid d2
      clear d1 d2
      go_enter Try.func27, Try.ntmps27
      go_wp2_with (first | (go_at_call 53; (with_reducible refine d1'.out.mono ?_); rintro e w1 ⟨rfl, rfl⟩) | (go_at_call 53; (with_reducible refine d2'.out.mono ?_); rintro e w1 ⟨rfl, rfl⟩))
      go_ret2
      exact ⟨ret_int2 hV.out.symm hC.out.symm, Below.refl _ _⟩
    · rw [q1] at d1 hV hC
      rw [q2] at d2 hV hC
      obtain ⟨a, b, c, rfl, ba, bb, bc⟩ := colB_iff q1
      obtain ⟨a', b', c', rfl, ba', bb', bc'⟩ := colB_iff q2
      have d3 := Lib.hid (l13Gap_any v v' a b c a' b' c' ba bb bc ba' bb' bc' w h1 h2)
      have d1' := Lib.hid d1
      have d2' := Lib.hid d2
      clear d1 d2 h1 h2
      go_enter Try.func27, Try.ntmps27
      go_wp2_with (first | (go_at_call 53; (with_reducible refine d1'.out.mono ?_); rintro e w1 ⟨rfl, rfl⟩) | (go_at_call 53; (with_reducible refine d2'.out.mono ?_); rintro e w1 ⟨rfl, rfl⟩) | (go_at_call 59; (with_reducible refine d3.out.mono ?_); rintro e w1 ⟨rfl, b1⟩))
      go_ret2
      exact ⟨ret_int2 hV.out.symm hC.out.symm, b1.below⟩
set_option maxHeartbeats 1600000 in
theorem implColourGap_any (v : Value) (A : List Int) (v' : Value) (B : List Int) (w : World) (hA : A.length ≤ 1048576) (h1 : IntsAt w v A) (hB : B.length ≤ 1048576) (h2 : IntsAt w v' B) : Calls Try.prog 28 #[v, v'] w fun e w' => e = .returned (.tuple #[.int .i64 (gapV A B), .int .i64 (gapC A B)]) ∧ Below w.heap.size w w' := by
  have d1 := isColour_any v A w (by unfold maxLen; omega) h1
  have d2 := fun W (hb : Below w.heap.size w W) => isColour_any v' B W (by unfold maxLen; omega) (h2.below hb)
  have hV : Hid (gapV A B = pick (colB A && colB B) (gapL A B)) := Lib.hid rfl
  have hC : Hid (gapC A B = code (colB A && colB B) 1) := Lib.hid rfl
  cases q1 : colB A
  · rw [q1] at d1 hV hC
    have d1' := Lib.hid d1
    clear d1 d2
    go_enter Try.func28, Try.ntmps28
    go_wp2_with (go_at_call 56; (with_reducible refine d1'.out.mono ?_); rintro e w1 ⟨rfl, b1⟩)
    go_ret2
    exact ⟨ret_int2 hV.out.symm hC.out.symm, b1⟩
  · cases q2 : colB B
    · rw [q1] at d1 hV hC
      rw [q2] at d2 hV hC
      have d1' := Lib.hid d1
      have d2' := Lib.hid d2
      clear d1 d2
      go_enter Try.func28, Try.ntmps28
      go_wp2_with (first | (go_at_call 56; (with_reducible refine d1'.out.mono ?_); rintro e w1 ⟨rfl, b1⟩) | (go_at_call 56; (with_reducible refine (d2'.out _ b1).mono ?_); rintro e w2 ⟨rfl, b2⟩))
      go_ret2
      exact ⟨ret_int2 hV.out.symm hC.out.symm, below2 b1 b2⟩
    · rw [q1] at d1 hV hC
      rw [q2] at d2 hV hC
      obtain ⟨a, b, c, rfl, ba, bb, bc⟩ := colB_iff q1
      obtain ⟨a', b', c', rfl, ba', bb', bc'⟩ := colB_iff q2
      obtain ⟨g, o, cap, rfl, hg, c0, c1, c2⟩ := row3 h1
      obtain ⟨g', o', cap', rfl, hg', e0, e1, e2⟩ := row3 h2
      have d3 := Lib.hid (fun W => gapTo_any a b c a' b' c' ba bb bc ba' bb' bc' W)
      have d1' := Lib.hid d1
      have d2' := Lib.hid d2
      clear d1 d2 h1 h2
      go_enter Try.func28, Try.ntmps28
      go_upto_region 3 with (first | (go_at_call 56; (with_reducible refine d1'.out.mono ?_); rintro e w1 ⟨rfl, b1⟩) | (go_at_call 56; (with_reducible refine (d2'.out _ b1).mono ?_); rintro e w2 ⟨rfl, b2⟩))
      have b12 := below2 b1 b2
      have c0' := (bcell b12 _ _ hg).trans c0
      have c1' := (bcell b12 _ _ hg).trans c1
      have c2' := (bcell b12 _ _ hg).trans c2
      have e0' := (bcell b12 _ _ hg').trans e0
      have e1' := (bcell b12 _ _ hg').trans e1
      have e2' := (bcell b12 _ _ hg').trans e2
      clear c0 c1 c2 e0 e1 e2
      have hg1 := Nat.lt_of_lt_of_le hg b12.size
      have hg2 := Nat.lt_of_lt_of_le hg' b12.size
      have keepH : Hid (∀ W1 W2, (((W1.cell? ⟨g, o, none⟩ = some (.int .i64 a) ∧ W1.cell? ⟨g, o + 1, none⟩ = some (.int .i64 b) ∧ W1.cell? ⟨g, o + 2, none⟩ = some (.int .i64 c)) ∧ (W1.cell? ⟨g', o', none⟩ = some (.int .i64 a') ∧ W1.cell? ⟨g', o' + 1, none⟩ = some (.int .i64 b') ∧ W1.cell? ⟨g', o' + 2, none⟩ = some (.int .i64 c'))) ∧ Below w2.heap.size w2 W1) → Below W1.heap.size W1 W2 → (((W2.cell? ⟨g, o, none⟩ = some (.int .i64 a) ∧ W2.cell? ⟨g, o + 1, none⟩ = some (.int .i64 b) ∧ W2.cell? ⟨g, o + 2, none⟩ = some (.int .i64 c)) ∧ (W2.cell? ⟨g', o', none⟩ = some (.int .i64 a') ∧ W2.cell? ⟨g', o' + 1, none⟩ = some (.int .i64 b') ∧ W2.cell? ⟨g', o' + 2, none⟩ = some (.int .i64 c'))) ∧ Below w2.heap.size w2 W2)) := Lib.hid (fun W1 W2 h1 h2 => by
        obtain ⟨⟨⟨p0, p1, p2⟩, ⟨r0, r1, r2⟩⟩, hb⟩ := h1
        have z1 := Nat.lt_of_lt_of_le hg1 hb.size
        have z2 := Nat.lt_of_lt_of_le hg2 hb.size
        exact ⟨⟨⟨(bcell h2 _ _ z1).trans p0, (bcell h2 _ _ z1).trans p1, (bcell h2 _ _ z1).trans p2⟩, ⟨(bcell h2 _ _ z2).trans r0, (bcell h2 _ _ z2).trans r1, (bcell h2 _ _ z2).trans r2⟩⟩, hb.trans (h2.mono hb.size)⟩)
      have hS : (((w2.cell? ⟨g, o, none⟩ = some (.int .i64 a) ∧ w2.cell? ⟨g, o + 1, none⟩ = some (.int .i64 b) ∧ w2.cell? ⟨g, o + 2, none⟩ = some (.int .i64 c)) ∧ (w2.cell? ⟨g', o', none⟩ = some (.int .i64 a') ∧ w2.cell? ⟨g', o' + 1, none⟩ = some (.int .i64 b') ∧ w2.cell? ⟨g', o' + 2, none⟩ = some (.int .i64 c'))) ∧ Below w2.heap.size w2 w2) := ⟨⟨⟨c0', c1', c2'⟩, ⟨e0', e1', e2'⟩⟩, Below.refl _ _⟩
      clear c0' c1' c2' e0' e1' e2'
      go_region_held3 (fun w' => (((w'.cell? ⟨g, o, none⟩ = some (.int .i64 a) ∧ w'.cell? ⟨g, o + 1, none⟩ = some (.int .i64 b) ∧ w'.cell? ⟨g, o + 2, none⟩ = some (.int .i64 c)) ∧ (w'.cell? ⟨g', o', none⟩ = some (.int .i64 a') ∧ w'.cell? ⟨g', o' + 1, none⟩ = some (.int .i64 b') ∧ w'.cell? ⟨g', o' + 2, none⟩ = some (.int .i64 c'))) ∧ Below w2.heap.size w2 w'))
        (first | exact ⟨hS.1, belowN hS.2 1⟩ | exact keepH.out _ _ (by assumption) (by assumption) | assumption)
        (first | (rw [run_arrayAt3 (by decide)]; go_simp) | (go_at_call 60; (with_reducible refine (d3.out _).mono ?_); rintro e w' ⟨rfl, hbel⟩))
      all_goals rename_i hHeld
      all_goals go_wp2
      all_goals go_ret2
      all_goals exact ⟨ret_int2 hV.out.symm hC.out.symm, below2 b12 hHeld.2⟩
end Go.Proofs.Ytjnpladpegmiiaa
