/-
  Texts of Neck: the program's and the model's contracts.
-/
import Derived.Test.YtgffgaeingaihaaDoorNckIn
import Derived.Test.YtgffgaeingaihaaDoorReg
import Derived.Test.YtgffgaeingaihaaDoorListI
import Derived.Test.YtgffgaeingaihaaDoorReadListI
import Derived.Deep.RegionHeld3
namespace Go.Proofs.YtgffgaeingaihaaDoor
open Go.ChangeShapes Go.WideShapes Go.ChangeAt Go.RowKit Go.Deep
set_option linter.unusedVariables false
set_option linter.unusedSimpArgs false
set_option maxRecDepth 1000000
theorem fresh_n (w : World) (o : Obj) : Below w.heap.size w (w.alloc o) := (Below.refl _ _).alloc (Nat.le_refl _) _
theorem own_shapeN {w : World} {B e size n : Nat} {v : Value} {xs : List Value} (h : w.ownsRow B e size v n xs) : ∃ a cap, v = .slice a n cap := by
  rcases h.2 with ⟨rfl, rfl⟩ | ⟨g, cap, _, rfl, _⟩
  · exact ⟨none, 0, rfl⟩
  · exact ⟨_, cap, rfl⟩
/-- the text of a Neck -/
def nckT (x : Nck) : List UInt8 := if nckB x = true then textZ [x.stp, x.bod, x.ovr, x.ang] else []
theorem nck_ints (a b c d : Int) (w : World) (h : ∀ n ∈ [a, b, c, d], inI n) : IntsAt (w.alloc (.cells #[.int .i64 a, .int .i64 b, .int .i64 c, .int .i64 d] 2)) (.slice (some ⟨w.heap.size, 0, none⟩) 4 4) [a, b, c, d] :=
  ⟨some ⟨w.heap.size, 0, none⟩, 4, rfl, Nat.le_refl _, h, Or.inr ⟨w.heap.size, 0, rfl, by simp, fun i hi => by
    match i, hi with
    | 0, _ => exact cellB (heap_alloc_new w _) 0 _ rfl
    | 1, _ => exact cellB (heap_alloc_new w _) 1 _ rfl
    | 2, _ => exact cellB (heap_alloc_new w _) 2 _ rfl
    | 3, _ => exact cellB (heap_alloc_new w _) 3 _ rfl
⟩⟩
theorem nck_inI {a b c d : Int} (h : nckB ⟨a, b, c, d⟩ = true) : (∀ n ∈ [a, b, c, d], inI n) ∧ fitsZ [a, b, c, d] = true := by
  have hb := nck_bd h
  have key : ∀ n ∈ [a, b, c, d], -1000000000000 ≤ n ∧ n ≤ 1000000000000 := by
    intro n hn
    simp only [List.mem_cons, List.not_mem_nil, or_false] at hn
    rcases hn with rfl | rfl | rfl | rfl <;> omega
  refine ⟨fun n hn => by have := key n hn; unfold inI; omega, ?_⟩
  unfold fitsZ
  rw [Bool.and_eq_true]
  refine ⟨List.all_eq_true.2 fun n hn => ?_, by simp⟩
  unfold inV
  exact inB_iff.2 (key n hn)
set_option maxHeartbeats 1600000 in
theorem implNeckText_any (a : Int) (b : Int) (c : Int) (d : Int) (w : World) (hT : TabP w) : Calls Tryd.prog 13 #[.agg #[.int .i64 a, .int .i64 b, .int .i64 c, .int .i64 d]] w fun e w' => e = .returned (.string ⟨(nckT ⟨a, b, c, d⟩).toArray⟩) ∧ Below w.heap.size w w' := by
  have hT' := Lib.hid hT
  clear hT
  have cV := Lib.hid (fun W => implValidNeck_any a b c d W)
  cases h : nckB ⟨a, b, c, d⟩ <;> rw [h] at cV
  · have hr : Hid (Ending.returned (.string ⟨#[]⟩) = .returned (.string ⟨(nckT ⟨a, b, c, d⟩).toArray⟩)) := Lib.hid (by unfold nckT; rw [h]; rfl)
    clear h
    go_enter Tryd.func13, Tryd.ntmps13
    go_wp2_with fail
    obtain ⟨q1, hB0, hsz⟩ := one_box w #[.int .i64 a, .int .i64 b, .int .i64 c, .int .i64 d] 31
    generalize (w.alloc (.cells #[.int .i64 a, .int .i64 b, .int .i64 c, .int .i64 d] 31)) = W0 at q1 hB0 hsz ⊢
    have c0 := q1 0 _ rfl
    have c1 := q1 1 _ rfl
    have c2 := q1 2 _ rfl
    have c3 := q1 3 _ rfl
    refine (cV.out _).mono ?_
    rintro e w1 ⟨rfl, b1⟩
    have B1 := below2 hB0 b1
    have hT1 := hT'.out.below B1
    replace c0 := (b1.cell (p := ⟨w.heap.size, 0, none⟩) hsz).trans c0
    replace c1 := (b1.cell (p := ⟨w.heap.size, 1, none⟩) hsz).trans c1
    replace c2 := (b1.cell (p := ⟨w.heap.size, 2, none⟩) hsz).trans c2
    replace c3 := (b1.cell (p := ⟨w.heap.size, 3, none⟩) hsz).trans c3
    clear q1 b1
    go_wp2
    go_ret
    exact ⟨hr.out, B1⟩
  · obtain ⟨hin, hft⟩ := nck_inI h
    have hin' := Lib.hid hin
    have cL0 : ∀ W V, IntsAt W V [a, b, c, d] → TabP W → Calls Tryd.prog 27 #[V] W fun e w' => e = .returned (.string ⟨(nckT ⟨a, b, c, d⟩).toArray⟩) ∧ Below W.heap.size W w' := fun W V hi hW => by
      have := implListText_any V [a, b, c, d] W (by simp) hi hW
      unfold listR at this
      rw [hft] at this
      unfold nckT
      rw [h]
      exact this
    have cL := Lib.hid cL0
    obtain ⟨D, hD⟩ : ∃ D, D = nckT ⟨a, b, c, d⟩ := ⟨_, rfl⟩
    rw [← hD] at cL ⊢
    clear h hin hft cL0 hD
    go_enter Tryd.func13, Tryd.ntmps13
    go_wp2_with fail
    obtain ⟨q1, hB0, hsz⟩ := one_box w #[.int .i64 a, .int .i64 b, .int .i64 c, .int .i64 d] 31
    generalize (w.alloc (.cells #[.int .i64 a, .int .i64 b, .int .i64 c, .int .i64 d] 31)) = W0 at q1 hB0 hsz ⊢
    have c0 := q1 0 _ rfl
    have c1 := q1 1 _ rfl
    have c2 := q1 2 _ rfl
    have c3 := q1 3 _ rfl
    refine (cV.out _).mono ?_
    rintro e w1 ⟨rfl, b1⟩
    have B1 := below2 hB0 b1
    have hT1 := hT'.out.below B1
    replace c0 := (b1.cell (p := ⟨w.heap.size, 0, none⟩) hsz).trans c0
    replace c1 := (b1.cell (p := ⟨w.heap.size, 1, none⟩) hsz).trans c1
    replace c2 := (b1.cell (p := ⟨w.heap.size, 2, none⟩) hsz).trans c2
    replace c3 := (b1.cell (p := ⟨w.heap.size, 3, none⟩) hsz).trans c3
    clear q1 b1
    go_wp2_with fail
    have hia := nck_ints a b c d w1 hin'.out
    have hB2 := fresh_n w1 (.cells #[.int .i64 a, .int .i64 b, .int .i64 c, .int .i64 d] 2)
    have hT2 := hT1.below hB2
    generalize (w1.alloc (.cells #[.int .i64 a, .int .i64 b, .int .i64 c, .int .i64 d] 2)) = W2 at hia hB2 hT2 ⊢
    refine (cL.out _ _ hia hT2).mono ?_
    rintro e w3 ⟨rfl, b3⟩
    go_wp2
    go_ret
    exact ⟨rfl, below2 B1 (below2 hB2 b3)⟩
set_option maxHeartbeats 3200000 in
theorem l10Text_any (a : Int) (b : Int) (c : Int) (d : Int) (h : nckB ⟨a, b, c, d⟩ = true) (w : World) (g o : Nat) (hg : g < w.heap.size) (hat : NckAt w g o ⟨a, b, c, d⟩) : Calls Tryd.prog 25 #[.pointer (some ⟨g, o, none⟩)] w fun e w' => e = .returned (.string ⟨(nckT ⟨a, b, c, d⟩).toArray⟩) ∧ Below w.heap.size w w' := by
  obtain ⟨hin, hft⟩ := nck_inI h
  have hin' := Lib.hid hin
  have cL0 : ∀ W : World, Calls Tryd.prog 40 #[.slice (some ⟨W.heap.size, 0, none⟩) 4 4] (W.alloc (.cells #[.int .i64 a, .int .i64 b, .int .i64 c, .int .i64 d] 2)) fun e w' => e = .returned (.string ⟨(nckT ⟨a, b, c, d⟩).toArray⟩) ∧ Below (W.alloc (.cells #[.int .i64 a, .int .i64 b, .int .i64 c, .int .i64 d] 2)).heap.size (W.alloc (.cells #[.int .i64 a, .int .i64 b, .int .i64 c, .int .i64 d] 2)) w' := fun W => by
    have := l01List_any _ [a, b, c, d] _ (by simp) (nck_ints a b c d W hin)
    unfold nckT
    rw [h]
    exact this
  obtain ⟨c0, c1, c2, c3⟩ := hat
  simp only at c0 c1 c2 c3
  obtain ⟨D, hD⟩ : ∃ D, D = nckT ⟨a, b, c, d⟩ := ⟨_, rfl⟩
  rw [← hD] at cL0 ⊢
  clear hD h hin hft
  go_enter Tryd.func25, Tryd.ntmps25
  go_wp2
  have open0 : Hid (∀ w', Below w.heap.size w w' → w'.cell? ⟨g, o, none⟩ = some (.int .i64 a) ∧ w'.cell? ⟨g, o + 1, none⟩ = some (.int .i64 b) ∧ w'.cell? ⟨g, o + 2, none⟩ = some (.int .i64 c) ∧ w'.cell? ⟨g, o + 3, none⟩ = some (.int .i64 d)) := Lib.hid (fun w' hw' => ⟨(hw'.cell (p := ⟨g, _, none⟩) hg).trans c0, (hw'.cell (p := ⟨g, _, none⟩) hg).trans c1, (hw'.cell (p := ⟨g, _, none⟩) hg).trans c2, (hw'.cell (p := ⟨g, _, none⟩) hg).trans c3⟩)
  have cL := Lib.hid cL0
  refine wp_calm 16 (fun w' => Below w.heap.size w w') (by kernel_rfl) (by kernel_rfl) (by kernel_rfl) (by kernel_rfl) (belowN (Below.refl _ _) 1) ?_
  simp only [List.take_succ_cons, List.take_zero, List.drop_succ_cons, List.drop_zero]
  refine calm_take (v := ?vn1) (by rfl) ?en1 ?rn1
  case en1 => (intro w' hw'; obtain ⟨d0, d1, d2, d3⟩ := open0.out w' hw'; go_simp; try with_reducible rfl)
  try simp only [Act.put, List.setIfInBounds_toArray, List.set_cons_zero, List.set_cons_succ]
  refine calm_take (v := ?vn2) (by rfl) ?en2 ?rn2
  case en2 => (intro w' hw'; obtain ⟨d0, d1, d2, d3⟩ := open0.out w' hw'; go_simp; try with_reducible rfl)
  try simp only [Act.put, List.setIfInBounds_toArray, List.set_cons_zero, List.set_cons_succ]
  refine calm_take (v := ?vn3) (by rfl) ?en3 ?rn3
  case en3 => (intro w' hw'; obtain ⟨d0, d1, d2, d3⟩ := open0.out w' hw'; go_simp; try with_reducible rfl)
  try simp only [Act.put, List.setIfInBounds_toArray, List.set_cons_zero, List.set_cons_succ]
  refine calm_take (v := ?vn4) (by rfl) ?en4 ?rn4
  case en4 => (intro w' hw'; obtain ⟨d0, d1, d2, d3⟩ := open0.out w' hw'; go_simp; try with_reducible rfl)
  try simp only [Act.put, List.setIfInBounds_toArray, List.set_cons_zero, List.set_cons_succ]
  refine calm_take (v := ?vn5) (by rfl) ?en5 ?rn5
  case en5 => (intro w' hw'; obtain ⟨d0, d1, d2, d3⟩ := open0.out w' hw'; go_simp; try with_reducible rfl)
  try simp only [Act.put, List.setIfInBounds_toArray, List.set_cons_zero, List.set_cons_succ]
  refine calm_take (v := ?vn6) (by rfl) ?en6 ?rn6
  case en6 => (intro w' hw'; obtain ⟨d0, d1, d2, d3⟩ := open0.out w' hw'; go_simp; try with_reducible rfl)
  try simp only [Act.put, List.setIfInBounds_toArray, List.set_cons_zero, List.set_cons_succ]
  refine calm_take (v := ?vn7) (by rfl) ?en7 ?rn7
  case en7 => (intro w' hw'; obtain ⟨d0, d1, d2, d3⟩ := open0.out w' hw'; go_simp; try with_reducible rfl)
  try simp only [Act.put, List.setIfInBounds_toArray, List.set_cons_zero, List.set_cons_succ]
  refine calm_take (v := ?vn8) (by rfl) ?en8 ?rn8
  case en8 => (intro w' hw'; obtain ⟨d0, d1, d2, d3⟩ := open0.out w' hw'; go_simp; try with_reducible rfl)
  try simp only [Act.put, List.setIfInBounds_toArray, List.set_cons_zero, List.set_cons_succ]
  refine calm_take (v := ?vn9) (by rfl) ?en9 ?rn9
  case en9 => (intro w' hw'; obtain ⟨d0, d1, d2, d3⟩ := open0.out w' hw'; go_simp; try with_reducible rfl)
  try simp only [Act.put, List.setIfInBounds_toArray, List.set_cons_zero, List.set_cons_succ]
  refine calm_take (v := ?vn10) (by rfl) ?en10 ?rn10
  case en10 => (intro w' hw'; obtain ⟨d0, d1, d2, d3⟩ := open0.out w' hw'; go_simp; try with_reducible rfl)
  try simp only [Act.put, List.setIfInBounds_toArray, List.set_cons_zero, List.set_cons_succ]
  refine calm_take (v := ?vn11) (by rfl) ?en11 ?rn11
  case en11 => (intro w' hw'; obtain ⟨d0, d1, d2, d3⟩ := open0.out w' hw'; go_simp; try with_reducible rfl)
  try simp only [Act.put, List.setIfInBounds_toArray, List.set_cons_zero, List.set_cons_succ]
  refine calm_take (v := ?vn12) (by rfl) ?en12 ?rn12
  case en12 => (intro w' hw'; obtain ⟨d0, d1, d2, d3⟩ := open0.out w' hw'; go_simp; try with_reducible rfl)
  try simp only [Act.put, List.setIfInBounds_toArray, List.set_cons_zero, List.set_cons_succ]
  refine calm_take (v := ?vn13) (by rfl) ?en13 ?rn13
  case en13 => (intro w' hw'; obtain ⟨d0, d1, d2, d3⟩ := open0.out w' hw'; go_simp; try with_reducible rfl)
  try simp only [Act.put, List.setIfInBounds_toArray, List.set_cons_zero, List.set_cons_succ]
  refine calm_take (v := ?vn14) (by rfl) ?en14 ?rn14
  case en14 => (intro w' hw'; obtain ⟨d0, d1, d2, d3⟩ := open0.out w' hw'; go_simp; try with_reducible rfl)
  try simp only [Act.put, List.setIfInBounds_toArray, List.set_cons_zero, List.set_cons_succ]
  refine calm_take (v := ?vn15) (by rfl) ?en15 ?rn15
  case en15 => (intro w' hw'; obtain ⟨d0, d1, d2, d3⟩ := open0.out w' hw'; go_simp; try with_reducible rfl)
  try simp only [Act.put, List.setIfInBounds_toArray, List.set_cons_zero, List.set_cons_succ]
  refine calm_take (v := ?vn16) (by rfl) ?en16 ?rn16
  case en16 => (intro w' hw'; obtain ⟨d0, d1, d2, d3⟩ := open0.out w' hw'; go_simp; try with_reducible rfl)
  try simp only [Act.put, List.setIfInBounds_toArray, List.set_cons_zero, List.set_cons_succ]
  refine wpQuiet_nil (fun w' hw' => ?_)
  go_wp2_with (go_at_call 40; (with_reducible refine (cL.out w').mono ?_); rintro e w3 ⟨rfl, b3⟩)
  go_ret
  exact ⟨rfl, below2 hw' (below2 (fresh_n w' _) b3)⟩
set_option maxHeartbeats 1600000 in
theorem specNeckText_any (a : Int) (b : Int) (c : Int) (d : Int) (w : World) : Calls Tryd.prog 11 #[.agg #[.int .i64 a, .int .i64 b, .int .i64 c, .int .i64 d]] w fun e w' => e = .returned (.string ⟨(nckT ⟨a, b, c, d⟩).toArray⟩) ∧ Below w.heap.size w w' := by
  have hat := nck_box a b c d w
  have c1 := l10Ok_any a b c d _ _ 0 hat
  cases h : nckB ⟨a, b, c, d⟩ <;> rw [h] at c1
  · have hr : Hid (Ending.returned (.string ⟨#[]⟩) = .returned (.string ⟨(nckT ⟨a, b, c, d⟩).toArray⟩)) := Lib.hid (by unfold nckT; rw [h]; rfl)
    clear h
    go_enter Tryd.func11, Tryd.ntmps11
    go_wp2_with (go_at_call 24; (with_reducible refine c1.mono ?_); rintro e w' ⟨rfl, rfl⟩)
    go_ret
    exact ⟨hr.out, (Below.refl _ _).alloc (Nat.le_refl _) _⟩
  · have cT := Lib.hid (l10Text_any a b c d h _ _ 0 (by simp) hat)
    obtain ⟨D, hD⟩ : ∃ D, D = nckT ⟨a, b, c, d⟩ := ⟨_, rfl⟩
    rw [← hD] at cT ⊢
    clear h hD
    go_enter Tryd.func11, Tryd.ntmps11
    go_wp2_with (first
      | (go_at_call 24; (with_reducible refine c1.mono ?_); rintro e w' ⟨rfl, rfl⟩)
      | (go_at_call 25; (with_reducible refine cT.out.mono ?_); rintro e w' ⟨rfl, b2⟩))
    go_ret
    exact ⟨rfl, below2 ((Below.refl _ _).alloc (Nat.le_refl _) _) b2⟩
end Go.Proofs.YtgffgaeingaihaaDoor
