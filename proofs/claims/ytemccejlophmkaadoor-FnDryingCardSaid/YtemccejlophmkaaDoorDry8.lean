/-
  Days with cracks: the program's and the model's contracts.
-/
import Derived.Test.YtemccejlophmkaaDoorDry7
namespace Go.Proofs.YtemccejlophmkaaDoor
open Go.ChangeShapes Go.WideShapes Go.ChangeAt Go.RowKit Go.Deep
set_option linter.unusedVariables false
set_option linter.unusedSimpArgs false
/-- on how many of n days the moisture changes by more than z -/
def crkN (a v b z : Int) (n : Nat) : Nat := (List.range n).countP (fun k => crP z (0, 0, chgV (dryV a v b k) v b))
theorem crkN_succ (a v b z : Int) (n : Nat) : crkN a v b z (n + 1) = crkN a v b z n + (if crP z (0, 0, chgV (dryV a v b n) v b) then 1 else 0) := by
  unfold crkN; rw [List.range_succ, List.countP_append]; cases h : crP z (0, 0, chgV (dryV a v b n) v b) <;> simp [h]
theorem crkN_le (a v b z : Int) (n : Nat) : crkN a v b z n ≤ n := by unfold crkN; have := List.countP_le_length (p := fun k => crP z (0, 0, chgV (dryV a v b k) v b)) (l := List.range n); simpa using this
theorem crk_all (a v b z : Int) (hz : 0 ≤ z) (n : Nat) : (dryL a v b n).countP (crP z) = crkN a v b z n := by
  induction n with
  | zero =>
    have h0 : crP z (0, a, 0) = false := by simp [crP]; omega
    show List.countP (crP z) [(0, a, 0)] = 0
    simp [h0]
  | succ n ih =>
    rw [dryL_snoc, List.countP_append, ih, crkN_succ]
    have e : crP z (dryE a v b (n + 1)) = crP z (0, 0, chgV (dryV a v b n) v b) := rfl
    cases h : crP z (0, 0, chgV (dryV a v b n) v b) <;> simp [e, h]
set_option maxHeartbeats 3200000 in
theorem implCrackDays_any (s : ByteArray) (a : Int) (b : Int) (c : Int) (h z dd : Int) (hs : s.size ≤ maxLen) (w : World) (hE : EvP w) : Calls Tryd.prog 13 #[.agg #[.string s, .int .i64 a, .int .i64 b, .int .i64 c], .int .i64 h, .int .i64 z, .int .i64 dd] w fun e w' => e = .returned (.tuple #[.int .i64 (pick (stkB ⟨s, a, b, c⟩ && (inB h 0 1000 && inB z 0 1000 && inB dd 0 4000)) (crkN a (evenV h) b z dd.toNat : Nat)), .int .i64 (code2 (stkB ⟨s, a, b, c⟩) (inB h 0 1000 && inB z 0 1000 && inB dd 0 4000) 1 2)]) ∧ Below w.heap.size w w' := by
  have hB0 : Below w.heap.size w ((w.alloc (.cells #[.string s, .int .i64 a, .int .i64 b, .int .i64 c] 25)).alloc (.cells #[.int .i64 z] 2)) := ((Below.refl _ _).alloc (Nat.le_refl _) _).alloc (by simp) _
  have hz0 : w.heap.size ≤ ((w.alloc (.cells #[.string s, .int .i64 a, .int .i64 b, .int .i64 c] 25)).alloc (.cells #[.int .i64 z] 2)).heap.size := by simp <;> omega
  have x2 : ((w.alloc (.cells #[.string s, .int .i64 a, .int .i64 b, .int .i64 c] 25)).alloc (.cells #[.int .i64 z] 2)).cell? ⟨w.heap.size + 1, 0, none⟩ = some (.int .i64 z) := cellB (by rw [show w.heap.size + 1 = (w.alloc (.cells #[.string s, .int .i64 a, .int .i64 b, .int .i64 c] 25)).heap.size by simp]; exact heap_alloc_new _ _) 0 _ rfl
  cases h1 : stkB ⟨s, a, b, c⟩
  · go_enter Tryd.func13, Tryd.ntmps13
    go_wp2_with (first
      | (go_at_call 20; refine (isValid_any _ _ _ _ hs _).mono ?_; rintro e w1 ⟨rfl, b1⟩; have C1 := bcell b1)
      | (go_at_call 21; refine (isThousandths_any _ _).mono ?_; rintro e w' ⟨rfl, rfl⟩)
      | (go_at_call 22; refine (isTime_any _ _).mono ?_; rintro e w' ⟨rfl, rfl⟩))
    go_ret2
    exact ⟨ret_int2 rfl rfl, hB0.trans (b1.mono hz0)⟩
  cases h2 : inB h 0 1000
  · go_enter Tryd.func13, Tryd.ntmps13
    go_wp2_with (first
      | (go_at_call 20; refine (isValid_any _ _ _ _ hs _).mono ?_; rintro e w1 ⟨rfl, b1⟩; have C1 := bcell b1)
      | (go_at_call 21; refine (isThousandths_any _ _).mono ?_; rintro e w' ⟨rfl, rfl⟩)
      | (go_at_call 22; refine (isTime_any _ _).mono ?_; rintro e w' ⟨rfl, rfl⟩))
    go_ret2
    exact ⟨ret_int2 rfl rfl, hB0.trans (b1.mono hz0)⟩
  cases h3 : inB z 0 1000
  · go_enter Tryd.func13, Tryd.ntmps13
    go_wp2_with (first
      | (go_at_call 20; refine (isValid_any _ _ _ _ hs _).mono ?_; rintro e w1 ⟨rfl, b1⟩; have C1 := bcell b1)
      | (go_at_call 21; refine (isThousandths_any _ _).mono ?_; rintro e w' ⟨rfl, rfl⟩)
      | (go_at_call 22; refine (isTime_any _ _).mono ?_; rintro e w' ⟨rfl, rfl⟩))
    go_ret2
    exact ⟨ret_int2 rfl rfl, hB0.trans (b1.mono hz0)⟩
  cases h4 : inB dd 0 4000
  · go_enter Tryd.func13, Tryd.ntmps13
    go_wp2_with (first
      | (go_at_call 20; refine (isValid_any _ _ _ _ hs _).mono ?_; rintro e w1 ⟨rfl, b1⟩; have C1 := bcell b1)
      | (go_at_call 21; refine (isThousandths_any _ _).mono ?_; rintro e w' ⟨rfl, rfl⟩)
      | (go_at_call 22; refine (isTime_any _ _).mono ?_; rintro e w' ⟨rfl, rfl⟩))
    go_ret2
    exact ⟨ret_int2 rfl rfl, hB0.trans (b1.mono hz0)⟩
  obtain ⟨ha, hb, hc⟩ := stk_bd h1
  have hev := even_in h
  have hz := inB_iff.1 h3
  have hd := inB_iff.1 h4
  have hE2 := hE.below hB0
  go_enter Tryd.func13, Tryd.ntmps13
  go_wp2_with fail
  refine (isValid_any _ _ _ _ hs _).mono ?_
  rintro e w1 ⟨rfl, b1⟩
  have C1 := bcell b1
  go_wp2_with (first
      | (go_at_call 21; refine (isThousandths_any _ _).mono ?_; rintro e w' ⟨rfl, rfl⟩)
      | (go_at_call 22; refine (isTime_any _ _).mono ?_; rintro e w' ⟨rfl, rfl⟩))
  refine (drying_any s a b c h dd _ (hE2.below b1)).mono ?_
  rintro e w2 ⟨bx, bd, be, rfl, y1, y2, y3, ⟨z1, z2, z3⟩, b2⟩
  have yg : w2.cell? ⟨w.heap.size + 1, 0, none⟩ = some (.int .i64 z) := (b2.cell (p := ⟨w.heap.size + 1, 0, none⟩) (show w.heap.size + 1 < _ by have := b1.size; simp at this; omega)).trans ((b1.cell (p := ⟨w.heap.size + 1, 0, none⟩) (show w.heap.size + 1 < _ by simp)).trans x2)
  have B2 := hB0.trans ((b1.trans (b2.mono b1.size)).mono hz0)
  clear hE hE2 hB0 C1 b1 b2 x2 hz0
  go_wp2_with fail
  refine (count_any bx bd be (w.heap.size + 1) s a b c dd (evenV h) z ha.1 ha.2 hb.1 hb.2 hev.1 (by omega) hd.1 hd.2 _ y1 y2 y3 yg).mono ?_
  rintro e w3 ⟨rfl, b3⟩
  rw [crk_all _ _ _ _ hz.1]
  have B3 := below2 B2 b3
  clear y1 y2 y3 yg z1 z2 z3 b3 B2
  go_wp2
  go_ret2
  exact ⟨ret_int2 rfl rfl, B3⟩
end Go.Proofs.YtemccejlophmkaaDoor
