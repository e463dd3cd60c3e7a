/-
  Days of drying and days with cracks: the program's and the model's contracts.
-/
import Derived.Test.YtemccejlophmkaaDoorDry6
import Derived.Deep.RegionHeld3
namespace Go.Proofs.YtemccejlophmkaaDoor
open Go.ChangeShapes Go.WideShapes Go.ChangeAt Go.RowKit Go.Deep
set_option linter.unusedVariables false
set_option linter.unusedSimpArgs false
/-- the code of two tests and of what is found -/
def codeD (b1 b2 : Bool) (c : Int) : Int := if b1 = true then (if b2 = true then c else 2) else 1
def dtdN (a v b z : Int) : Int := ((fstK (wetP a v b z) 4001).getD 0 : Nat)
def dtdC (a v b z : Int) : Int := if (fstK (wetP a v b z) 4001).isSome then 0 else 3
theorem fstE_out (a v b z : Int) : ∃ x y, fstE a v b z (Int.toNat 4000) = .agg #[.int .i64 (dtdN a v b z), .int .i64 x, .int .i64 y] := by
  unfold fstE dtdN
  rw [show Int.toNat 4000 + 1 = 4001 from rfl]
  cases h : fstK (wetP a v b z) 4001 with
  | none => exact ⟨0, 0, rfl⟩
  | some k => refine ⟨(dryE a v b k).2.1, (dryE a v b k).2.2, ?_⟩; simp only [encD, dryE_day]; rfl
theorem fstB_out (a v b z : Int) : dtdC a v b z = if fstB a v b z (Int.toNat 4000) = true then 0 else 3 := by unfold dtdC fstB; rw [show Int.toNat 4000 + 1 = 4001 from rfl]
theorem dtdN_no {a v b z : Int} (h : fstB a v b z (Int.toNat 4000) = false) : dtdN a v b z = 0 := by
  unfold dtdN; have h' : (fstK (wetP a v b z) 4001).isSome = false := by unfold fstB at h; rw [show Int.toNat 4000 + 1 = 4001 from rfl] at h; exact h
  rw [Option.isSome_eq_false_iff, Option.isNone_iff_eq_none] at h'; rw [h']; rfl
theorem dtd_yes {a v b z : Int} {k : Nat} (hk : k ≤ 4000) (hp : dryV a v b k ≤ z) (hno : ∀ j, j < k → wetP a v b z j = false) : dtdN a v b z = k ∧ dtdC a v b z = 0 := by
  have := fstK_some (p := wetP a v b z) (n := 4001) (k := k) (by omega) (by simp [wetP, hp]) hno
  unfold dtdN dtdC; rw [this]; exact ⟨rfl, rfl⟩
theorem dtd_no {a v b z : Int} (hno : ∀ j, j < 4001 → wetP a v b z j = false) : dtdN a v b z = 0 ∧ dtdC a v b z = 3 := by
  have := fstK_none (p := wetP a v b z) (n := 4001) hno
  unfold dtdN dtdC; rw [this]; exact ⟨rfl, rfl⟩
set_option maxHeartbeats 3200000 in
theorem implDaysToDry_any (s : ByteArray) (a : Int) (b : Int) (c : Int) (h z : Int) (hs : s.size ≤ maxLen) (w : World) (hE : EvP w) : Calls Tryd.prog 11 #[.agg #[.string s, .int .i64 a, .int .i64 b, .int .i64 c], .int .i64 h, .int .i64 z] w fun e w' => e = .returned (.tuple #[.int .i64 (pick (stkB ⟨s, a, b, c⟩ && (inB h 0 1000 && inB z 0 1000)) (dtdN a (evenV h) b z)), .int .i64 (codeD (stkB ⟨s, a, b, c⟩) (inB h 0 1000 && inB z 0 1000) (dtdC a (evenV h) b z))]) ∧ Below w.heap.size w w' := by
  have hB0 : Below w.heap.size w ((w.alloc (.cells #[.string s, .int .i64 a, .int .i64 b, .int .i64 c] 25)).alloc (.cells #[.int .i64 z] 2)) := ((Below.refl _ _).alloc (Nat.le_refl _) _).alloc (by simp) _
  have hz0 : w.heap.size ≤ ((w.alloc (.cells #[.string s, .int .i64 a, .int .i64 b, .int .i64 c] 25)).alloc (.cells #[.int .i64 z] 2)).heap.size := by simp <;> omega
  have x2 : ((w.alloc (.cells #[.string s, .int .i64 a, .int .i64 b, .int .i64 c] 25)).alloc (.cells #[.int .i64 z] 2)).cell? ⟨w.heap.size + 1, 0, none⟩ = some (.int .i64 z) := cellB (by rw [show w.heap.size + 1 = (w.alloc (.cells #[.string s, .int .i64 a, .int .i64 b, .int .i64 c] 25)).heap.size by simp]; exact heap_alloc_new _ _) 0 _ rfl
  cases h1 : stkB ⟨s, a, b, c⟩
  · go_enter Tryd.func11, Tryd.ntmps11
    go_wp2_with (first
      | (go_at_call 20; refine (isValid_any _ _ _ _ hs _).mono ?_; rintro e w1 ⟨rfl, b1⟩; have C1 := bcell b1)
      | (go_at_call 21; refine (isThousandths_any _ _).mono ?_; rintro e w' ⟨rfl, rfl⟩)
      | (go_at_call 22; refine (isTime_any _ _).mono ?_; rintro e w' ⟨rfl, rfl⟩))
    go_ret2
    exact ⟨ret_int2 rfl rfl, hB0.trans (b1.mono hz0)⟩
  cases h2 : inB h 0 1000
  · go_enter Tryd.func11, Tryd.ntmps11
    go_wp2_with (first
      | (go_at_call 20; refine (isValid_any _ _ _ _ hs _).mono ?_; rintro e w1 ⟨rfl, b1⟩; have C1 := bcell b1)
      | (go_at_call 21; refine (isThousandths_any _ _).mono ?_; rintro e w' ⟨rfl, rfl⟩)
      | (go_at_call 22; refine (isTime_any _ _).mono ?_; rintro e w' ⟨rfl, rfl⟩))
    go_ret2
    exact ⟨ret_int2 rfl rfl, hB0.trans (b1.mono hz0)⟩
  cases h3 : inB z 0 1000
  · go_enter Tryd.func11, Tryd.ntmps11
    go_wp2_with (first
      | (go_at_call 20; refine (isValid_any _ _ _ _ hs _).mono ?_; rintro e w1 ⟨rfl, b1⟩; have C1 := bcell b1)
      | (go_at_call 21; refine (isThousandths_any _ _).mono ?_; rintro e w' ⟨rfl, rfl⟩)
      | (go_at_call 22; refine (isTime_any _ _).mono ?_; rintro e w' ⟨rfl, rfl⟩))
    go_ret2
    exact ⟨ret_int2 rfl rfl, hB0.trans (b1.mono hz0)⟩
  obtain ⟨ha, hb, hc⟩ := stk_bd h1
  have hev := even_in h
  have hE2 := hE.below hB0
  go_enter Tryd.func11, Tryd.ntmps11
  go_wp2_with fail
  refine (isValid_any _ _ _ _ hs _).mono ?_
  rintro e w1 ⟨rfl, b1⟩
  have C1 := bcell b1
  go_wp2_with (go_at_call 21; refine (isThousandths_any _ _).mono ?_; rintro e w' ⟨rfl, rfl⟩)
  refine (drying_any s a b c h 4000 _ (hE2.below b1)).mono ?_
  rintro e w2 ⟨bx, bd, be, rfl, y1, y2, y3, ⟨z1, z2, z3⟩, b2⟩
  have yg : w2.cell? ⟨w.heap.size + 1, 0, none⟩ = some (.int .i64 z) := (b2.cell (p := ⟨w.heap.size + 1, 0, none⟩) (show w.heap.size + 1 < _ by have := b1.size; simp at this; omega)).trans ((b1.cell (p := ⟨w.heap.size + 1, 0, none⟩) (show w.heap.size + 1 < _ by simp)).trans x2)
  have B2 := hB0.trans ((b1.trans (b2.mono b1.size)).mono hz0)
  clear hE hE2 hB0 C1 b1 b2 x2 hz0
  go_wp2_with fail
  refine (first_any bx bd be (w.heap.size + 1) s a b c 4000 (evenV h) z ha.1 ha.2 hb.1 hb.2 hev.1 (by omega) (by omega) (by omega) _ y1 y2 y3 yg).mono ?_
  rintro e w3 ⟨rfl, b3⟩
  obtain ⟨X, Y, hXY⟩ := fstE_out a (evenV h) b z
  have hC := fstB_out a (evenV h) b z
  have hN := @dtdN_no a (evenV h) b z
  rw [hXY]
  have B3 := below2 B2 b3
  clear y1 y2 y3 yg hXY z1 z2 z3 b3 B2
  cases hf : fstB a (evenV h) b z (Int.toNat 4000)
  · have hr : Hid (dtdC a (evenV h) b z = 3 ∧ dtdN a (evenV h) b z = 0) := Lib.hid ⟨by rw [hC, hf]; rfl, hN hf⟩
    clear hC hN
    go_wp2
    go_ret2
    exact ⟨ret_int2 (by rw [hr.out.2]; rfl) (by rw [hr.out.1]; rfl), B3.alloc (by have := B3.size; omega) _⟩
  · have hr : Hid (dtdC a (evenV h) b z = 0) := Lib.hid (by rw [hC, hf]; rfl)
    clear hC hN
    go_wp2
    go_ret2
    exact ⟨ret_int2 rfl (by rw [hr.out]; rfl), B3.alloc (by have := B3.size; omega) _⟩
theorem l04ChangeB_any (m e t : Int) (hm0 : 0 ≤ m) (hm1 : m ≤ 1000) (he0 : 0 ≤ e) (he1 : e ≤ 1000) (ht0 : 10 ≤ t) (ht1 : t ≤ 1000) (w : World) : Calls Tryd.prog 51 #[.int .i64 m, .int .i64 e, .int .i64 t] w fun r w' => r = .returned (.int .i64 (chgV m e t)) ∧ Below w.heap.size w w' :=
  (l04Change_any m e t hm0 hm1 he0 he1 ht0 ht1 w).mono fun _ _ h => ⟨h.1, h.2 ▸ Below.refl _ _⟩
end Go.Proofs.YtemccejlophmkaaDoor
