/-
  Stacks: validity of one, by value and by a pointer.
-/
import Derived.Test.YtjgpckocmjolmaaGreatDoorStk
namespace Go.Proofs.YtjgpckocmjolmaaGreatDoor
open Go.ChangeShapes Go.WideShapes Go.ChangeAt Go.RowKit Go.Deep
set_option linter.unusedVariables false
set_option linter.unusedSimpArgs false
set_option maxRecDepth 1000000
def stkB (x : Stk) : Bool := nameL x.id.data.toList && inB x.moi 0 1000 && inB x.thk 10 1000 && inB x.sin 0 36524
theorem isThousandths_any (n : Int) (w : World) : Calls Tryz.prog 23 #[.int .i64 n] w fun e w' => e = .returned (.bool (inB n 0 1000)) ∧ w = w' := by
  go_enter Tryz.func23, Tryz.ntmps23
  go_wp2_with (go_at_call 40; refine (within64_any _ _ _ _).mono ?_; rintro e w' ⟨rfl, rfl⟩)
  go_ret
  exact ⟨rfl, rfl⟩
theorem isThick_any (n : Int) (w : World) : Calls Tryz.prog 24 #[.int .i64 n] w fun e w' => e = .returned (.bool (inB n 10 1000)) ∧ w = w' := by
  go_enter Tryz.func24, Tryz.ntmps24
  go_wp2_with (go_at_call 40; refine (within64_any _ _ _ _).mono ?_; rintro e w' ⟨rfl, rfl⟩)
  go_ret
  exact ⟨rfl, rfl⟩
theorem isDay_any (n : Int) (w : World) : Calls Tryz.prog 25 #[.int .i64 n] w fun e w' => e = .returned (.bool (inB n 0 36524)) ∧ w = w' := by
  go_enter Tryz.func25, Tryz.ntmps25
  go_wp2_with (go_at_call 40; refine (within64_any _ _ _ _).mono ?_; rintro e w' ⟨rfl, rfl⟩)
  go_ret
  exact ⟨rfl, rfl⟩
theorem l04Share_any (n : Int) (w : World) : Calls Tryz.prog 31 #[.int .i64 n] w fun e w' => e = .returned (.bool (inB n 0 1000)) ∧ w = w' := by
  go_enter Tryz.func31, Tryz.ntmps31
  go_wp2_with (go_at_call 27; refine (l00In_any _ _ _ _).mono ?_; rintro e w' ⟨rfl, rfl⟩)
  go_ret
  exact ⟨rfl, rfl⟩
theorem l04Thick_any (n : Int) (w : World) : Calls Tryz.prog 32 #[.int .i64 n] w fun e w' => e = .returned (.bool (inB n 10 1000)) ∧ w = w' := by
  go_enter Tryz.func32, Tryz.ntmps32
  go_wp2_with (go_at_call 27; refine (l00In_any _ _ _ _).mono ?_; rintro e w' ⟨rfl, rfl⟩)
  go_ret
  exact ⟨rfl, rfl⟩
theorem l02Day_any (n : Int) (w : World) : Calls Tryz.prog 33 #[.int .i64 n] w fun e w' => e = .returned (.bool (inB n 0 36524)) ∧ w = w' := by
  go_enter Tryz.func33, Tryz.ntmps33
  go_wp2_with (go_at_call 27; refine (l00In_any _ _ _ _).mono ?_; rintro e w' ⟨rfl, rfl⟩)
  go_ret
  exact ⟨rfl, rfl⟩
set_option maxHeartbeats 1000000 in
theorem isValid_any (s : ByteArray) (a : Int) (b : Int) (c : Int) (hs : s.size ≤ maxLen) (w : World) : Calls Tryz.prog 11 #[.agg #[.string s, .int .i64 a, .int .i64 b, .int .i64 c]] w fun e w' => e = .returned (.bool (stkB ⟨s, a, b, c⟩)) ∧ Below w.heap.size w w' := by
  have hx : Hid (stkB ⟨s, a, b, c⟩ = (nameL s.data.toList && inB a 0 1000 && inB b 10 1000 && inB c 0 36524)) := Lib.hid rfl
  cases h1 : nameL s.data.toList
  · go_enter Tryz.func11, Tryz.ntmps11
    go_wp2_with (first
          | (go_at_call 22; refine (implIsName_any _ _ hs).mono ?_; rintro e w' ⟨rfl, rfl⟩)
          | (go_at_call 23; refine (isThousandths_any _ _).mono ?_; rintro e w' ⟨rfl, rfl⟩)
          | (go_at_call 24; refine (isThick_any _ _).mono ?_; rintro e w' ⟨rfl, rfl⟩)
          | (go_at_call 25; refine (isDay_any _ _).mono ?_; rintro e w' ⟨rfl, rfl⟩))
    go_ret
    exact ⟨ret_bool (by rw [hx.out, h1]; rfl), (Below.refl _ _).alloc (Nat.le_refl _) _⟩
  cases h2 : inB a 0 1000
  · go_enter Tryz.func11, Tryz.ntmps11
    go_wp2_with (first
          | (go_at_call 22; refine (implIsName_any _ _ hs).mono ?_; rintro e w' ⟨rfl, rfl⟩)
          | (go_at_call 23; refine (isThousandths_any _ _).mono ?_; rintro e w' ⟨rfl, rfl⟩)
          | (go_at_call 24; refine (isThick_any _ _).mono ?_; rintro e w' ⟨rfl, rfl⟩)
          | (go_at_call 25; refine (isDay_any _ _).mono ?_; rintro e w' ⟨rfl, rfl⟩))
    go_ret
    exact ⟨ret_bool (by rw [hx.out, h1, h2]; rfl), (Below.refl _ _).alloc (Nat.le_refl _) _⟩
  cases h3 : inB b 10 1000
  · go_enter Tryz.func11, Tryz.ntmps11
    go_wp2_with (first
          | (go_at_call 22; refine (implIsName_any _ _ hs).mono ?_; rintro e w' ⟨rfl, rfl⟩)
          | (go_at_call 23; refine (isThousandths_any _ _).mono ?_; rintro e w' ⟨rfl, rfl⟩)
          | (go_at_call 24; refine (isThick_any _ _).mono ?_; rintro e w' ⟨rfl, rfl⟩)
          | (go_at_call 25; refine (isDay_any _ _).mono ?_; rintro e w' ⟨rfl, rfl⟩))
    go_ret
    exact ⟨ret_bool (by rw [hx.out, h1, h2, h3]; rfl), (Below.refl _ _).alloc (Nat.le_refl _) _⟩
  cases h4 : inB c 0 36524
  · go_enter Tryz.func11, Tryz.ntmps11
    go_wp2_with (first
          | (go_at_call 22; refine (implIsName_any _ _ hs).mono ?_; rintro e w' ⟨rfl, rfl⟩)
          | (go_at_call 23; refine (isThousandths_any _ _).mono ?_; rintro e w' ⟨rfl, rfl⟩)
          | (go_at_call 24; refine (isThick_any _ _).mono ?_; rintro e w' ⟨rfl, rfl⟩)
          | (go_at_call 25; refine (isDay_any _ _).mono ?_; rintro e w' ⟨rfl, rfl⟩))
    go_ret
    exact ⟨ret_bool (by rw [hx.out, h1, h2, h3, h4]; rfl), (Below.refl _ _).alloc (Nat.le_refl _) _⟩
  go_enter Tryz.func11, Tryz.ntmps11
  go_wp2_with (first
        | (go_at_call 22; refine (implIsName_any _ _ hs).mono ?_; rintro e w' ⟨rfl, rfl⟩)
        | (go_at_call 23; refine (isThousandths_any _ _).mono ?_; rintro e w' ⟨rfl, rfl⟩)
        | (go_at_call 24; refine (isThick_any _ _).mono ?_; rintro e w' ⟨rfl, rfl⟩)
        | (go_at_call 25; refine (isDay_any _ _).mono ?_; rintro e w' ⟨rfl, rfl⟩))
  go_ret
  exact ⟨ret_bool (by rw [hx.out, h1, h2, h3, h4]; rfl), (Below.refl _ _).alloc (Nat.le_refl _) _⟩
set_option maxHeartbeats 1000000 in
theorem l04One_any (s : ByteArray) (a : Int) (b : Int) (c : Int) (hs : s.size ≤ maxLen) (w : World) (g o : Nat) (hat : StkAt w g o ⟨s, a, b, c⟩) : Calls Tryz.prog 15 #[.pointer (some ⟨g, o, none⟩)] w fun e w' => e = .returned (.bool (stkB ⟨s, a, b, c⟩)) ∧ w = w' := by
  have hx : Hid (stkB ⟨s, a, b, c⟩ = (nameL s.data.toList && inB a 0 1000 && inB b 10 1000 && inB c 0 36524)) := Lib.hid rfl
  obtain ⟨c0, c1, c2, c3⟩ := hat
  simp only at c0 c1 c2 c3
  cases h1 : nameL s.data.toList
  · go_enter Tryz.func15, Tryz.ntmps15
    go_wp2_with (first
          | (go_at_call 30; refine (l01Name_any _ _ hs).mono ?_; rintro e w' ⟨rfl, rfl⟩)
          | (go_at_call 31; refine (l04Share_any _ _).mono ?_; rintro e w' ⟨rfl, rfl⟩)
          | (go_at_call 32; refine (l04Thick_any _ _).mono ?_; rintro e w' ⟨rfl, rfl⟩)
          | (go_at_call 33; refine (l02Day_any _ _).mono ?_; rintro e w' ⟨rfl, rfl⟩))
    go_ret
    exact ⟨ret_bool (by rw [hx.out, h1]; rfl), rfl⟩
  cases h2 : inB a 0 1000
  · go_enter Tryz.func15, Tryz.ntmps15
    go_wp2_with (first
          | (go_at_call 30; refine (l01Name_any _ _ hs).mono ?_; rintro e w' ⟨rfl, rfl⟩)
          | (go_at_call 31; refine (l04Share_any _ _).mono ?_; rintro e w' ⟨rfl, rfl⟩)
          | (go_at_call 32; refine (l04Thick_any _ _).mono ?_; rintro e w' ⟨rfl, rfl⟩)
          | (go_at_call 33; refine (l02Day_any _ _).mono ?_; rintro e w' ⟨rfl, rfl⟩))
    go_ret
    exact ⟨ret_bool (by rw [hx.out, h1, h2]; rfl), rfl⟩
  cases h3 : inB b 10 1000
  · go_enter Tryz.func15, Tryz.ntmps15
    go_wp2_with (first
          | (go_at_call 30; refine (l01Name_any _ _ hs).mono ?_; rintro e w' ⟨rfl, rfl⟩)
          | (go_at_call 31; refine (l04Share_any _ _).mono ?_; rintro e w' ⟨rfl, rfl⟩)
          | (go_at_call 32; refine (l04Thick_any _ _).mono ?_; rintro e w' ⟨rfl, rfl⟩)
          | (go_at_call 33; refine (l02Day_any _ _).mono ?_; rintro e w' ⟨rfl, rfl⟩))
    go_ret
    exact ⟨ret_bool (by rw [hx.out, h1, h2, h3]; rfl), rfl⟩
  cases h4 : inB c 0 36524
  · go_enter Tryz.func15, Tryz.ntmps15
    go_wp2_with (first
          | (go_at_call 30; refine (l01Name_any _ _ hs).mono ?_; rintro e w' ⟨rfl, rfl⟩)
          | (go_at_call 31; refine (l04Share_any _ _).mono ?_; rintro e w' ⟨rfl, rfl⟩)
          | (go_at_call 32; refine (l04Thick_any _ _).mono ?_; rintro e w' ⟨rfl, rfl⟩)
          | (go_at_call 33; refine (l02Day_any _ _).mono ?_; rintro e w' ⟨rfl, rfl⟩))
    go_ret
    exact ⟨ret_bool (by rw [hx.out, h1, h2, h3, h4]; rfl), rfl⟩
  go_enter Tryz.func15, Tryz.ntmps15
  go_wp2_with (first
        | (go_at_call 30; refine (l01Name_any _ _ hs).mono ?_; rintro e w' ⟨rfl, rfl⟩)
        | (go_at_call 31; refine (l04Share_any _ _).mono ?_; rintro e w' ⟨rfl, rfl⟩)
        | (go_at_call 32; refine (l04Thick_any _ _).mono ?_; rintro e w' ⟨rfl, rfl⟩)
        | (go_at_call 33; refine (l02Day_any _ _).mono ?_; rintro e w' ⟨rfl, rfl⟩))
  go_ret
  exact ⟨ret_bool (by rw [hx.out, h1, h2, h3, h4]; rfl), rfl⟩
theorem stk_bd {s : ByteArray} {a b c : Int} (h : stkB ⟨s, a, b, c⟩ = true) : (0 ≤ a ∧ a ≤ 1000) ∧ (10 ≤ b ∧ b ≤ 1000) ∧ (0 ≤ c ∧ c ≤ 36524) := by
  unfold stkB at h
  simp only [Bool.and_eq_true, inB_iff] at h
  exact ⟨h.1.1.2, h.1.2, h.2⟩
end Go.Proofs.YtjgpckocmjolmaaGreatDoor
