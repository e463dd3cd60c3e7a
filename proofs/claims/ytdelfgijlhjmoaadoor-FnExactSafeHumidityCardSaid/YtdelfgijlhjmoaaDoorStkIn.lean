/-
  Stacks: validity of one, by value and by a pointer.
-/
import Derived.Test.YtdelfgijlhjmoaaDoorStk
namespace Go.Proofs.YtdelfgijlhjmoaaDoor
open Go.ChangeShapes Go.WideShapes Go.ChangeAt Go.RowKit Go.Deep
set_option linter.unusedVariables false
set_option linter.unusedSimpArgs false
set_option maxRecDepth 1000000
def stkB (x : Stk) : Bool := nameL x.id.data.toList && inB x.moi 0 1000 && inB x.thk 10 1000 && inB x.sin 0 36524
theorem isThousandths_any (n : Int) (w : World) : Calls Tryd.prog 13 #[.int .i64 n] w fun e w' => e = .returned (.bool (inB n 0 1000)) ∧ w = w' := by
  go_enter Tryd.func13, Tryd.ntmps13
  go_wp2_with (go_at_call 27; refine (within64_any _ _ _ _).mono ?_; rintro e w' ⟨rfl, rfl⟩)
  go_ret
  exact ⟨rfl, rfl⟩
theorem isThick_any (n : Int) (w : World) : Calls Tryd.prog 25 #[.int .i64 n] w fun e w' => e = .returned (.bool (inB n 10 1000)) ∧ w = w' := by
  go_enter Tryd.func25, Tryd.ntmps25
  go_wp2_with (go_at_call 27; refine (within64_any _ _ _ _).mono ?_; rintro e w' ⟨rfl, rfl⟩)
  go_ret
  exact ⟨rfl, rfl⟩
theorem isDay_any (n : Int) (w : World) : Calls Tryd.prog 26 #[.int .i64 n] w fun e w' => e = .returned (.bool (inB n 0 36524)) ∧ w = w' := by
  go_enter Tryd.func26, Tryd.ntmps26
  go_wp2_with (go_at_call 27; refine (within64_any _ _ _ _).mono ?_; rintro e w' ⟨rfl, rfl⟩)
  go_ret
  exact ⟨rfl, rfl⟩
theorem l04Share_any (n : Int) (w : World) : Calls Tryd.prog 9 #[.int .i64 n] w fun e w' => e = .returned (.bool (inB n 0 1000)) ∧ w = w' := by
  go_enter Tryd.func9, Tryd.ntmps9
  go_wp2_with (go_at_call 21; refine (l00In_any _ _ _ _).mono ?_; rintro e w' ⟨rfl, rfl⟩)
  go_ret
  exact ⟨rfl, rfl⟩
theorem l04Thick_any (n : Int) (w : World) : Calls Tryd.prog 19 #[.int .i64 n] w fun e w' => e = .returned (.bool (inB n 10 1000)) ∧ w = w' := by
  go_enter Tryd.func19, Tryd.ntmps19
  go_wp2_with (go_at_call 21; refine (l00In_any _ _ _ _).mono ?_; rintro e w' ⟨rfl, rfl⟩)
  go_ret
  exact ⟨rfl, rfl⟩
theorem l02Day_any (n : Int) (w : World) : Calls Tryd.prog 20 #[.int .i64 n] w fun e w' => e = .returned (.bool (inB n 0 36524)) ∧ w = w' := by
  go_enter Tryd.func20, Tryd.ntmps20
  go_wp2_with (go_at_call 21; refine (l00In_any _ _ _ _).mono ?_; rintro e w' ⟨rfl, rfl⟩)
  go_ret
  exact ⟨rfl, rfl⟩
set_option maxHeartbeats 1000000 in
theorem isValid_any (s : ByteArray) (a : Int) (b : Int) (c : Int) (hs : s.size ≤ maxLen) (w : World) : Calls Tryd.prog 12 #[.agg #[.string s, .int .i64 a, .int .i64 b, .int .i64 c]] w fun e w' => e = .returned (.bool (stkB ⟨s, a, b, c⟩)) ∧ Below w.heap.size w w' := by
  have hx : Hid (stkB ⟨s, a, b, c⟩ = (nameL s.data.toList && inB a 0 1000 && inB b 10 1000 && inB c 0 36524)) := Lib.hid rfl
  cases h1 : nameL s.data.toList
  · go_enter Tryd.func12, Tryd.ntmps12
    go_wp2_with (first
          | (go_at_call 24; refine (implIsName_any _ _ hs).mono ?_; rintro e w' ⟨rfl, rfl⟩)
          | (go_at_call 13; refine (isThousandths_any _ _).mono ?_; rintro e w' ⟨rfl, rfl⟩)
          | (go_at_call 25; refine (isThick_any _ _).mono ?_; rintro e w' ⟨rfl, rfl⟩)
          | (go_at_call 26; refine (isDay_any _ _).mono ?_; rintro e w' ⟨rfl, rfl⟩))
    go_ret
    exact ⟨ret_bool (by rw [hx.out, h1]; rfl), (Below.refl _ _).alloc (Nat.le_refl _) _⟩
  cases h2 : inB a 0 1000
  · go_enter Tryd.func12, Tryd.ntmps12
    go_wp2_with (first
          | (go_at_call 24; refine (implIsName_any _ _ hs).mono ?_; rintro e w' ⟨rfl, rfl⟩)
          | (go_at_call 13; refine (isThousandths_any _ _).mono ?_; rintro e w' ⟨rfl, rfl⟩)
          | (go_at_call 25; refine (isThick_any _ _).mono ?_; rintro e w' ⟨rfl, rfl⟩)
          | (go_at_call 26; refine (isDay_any _ _).mono ?_; rintro e w' ⟨rfl, rfl⟩))
    go_ret
    exact ⟨ret_bool (by rw [hx.out, h1, h2]; rfl), (Below.refl _ _).alloc (Nat.le_refl _) _⟩
  cases h3 : inB b 10 1000
  · go_enter Tryd.func12, Tryd.ntmps12
    go_wp2_with (first
          | (go_at_call 24; refine (implIsName_any _ _ hs).mono ?_; rintro e w' ⟨rfl, rfl⟩)
          | (go_at_call 13; refine (isThousandths_any _ _).mono ?_; rintro e w' ⟨rfl, rfl⟩)
          | (go_at_call 25; refine (isThick_any _ _).mono ?_; rintro e w' ⟨rfl, rfl⟩)
          | (go_at_call 26; refine (isDay_any _ _).mono ?_; rintro e w' ⟨rfl, rfl⟩))
    go_ret
    exact ⟨ret_bool (by rw [hx.out, h1, h2, h3]; rfl), (Below.refl _ _).alloc (Nat.le_refl _) _⟩
  cases h4 : inB c 0 36524
  · go_enter Tryd.func12, Tryd.ntmps12
    go_wp2_with (first
          | (go_at_call 24; refine (implIsName_any _ _ hs).mono ?_; rintro e w' ⟨rfl, rfl⟩)
          | (go_at_call 13; refine (isThousandths_any _ _).mono ?_; rintro e w' ⟨rfl, rfl⟩)
          | (go_at_call 25; refine (isThick_any _ _).mono ?_; rintro e w' ⟨rfl, rfl⟩)
          | (go_at_call 26; refine (isDay_any _ _).mono ?_; rintro e w' ⟨rfl, rfl⟩))
    go_ret
    exact ⟨ret_bool (by rw [hx.out, h1, h2, h3, h4]; rfl), (Below.refl _ _).alloc (Nat.le_refl _) _⟩
  go_enter Tryd.func12, Tryd.ntmps12
  go_wp2_with (first
        | (go_at_call 24; refine (implIsName_any _ _ hs).mono ?_; rintro e w' ⟨rfl, rfl⟩)
        | (go_at_call 13; refine (isThousandths_any _ _).mono ?_; rintro e w' ⟨rfl, rfl⟩)
        | (go_at_call 25; refine (isThick_any _ _).mono ?_; rintro e w' ⟨rfl, rfl⟩)
        | (go_at_call 26; refine (isDay_any _ _).mono ?_; rintro e w' ⟨rfl, rfl⟩))
  go_ret
  exact ⟨ret_bool (by rw [hx.out, h1, h2, h3, h4]; rfl), (Below.refl _ _).alloc (Nat.le_refl _) _⟩
set_option maxHeartbeats 1000000 in
theorem l04One_any (s : ByteArray) (a : Int) (b : Int) (c : Int) (hs : s.size ≤ maxLen) (w : World) (g o : Nat) (hat : StkAt w g o ⟨s, a, b, c⟩) : Calls Tryd.prog 8 #[.pointer (some ⟨g, o, none⟩)] w fun e w' => e = .returned (.bool (stkB ⟨s, a, b, c⟩)) ∧ w = w' := by
  have hx : Hid (stkB ⟨s, a, b, c⟩ = (nameL s.data.toList && inB a 0 1000 && inB b 10 1000 && inB c 0 36524)) := Lib.hid rfl
  obtain ⟨c0, c1, c2, c3⟩ := hat
  simp only at c0 c1 c2 c3
  cases h1 : nameL s.data.toList
  · go_enter Tryd.func8, Tryd.ntmps8
    go_wp2_with (first
          | (go_at_call 18; refine (l01Name_any _ _ hs).mono ?_; rintro e w' ⟨rfl, rfl⟩)
          | (go_at_call 9; refine (l04Share_any _ _).mono ?_; rintro e w' ⟨rfl, rfl⟩)
          | (go_at_call 19; refine (l04Thick_any _ _).mono ?_; rintro e w' ⟨rfl, rfl⟩)
          | (go_at_call 20; refine (l02Day_any _ _).mono ?_; rintro e w' ⟨rfl, rfl⟩))
    go_ret
    exact ⟨ret_bool (by rw [hx.out, h1]; rfl), rfl⟩
  cases h2 : inB a 0 1000
  · go_enter Tryd.func8, Tryd.ntmps8
    go_wp2_with (first
          | (go_at_call 18; refine (l01Name_any _ _ hs).mono ?_; rintro e w' ⟨rfl, rfl⟩)
          | (go_at_call 9; refine (l04Share_any _ _).mono ?_; rintro e w' ⟨rfl, rfl⟩)
          | (go_at_call 19; refine (l04Thick_any _ _).mono ?_; rintro e w' ⟨rfl, rfl⟩)
          | (go_at_call 20; refine (l02Day_any _ _).mono ?_; rintro e w' ⟨rfl, rfl⟩))
    go_ret
    exact ⟨ret_bool (by rw [hx.out, h1, h2]; rfl), rfl⟩
  cases h3 : inB b 10 1000
  · go_enter Tryd.func8, Tryd.ntmps8
    go_wp2_with (first
          | (go_at_call 18; refine (l01Name_any _ _ hs).mono ?_; rintro e w' ⟨rfl, rfl⟩)
          | (go_at_call 9; refine (l04Share_any _ _).mono ?_; rintro e w' ⟨rfl, rfl⟩)
          | (go_at_call 19; refine (l04Thick_any _ _).mono ?_; rintro e w' ⟨rfl, rfl⟩)
          | (go_at_call 20; refine (l02Day_any _ _).mono ?_; rintro e w' ⟨rfl, rfl⟩))
    go_ret
    exact ⟨ret_bool (by rw [hx.out, h1, h2, h3]; rfl), rfl⟩
  cases h4 : inB c 0 36524
  · go_enter Tryd.func8, Tryd.ntmps8
    go_wp2_with (first
          | (go_at_call 18; refine (l01Name_any _ _ hs).mono ?_; rintro e w' ⟨rfl, rfl⟩)
          | (go_at_call 9; refine (l04Share_any _ _).mono ?_; rintro e w' ⟨rfl, rfl⟩)
          | (go_at_call 19; refine (l04Thick_any _ _).mono ?_; rintro e w' ⟨rfl, rfl⟩)
          | (go_at_call 20; refine (l02Day_any _ _).mono ?_; rintro e w' ⟨rfl, rfl⟩))
    go_ret
    exact ⟨ret_bool (by rw [hx.out, h1, h2, h3, h4]; rfl), rfl⟩
  go_enter Tryd.func8, Tryd.ntmps8
  go_wp2_with (first
        | (go_at_call 18; refine (l01Name_any _ _ hs).mono ?_; rintro e w' ⟨rfl, rfl⟩)
        | (go_at_call 9; refine (l04Share_any _ _).mono ?_; rintro e w' ⟨rfl, rfl⟩)
        | (go_at_call 19; refine (l04Thick_any _ _).mono ?_; rintro e w' ⟨rfl, rfl⟩)
        | (go_at_call 20; refine (l02Day_any _ _).mono ?_; rintro e w' ⟨rfl, rfl⟩))
  go_ret
  exact ⟨ret_bool (by rw [hx.out, h1, h2, h3, h4]; rfl), rfl⟩
theorem stk_bd {s : ByteArray} {a b c : Int} (h : stkB ⟨s, a, b, c⟩ = true) : (0 ≤ a ∧ a ≤ 1000) ∧ (10 ≤ b ∧ b ≤ 1000) ∧ (0 ≤ c ∧ c ≤ 36524) := by
  unfold stkB at h
  simp only [Bool.and_eq_true, inB_iff] at h
  exact ⟨h.1.1.2, h.1.2, h.2⟩
end Go.Proofs.YtdelfgijlhjmoaaDoor
