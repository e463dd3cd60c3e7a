/-
  Stacks: validity of one, by value and by a pointer.
-/
import Derived.Test.YtfcdhjbnlokinaaStk
namespace Go.Proofs.Ytfcdhjbnlokinaa
open Go.ChangeShapes Go.WideShapes Go.ChangeAt Go.RowKit Go.Deep
set_option linter.unusedVariables false
set_option linter.unusedSimpArgs false
set_option maxRecDepth 1000000
def stkB (x : Stk) : Bool := nameL x.id.data.toList && inB x.moi 0 1000 && inB x.thk 10 1000 && inB x.sin 0 36524
theorem isThousandths_any (n : Int) (w : World) : Calls Try.prog 59 #[.int .i64 n] w fun e w' => e = .returned (.bool (inB n 0 1000)) ∧ w = w' := by
  go_enter Try.func59, Try.ntmps59
  go_wp2_with (go_at_call 51; refine (within64_any _ _ _ _).mono ?_; rintro e w' ⟨rfl, rfl⟩)
  go_ret
  exact ⟨rfl, rfl⟩
theorem isThick_any (n : Int) (w : World) : Calls Try.prog 60 #[.int .i64 n] w fun e w' => e = .returned (.bool (inB n 10 1000)) ∧ w = w' := by
  go_enter Try.func60, Try.ntmps60
  go_wp2_with (go_at_call 51; refine (within64_any _ _ _ _).mono ?_; rintro e w' ⟨rfl, rfl⟩)
  go_ret
  exact ⟨rfl, rfl⟩
theorem isDay_any (n : Int) (w : World) : Calls Try.prog 47 #[.int .i64 n] w fun e w' => e = .returned (.bool (inB n 0 36524)) ∧ w = w' := by
  go_enter Try.func47, Try.ntmps47
  go_wp2_with (go_at_call 51; refine (within64_any _ _ _ _).mono ?_; rintro e w' ⟨rfl, rfl⟩)
  go_ret
  exact ⟨rfl, rfl⟩
theorem l04Share_any (n : Int) (w : World) : Calls Try.prog 68 #[.int .i64 n] w fun e w' => e = .returned (.bool (inB n 0 1000)) ∧ w = w' := by
  go_enter Try.func68, Try.ntmps68
  go_wp2_with (go_at_call 61; refine (l00In_any _ _ _ _).mono ?_; rintro e w' ⟨rfl, rfl⟩)
  go_ret
  exact ⟨rfl, rfl⟩
theorem l04Thick_any (n : Int) (w : World) : Calls Try.prog 69 #[.int .i64 n] w fun e w' => e = .returned (.bool (inB n 10 1000)) ∧ w = w' := by
  go_enter Try.func69, Try.ntmps69
  go_wp2_with (go_at_call 61; refine (l00In_any _ _ _ _).mono ?_; rintro e w' ⟨rfl, rfl⟩)
  go_ret
  exact ⟨rfl, rfl⟩
theorem l02Day_any (n : Int) (w : World) : Calls Try.prog 46 #[.int .i64 n] w fun e w' => e = .returned (.bool (inB n 0 36524)) ∧ w = w' := by
  go_enter Try.func46, Try.ntmps46
  go_wp2_with (go_at_call 61; refine (l00In_any _ _ _ _).mono ?_; rintro e w' ⟨rfl, rfl⟩)
  go_ret
  exact ⟨rfl, rfl⟩
set_option maxHeartbeats 1000000 in
theorem isValid_any (s : ByteArray) (a : Int) (b : Int) (c : Int) (hs : s.size ≤ maxLen) (w : World) : Calls Try.prog 43 #[.agg #[.string s, .int .i64 a, .int .i64 b, .int .i64 c]] w fun e w' => e = .returned (.bool (stkB ⟨s, a, b, c⟩)) ∧ Below w.heap.size w w' := by
  have hx : Hid (stkB ⟨s, a, b, c⟩ = (nameL s.data.toList && inB a 0 1000 && inB b 10 1000 && inB c 0 36524)) := Lib.hid rfl
  cases h1 : nameL s.data.toList
  · go_enter Try.func43, Try.ntmps43
    go_wp2_with (first
          | (go_at_call 49; refine (implIsName_any _ _ hs).mono ?_; rintro e w' ⟨rfl, rfl⟩)
          | (go_at_call 59; refine (isThousandths_any _ _).mono ?_; rintro e w' ⟨rfl, rfl⟩)
          | (go_at_call 60; refine (isThick_any _ _).mono ?_; rintro e w' ⟨rfl, rfl⟩)
          | (go_at_call 47; refine (isDay_any _ _).mono ?_; rintro e w' ⟨rfl, rfl⟩))
    go_ret
    exact ⟨ret_bool (by rw [hx.out, h1]; rfl), (Below.refl _ _).alloc (Nat.le_refl _) _⟩
  cases h2 : inB a 0 1000
  · go_enter Try.func43, Try.ntmps43
    go_wp2_with (first
          | (go_at_call 49; refine (implIsName_any _ _ hs).mono ?_; rintro e w' ⟨rfl, rfl⟩)
          | (go_at_call 59; refine (isThousandths_any _ _).mono ?_; rintro e w' ⟨rfl, rfl⟩)
          | (go_at_call 60; refine (isThick_any _ _).mono ?_; rintro e w' ⟨rfl, rfl⟩)
          | (go_at_call 47; refine (isDay_any _ _).mono ?_; rintro e w' ⟨rfl, rfl⟩))
    go_ret
    exact ⟨ret_bool (by rw [hx.out, h1, h2]; rfl), (Below.refl _ _).alloc (Nat.le_refl _) _⟩
  cases h3 : inB b 10 1000
  · go_enter Try.func43, Try.ntmps43
    go_wp2_with (first
          | (go_at_call 49; refine (implIsName_any _ _ hs).mono ?_; rintro e w' ⟨rfl, rfl⟩)
          | (go_at_call 59; refine (isThousandths_any _ _).mono ?_; rintro e w' ⟨rfl, rfl⟩)
          | (go_at_call 60; refine (isThick_any _ _).mono ?_; rintro e w' ⟨rfl, rfl⟩)
          | (go_at_call 47; refine (isDay_any _ _).mono ?_; rintro e w' ⟨rfl, rfl⟩))
    go_ret
    exact ⟨ret_bool (by rw [hx.out, h1, h2, h3]; rfl), (Below.refl _ _).alloc (Nat.le_refl _) _⟩
  cases h4 : inB c 0 36524
  · go_enter Try.func43, Try.ntmps43
    go_wp2_with (first
          | (go_at_call 49; refine (implIsName_any _ _ hs).mono ?_; rintro e w' ⟨rfl, rfl⟩)
          | (go_at_call 59; refine (isThousandths_any _ _).mono ?_; rintro e w' ⟨rfl, rfl⟩)
          | (go_at_call 60; refine (isThick_any _ _).mono ?_; rintro e w' ⟨rfl, rfl⟩)
          | (go_at_call 47; refine (isDay_any _ _).mono ?_; rintro e w' ⟨rfl, rfl⟩))
    go_ret
    exact ⟨ret_bool (by rw [hx.out, h1, h2, h3, h4]; rfl), (Below.refl _ _).alloc (Nat.le_refl _) _⟩
  go_enter Try.func43, Try.ntmps43
  go_wp2_with (first
        | (go_at_call 49; refine (implIsName_any _ _ hs).mono ?_; rintro e w' ⟨rfl, rfl⟩)
        | (go_at_call 59; refine (isThousandths_any _ _).mono ?_; rintro e w' ⟨rfl, rfl⟩)
        | (go_at_call 60; refine (isThick_any _ _).mono ?_; rintro e w' ⟨rfl, rfl⟩)
        | (go_at_call 47; refine (isDay_any _ _).mono ?_; rintro e w' ⟨rfl, rfl⟩))
  go_ret
  exact ⟨ret_bool (by rw [hx.out, h1, h2, h3, h4]; rfl), (Below.refl _ _).alloc (Nat.le_refl _) _⟩
set_option maxHeartbeats 1000000 in
theorem l04One_any (s : ByteArray) (a : Int) (b : Int) (c : Int) (hs : s.size ≤ maxLen) (w : World) (g o : Nat) (hat : StkAt w g o ⟨s, a, b, c⟩) : Calls Try.prog 58 #[.pointer (some ⟨g, o, none⟩)] w fun e w' => e = .returned (.bool (stkB ⟨s, a, b, c⟩)) ∧ w = w' := by
  have hx : Hid (stkB ⟨s, a, b, c⟩ = (nameL s.data.toList && inB a 0 1000 && inB b 10 1000 && inB c 0 36524)) := Lib.hid rfl
  obtain ⟨c0, c1, c2, c3⟩ := hat
  simp only at c0 c1 c2 c3
  cases h1 : nameL s.data.toList
  · go_enter Try.func58, Try.ntmps58
    go_wp2_with (first
          | (go_at_call 62; refine (l01Name_any _ _ hs).mono ?_; rintro e w' ⟨rfl, rfl⟩)
          | (go_at_call 68; refine (l04Share_any _ _).mono ?_; rintro e w' ⟨rfl, rfl⟩)
          | (go_at_call 69; refine (l04Thick_any _ _).mono ?_; rintro e w' ⟨rfl, rfl⟩)
          | (go_at_call 46; refine (l02Day_any _ _).mono ?_; rintro e w' ⟨rfl, rfl⟩))
    go_ret
    exact ⟨ret_bool (by rw [hx.out, h1]; rfl), rfl⟩
  cases h2 : inB a 0 1000
  · go_enter Try.func58, Try.ntmps58
    go_wp2_with (first
          | (go_at_call 62; refine (l01Name_any _ _ hs).mono ?_; rintro e w' ⟨rfl, rfl⟩)
          | (go_at_call 68; refine (l04Share_any _ _).mono ?_; rintro e w' ⟨rfl, rfl⟩)
          | (go_at_call 69; refine (l04Thick_any _ _).mono ?_; rintro e w' ⟨rfl, rfl⟩)
          | (go_at_call 46; refine (l02Day_any _ _).mono ?_; rintro e w' ⟨rfl, rfl⟩))
    go_ret
    exact ⟨ret_bool (by rw [hx.out, h1, h2]; rfl), rfl⟩
  cases h3 : inB b 10 1000
  · go_enter Try.func58, Try.ntmps58
    go_wp2_with (first
          | (go_at_call 62; refine (l01Name_any _ _ hs).mono ?_; rintro e w' ⟨rfl, rfl⟩)
          | (go_at_call 68; refine (l04Share_any _ _).mono ?_; rintro e w' ⟨rfl, rfl⟩)
          | (go_at_call 69; refine (l04Thick_any _ _).mono ?_; rintro e w' ⟨rfl, rfl⟩)
          | (go_at_call 46; refine (l02Day_any _ _).mono ?_; rintro e w' ⟨rfl, rfl⟩))
    go_ret
    exact ⟨ret_bool (by rw [hx.out, h1, h2, h3]; rfl), rfl⟩
  cases h4 : inB c 0 36524
  · go_enter Try.func58, Try.ntmps58
    go_wp2_with (first
          | (go_at_call 62; refine (l01Name_any _ _ hs).mono ?_; rintro e w' ⟨rfl, rfl⟩)
          | (go_at_call 68; refine (l04Share_any _ _).mono ?_; rintro e w' ⟨rfl, rfl⟩)
          | (go_at_call 69; refine (l04Thick_any _ _).mono ?_; rintro e w' ⟨rfl, rfl⟩)
          | (go_at_call 46; refine (l02Day_any _ _).mono ?_; rintro e w' ⟨rfl, rfl⟩))
    go_ret
    exact ⟨ret_bool (by rw [hx.out, h1, h2, h3, h4]; rfl), rfl⟩
  go_enter Try.func58, Try.ntmps58
  go_wp2_with (first
        | (go_at_call 62; refine (l01Name_any _ _ hs).mono ?_; rintro e w' ⟨rfl, rfl⟩)
        | (go_at_call 68; refine (l04Share_any _ _).mono ?_; rintro e w' ⟨rfl, rfl⟩)
        | (go_at_call 69; refine (l04Thick_any _ _).mono ?_; rintro e w' ⟨rfl, rfl⟩)
        | (go_at_call 46; refine (l02Day_any _ _).mono ?_; rintro e w' ⟨rfl, rfl⟩))
  go_ret
  exact ⟨ret_bool (by rw [hx.out, h1, h2, h3, h4]; rfl), rfl⟩
theorem stk_bd {s : ByteArray} {a b c : Int} (h : stkB ⟨s, a, b, c⟩ = true) : (0 ≤ a ∧ a ≤ 1000) ∧ (10 ≤ b ∧ b ≤ 1000) ∧ (0 ≤ c ∧ c ≤ 36524) := by
  unfold stkB at h
  simp only [Bool.and_eq_true, inB_iff] at h
  exact ⟨h.1.1.2, h.1.2, h.2⟩
end Go.Proofs.Ytfcdhjbnlokinaa
