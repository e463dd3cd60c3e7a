/-
  Ribs: validity of one, by value and by a pointer.
-/
import Derived.Test.YtgbjdjkmmmgnnaaRib
namespace Go.Proofs.Ytgbjdjkmmmgnnaa
open Go.ChangeShapes Go.WideShapes Go.ChangeAt Go.RowKit Go.Deep
set_option linter.unusedVariables false
set_option linter.unusedSimpArgs false
set_option maxRecDepth 1000000
def ribB (x : Rib) : Bool := nameL x.id.data.toList && inB x.len 1 10000 && inB x.hgt 1 10000
theorem isRibSize_any (n : Int) (w : World) : Calls Try.prog 43 #[.int .i64 n] w fun e w' => e = .returned (.bool (inB n 1 10000)) ∧ w = w' := by
  go_enter Try.func43, Try.ntmps43
  go_wp2_with (go_at_call 59; refine (within64_any _ _ _ _).mono ?_; rintro e w' ⟨rfl, rfl⟩)
  go_ret
  exact ⟨rfl, rfl⟩
theorem isRound_any (n : Int) (w : World) : Calls Try.prog 46 #[.int .i64 n] w fun e w' => e = .returned (.bool (inB n 0 100000)) ∧ w = w' := by
  go_enter Try.func46, Try.ntmps46
  go_wp2_with (go_at_call 59; refine (within64_any _ _ _ _).mono ?_; rintro e w' ⟨rfl, rfl⟩)
  go_ret
  exact ⟨rfl, rfl⟩
theorem l06Size_any (n : Int) (w : World) : Calls Try.prog 42 #[.int .i64 n] w fun e w' => e = .returned (.bool (inB n 1 10000)) ∧ w = w' := by
  go_enter Try.func42, Try.ntmps42
  go_wp2_with (go_at_call 55; refine (l00In_any _ _ _ _).mono ?_; rintro e w' ⟨rfl, rfl⟩)
  go_ret
  exact ⟨rfl, rfl⟩
theorem l06Round_any (n : Int) (w : World) : Calls Try.prog 45 #[.int .i64 n] w fun e w' => e = .returned (.bool (inB n 0 100000)) ∧ w = w' := by
  go_enter Try.func45, Try.ntmps45
  go_wp2_with (go_at_call 55; refine (l00In_any _ _ _ _).mono ?_; rintro e w' ⟨rfl, rfl⟩)
  go_ret
  exact ⟨rfl, rfl⟩
set_option maxHeartbeats 1000000 in
theorem isValidRib_any (s : ByteArray) (a : Int) (b : Int) (hs : s.size ≤ maxLen) (w : World) : Calls Try.prog 37 #[.agg #[.string s, .int .i64 a, .int .i64 b]] w fun e w' => e = .returned (.bool (ribB ⟨s, a, b⟩)) ∧ Below w.heap.size w w' := by
  have hx : Hid (ribB ⟨s, a, b⟩ = (nameL s.data.toList && inB a 1 10000 && inB b 1 10000)) := Lib.hid rfl
  cases h1 : nameL s.data.toList
  · go_enter Try.func37, Try.ntmps37
    go_wp2_with (first
          | (go_at_call 58; refine (implIsName_any _ _ hs).mono ?_; rintro e w' ⟨rfl, rfl⟩)
          | (go_at_call 43; refine (isRibSize_any _ _).mono ?_; rintro e w' ⟨rfl, rfl⟩))
    go_ret
    exact ⟨ret_bool (by rw [hx.out, h1]; rfl), (Below.refl _ _).alloc (Nat.le_refl _) _⟩
  cases h2 : inB a 1 10000
  · go_enter Try.func37, Try.ntmps37
    go_wp2_with (first
          | (go_at_call 58; refine (implIsName_any _ _ hs).mono ?_; rintro e w' ⟨rfl, rfl⟩)
          | (go_at_call 43; refine (isRibSize_any _ _).mono ?_; rintro e w' ⟨rfl, rfl⟩))
    go_ret
    exact ⟨ret_bool (by rw [hx.out, h1, h2]; rfl), (Below.refl _ _).alloc (Nat.le_refl _) _⟩
  cases h3 : inB b 1 10000
  · go_enter Try.func37, Try.ntmps37
    go_wp2_with (first
          | (go_at_call 58; refine (implIsName_any _ _ hs).mono ?_; rintro e w' ⟨rfl, rfl⟩)
          | (go_at_call 43; refine (isRibSize_any _ _).mono ?_; rintro e w' ⟨rfl, rfl⟩))
    go_ret
    exact ⟨ret_bool (by rw [hx.out, h1, h2, h3]; rfl), (Below.refl _ _).alloc (Nat.le_refl _) _⟩
  go_enter Try.func37, Try.ntmps37
  go_wp2_with (first
        | (go_at_call 58; refine (implIsName_any _ _ hs).mono ?_; rintro e w' ⟨rfl, rfl⟩)
        | (go_at_call 43; refine (isRibSize_any _ _).mono ?_; rintro e w' ⟨rfl, rfl⟩))
  go_ret
  exact ⟨ret_bool (by rw [hx.out, h1, h2, h3]; rfl), (Below.refl _ _).alloc (Nat.le_refl _) _⟩
set_option maxHeartbeats 1000000 in
theorem l06One_any (s : ByteArray) (a : Int) (b : Int) (hs : s.size ≤ maxLen) (w : World) (g o : Nat) (hat : RibAt w g o ⟨s, a, b⟩) : Calls Try.prog 57 #[.pointer (some ⟨g, o, none⟩)] w fun e w' => e = .returned (.bool (ribB ⟨s, a, b⟩)) ∧ w = w' := by
  have hx : Hid (ribB ⟨s, a, b⟩ = (nameL s.data.toList && inB a 1 10000 && inB b 1 10000)) := Lib.hid rfl
  obtain ⟨c0, c1, c2⟩ := hat
  simp only at c0 c1 c2
  cases h1 : nameL s.data.toList
  · go_enter Try.func57, Try.ntmps57
    go_wp2_with (first
          | (go_at_call 62; refine (l01Name_any _ _ hs).mono ?_; rintro e w' ⟨rfl, rfl⟩)
          | (go_at_call 42; refine (l06Size_any _ _).mono ?_; rintro e w' ⟨rfl, rfl⟩))
    go_ret
    exact ⟨ret_bool (by rw [hx.out, h1]; rfl), rfl⟩
  cases h2 : inB a 1 10000
  · go_enter Try.func57, Try.ntmps57
    go_wp2_with (first
          | (go_at_call 62; refine (l01Name_any _ _ hs).mono ?_; rintro e w' ⟨rfl, rfl⟩)
          | (go_at_call 42; refine (l06Size_any _ _).mono ?_; rintro e w' ⟨rfl, rfl⟩))
    go_ret
    exact ⟨ret_bool (by rw [hx.out, h1, h2]; rfl), rfl⟩
  cases h3 : inB b 1 10000
  · go_enter Try.func57, Try.ntmps57
    go_wp2_with (first
          | (go_at_call 62; refine (l01Name_any _ _ hs).mono ?_; rintro e w' ⟨rfl, rfl⟩)
          | (go_at_call 42; refine (l06Size_any _ _).mono ?_; rintro e w' ⟨rfl, rfl⟩))
    go_ret
    exact ⟨ret_bool (by rw [hx.out, h1, h2, h3]; rfl), rfl⟩
  go_enter Try.func57, Try.ntmps57
  go_wp2_with (first
        | (go_at_call 62; refine (l01Name_any _ _ hs).mono ?_; rintro e w' ⟨rfl, rfl⟩)
        | (go_at_call 42; refine (l06Size_any _ _).mono ?_; rintro e w' ⟨rfl, rfl⟩))
  go_ret
  exact ⟨ret_bool (by rw [hx.out, h1, h2, h3]; rfl), rfl⟩
theorem rib_bd {s : ByteArray} {a b : Int} (h : ribB ⟨s, a, b⟩ = true) : (1 ≤ a ∧ a ≤ 10000) ∧ (1 ≤ b ∧ b ≤ 10000) := by
  unfold ribB at h
  simp only [Bool.and_eq_true, inB_iff] at h
  exact ⟨h.1.2, h.2⟩
end Go.Proofs.Ytgbjdjkmmmgnnaa
