/-
  Pegs: validity of one, by value and by a pointer.
-/
import Derived.Test.YtnlnocapbbeleaaPeg
namespace Go.Proofs.Ytnlnocapbbeleaa
open Go.ChangeShapes Go.WideShapes Go.ChangeAt Go.RowKit Go.Deep
set_option linter.unusedVariables false
set_option linter.unusedSimpArgs false
set_option maxRecDepth 1000000
def pegB (x : Peg) : Bool := nameL x.id.data.toList && inB x.thk 20 200 && inB x.len 100 1000 && inB x.tap 10 100
theorem isHole_any (n : Int) (w : World) : Calls Try.prog 60 #[.int .i64 n] w fun e w' => e = .returned (.bool (inB n 20 200)) ∧ w = w' := by
  go_enter Try.func60, Try.ntmps60
  go_wp2_with (go_at_call 56; refine (within64_any _ _ _ _).mono ?_; rintro e w' ⟨rfl, rfl⟩)
  go_ret
  exact ⟨rfl, rfl⟩
theorem isWay_any (n : Int) (w : World) : Calls Try.prog 65 #[.int .i64 n] w fun e w' => e = .returned (.bool (inB n 0 1000)) ∧ w = w' := by
  go_enter Try.func65, Try.ntmps65
  go_wp2_with (go_at_call 56; refine (within64_any _ _ _ _).mono ?_; rintro e w' ⟨rfl, rfl⟩)
  go_ret
  exact ⟨rfl, rfl⟩
theorem l12Hole_any (n : Int) (w : World) : Calls Try.prog 58 #[.int .i64 n] w fun e w' => e = .returned (.bool (inB n 20 200)) ∧ w = w' := by
  go_enter Try.func58, Try.ntmps58
  go_wp2_with (go_at_call 62; refine (l00In_any _ _ _ _).mono ?_; rintro e w' ⟨rfl, rfl⟩)
  go_ret
  exact ⟨rfl, rfl⟩
theorem l12Way_any (n : Int) (w : World) : Calls Try.prog 55 #[.int .i64 n] w fun e w' => e = .returned (.bool (inB n 0 1000)) ∧ w = w' := by
  go_enter Try.func55, Try.ntmps55
  go_wp2_with (go_at_call 62; refine (l00In_any _ _ _ _).mono ?_; rintro e w' ⟨rfl, rfl⟩)
  go_ret
  exact ⟨rfl, rfl⟩
set_option maxHeartbeats 1000000 in
theorem isValidPeg_any (s : ByteArray) (a : Int) (b : Int) (c : Int) (hs : s.size ≤ maxLen) (w : World) : Calls Try.prog 51 #[.agg #[.string s, .int .i64 a, .int .i64 b, .int .i64 c]] w fun e w' => e = .returned (.bool (pegB ⟨s, a, b, c⟩)) ∧ Below w.heap.size w w' := by
  have hx : Hid (pegB ⟨s, a, b, c⟩ = (nameL s.data.toList && inB a 20 200 && inB b 100 1000 && inB c 10 100)) := Lib.hid rfl
  cases h1 : nameL s.data.toList
  · go_enter Try.func51, Try.ntmps51
    go_wp2_with (first
          | (go_at_call 84; refine (implIsName_any _ _ hs).mono ?_; rintro e w' ⟨rfl, rfl⟩)
          | (go_at_call 60; refine (isHole_any _ _).mono ?_; rintro e w' ⟨rfl, rfl⟩)
          | (go_at_call 56; refine (within64_any _ _ _ _).mono ?_; rintro e w' ⟨rfl, rfl⟩))
    go_ret
    exact ⟨ret_bool (by rw [hx.out, h1]; rfl), (Below.refl _ _).alloc (Nat.le_refl _) _⟩
  cases h2 : inB a 20 200
  · go_enter Try.func51, Try.ntmps51
    go_wp2_with (first
          | (go_at_call 84; refine (implIsName_any _ _ hs).mono ?_; rintro e w' ⟨rfl, rfl⟩)
          | (go_at_call 60; refine (isHole_any _ _).mono ?_; rintro e w' ⟨rfl, rfl⟩)
          | (go_at_call 56; refine (within64_any _ _ _ _).mono ?_; rintro e w' ⟨rfl, rfl⟩))
    go_ret
    exact ⟨ret_bool (by rw [hx.out, h1, h2]; rfl), (Below.refl _ _).alloc (Nat.le_refl _) _⟩
  cases h3 : inB b 100 1000
  · go_enter Try.func51, Try.ntmps51
    go_wp2_with (first
          | (go_at_call 84; refine (implIsName_any _ _ hs).mono ?_; rintro e w' ⟨rfl, rfl⟩)
          | (go_at_call 60; refine (isHole_any _ _).mono ?_; rintro e w' ⟨rfl, rfl⟩)
          | (go_at_call 56; refine (within64_any _ _ _ _).mono ?_; rintro e w' ⟨rfl, rfl⟩))
    go_ret
    exact ⟨ret_bool (by rw [hx.out, h1, h2, h3]; rfl), (Below.refl _ _).alloc (Nat.le_refl _) _⟩
  cases h4 : inB c 10 100
  · go_enter Try.func51, Try.ntmps51
    go_wp2_with (first
          | (go_at_call 84; refine (implIsName_any _ _ hs).mono ?_; rintro e w' ⟨rfl, rfl⟩)
          | (go_at_call 60; refine (isHole_any _ _).mono ?_; rintro e w' ⟨rfl, rfl⟩)
          | (go_at_call 56; refine (within64_any _ _ _ _).mono ?_; rintro e w' ⟨rfl, rfl⟩))
    go_ret
    exact ⟨ret_bool (by rw [hx.out, h1, h2, h3, h4]; rfl), (Below.refl _ _).alloc (Nat.le_refl _) _⟩
  go_enter Try.func51, Try.ntmps51
  go_wp2_with (first
        | (go_at_call 84; refine (implIsName_any _ _ hs).mono ?_; rintro e w' ⟨rfl, rfl⟩)
        | (go_at_call 60; refine (isHole_any _ _).mono ?_; rintro e w' ⟨rfl, rfl⟩)
        | (go_at_call 56; refine (within64_any _ _ _ _).mono ?_; rintro e w' ⟨rfl, rfl⟩))
  go_ret
  exact ⟨ret_bool (by rw [hx.out, h1, h2, h3, h4]; rfl), (Below.refl _ _).alloc (Nat.le_refl _) _⟩
set_option maxHeartbeats 1000000 in
theorem l12One_any (s : ByteArray) (a : Int) (b : Int) (c : Int) (hs : s.size ≤ maxLen) (w : World) (g o : Nat) (hat : PegAt w g o ⟨s, a, b, c⟩) : Calls Try.prog 54 #[.pointer (some ⟨g, o, none⟩)] w fun e w' => e = .returned (.bool (pegB ⟨s, a, b, c⟩)) ∧ w = w' := by
  have hx : Hid (pegB ⟨s, a, b, c⟩ = (nameL s.data.toList && inB a 20 200 && inB b 100 1000 && inB c 10 100)) := Lib.hid rfl
  obtain ⟨c0, c1, c2, c3⟩ := hat
  simp only at c0 c1 c2 c3
  cases h1 : nameL s.data.toList
  · go_enter Try.func54, Try.ntmps54
    go_wp2_with (first
          | (go_at_call 85; refine (l01Name_any _ _ hs).mono ?_; rintro e w' ⟨rfl, rfl⟩)
          | (go_at_call 58; refine (l12Hole_any _ _).mono ?_; rintro e w' ⟨rfl, rfl⟩)
          | (go_at_call 62; refine (l00In_any _ _ _ _).mono ?_; rintro e w' ⟨rfl, rfl⟩))
    go_ret
    exact ⟨ret_bool (by rw [hx.out, h1]; rfl), rfl⟩
  cases h2 : inB a 20 200
  · go_enter Try.func54, Try.ntmps54
    go_wp2_with (first
          | (go_at_call 85; refine (l01Name_any _ _ hs).mono ?_; rintro e w' ⟨rfl, rfl⟩)
          | (go_at_call 58; refine (l12Hole_any _ _).mono ?_; rintro e w' ⟨rfl, rfl⟩)
          | (go_at_call 62; refine (l00In_any _ _ _ _).mono ?_; rintro e w' ⟨rfl, rfl⟩))
    go_ret
    exact ⟨ret_bool (by rw [hx.out, h1, h2]; rfl), rfl⟩
  cases h3 : inB b 100 1000
  · go_enter Try.func54, Try.ntmps54
    go_wp2_with (first
          | (go_at_call 85; refine (l01Name_any _ _ hs).mono ?_; rintro e w' ⟨rfl, rfl⟩)
          | (go_at_call 58; refine (l12Hole_any _ _).mono ?_; rintro e w' ⟨rfl, rfl⟩)
          | (go_at_call 62; refine (l00In_any _ _ _ _).mono ?_; rintro e w' ⟨rfl, rfl⟩))
    go_ret
    exact ⟨ret_bool (by rw [hx.out, h1, h2, h3]; rfl), rfl⟩
  cases h4 : inB c 10 100
  · go_enter Try.func54, Try.ntmps54
    go_wp2_with (first
          | (go_at_call 85; refine (l01Name_any _ _ hs).mono ?_; rintro e w' ⟨rfl, rfl⟩)
          | (go_at_call 58; refine (l12Hole_any _ _).mono ?_; rintro e w' ⟨rfl, rfl⟩)
          | (go_at_call 62; refine (l00In_any _ _ _ _).mono ?_; rintro e w' ⟨rfl, rfl⟩))
    go_ret
    exact ⟨ret_bool (by rw [hx.out, h1, h2, h3, h4]; rfl), rfl⟩
  go_enter Try.func54, Try.ntmps54
  go_wp2_with (first
        | (go_at_call 85; refine (l01Name_any _ _ hs).mono ?_; rintro e w' ⟨rfl, rfl⟩)
        | (go_at_call 58; refine (l12Hole_any _ _).mono ?_; rintro e w' ⟨rfl, rfl⟩)
        | (go_at_call 62; refine (l00In_any _ _ _ _).mono ?_; rintro e w' ⟨rfl, rfl⟩))
  go_ret
  exact ⟨ret_bool (by rw [hx.out, h1, h2, h3, h4]; rfl), rfl⟩
theorem peg_bd {s : ByteArray} {a b c : Int} (h : pegB ⟨s, a, b, c⟩ = true) : (20 ≤ a ∧ a ≤ 200) ∧ (100 ≤ b ∧ b ≤ 1000) ∧ (10 ≤ c ∧ c ≤ 100) := by
  unfold pegB at h
  simp only [Bool.and_eq_true, inB_iff] at h
  exact ⟨h.1.1.2, h.1.2, h.2⟩
end Go.Proofs.Ytnlnocapbbeleaa
