/-
  Ribs: validity of one, by value and by a pointer.
-/
import Derived.Test.YtfcdhjbnlokinaaDoorRib
namespace Go.Proofs.YtfcdhjbnlokinaaDoor
open Go.ChangeShapes Go.WideShapes Go.ChangeAt Go.RowKit Go.Deep
set_option linter.unusedVariables false
set_option linter.unusedSimpArgs false
set_option maxRecDepth 1000000
def ribB (x : Rib) : Bool := nameL x.id.data.toList && inB x.len 1 10000 && inB x.hgt 1 10000
theorem isRibSize_any (n : Int) (w : World) : Calls Tryd.prog 23 #[.int .i64 n] w fun e w' => e = .returned (.bool (inB n 1 10000)) ∧ w = w' := by
  go_enter Tryd.func23, Tryd.ntmps23
  go_wp2_with (go_at_call 29; refine (within64_any _ _ _ _).mono ?_; rintro e w' ⟨rfl, rfl⟩)
  go_ret
  exact ⟨rfl, rfl⟩
theorem l06Size_any (n : Int) (w : World) : Calls Tryd.prog 30 #[.int .i64 n] w fun e w' => e = .returned (.bool (inB n 1 10000)) ∧ w = w' := by
  go_enter Tryd.func30, Tryd.ntmps30
  go_wp2_with (go_at_call 25; refine (l00In_any _ _ _ _).mono ?_; rintro e w' ⟨rfl, rfl⟩)
  go_ret
  exact ⟨rfl, rfl⟩
set_option maxHeartbeats 1000000 in
theorem isValidRib_any (s : ByteArray) (a : Int) (b : Int) (hs : s.size ≤ maxLen) (w : World) : Calls Tryd.prog 13 #[.agg #[.string s, .int .i64 a, .int .i64 b]] w fun e w' => e = .returned (.bool (ribB ⟨s, a, b⟩)) ∧ Below w.heap.size w w' := by
  have hx : Hid (ribB ⟨s, a, b⟩ = (nameL s.data.toList && inB a 1 10000 && inB b 1 10000)) := Lib.hid rfl
  cases h1 : nameL s.data.toList
  · go_enter Tryd.func13, Tryd.ntmps13
    go_wp2_with (first
          | (go_at_call 22; refine (implIsName_any _ _ hs).mono ?_; rintro e w' ⟨rfl, rfl⟩)
          | (go_at_call 23; refine (isRibSize_any _ _).mono ?_; rintro e w' ⟨rfl, rfl⟩))
    go_ret
    exact ⟨ret_bool (by rw [hx.out, h1]; rfl), (Below.refl _ _).alloc (Nat.le_refl _) _⟩
  cases h2 : inB a 1 10000
  · go_enter Tryd.func13, Tryd.ntmps13
    go_wp2_with (first
          | (go_at_call 22; refine (implIsName_any _ _ hs).mono ?_; rintro e w' ⟨rfl, rfl⟩)
          | (go_at_call 23; refine (isRibSize_any _ _).mono ?_; rintro e w' ⟨rfl, rfl⟩))
    go_ret
    exact ⟨ret_bool (by rw [hx.out, h1, h2]; rfl), (Below.refl _ _).alloc (Nat.le_refl _) _⟩
  cases h3 : inB b 1 10000
  · go_enter Tryd.func13, Tryd.ntmps13
    go_wp2_with (first
          | (go_at_call 22; refine (implIsName_any _ _ hs).mono ?_; rintro e w' ⟨rfl, rfl⟩)
          | (go_at_call 23; refine (isRibSize_any _ _).mono ?_; rintro e w' ⟨rfl, rfl⟩))
    go_ret
    exact ⟨ret_bool (by rw [hx.out, h1, h2, h3]; rfl), (Below.refl _ _).alloc (Nat.le_refl _) _⟩
  go_enter Tryd.func13, Tryd.ntmps13
  go_wp2_with (first
        | (go_at_call 22; refine (implIsName_any _ _ hs).mono ?_; rintro e w' ⟨rfl, rfl⟩)
        | (go_at_call 23; refine (isRibSize_any _ _).mono ?_; rintro e w' ⟨rfl, rfl⟩))
  go_ret
  exact ⟨ret_bool (by rw [hx.out, h1, h2, h3]; rfl), (Below.refl _ _).alloc (Nat.le_refl _) _⟩
set_option maxHeartbeats 1000000 in
theorem l06One_any (s : ByteArray) (a : Int) (b : Int) (hs : s.size ≤ maxLen) (w : World) (g o : Nat) (hat : RibAt w g o ⟨s, a, b⟩) : Calls Tryd.prog 19 #[.pointer (some ⟨g, o, none⟩)] w fun e w' => e = .returned (.bool (ribB ⟨s, a, b⟩)) ∧ w = w' := by
  have hx : Hid (ribB ⟨s, a, b⟩ = (nameL s.data.toList && inB a 1 10000 && inB b 1 10000)) := Lib.hid rfl
  obtain ⟨c0, c1, c2⟩ := hat
  simp only at c0 c1 c2
  cases h1 : nameL s.data.toList
  · go_enter Tryd.func19, Tryd.ntmps19
    go_wp2_with (first
          | (go_at_call 26; refine (l01Name_any _ _ hs).mono ?_; rintro e w' ⟨rfl, rfl⟩)
          | (go_at_call 30; refine (l06Size_any _ _).mono ?_; rintro e w' ⟨rfl, rfl⟩))
    go_ret
    exact ⟨ret_bool (by rw [hx.out, h1]; rfl), rfl⟩
  cases h2 : inB a 1 10000
  · go_enter Tryd.func19, Tryd.ntmps19
    go_wp2_with (first
          | (go_at_call 26; refine (l01Name_any _ _ hs).mono ?_; rintro e w' ⟨rfl, rfl⟩)
          | (go_at_call 30; refine (l06Size_any _ _).mono ?_; rintro e w' ⟨rfl, rfl⟩))
    go_ret
    exact ⟨ret_bool (by rw [hx.out, h1, h2]; rfl), rfl⟩
  cases h3 : inB b 1 10000
  · go_enter Tryd.func19, Tryd.ntmps19
    go_wp2_with (first
          | (go_at_call 26; refine (l01Name_any _ _ hs).mono ?_; rintro e w' ⟨rfl, rfl⟩)
          | (go_at_call 30; refine (l06Size_any _ _).mono ?_; rintro e w' ⟨rfl, rfl⟩))
    go_ret
    exact ⟨ret_bool (by rw [hx.out, h1, h2, h3]; rfl), rfl⟩
  go_enter Tryd.func19, Tryd.ntmps19
  go_wp2_with (first
        | (go_at_call 26; refine (l01Name_any _ _ hs).mono ?_; rintro e w' ⟨rfl, rfl⟩)
        | (go_at_call 30; refine (l06Size_any _ _).mono ?_; rintro e w' ⟨rfl, rfl⟩))
  go_ret
  exact ⟨ret_bool (by rw [hx.out, h1, h2, h3]; rfl), rfl⟩
theorem rib_bd {s : ByteArray} {a b : Int} (h : ribB ⟨s, a, b⟩ = true) : (1 ≤ a ∧ a ≤ 10000) ∧ (1 ≤ b ∧ b ≤ 10000) := by
  unfold ribB at h
  simp only [Bool.and_eq_true, inB_iff] at h
  exact ⟨h.1.2, h.2⟩
end Go.Proofs.YtfcdhjbnlokinaaDoor
