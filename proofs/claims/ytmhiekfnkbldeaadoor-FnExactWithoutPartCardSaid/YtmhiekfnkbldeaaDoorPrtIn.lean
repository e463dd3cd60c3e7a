/-
  Parts of a bow: validity of one, by value and by a pointer.
-/
import Derived.Test.YtmhiekfnkbldeaaDoorPrt
namespace Go.Proofs.YtmhiekfnkbldeaaDoor
open Go.ChangeShapes Go.WideShapes Go.ChangeAt Go.RowKit Go.Deep
set_option linter.unusedVariables false
set_option linter.unusedSimpArgs false
set_option maxRecDepth 1000000
def prtB (x : Prt) : Bool := nameL x.id.data.toList && inB x.plc 0 8000 && inB x.mas 1 100000
theorem isOnStick_any (n : Int) (w : World) : Calls Tryd.prog 25 #[.int .i64 n] w fun e w' => e = .returned (.bool (inB n 0 8000)) ∧ w = w' := by
  go_enter Tryd.func25, Tryd.ntmps25
  go_wp2_with (go_at_call 37; refine (within64_any _ _ _ _).mono ?_; rintro e w' ⟨rfl, rfl⟩)
  go_ret
  exact ⟨rfl, rfl⟩
theorem l11At_any (n : Int) (w : World) : Calls Tryd.prog 19 #[.int .i64 n] w fun e w' => e = .returned (.bool (inB n 0 8000)) ∧ w = w' := by
  go_enter Tryd.func19, Tryd.ntmps19
  go_wp2_with (go_at_call 36; refine (l00In_any _ _ _ _).mono ?_; rintro e w' ⟨rfl, rfl⟩)
  go_ret
  exact ⟨rfl, rfl⟩
set_option maxHeartbeats 1000000 in
theorem isValidPrt_any (s : ByteArray) (a : Int) (b : Int) (hs : s.size ≤ maxLen) (w : World) : Calls Tryd.prog 44 #[.agg #[.string s, .int .i64 a, .int .i64 b]] w fun e w' => e = .returned (.bool (prtB ⟨s, a, b⟩)) ∧ Below w.heap.size w w' := by
  have hx : Hid (prtB ⟨s, a, b⟩ = (nameL s.data.toList && inB a 0 8000 && inB b 1 100000)) := Lib.hid rfl
  cases h1 : nameL s.data.toList
  · go_enter Tryd.func44, Tryd.ntmps44
    go_wp2_with (first
          | (go_at_call 52; refine (implIsName_any _ _ hs).mono ?_; rintro e w' ⟨rfl, rfl⟩)
          | (go_at_call 25; refine (isOnStick_any _ _).mono ?_; rintro e w' ⟨rfl, rfl⟩)
          | (go_at_call 37; refine (within64_any _ _ _ _).mono ?_; rintro e w' ⟨rfl, rfl⟩))
    go_ret
    exact ⟨ret_bool (by rw [hx.out, h1]; rfl), (Below.refl _ _).alloc (Nat.le_refl _) _⟩
  cases h2 : inB a 0 8000
  · go_enter Tryd.func44, Tryd.ntmps44
    go_wp2_with (first
          | (go_at_call 52; refine (implIsName_any _ _ hs).mono ?_; rintro e w' ⟨rfl, rfl⟩)
          | (go_at_call 25; refine (isOnStick_any _ _).mono ?_; rintro e w' ⟨rfl, rfl⟩)
          | (go_at_call 37; refine (within64_any _ _ _ _).mono ?_; rintro e w' ⟨rfl, rfl⟩))
    go_ret
    exact ⟨ret_bool (by rw [hx.out, h1, h2]; rfl), (Below.refl _ _).alloc (Nat.le_refl _) _⟩
  cases h3 : inB b 1 100000
  · go_enter Tryd.func44, Tryd.ntmps44
    go_wp2_with (first
          | (go_at_call 52; refine (implIsName_any _ _ hs).mono ?_; rintro e w' ⟨rfl, rfl⟩)
          | (go_at_call 25; refine (isOnStick_any _ _).mono ?_; rintro e w' ⟨rfl, rfl⟩)
          | (go_at_call 37; refine (within64_any _ _ _ _).mono ?_; rintro e w' ⟨rfl, rfl⟩))
    go_ret
    exact ⟨ret_bool (by rw [hx.out, h1, h2, h3]; rfl), (Below.refl _ _).alloc (Nat.le_refl _) _⟩
  go_enter Tryd.func44, Tryd.ntmps44
  go_wp2_with (first
        | (go_at_call 52; refine (implIsName_any _ _ hs).mono ?_; rintro e w' ⟨rfl, rfl⟩)
        | (go_at_call 25; refine (isOnStick_any _ _).mono ?_; rintro e w' ⟨rfl, rfl⟩)
        | (go_at_call 37; refine (within64_any _ _ _ _).mono ?_; rintro e w' ⟨rfl, rfl⟩))
  go_ret
  exact ⟨ret_bool (by rw [hx.out, h1, h2, h3]; rfl), (Below.refl _ _).alloc (Nat.le_refl _) _⟩
set_option maxHeartbeats 1000000 in
theorem l11One_any (s : ByteArray) (a : Int) (b : Int) (hs : s.size ≤ maxLen) (w : World) (g o : Nat) (hat : PrtAt w g o ⟨s, a, b⟩) : Calls Tryd.prog 35 #[.pointer (some ⟨g, o, none⟩)] w fun e w' => e = .returned (.bool (prtB ⟨s, a, b⟩)) ∧ w = w' := by
  have hx : Hid (prtB ⟨s, a, b⟩ = (nameL s.data.toList && inB a 0 8000 && inB b 1 100000)) := Lib.hid rfl
  obtain ⟨c0, c1, c2⟩ := hat
  simp only at c0 c1 c2
  cases h1 : nameL s.data.toList
  · go_enter Tryd.func35, Tryd.ntmps35
    go_wp2_with (first
          | (go_at_call 47; refine (l01Name_any _ _ hs).mono ?_; rintro e w' ⟨rfl, rfl⟩)
          | (go_at_call 19; refine (l11At_any _ _).mono ?_; rintro e w' ⟨rfl, rfl⟩)
          | (go_at_call 36; refine (l00In_any _ _ _ _).mono ?_; rintro e w' ⟨rfl, rfl⟩))
    go_ret
    exact ⟨ret_bool (by rw [hx.out, h1]; rfl), rfl⟩
  cases h2 : inB a 0 8000
  · go_enter Tryd.func35, Tryd.ntmps35
    go_wp2_with (first
          | (go_at_call 47; refine (l01Name_any _ _ hs).mono ?_; rintro e w' ⟨rfl, rfl⟩)
          | (go_at_call 19; refine (l11At_any _ _).mono ?_; rintro e w' ⟨rfl, rfl⟩)
          | (go_at_call 36; refine (l00In_any _ _ _ _).mono ?_; rintro e w' ⟨rfl, rfl⟩))
    go_ret
    exact ⟨ret_bool (by rw [hx.out, h1, h2]; rfl), rfl⟩
  cases h3 : inB b 1 100000
  · go_enter Tryd.func35, Tryd.ntmps35
    go_wp2_with (first
          | (go_at_call 47; refine (l01Name_any _ _ hs).mono ?_; rintro e w' ⟨rfl, rfl⟩)
          | (go_at_call 19; refine (l11At_any _ _).mono ?_; rintro e w' ⟨rfl, rfl⟩)
          | (go_at_call 36; refine (l00In_any _ _ _ _).mono ?_; rintro e w' ⟨rfl, rfl⟩))
    go_ret
    exact ⟨ret_bool (by rw [hx.out, h1, h2, h3]; rfl), rfl⟩
  go_enter Tryd.func35, Tryd.ntmps35
  go_wp2_with (first
        | (go_at_call 47; refine (l01Name_any _ _ hs).mono ?_; rintro e w' ⟨rfl, rfl⟩)
        | (go_at_call 19; refine (l11At_any _ _).mono ?_; rintro e w' ⟨rfl, rfl⟩)
        | (go_at_call 36; refine (l00In_any _ _ _ _).mono ?_; rintro e w' ⟨rfl, rfl⟩))
  go_ret
  exact ⟨ret_bool (by rw [hx.out, h1, h2, h3]; rfl), rfl⟩
theorem prt_bd {s : ByteArray} {a b : Int} (h : prtB ⟨s, a, b⟩ = true) : (0 ≤ a ∧ a ≤ 8000) ∧ (1 ≤ b ∧ b ≤ 100000) := by
  unfold prtB at h
  simp only [Bool.and_eq_true, inB_iff] at h
  exact ⟨h.1.2, h.2⟩
end Go.Proofs.YtmhiekfnkbldeaaDoor
