/-
  Ribs: validity of one, by value and by a pointer.
-/
import Derived.Test.YtcioknobeacblaaRib
namespace Go.Proofs.Ytcioknobeacblaa
open Go.ChangeShapes Go.WideShapes Go.ChangeAt Go.RowKit Go.Deep
set_option linter.unusedVariables false
set_option linter.unusedSimpArgs false
set_option maxRecDepth 1000000
def ribB (x : Rib) : Bool := nameL x.id.data.toList && inB x.len 1 10000 && inB x.hgt 1 10000
theorem isRibSize_any (n : Int) (w : World) : Calls Try.prog 12 #[.int .i64 n] w fun e w' => e = .returned (.bool (inB n 1 10000)) ∧ w = w' := by
  go_enter Try.func12, Try.ntmps12
  go_wp2_with (go_at_call 13; refine (within64_any _ _ _ _).mono ?_; rintro e w' ⟨rfl, rfl⟩)
  go_ret
  exact ⟨rfl, rfl⟩
theorem l06Size_any (n : Int) (w : World) : Calls Try.prog 9 #[.int .i64 n] w fun e w' => e = .returned (.bool (inB n 1 10000)) ∧ w = w' := by
  go_enter Try.func9, Try.ntmps9
  go_wp2_with (go_at_call 10; refine (l00In_any _ _ _ _).mono ?_; rintro e w' ⟨rfl, rfl⟩)
  go_ret
  exact ⟨rfl, rfl⟩
theorem rib_bd {s : ByteArray} {a b : Int} (h : ribB ⟨s, a, b⟩ = true) : (1 ≤ a ∧ a ≤ 10000) ∧ (1 ≤ b ∧ b ≤ 10000) := by
  unfold ribB at h
  simp only [Bool.and_eq_true, inB_iff] at h
  exact ⟨h.1.2, h.2⟩
end Go.Proofs.Ytcioknobeacblaa
