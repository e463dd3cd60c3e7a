/-
  Pegs: validity of one, by value and by a pointer.
-/
import Derived.Test.YtjnpladpegmiiaaPeg
namespace Go.Proofs.Ytjnpladpegmiiaa
open Go.ChangeShapes Go.WideShapes Go.ChangeAt Go.RowKit Go.Deep
set_option linter.unusedVariables false
set_option linter.unusedSimpArgs false
set_option maxRecDepth 1000000
def pegB (x : Peg) : Bool := nameL x.id.data.toList && inB x.thk 20 200 && inB x.len 100 1000 && inB x.tap 10 100
theorem l12Way_any (n : Int) (w : World) : Calls Try.prog 80 #[.int .i64 n] w fun e w' => e = .returned (.bool (inB n 0 1000)) ∧ w = w' := by
  go_enter Try.func80, Try.ntmps80
  go_wp2_with (go_at_call 65; refine (l00In_any _ _ _ _).mono ?_; rintro e w' ⟨rfl, rfl⟩)
  go_ret
  exact ⟨rfl, rfl⟩
theorem peg_bd {s : ByteArray} {a b c : Int} (h : pegB ⟨s, a, b, c⟩ = true) : (20 ≤ a ∧ a ≤ 200) ∧ (100 ≤ b ∧ b ≤ 1000) ∧ (10 ≤ c ∧ c ≤ 100) := by
  unfold pegB at h
  simp only [Bool.and_eq_true, inB_iff] at h
  exact ⟨h.1.1.2, h.1.2, h.2⟩
end Go.Proofs.Ytjnpladpegmiiaa
