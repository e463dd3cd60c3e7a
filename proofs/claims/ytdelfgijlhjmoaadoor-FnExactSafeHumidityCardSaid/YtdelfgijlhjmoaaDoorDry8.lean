/-
  Days with cracks: the program's and the model's contracts.
-/
import Derived.Test.YtdelfgijlhjmoaaDoorDry7
namespace Go.Proofs.YtdelfgijlhjmoaaDoor
open Go.ChangeShapes Go.WideShapes Go.ChangeAt Go.RowKit Go.Deep
set_option linter.unusedVariables false
set_option linter.unusedSimpArgs false
/-- on how many of n days the moisture changes by more than z -/
def crkN (a v b z : Int) (n : Nat) : Nat := (List.range n).countP (fun k => crP z (0, 0, chgV (dryV a v b k) v b))
theorem crkN_succ (a v b z : Int) (n : Nat) : crkN a v b z (n + 1) = crkN a v b z n + (if crP z (0, 0, chgV (dryV a v b n) v b) then 1 else 0) := by
  unfold crkN; rw [List.range_succ, List.countP_append]; cases h : crP z (0, 0, chgV (dryV a v b n) v b) <;> simp [h]
theorem crkN_le (a v b z : Int) (n : Nat) : crkN a v b z n ≤ n := by unfold crkN; have := List.countP_le_length (p := fun k => crP z (0, 0, chgV (dryV a v b k) v b)) (l := List.range n); simpa using this
theorem crk_all (a v b z : Int) (hz : 0 ≤ z) (n : Nat) : (dryL a v b n).countP (crP z) = crkN a v b z n := by
  induction n with
  | zero =>
    have h0 : crP z (0, a, 0) = false := by simp [crP]; omega
    show List.countP (crP z) [(0, a, 0)] = 0
    simp [h0]
  | succ n ih =>
    rw [dryL_snoc, List.countP_append, ih, crkN_succ]
    have e : crP z (dryE a v b (n + 1)) = crP z (0, 0, chgV (dryV a v b n) v b) := rfl
    cases h : crP z (0, 0, chgV (dryV a v b n) v b) <;> simp [e, h]
end Go.Proofs.YtdelfgijlhjmoaaDoor
