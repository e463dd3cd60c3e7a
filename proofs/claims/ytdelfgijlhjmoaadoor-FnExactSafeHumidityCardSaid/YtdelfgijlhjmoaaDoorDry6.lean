/-
  The program's drying: the first day as wanted.
-/
import Derived.Test.YtdelfgijlhjmoaaDoorDry5
namespace Go.Proofs.YtdelfgijlhjmoaaDoor
open Go.ChangeShapes Go.WideShapes Go.ChangeAt Go.RowKit Go.Deep
set_option linter.unusedVariables false
set_option linter.unusedSimpArgs false
attribute [local go_sem] Oper.semAt_some
def wetP (a v b z : Int) (k : Nat) : Bool := decide (dryV a v b k ≤ z)
/-- what the first day as wanted tells -/
def fstE (a v b z : Int) (n : Nat) : Value := match fstK (wetP a v b z) (n + 1) with
  | some k => encD (dryE a v b k)
  | none => encD (0, 0, 0)
def fstB (a v b z : Int) (n : Nat) : Bool := (fstK (wetP a v b z) (n + 1)).isSome
theorem fst_yes {a v b z : Int} {n k : Nat} (hk : k ≤ n) (hp : dryV a v b k ≤ z) (hno : ∀ j, j < k → wetP a v b z j = false) : fstE a v b z n = encD (dryE a v b k) ∧ fstB a v b z n = true := by
  have := fstK_some (p := wetP a v b z) (n := n + 1) (k := k) (by omega) (by simp [wetP, hp]) hno
  unfold fstE fstB; rw [this]; exact ⟨rfl, rfl⟩
theorem fst_no {a v b z : Int} {n : Nat} (hno : ∀ j, j < n + 1 → wetP a v b z j = false) : fstE a v b z n = encD (0, 0, 0) ∧ fstB a v b z n = false := by
  have := fstK_none (p := wetP a v b z) (n := n + 1) hno
  unfold fstE fstB; rw [this]; exact ⟨rfl, rfl⟩
end Go.Proofs.YtdelfgijlhjmoaaDoor
