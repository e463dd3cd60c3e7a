/-
  The program's drying: the first day as wanted, the days that are counted.
-/
import Derived.Test.YtdelfgijlhjmoaaDoorDry4
namespace Go.Proofs.YtdelfgijlhjmoaaDoor
open Go.ChangeShapes Go.WideShapes Go.ChangeAt Go.RowKit Go.Deep
set_option linter.unusedVariables false
set_option linter.unusedSimpArgs false
attribute [local go_sem] Oper.semAt_some
def crP (z : Int) (x : Int × Int × Int) : Bool := decide (z < x.2.2 ∨ z < -x.2.2)
/-- the least k below n as wanted -/
def fstK (p : Nat → Bool) (n : Nat) : Option Nat := (List.range n).find? p
theorem fstK_some {p : Nat → Bool} {n k : Nat} (hk : k < n) (hp : p k = true) (hno : ∀ j, j < k → p j = false) : fstK p n = some k := by
  unfold fstK; rw [List.find?_range_eq_some]; exact ⟨hp, List.mem_range.2 hk, fun j hj => by rw [hno j hj]; rfl⟩
theorem fstK_none {p : Nat → Bool} {n : Nat} (hno : ∀ j, j < n → p j = false) : fstK p n = none := by
  unfold fstK; rw [List.find?_range_eq_none]; intro j hj; rw [hno j hj]; rfl
theorem dryL_get (m v t : Int) (n k : Nat) (h : k ≤ n) : (dryL m v t n)[k]? = some (dryE m v t k) := by
  unfold dryL; rw [List.getElem?_map, List.getElem?_range (by omega)]; rfl
theorem pre_get {m v t : Int} {n : Nat} {pre : List (Int × Int × Int)} {x : Int × Int × Int} (h : pre ++ [x] <+: dryL m v t n) : x = dryE m v t pre.length ∧ pre.length ≤ n := by
  have hl := h.length_le
  rw [dryL_len] at hl
  simp at hl
  have h1 : (dryL m v t n)[pre.length]? = some x := by
    obtain ⟨r, hr⟩ := h
    rw [← hr]; simp
  rw [dryL_get m v t n _ (by omega)] at h1
  exact ⟨(Option.some.inj h1).symm, by omega⟩
end Go.Proofs.YtdelfgijlhjmoaaDoor
