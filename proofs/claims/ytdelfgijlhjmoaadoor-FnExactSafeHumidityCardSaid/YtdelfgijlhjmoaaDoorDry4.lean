/-
  The program's drying: the sequence made, the moisture after days; the model's moisture after days.
-/
import Derived.Test.YtdelfgijlhjmoaaDoorDry3
import Derived.Deep.RegionHeld3
namespace Go.Proofs.YtdelfgijlhjmoaaDoor
open Go.ChangeShapes Go.WideShapes Go.ChangeAt Go.RowKit Go.Deep
set_option linter.unusedVariables false
set_option linter.unusedSimpArgs false
theorem dryE_mo (m v t : Int) (n : Nat) : (dryE m v t n).2.1 = dryV m v t n := by cases n <;> rfl
theorem dryE_day (m v t : Int) (n : Nat) : (dryE m v t n).1 = n := by cases n <;> simp [dryE]
/-- the code of two tests, one behind the other -/
def code2 (b1 b2 : Bool) (c1 c2 : Int) : Int := if b1 = true then (if b2 = true then 0 else c2) else c1
end Go.Proofs.YtdelfgijlhjmoaaDoor
