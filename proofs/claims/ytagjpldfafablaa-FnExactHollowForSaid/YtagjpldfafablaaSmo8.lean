/-
  Smooth heights: the program.
-/
import Derived.Test.YtagjpldfafablaaOver
import Derived.Test.YtagjpldfafablaaEdge8
import Derived.Test.YtagjpldfafablaaNb
import Derived.Test.YtagjpldfafablaaArchI
namespace Go.Proofs.Ytagjpldfafablaa
open Go.ChangeShapes Go.WideShapes Go.ChangeAt Go.RowKit Go.Deep
set_option linter.unusedVariables false
set_option linter.unusedSimpArgs false
def smS (h : Nat → Nat → Int) (L : List (Nat × Nat)) : Int := (L.map fun q => h q.1 q.2).foldl (· + ·) 0
theorem smS_app (h : Nat → Nat → Int) (L : List (Nat × Nat)) (q : Nat × Nat) : smS h (L ++ [q]) = smS h L + h q.1 q.2 := by
  unfold smS; rw [List.map_append, List.foldl_append]; rfl
def smF (R C : Nat) (h : Nat → Nat → Int) (i k : Nat) : Int := if edgeB R C i k then h i k else rnd (4 * h i k + smS h (nbL R C i k)) 8
end Go.Proofs.Ytagjpldfafablaa
