/-
  Contracts of the model's dates.
-/
import Derived.Test.YtjgpckocmjolmaaGreatDoorMonth
namespace Go.Proofs.YtjgpckocmjolmaaGreatDoor
open Go.ChangeShapes Go.WideShapes Go.ChangeAt Go.RowKit
set_option linter.unusedVariables false
set_option linter.unusedSimpArgs false
/-- three integers are handed back -/
def Int3Ret (p : Int × Int × Int) (w : World) (e : Ending) (w' : World) : Prop := e = .returned (.tuple #[.int .i64 p.1, .int .i64 p.2.1, .int .i64 p.2.2]) ∧ Below w.heap.size w w'
end Go.Proofs.YtjgpckocmjolmaaGreatDoor
