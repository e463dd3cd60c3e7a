/-
  Contracts of ListText: the model's.
-/
import Derived.Test.YtnenccfmopjcjaaDoorDec
import Derived.Test.YtnenccfmopjcjaaDoorInts
import Derived.Test.YtnenccfmopjcjaaDoorListMath
namespace Go.Proofs.YtnenccfmopjcjaaDoor
open Go.ChangeShapes Go.WideShapes Go.ChangeAt Go.RowKit
set_option linter.unusedVariables false
set_option linter.unusedSimpArgs false
theorem l00InV (n : Int) (w : World) : Calls Tryd.prog 13 #[.int .i64 n, .int .i64 (-1000000000000), .int .i64 1000000000000] w fun e w' => e = .returned (.bool (inV n)) ∧ w = w' := l00In_any _ _ _ _

end Go.Proofs.YtnenccfmopjcjaaDoor
