/-
  Contracts of ListText: the model's.
-/
import Derived.Test.YtfcdhjbnlokinaaDoorDec
import Derived.Test.YtfcdhjbnlokinaaDoorInts
import Derived.Test.YtfcdhjbnlokinaaDoorListMath
namespace Go.Proofs.YtfcdhjbnlokinaaDoor
open Go.ChangeShapes Go.WideShapes Go.ChangeAt Go.RowKit
set_option linter.unusedVariables false
set_option linter.unusedSimpArgs false
theorem l00InV (n : Int) (w : World) : Calls Tryd.prog 25 #[.int .i64 n, .int .i64 (-1000000000000), .int .i64 1000000000000] w fun e w' => e = .returned (.bool (inV n)) ∧ w = w' := l00In_any _ _ _ _

end Go.Proofs.YtfcdhjbnlokinaaDoor
