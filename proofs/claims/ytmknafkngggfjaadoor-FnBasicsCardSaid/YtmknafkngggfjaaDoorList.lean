/-
  Contracts of ListText: the model's.
-/
import Derived.Test.YtmknafkngggfjaaDoorDec
import Derived.Test.YtmknafkngggfjaaDoorInts
import Derived.Test.YtmknafkngggfjaaDoorListMath
namespace Go.Proofs.YtmknafkngggfjaaDoor
open Go.ChangeShapes Go.WideShapes Go.ChangeAt Go.RowKit
set_option linter.unusedVariables false
set_option linter.unusedSimpArgs false
end Go.Proofs.YtmknafkngggfjaaDoor
