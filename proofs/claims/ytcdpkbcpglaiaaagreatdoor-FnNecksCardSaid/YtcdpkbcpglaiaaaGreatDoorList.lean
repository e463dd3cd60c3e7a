/-
  Contracts of ListText: the model's.
-/
import Derived.Test.YtcdpkbcpglaiaaaGreatDoorDec
import Derived.Test.YtcdpkbcpglaiaaaGreatDoorInts
import Derived.Test.YtcdpkbcpglaiaaaGreatDoorListMath
namespace Go.Proofs.YtcdpkbcpglaiaaaGreatDoor
open Go.ChangeShapes Go.WideShapes Go.ChangeAt Go.RowKit
set_option linter.unusedVariables false
set_option linter.unusedSimpArgs false
end Go.Proofs.YtcdpkbcpglaiaaaGreatDoor
