/-
  Rows of Neck: the law's comparison.
-/
import Derived.Test.YtcdpkbcpglaiaaaGreatDoorNcks2
namespace Go.Proofs.YtcdpkbcpglaiaaaGreatDoor
open Go.ChangeShapes Go.WideShapes Go.ChangeAt Go.RowKit Go.Deep
set_option linter.unusedVariables false
set_option linter.unusedSimpArgs false
set_option maxRecDepth 1000000
end Go.Proofs.YtcdpkbcpglaiaaaGreatDoor
