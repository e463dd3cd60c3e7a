/-
  Rows of Neck: the law's comparison.
-/
import Derived.Test.YtcdpkbcpglaiaaaNcks2
namespace Go.Proofs.Ytcdpkbcpglaiaaa
open Go.ChangeShapes Go.WideShapes Go.ChangeAt Go.RowKit Go.Deep
set_option linter.unusedVariables false
set_option linter.unusedSimpArgs false
set_option maxRecDepth 1000000
end Go.Proofs.Ytcdpkbcpglaiaaa
