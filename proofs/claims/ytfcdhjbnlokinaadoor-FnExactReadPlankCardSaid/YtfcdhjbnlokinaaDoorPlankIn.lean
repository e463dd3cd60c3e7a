/-
  Planks that came in: what a walk is told of one.
-/
import Derived.Test.YtfcdhjbnlokinaaDoorPlank2
namespace Go.Proofs.YtfcdhjbnlokinaaDoor
open Go.ChangeShapes Go.WideShapes Go.ChangeAt Go.RowKit Go.Deep
set_option linter.unusedVariables false
set_option linter.unusedSimpArgs false
/-- a value that is a plank -/
def PlkV (w : World) (v : Value) : Prop := ∃ (s : ByteArray) (a b c d f : Int), v = .agg #[.string s, .int .i64 a, .int .i64 b, .int .i64 c, .int .i64 d, .int .i64 f] ∧ s.size ≤ maxLen
end Go.Proofs.YtfcdhjbnlokinaaDoor
