/-
  Bows: mass, balance, inertia, the heaviest part, by value.
-/
import Derived.Test.YtmhiekfnkbldeaaDoorBow
import Derived.Test.YtmhiekfnkbldeaaDoorFg
namespace Go.Proofs.YtmhiekfnkbldeaaDoor
open Go.ChangeShapes Go.WideShapes Go.ChangeAt Go.RowKit Go.Deep
set_option linter.unusedVariables false
set_option linter.unusedSimpArgs false
set_option maxRecDepth 1000000
/-- a bow by value, its sums by name -/
theorem bowOf_num (v : Value) (Z : List Prt) (m q : Int) (w : World) (hlo : bowOk Z) (hv : PrtsAt w v Z) (hm : m = sumF (masF Z) Z.length) (hq : q = sumF (momF Z) Z.length) : Calls Tryd.prog 26 #[v] w fun e w' => e = .returned (.agg #[.int .i64 m, .int .i64 q, v]) ∧ Below w.heap.size w w' := by
  subst hm hq
  exact bowOf_any v Z w hlo hv
def cd3 (b1 b2 : Bool) (c : Int) : Int := if b1 = true then (if b2 = true then c else 2) else 1
end Go.Proofs.YtmhiekfnkbldeaaDoor
