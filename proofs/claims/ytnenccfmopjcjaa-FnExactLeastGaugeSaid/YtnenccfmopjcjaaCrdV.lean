/-
  Strings of an instrument: TensionOf, SafetyOf, StopPlace on both sides.
-/
import Derived.Test.YtnenccfmopjcjaaCrdT
namespace Go.Proofs.Ytnenccfmopjcjaa
open Go.ChangeShapes Go.WideShapes Go.ChangeAt Go.RowKit Go.Deep
set_option linter.unusedVariables false
set_option linter.unusedSimpArgs false
set_option maxRecDepth 1000000
/-- what SafetyOf hands back, and its code -/
def sfC (ok : Bool) (T : Int) : Int := if ok = true then (if T = 0 then 3 else 0) else 1
def sfV (ok : Bool) (T d : Int) : Int := if ok = true then (if T = 0 then 0 else 1000 * d / T) else 0
/-- a code of two tests -/
def cod2 (b1 b2 : Bool) : Int := if b1 = true then (if b2 = true then 0 else 2) else 1
def stV (a b p : Int) : Int := rnd (10 * b * (p - a)) p
end Go.Proofs.Ytnenccfmopjcjaa
