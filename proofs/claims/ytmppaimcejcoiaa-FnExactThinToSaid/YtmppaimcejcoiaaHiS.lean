/-
  The model's highest place; both agree.
-/
import Derived.Test.YtmppaimcejcoiaaHi
namespace Go.Proofs.Ytmppaimcejcoiaa
open Go.ChangeShapes Go.WideShapes Go.ChangeAt Go.RowKit Go.Deep
set_option linter.unusedVariables false
set_option linter.unusedSimpArgs false
theorem GR.drew {w w' : World} {g o cap R C : Nat} {rg ro rc : Nat → Nat} {h : Nat → Nat → Int} (x : GR w g o cap R C rg ro rc h) (hd : DrewOf w w') : GR w' g o cap R C rg ro rc h := x.below hd.below
end Go.Proofs.Ytmppaimcejcoiaa
