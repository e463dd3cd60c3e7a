/-
  Surfaces: heights of mirror images, of wood between two surfaces.
-/
import Derived.Test.YtmppaimcejcoiaaHiS
import Derived.Lib.IfaceEq
namespace Go.Proofs.Ytmppaimcejcoiaa
open Go.ChangeShapes Go.WideShapes Go.ChangeAt Go.RowKit Go.Deep
set_option linter.unusedVariables false
set_option linter.unusedSimpArgs false
attribute [local go_sem] Oper.semAt_some
theorem calm_same {W w' : World} {f : FuncId} {args : Array Value} {v : Value} (hw' : Below W.heap.size W w') (h : Calls Try.prog f args w' fun e w2 => e = .returned v ∧ w' = w2) : Calls Try.prog f args w' fun e w2 => e = .returned v ∧ Below W.heap.size W w2 :=
  h.mono fun e w2 h2 => ⟨h2.1, h2.2 ▸ hw'⟩
end Go.Proofs.Ytmppaimcejcoiaa
