/-
  Surfaces: heights of mirror images, of wood between two surfaces.
-/
import Derived.Test.YtagjpldfafablaaHiS
import Derived.Lib.IfaceEq
namespace Go.Proofs.Ytagjpldfafablaa
open Go.ChangeShapes Go.WideShapes Go.ChangeAt Go.RowKit Go.Deep
set_option linter.unusedVariables false
set_option linter.unusedSimpArgs false
attribute [local go_sem] Oper.semAt_some
theorem calm_same {W w' : World} {f : FuncId} {args : Array Value} {v : Value} (hw' : Below W.heap.size W w') (h : Calls Try.prog f args w' fun e w2 => e = .returned v ∧ w' = w2) : Calls Try.prog f args w' fun e w2 => e = .returned v ∧ Below W.heap.size W w2 :=
  h.mono fun e w2 h2 => ⟨h2.1, h2.2 ▸ hw'⟩
theorem flat_at (n : Int) (p q : Int) (w : World) : Calls Try.prog 128 #[.int .i64 n, .agg #[.int .i64 p, .int .i64 q]] w fun e w' => e = .returned (.int .i64 n) ∧ Below w.heap.size w w' := by
  go_enter Try.func128, Try.ntmps128
  go_wp2
  go_ret
  exact ⟨rfl, (Below.refl _ _).alloc (Nat.le_refl _) _⟩
end Go.Proofs.Ytagjpldfafablaa
