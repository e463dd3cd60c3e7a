/-
  Strings of an instrument: their force, and whether they hold.
-/
import Derived.Test.YtnenccfmopjcjaaDoorCrdIn
import Derived.BigQuiet
import Derived.Deep.QuietTactic
import Derived.Deep.RegionHeld3
namespace Go.Proofs.YtnenccfmopjcjaaDoor
open Go.ChangeShapes Go.WideShapes Go.ChangeAt Go.RowKit Go.Deep
set_option linter.unusedVariables false
set_option linter.unusedSimpArgs false
set_option maxRecDepth 1000000
theorem one_box (w : World) (cs : Array Value) (T : TypeId) : (∀ i v, cs[i]? = some v → (w.alloc (.cells cs T)).cell? ⟨w.heap.size, i, none⟩ = some v) ∧ Below w.heap.size w (w.alloc (.cells cs T)) ∧ w.heap.size < (w.alloc (.cells cs T)).heap.size :=
  ⟨fun i v h => cellB (heap_alloc_new _ _) i v h, (Below.refl _ _).alloc (Nat.le_refl _) _, by simp⟩
/-- does a string hold with a share of its strength? -/
def hldB (a b c d z : Int) : Bool := decide (1000 * tenV a b c ≤ z * d)
end Go.Proofs.YtnenccfmopjcjaaDoor
