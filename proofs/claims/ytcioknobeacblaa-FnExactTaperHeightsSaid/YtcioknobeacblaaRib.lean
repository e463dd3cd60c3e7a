/-
  Rib by value: the law's copies, places in memory.
-/
import Derived.Test.YtcioknobeacblaaMem
import Derived.Test.YtcioknobeacblaaUnits
import Derived.Test.YtcioknobeacblaaName
namespace Go.Proofs.Ytcioknobeacblaa
open Go.ChangeShapes Go.WideShapes Go.ChangeAt Go.RowKit Go.Deep
set_option linter.unusedVariables false
set_option linter.unusedSimpArgs false
set_option maxRecDepth 1000000
structure Rib where
  id : ByteArray
  len : Int
  hgt : Int
def RibAt (w : World) (g o : Nat) (x : Rib) : Prop := w.cell? ⟨g, o, none⟩ = some (.string x.id) ∧ w.cell? ⟨g, o + 1, none⟩ = some (.int .i64 x.len) ∧ w.cell? ⟨g, o + 2, none⟩ = some (.int .i64 x.hgt)
theorem RibAt.below {w w' : World} {g o : Nat} {x : Rib} (h : RibAt w g o x) (hg : g < w.heap.size) (hb : Below w.heap.size w w') : RibAt w' g o x :=
  ⟨(hb.cell (p := ⟨g, _, none⟩) hg).trans h.1, (hb.cell (p := ⟨g, _, none⟩) hg).trans h.2.1, (hb.cell (p := ⟨g, _, none⟩) hg).trans h.2.2⟩
/-- a value that is such a struct -/
def RibV (w : World) (v : Value) : Prop := ∃ (s : ByteArray) (a : Int) (b : Int), v = .agg #[.string s, .int .i64 a, .int .i64 b] ∧ s.size ≤ maxLen
end Go.Proofs.Ytcioknobeacblaa
