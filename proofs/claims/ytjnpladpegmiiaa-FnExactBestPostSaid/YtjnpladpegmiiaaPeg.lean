/-
  Peg by value: the law's copies, places in memory.
-/
import Derived.Test.YtjnpladpegmiiaaMem
import Derived.Test.YtjnpladpegmiiaaUnits
import Derived.Test.YtjnpladpegmiiaaName
namespace Go.Proofs.Ytjnpladpegmiiaa
open Go.ChangeShapes Go.WideShapes Go.ChangeAt Go.RowKit Go.Deep
set_option linter.unusedVariables false
set_option linter.unusedSimpArgs false
set_option maxRecDepth 1000000
structure Peg where
  id : ByteArray
  thk : Int
  len : Int
  tap : Int
def PegAt (w : World) (g o : Nat) (x : Peg) : Prop := w.cell? ⟨g, o, none⟩ = some (.string x.id) ∧ w.cell? ⟨g, o + 1, none⟩ = some (.int .i64 x.thk) ∧ w.cell? ⟨g, o + 2, none⟩ = some (.int .i64 x.len) ∧ w.cell? ⟨g, o + 3, none⟩ = some (.int .i64 x.tap)
theorem PegAt.below {w w' : World} {g o : Nat} {x : Peg} (h : PegAt w g o x) (hg : g < w.heap.size) (hb : Below w.heap.size w w') : PegAt w' g o x :=
  ⟨(hb.cell (p := ⟨g, _, none⟩) hg).trans h.1, (hb.cell (p := ⟨g, _, none⟩) hg).trans h.2.1, (hb.cell (p := ⟨g, _, none⟩) hg).trans h.2.2.1, (hb.cell (p := ⟨g, _, none⟩) hg).trans h.2.2.2⟩
/-- a value that is such a struct -/
def PegV (w : World) (v : Value) : Prop := ∃ (s : ByteArray) (a : Int) (b : Int) (c : Int), v = .agg #[.string s, .int .i64 a, .int .i64 b, .int .i64 c] ∧ s.size ≤ maxLen
end Go.Proofs.Ytjnpladpegmiiaa
