/-
  Neck by value: the law's copies, places in memory.
-/
import Derived.Test.YtcdpkbcpglaiaaaMem
import Derived.Test.YtcdpkbcpglaiaaaUnits
namespace Go.Proofs.Ytcdpkbcpglaiaaa
open Go.ChangeShapes Go.WideShapes Go.ChangeAt Go.RowKit Go.Deep
set_option linter.unusedVariables false
set_option linter.unusedSimpArgs false
set_option maxRecDepth 1000000
structure Nck where
  stp : Int
  bod : Int
  ovr : Int
  ang : Int
def NckAt (w : World) (g o : Nat) (x : Nck) : Prop := w.cell? ⟨g, o, none⟩ = some (.int .i64 x.stp) ∧ w.cell? ⟨g, o + 1, none⟩ = some (.int .i64 x.bod) ∧ w.cell? ⟨g, o + 2, none⟩ = some (.int .i64 x.ovr) ∧ w.cell? ⟨g, o + 3, none⟩ = some (.int .i64 x.ang)
theorem NckAt.below {w w' : World} {g o : Nat} {x : Nck} (h : NckAt w g o x) (hg : g < w.heap.size) (hb : Below w.heap.size w w') : NckAt w' g o x :=
  ⟨(hb.cell (p := ⟨g, _, none⟩) hg).trans h.1, (hb.cell (p := ⟨g, _, none⟩) hg).trans h.2.1, (hb.cell (p := ⟨g, _, none⟩) hg).trans h.2.2.1, (hb.cell (p := ⟨g, _, none⟩) hg).trans h.2.2.2⟩
theorem nck_box (a : Int) (b : Int) (c : Int) (d : Int) (w : World) : NckAt (w.alloc (.cells #[.int .i64 a, .int .i64 b, .int .i64 c, .int .i64 d] 26)) w.heap.size 0 ⟨a, b, c, d⟩ :=
  ⟨cellB (heap_alloc_new _ _) 0 _ rfl, cellB (heap_alloc_new _ _) 1 _ rfl, cellB (heap_alloc_new _ _) 2 _ rfl, cellB (heap_alloc_new _ _) 3 _ rfl⟩
/-- a value that is such a struct -/
def NckV (w : World) (v : Value) : Prop := ∃ (a : Int) (b : Int) (c : Int) (d : Int), v = .agg #[.int .i64 a, .int .i64 b, .int .i64 c, .int .i64 d]
end Go.Proofs.Ytcdpkbcpglaiaaa
