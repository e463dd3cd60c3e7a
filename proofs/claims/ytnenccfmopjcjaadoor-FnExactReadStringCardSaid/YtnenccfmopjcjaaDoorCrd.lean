/-
  Cord by value: the law's copies, places in memory.
-/
import Derived.Test.YtnenccfmopjcjaaDoorMem
import Derived.Test.YtnenccfmopjcjaaDoorUnits
namespace Go.Proofs.YtnenccfmopjcjaaDoor
open Go.ChangeShapes Go.WideShapes Go.ChangeAt Go.RowKit Go.Deep
set_option linter.unusedVariables false
set_option linter.unusedSimpArgs false
set_option maxRecDepth 1000000
structure Crd where
  pit : Int
  len : Int
  gau : Int
  str : Int
def CrdAt (w : World) (g o : Nat) (x : Crd) : Prop := w.cell? ⟨g, o, none⟩ = some (.int .i64 x.pit) ∧ w.cell? ⟨g, o + 1, none⟩ = some (.int .i64 x.len) ∧ w.cell? ⟨g, o + 2, none⟩ = some (.int .i64 x.gau) ∧ w.cell? ⟨g, o + 3, none⟩ = some (.int .i64 x.str)
theorem CrdAt.below {w w' : World} {g o : Nat} {x : Crd} (h : CrdAt w g o x) (hg : g < w.heap.size) (hb : Below w.heap.size w w') : CrdAt w' g o x :=
  ⟨(hb.cell (p := ⟨g, _, none⟩) hg).trans h.1, (hb.cell (p := ⟨g, _, none⟩) hg).trans h.2.1, (hb.cell (p := ⟨g, _, none⟩) hg).trans h.2.2.1, (hb.cell (p := ⟨g, _, none⟩) hg).trans h.2.2.2⟩
theorem crd_box (a : Int) (b : Int) (c : Int) (d : Int) (w : World) : CrdAt (w.alloc (.cells #[.int .i64 a, .int .i64 b, .int .i64 c, .int .i64 d] 23)) w.heap.size 0 ⟨a, b, c, d⟩ :=
  ⟨cellB (heap_alloc_new _ _) 0 _ rfl, cellB (heap_alloc_new _ _) 1 _ rfl, cellB (heap_alloc_new _ _) 2 _ rfl, cellB (heap_alloc_new _ _) 3 _ rfl⟩
theorem eqCord_any (a : Int) (b : Int) (c : Int) (d : Int) (w : World) : Calls Tryd.prog 6 #[.agg #[.int .i64 a, .int .i64 b, .int .i64 c, .int .i64 d], .agg #[.int .i64 a, .int .i64 b, .int .i64 c, .int .i64 d]] w fun e w' => e = .returned (.bool true) ∧ Below w.heap.size w w' := by
  go_enter Tryd.func6, Tryd.ntmps6
  go_wp2
  go_ret
  exact ⟨rfl, ((Below.refl _ _).alloc (Nat.le_refl _) _).alloc (by simp) _⟩
/-- a value that is such a struct -/
def CrdV (w : World) (v : Value) : Prop := ∃ (a : Int) (b : Int) (c : Int) (d : Int), v = .agg #[.int .i64 a, .int .i64 b, .int .i64 c, .int .i64 d]
end Go.Proofs.YtnenccfmopjcjaaDoor
