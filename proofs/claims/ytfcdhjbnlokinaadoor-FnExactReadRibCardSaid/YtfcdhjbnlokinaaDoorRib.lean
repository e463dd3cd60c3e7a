/-
  Rib by value: the law's copies, places in memory.
-/
import Derived.Test.YtfcdhjbnlokinaaDoorMem
import Derived.Test.YtfcdhjbnlokinaaDoorUnits
import Derived.Test.YtfcdhjbnlokinaaDoorName
namespace Go.Proofs.YtfcdhjbnlokinaaDoor
open Go.ChangeShapes Go.WideShapes Go.ChangeAt Go.RowKit Go.Deep
set_option linter.unusedVariables false
set_option linter.unusedSimpArgs false
set_option maxRecDepth 1000000
structure Rib where
  id : ByteArray
  len : Int
  hgt : Int
def RibAt (w : World) (g o : Nat) (x : Rib) : Prop := w.cell? ⟨g, o, none⟩ = some (.string x.id) ∧ w.cell? ⟨g, o + 1, none⟩ = some (.int .i64 x.len) ∧ w.cell? ⟨g, o + 2, none⟩ = some (.int .i64 x.hgt)
theorem RibAt.below {w w' : World} {g o : Nat} {x : Rib} (h : RibAt w g o x) (hg : g < w.heap.size) (hb : Below w.heap.size w w') : RibAt w' g o x :=
  ⟨(hb.cell (p := ⟨g, _, none⟩) hg).trans h.1, (hb.cell (p := ⟨g, _, none⟩) hg).trans h.2.1, (hb.cell (p := ⟨g, _, none⟩) hg).trans h.2.2⟩
theorem rib_box (s : ByteArray) (a : Int) (b : Int) (w : World) : RibAt (w.alloc (.cells #[.string s, .int .i64 a, .int .i64 b] 23)) w.heap.size 0 ⟨s, a, b⟩ :=
  ⟨cellB (heap_alloc_new _ _) 0 _ rfl, cellB (heap_alloc_new _ _) 1 _ rfl, cellB (heap_alloc_new _ _) 2 _ rfl⟩
theorem eqRib_any (s : ByteArray) (a : Int) (b : Int) (w : World) : Calls Tryd.prog 7 #[.agg #[.string s, .int .i64 a, .int .i64 b], .agg #[.string s, .int .i64 a, .int .i64 b]] w fun e w' => e = .returned (.bool true) ∧ Below w.heap.size w w' := by
  go_enter Tryd.func7, Tryd.ntmps7
  go_wp2
  go_ret
  exact ⟨rfl, ((Below.refl _ _).alloc (Nat.le_refl _) _).alloc (by simp) _⟩
/-- a value that is such a struct -/
def RibV (w : World) (v : Value) : Prop := ∃ (s : ByteArray) (a : Int) (b : Int), v = .agg #[.string s, .int .i64 a, .int .i64 b] ∧ s.size ≤ maxLen
end Go.Proofs.YtfcdhjbnlokinaaDoor
