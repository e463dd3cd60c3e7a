/-
  Stack by value: the law's copies, places in memory.
-/
import Derived.Test.YtjgpckocmjolmaaGreatDoorMem
import Derived.Test.YtjgpckocmjolmaaGreatDoorUnits
import Derived.Test.YtjgpckocmjolmaaGreatDoorName
namespace Go.Proofs.YtjgpckocmjolmaaGreatDoor
open Go.ChangeShapes Go.WideShapes Go.ChangeAt Go.RowKit Go.Deep
set_option linter.unusedVariables false
set_option linter.unusedSimpArgs false
set_option maxRecDepth 1000000
structure Stk where
  id : ByteArray
  moi : Int
  thk : Int
  sin : Int
def StkAt (w : World) (g o : Nat) (x : Stk) : Prop := w.cell? ⟨g, o, none⟩ = some (.string x.id) ∧ w.cell? ⟨g, o + 1, none⟩ = some (.int .i64 x.moi) ∧ w.cell? ⟨g, o + 2, none⟩ = some (.int .i64 x.thk) ∧ w.cell? ⟨g, o + 3, none⟩ = some (.int .i64 x.sin)
theorem StkAt.below {w w' : World} {g o : Nat} {x : Stk} (h : StkAt w g o x) (hg : g < w.heap.size) (hb : Below w.heap.size w w') : StkAt w' g o x :=
  ⟨(hb.cell (p := ⟨g, _, none⟩) hg).trans h.1, (hb.cell (p := ⟨g, _, none⟩) hg).trans h.2.1, (hb.cell (p := ⟨g, _, none⟩) hg).trans h.2.2.1, (hb.cell (p := ⟨g, _, none⟩) hg).trans h.2.2.2⟩
theorem stk_box (s : ByteArray) (a : Int) (b : Int) (c : Int) (w : World) : StkAt (w.alloc (.cells #[.string s, .int .i64 a, .int .i64 b, .int .i64 c] 23)) w.heap.size 0 ⟨s, a, b, c⟩ :=
  ⟨cellB (heap_alloc_new _ _) 0 _ rfl, cellB (heap_alloc_new _ _) 1 _ rfl, cellB (heap_alloc_new _ _) 2 _ rfl, cellB (heap_alloc_new _ _) 3 _ rfl⟩
theorem eqStack_any (s : ByteArray) (a : Int) (b : Int) (c : Int) (w : World) : Calls Tryz.prog 6 #[.agg #[.string s, .int .i64 a, .int .i64 b, .int .i64 c], .agg #[.string s, .int .i64 a, .int .i64 b, .int .i64 c]] w fun e w' => e = .returned (.bool true) ∧ Below w.heap.size w w' := by
  go_enter Tryz.func6, Tryz.ntmps6
  go_wp2
  go_ret
  exact ⟨rfl, ((Below.refl _ _).alloc (Nat.le_refl _) _).alloc (by simp) _⟩
/-- a value that is such a struct -/
def StkV (w : World) (v : Value) : Prop := ∃ (s : ByteArray) (a : Int) (b : Int) (c : Int), v = .agg #[.string s, .int .i64 a, .int .i64 b, .int .i64 c] ∧ s.size ≤ maxLen
end Go.Proofs.YtjgpckocmjolmaaGreatDoor
