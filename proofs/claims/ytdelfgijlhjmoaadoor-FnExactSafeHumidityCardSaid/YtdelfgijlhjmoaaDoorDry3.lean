/-
  The program's drying: the last day, the first day as wanted, the days that are counted.
-/
import Derived.Test.YtdelfgijlhjmoaaDoorDry2
namespace Go.Proofs.YtdelfgijlhjmoaaDoor
open Go.ChangeShapes Go.WideShapes Go.ChangeAt Go.RowKit Go.Deep
set_option linter.unusedVariables false
set_option linter.unusedSimpArgs false
attribute [local go_sem] Oper.semAt_some
def csD (x : Int × Int × Int) : Array Value := #[.int .i64 x.1, .int .i64 x.2.1, .int .i64 x.2.2]
theorem low_heap {n k : Nat} {o : Obj} {A B : World} (h : A.heap[k]? = some o) (hk : k < n) (hb : Below n A B) : B.heap[k]? = some o := (hb.block _ hk).trans h
/-- three stores into a box of three -/
theorem heap_set3 {w : World} {b : Nat} {x y z x' y' z' : Value} {t : TypeId} (h : w.heap[b]? = some (.cells #[x, y, z] t (0, 0))) : (((w.setCell ⟨b, 0, none⟩ x').setCell ⟨b, 1, none⟩ y').setCell ⟨b, 2, none⟩ z').heap[b]? = some (.cells #[x', y', z'] t (0, 0)) :=
  heap_set (heap_set (heap_set h 0 x' _ rfl) 1 y' _ rfl) 2 z' _ rfl
theorem other3 {w : World} {b k : Nat} {x y z : Value} (hk : k ≠ b) : (((w.setCell ⟨b, 0, none⟩ x).setCell ⟨b, 1, none⟩ y).setCell ⟨b, 2, none⟩ z).heap[k]? = w.heap[k]? := by
  rw [Below.heap_setCell _ _ _ _ hk, Below.heap_setCell _ _ _ _ hk, Below.heap_setCell _ _ _ _ hk]
theorem below3 {n b : Nat} {a w : World} (h : Below n a w) (hb : n ≤ b) (x y z : Value) : Below n a (((w.setCell ⟨b, 0, none⟩ x).setCell ⟨b, 1, none⟩ y).setCell ⟨b, 2, none⟩ z) :=
  ((h.setCell (p := ⟨b, 0, none⟩) hb x).setCell (p := ⟨b, 1, none⟩) hb y).setCell (p := ⟨b, 2, none⟩) hb z
theorem from3 (n b : Nat) (w : World) (x y z : Value) : KeepsFrom n w (((w.setCell ⟨b, 0, none⟩ x).setCell ⟨b, 1, none⟩ y).setCell ⟨b, 2, none⟩ z) :=
  (((KeepsOthers.setCell w _ x).trans (KeepsOthers.setCell _ _ y)).trans (KeepsOthers.setCell _ _ z)).from n
theorem but3 (b : Nat) (w : World) (x y z : Value) : CellsBut b w (((w.setCell ⟨b, 0, none⟩ x).setCell ⟨b, 1, none⟩ y).setCell ⟨b, 2, none⟩ z) :=
  ((CellsBut.setCell w ⟨b, 0, none⟩ rfl x).trans (CellsBut.setCell _ ⟨b, 1, none⟩ rfl y)).trans (CellsBut.setCell _ ⟨b, 2, none⟩ rfl z)
theorem dryL_last (m v t : Int) (n : Nat) : (dryL m v t n).getLastD (0, 0, 0) = dryE m v t n := by
  cases n with
  | zero => rfl
  | succ n => rw [dryL_snoc]; simp
end Go.Proofs.YtdelfgijlhjmoaaDoor
