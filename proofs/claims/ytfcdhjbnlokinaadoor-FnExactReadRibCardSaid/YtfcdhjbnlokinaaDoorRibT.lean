/-
  Texts of Rib: the program's and the model's contracts.
-/
import Derived.Test.YtfcdhjbnlokinaaDoorNam9
import Derived.Test.YtfcdhjbnlokinaaDoorRibIn
namespace Go.Proofs.YtfcdhjbnlokinaaDoor
open Go.ChangeShapes Go.WideShapes Go.ChangeAt Go.RowKit
set_option linter.unusedVariables false
set_option linter.unusedSimpArgs false
set_option maxRecDepth 1000000
theorem rib_ints (W : World) (t : TypeId) (a b : Int) (i0 : inI a) (i1 : inI b) :
    IntsAt (W.alloc (.cells #[.int .i64 a, .int .i64 b] t)) (.slice (some ⟨W.heap.size, 0, none⟩) 2 2) [a, b] := by
  refine ⟨some ⟨W.heap.size, 0, none⟩, 2, rfl, Nat.le_refl 2, ?_, Or.inr ⟨W.heap.size, 0, rfl, by simp, ?_⟩⟩
  · intro n hn
    simp only [List.mem_cons, List.mem_nil_iff, or_false] at hn
    rcases hn with rfl | rfl <;> assumption
  · intro i hi
    rw [Nat.zero_add, World.cell?_alloc_mark]
    match i, hi with
    | 0, _ => rfl
    | 1, _ => rfl
/-- the text -/
def ribT (x : Rib) : List UInt8 := if ribB x = true then x.id.data.toList ++ 32 :: textZ [x.len, x.hgt] else []
theorem ribB_parts {s : ByteArray} {a b : Int} (h : ribB ⟨s, a, b⟩ = true) : nameL s.data.toList = true ∧ (1 ≤ a ∧ a ≤ 10000) ∧ (1 ≤ b ∧ b ≤ 10000) := by
  unfold ribB at h
  simp only [Bool.and_eq_true, inB_iff] at h
  obtain ⟨⟨h0, h1⟩, h2⟩ := h
  exact ⟨h0, h1, h2⟩
theorem rib_bx (s : ByteArray) (a b : Int) (w w1 : World) (hb : Below (w.alloc (.cells #[.string s, .int .i64 a, .int .i64 b] 23)).heap.size (w.alloc (.cells #[.string s, .int .i64 a, .int .i64 b] 23)) w1) : (w1.cell? ⟨w.heap.size, 0, none⟩ = some (.string s) ∧ w1.cell? ⟨w.heap.size, 1, none⟩ = some (.int .i64 a) ∧ w1.cell? ⟨w.heap.size, 2, none⟩ = some (.int .i64 b)) :=
  have hl : w.heap.size < (w.alloc (.cells #[.string s, .int .i64 a, .int .i64 b] 23)).heap.size := by simp
  ⟨(hb.cell hl).trans (cellB (heap_alloc_new _ _) 0 _ rfl), (hb.cell hl).trans (cellB (heap_alloc_new _ _) 1 _ rfl), (hb.cell hl).trans (cellB (heap_alloc_new _ _) 2 _ rfl)⟩
end Go.Proofs.YtfcdhjbnlokinaaDoor
