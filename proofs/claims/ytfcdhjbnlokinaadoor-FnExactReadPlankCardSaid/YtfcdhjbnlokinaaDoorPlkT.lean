/-
  Texts of Plank: the program's and the model's contracts.
-/
import Derived.Test.YtfcdhjbnlokinaaDoorNam9
import Derived.Test.YtfcdhjbnlokinaaDoorPlankIn
namespace Go.Proofs.YtfcdhjbnlokinaaDoor
open Go.ChangeShapes Go.WideShapes Go.ChangeAt Go.RowKit
set_option linter.unusedVariables false
set_option linter.unusedSimpArgs false
set_option maxRecDepth 1000000
theorem plk_ints (W : World) (t : TypeId) (a b c d f : Int) (i0 : inI a) (i1 : inI b) (i2 : inI c) (i3 : inI d) (i4 : inI f) :
    IntsAt (W.alloc (.cells #[.int .i64 a, .int .i64 b, .int .i64 c, .int .i64 d, .int .i64 f] t)) (.slice (some ⟨W.heap.size, 0, none⟩) 5 5) [a, b, c, d, f] := by
  refine ⟨some ⟨W.heap.size, 0, none⟩, 5, rfl, Nat.le_refl 5, ?_, Or.inr ⟨W.heap.size, 0, rfl, by simp, ?_⟩⟩
  · intro n hn
    simp only [List.mem_cons, List.mem_nil_iff, or_false] at hn
    rcases hn with rfl | rfl | rfl | rfl | rfl <;> assumption
  · intro i hi
    rw [Nat.zero_add, World.cell?_alloc_mark]
    match i, hi with
    | 0, _ => rfl
    | 1, _ => rfl
    | 2, _ => rfl
    | 3, _ => rfl
    | 4, _ => rfl
/-- the text -/
def plkT (x : Plk) : List UInt8 := if plkB x = true then x.id.data.toList ++ 32 :: textZ [x.len, x.wid, x.thk, x.mas, x.rin] else []
theorem plkB_parts {s : ByteArray} {a b c d f : Int} (h : plkB ⟨s, a, b, c, d, f⟩ = true) : nameL s.data.toList = true ∧ (1 ≤ a ∧ a ≤ 2000) ∧ (1 ≤ b ∧ b ≤ 2000) ∧ (1 ≤ c ∧ c ≤ 2000) ∧ (1 ≤ d ∧ d ≤ 100000) ∧ (1 ≤ f ∧ f ≤ 500) := by
  unfold plkB at h
  simp only [Bool.and_eq_true, inB_iff] at h
  obtain ⟨⟨⟨⟨⟨h0, h1⟩, h2⟩, h3⟩, h4⟩, h5⟩ := h
  exact ⟨h0, h1, h2, h3, h4, h5⟩
theorem plk_bx (s : ByteArray) (a b c d f : Int) (w w1 : World) (hb : Below (w.alloc (.cells #[.string s, .int .i64 a, .int .i64 b, .int .i64 c, .int .i64 d, .int .i64 f] 29)).heap.size (w.alloc (.cells #[.string s, .int .i64 a, .int .i64 b, .int .i64 c, .int .i64 d, .int .i64 f] 29)) w1) : (w1.cell? ⟨w.heap.size, 0, none⟩ = some (.string s) ∧ w1.cell? ⟨w.heap.size, 1, none⟩ = some (.int .i64 a) ∧ w1.cell? ⟨w.heap.size, 2, none⟩ = some (.int .i64 b) ∧ w1.cell? ⟨w.heap.size, 3, none⟩ = some (.int .i64 c) ∧ w1.cell? ⟨w.heap.size, 4, none⟩ = some (.int .i64 d) ∧ w1.cell? ⟨w.heap.size, 5, none⟩ = some (.int .i64 f)) :=
  have hl : w.heap.size < (w.alloc (.cells #[.string s, .int .i64 a, .int .i64 b, .int .i64 c, .int .i64 d, .int .i64 f] 29)).heap.size := by simp
  ⟨(hb.cell hl).trans (cellB (heap_alloc_new _ _) 0 _ rfl), (hb.cell hl).trans (cellB (heap_alloc_new _ _) 1 _ rfl), (hb.cell hl).trans (cellB (heap_alloc_new _ _) 2 _ rfl), (hb.cell hl).trans (cellB (heap_alloc_new _ _) 3 _ rfl), (hb.cell hl).trans (cellB (heap_alloc_new _ _) 4 _ rfl), (hb.cell hl).trans (cellB (heap_alloc_new _ _) 5 _ rfl)⟩
end Go.Proofs.YtfcdhjbnlokinaaDoor
