/-
  Planks that came in: what a walk is told of one.
-/
import Derived.Test.YtfcdhjbnlokinaaPlank2
namespace Go.Proofs.Ytfcdhjbnlokinaa
open Go.ChangeShapes Go.WideShapes Go.ChangeAt Go.RowKit Go.Deep
set_option linter.unusedVariables false
set_option linter.unusedSimpArgs false
/-- a value that is a plank -/
def PlkV (w : World) (v : Value) : Prop := ∃ (s : ByteArray) (a b c d f : Int), v = .agg #[.string s, .int .i64 a, .int .i64 b, .int .i64 c, .int .i64 d, .int .i64 f] ∧ s.size ≤ maxLen
theorem plk_cells {H : Type} {enc : TypeId × Value → H} {w : World} {base : Nat} {spare : Nat → Bool} {held : Bool} {fuel : Nat} {l : List Value} {x : DataW H × List MemPlace} {u : TypeId} (hu : u = 46 ∨ u = 47) (h : DataW.trod enc Try.prog w base spare held fuel u l = some x) (hl : l.length = 6) :
    ∃ (s : ByteArray) (a b c d f : Int), l = [.string s, .int .i64 a, .int .i64 b, .int .i64 c, .int .i64 d, .int .i64 f] ∧ s.size ≤ maxLen := by
  match l, hl with
  | [c0, c1, c2, c3, c4, c5], _ =>
    rcases hu with rfl | rfl
    all_goals
      first
        | obtain ⟨xs, n, _, _, _, hlen, hg⟩ := DataW.trod_struct Try.underlying46 h
        | obtain ⟨xs, n, _, _, _, hlen, hg⟩ := DataW.trod_struct Try.underlying47 h
      have z1 : (Try.prog.cellsOf 9) = 1 := by kernel_rfl
      have z2 : (Try.prog.cellsOf 2) = 1 := by kernel_rfl
      match xs, hlen with
      | [y0, y1, y2, y3, y4, y5], _ =>
        have g0 := hg 0 _ rfl
        have g1 := hg 1 _ rfl
        have g2 := hg 2 _ rfl
        have g3 := hg 3 _ rfl
        have g4 := hg 4 _ rfl
        have g5 := hg 5 _ rfl
        simp [z1, z2] at g0 g1 g2 g3 g4 g5
        obtain ⟨s, e0, _, hs⟩ := DataW.trod_string Try.underlying9 g0
        obtain ⟨a, e1, _, _⟩ := DataW.trod_int Try.underlying2 g1
        obtain ⟨b, e2, _, _⟩ := DataW.trod_int Try.underlying2 g2
        obtain ⟨c, e3, _, _⟩ := DataW.trod_int Try.underlying2 g3
        obtain ⟨d, e4, _, _⟩ := DataW.trod_int Try.underlying2 g4
        obtain ⟨f, e5, _, _⟩ := DataW.trod_int Try.underlying2 g5
        simp at e0 e1 e2 e3 e4 e5
        subst e0 e1 e2 e3 e4 e5
        exact ⟨s, a, b, c, d, f, rfl, hs⟩
set_option maxRecDepth 1000000 in
theorem plk_open {H : Type} {enc : TypeId × Value → H} {w : World} {base : Nat} {spare : Nat → Bool} {held : Bool} {r : Reach} {b0 : Nat} {v : Value} {d : DataW H} {p : List MemPlace} (hv : Value.okWide Try.prog w r b0 46 v) (h : DataW.Trod enc Try.prog w base spare held 46 v d p) : PlkV w v := by
  obtain ⟨cs, rfl, hsz⟩ := okWide_struct Try.underlying46 hv
  obtain ⟨l⟩ := cs
  obtain ⟨fuel, hf⟩ := h
  have hC : Try.prog.cellsOf 46 = 6 := by kernel_rfl
  obtain ⟨s, a, b, c, d, f, e, hs⟩ := plk_cells (Or.inl rfl) hf (by simpa [Value.cells] using hsz.trans hC)
  have e' : l = [.string s, .int .i64 a, .int .i64 b, .int .i64 c, .int .i64 d, .int .i64 f] := by simpa [Value.cells] using e
  subst e'
  exact ⟨s, a, b, c, d, f, rfl, hs⟩
theorem plk_box23 (s : ByteArray) (a b c d f : Int) (w : World) : PlkAt (w.alloc (.cells #[.string s, .int .i64 a, .int .i64 b, .int .i64 c, .int .i64 d, .int .i64 f] 46)) w.heap.size 0 ⟨s, a, b, c, d, f⟩ :=
  ⟨cellB (heap_alloc_new _ _) 0 _ rfl, cellB (heap_alloc_new _ _) 1 _ rfl, cellB (heap_alloc_new _ _) 2 _ rfl, cellB (heap_alloc_new _ _) 3 _ rfl, cellB (heap_alloc_new _ _) 4 _ rfl, cellB (heap_alloc_new _ _) 5 _ rfl⟩
end Go.Proofs.Ytfcdhjbnlokinaa
