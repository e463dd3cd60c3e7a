/-
  Arc by value: the law's copies, places in memory.
-/
import Derived.Test.YtdgkpghecfpgoaaPt
import Derived.OwnWalk
import Derived.Deep.RegionHeld3
import Derived.Deep.RegionWith
namespace Go.Proofs.Ytdgkpghecfpgoaa
open Go.ChangeShapes Go.WideShapes Go.ChangeAt Go.RowKit Go.Deep
set_option linter.unusedVariables false
set_option linter.unusedSimpArgs false
structure Arc where
  cx : Int
  cy : Int
  fx : Int
  fy : Int
  tx : Int
  ty : Int
def ArcAt (w : World) (g o : Nat) (x : Arc) : Prop := w.cell? ⟨g, o, none⟩ = some (.int .i64 x.cx) ∧ w.cell? ⟨g, o + 1, none⟩ = some (.int .i64 x.cy) ∧ w.cell? ⟨g, o + 2, none⟩ = some (.int .i64 x.fx) ∧ w.cell? ⟨g, o + 3, none⟩ = some (.int .i64 x.fy) ∧ w.cell? ⟨g, o + 4, none⟩ = some (.int .i64 x.tx) ∧ w.cell? ⟨g, o + 5, none⟩ = some (.int .i64 x.ty)
theorem ArcAt.below {w w' : World} {g o : Nat} {x : Arc} (h : ArcAt w g o x) (hg : g < w.heap.size) (hb : Below w.heap.size w w') : ArcAt w' g o x :=
  ⟨(hb.cell (p := ⟨g, _, none⟩) hg).trans h.1, (hb.cell (p := ⟨g, _, none⟩) hg).trans h.2.1, (hb.cell (p := ⟨g, _, none⟩) hg).trans h.2.2.1, (hb.cell (p := ⟨g, _, none⟩) hg).trans h.2.2.2.1, (hb.cell (p := ⟨g, _, none⟩) hg).trans h.2.2.2.2.1, (hb.cell (p := ⟨g, _, none⟩) hg).trans h.2.2.2.2.2⟩
theorem arc_box (a : Int) (b : Int) (c : Int) (d : Int) (p : Int) (s : Int) (w : World) : ArcAt (w.alloc (.cells #[.int .i64 a, .int .i64 b, .int .i64 c, .int .i64 d, .int .i64 p, .int .i64 s] 29)) w.heap.size 0 ⟨a, b, c, d, p, s⟩ :=
  ⟨cellB (heap_alloc_new _ _) 0 _ rfl, cellB (heap_alloc_new _ _) 1 _ rfl, cellB (heap_alloc_new _ _) 2 _ rfl, cellB (heap_alloc_new _ _) 3 _ rfl, cellB (heap_alloc_new _ _) 4 _ rfl, cellB (heap_alloc_new _ _) 5 _ rfl⟩
/-- a value that is such a struct -/
def ArcV (w : World) (v : Value) : Prop := ∃ (a : Int) (b : Int) (c : Int) (d : Int) (p : Int) (s : Int), v = .agg #[.int .i64 a, .int .i64 b, .int .i64 c, .int .i64 d, .int .i64 p, .int .i64 s]
theorem pt_cells {H : Type} {enc : TypeId × Value → H} {w : World} {base : Nat} {spare : Nat → Bool} {held : Bool} {fuel : Nat} {l : List Value} {x : DataW H × List MemPlace} (h : DataW.trod enc Try.prog w base spare held fuel 23 l = some x) (hl : l.length = 2) :
    ∃ (a b : Int), l = [.int .i64 a, .int .i64 b] := by
  match l, hl with
  | [c0, c1], _ =>
    obtain ⟨xs, n, _, _, _, hlen, hg⟩ := DataW.trod_struct Try.underlying23 h
    have z2 : (Try.prog.cellsOf 2) = 1 := by kernel_rfl
    match xs, hlen with
    | [y0, y1], _ =>
      have g0 := hg 0 _ rfl
      have g1 := hg 1 _ rfl
      simp [z2] at g0 g1
      obtain ⟨a, e0, _, _⟩ := DataW.trod_int Try.underlying2 g0
      obtain ⟨b, e1, _, _⟩ := DataW.trod_int Try.underlying2 g1
      simp at e0 e1
      subst e0 e1
      exact ⟨a, b, rfl⟩
theorem arc_cells {H : Type} {enc : TypeId × Value → H} {w : World} {base : Nat} {spare : Nat → Bool} {held : Bool} {fuel : Nat} {l : List Value} {x : DataW H × List MemPlace} (h : DataW.trod enc Try.prog w base spare held fuel 25 l = some x) (hl : l.length = 6) :
    ∃ (a : Int) (b : Int) (c : Int) (d : Int) (p : Int) (s : Int), l = [.int .i64 a, .int .i64 b, .int .i64 c, .int .i64 d, .int .i64 p, .int .i64 s] := by
  match l, hl with
  | [c0, c1, c2, c3, c4, c5], _ =>
    obtain ⟨xs, n, _, _, _, hlen, hg⟩ := DataW.trod_struct Try.underlying25 h
    have z2 : (Try.prog.cellsOf 23) = 2 := by kernel_rfl
    match xs, hlen with
    | [y0, y1, y2], _ =>
      have g0 := hg 0 _ rfl
      have g1 := hg 1 _ rfl
      have g2 := hg 2 _ rfl
      simp [z2] at g0 g1 g2
      obtain ⟨a, b, e0⟩ := pt_cells g0 rfl
      obtain ⟨c, d, e1⟩ := pt_cells g1 rfl
      obtain ⟨p, s, e2⟩ := pt_cells g2 rfl
      simp at e0 e1 e2
      obtain ⟨rfl, rfl⟩ := e0
      obtain ⟨rfl, rfl⟩ := e1
      obtain ⟨rfl, rfl⟩ := e2
      exact ⟨a, b, c, d, p, s, rfl⟩
set_option maxRecDepth 1000000 in
theorem arc_open {H : Type} {enc : TypeId × Value → H} {w : World} {base : Nat} {spare : Nat → Bool} {held : Bool} {r : Reach} {b0 : Nat} {v : Value} {d : DataW H} {p : List MemPlace} (hv : Value.okWide Try.prog w r b0 25 v) (h : DataW.Trod enc Try.prog w base spare held 25 v d p) : ArcV w v := by
  obtain ⟨cs, rfl, hsz⟩ := okWide_struct Try.underlying25 hv
  obtain ⟨l⟩ := cs
  obtain ⟨fuel, hf⟩ := h
  have hC : Try.prog.cellsOf 25 = 6 := by kernel_rfl
  obtain ⟨a, b, c, d, p, s, e⟩ := arc_cells hf (by simpa [Value.cells] using hsz.trans hC)
  have e' : l = [.int .i64 a, .int .i64 b, .int .i64 c, .int .i64 d, .int .i64 p, .int .i64 s] := by simpa [Value.cells] using e
  subst e'
  exact ⟨a, b, c, d, p, s, rfl⟩
end Go.Proofs.Ytdgkpghecfpgoaa
