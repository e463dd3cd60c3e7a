/-
  Cord by value: the law's copies, places in memory.
-/
import Derived.Test.YtnenccfmopjcjaaMem
import Derived.Test.YtnenccfmopjcjaaUnits
namespace Go.Proofs.Ytnenccfmopjcjaa
open Go.ChangeShapes Go.WideShapes Go.ChangeAt Go.RowKit Go.Deep
set_option linter.unusedVariables false
set_option linter.unusedSimpArgs false
set_option maxRecDepth 1000000
structure Crd where
  pit : Int
  len : Int
  gau : Int
  str : Int
def CrdAt (w : World) (g o : Nat) (x : Crd) : Prop := w.cell? ⟨g, o, none⟩ = some (.int .i64 x.pit) ∧ w.cell? ⟨g, o + 1, none⟩ = some (.int .i64 x.len) ∧ w.cell? ⟨g, o + 2, none⟩ = some (.int .i64 x.gau) ∧ w.cell? ⟨g, o + 3, none⟩ = some (.int .i64 x.str)
theorem CrdAt.below {w w' : World} {g o : Nat} {x : Crd} (h : CrdAt w g o x) (hg : g < w.heap.size) (hb : Below w.heap.size w w') : CrdAt w' g o x :=
  ⟨(hb.cell (p := ⟨g, _, none⟩) hg).trans h.1, (hb.cell (p := ⟨g, _, none⟩) hg).trans h.2.1, (hb.cell (p := ⟨g, _, none⟩) hg).trans h.2.2.1, (hb.cell (p := ⟨g, _, none⟩) hg).trans h.2.2.2⟩
theorem crd_box (a : Int) (b : Int) (c : Int) (d : Int) (w : World) : CrdAt (w.alloc (.cells #[.int .i64 a, .int .i64 b, .int .i64 c, .int .i64 d] 26)) w.heap.size 0 ⟨a, b, c, d⟩ :=
  ⟨cellB (heap_alloc_new _ _) 0 _ rfl, cellB (heap_alloc_new _ _) 1 _ rfl, cellB (heap_alloc_new _ _) 2 _ rfl, cellB (heap_alloc_new _ _) 3 _ rfl⟩
set_option maxHeartbeats 1000000 in
theorem toCord_any (a : Int) (b : Int) (c : Int) (d : Int) (w : World) : Calls Try.prog 5 #[.agg #[.int .i64 a, .int .i64 b, .int .i64 c, .int .i64 d]] w fun e w' => e = .returned (.agg #[.int .i64 a, .int .i64 b, .int .i64 c, .int .i64 d]) ∧ Below w.heap.size w w' := by
  go_enter Try.func5, Try.ntmps5
  go_wp2
  exact bodyPost_ret (v := .agg #[.int .i64 a, .int .i64 b, .int .i64 c, .int .i64 d]) (by simp [results, Try.results5, go_sem]) rfl ⟨rfl, (((Below.refl _ _).alloc (Nat.le_refl _) _).alloc (by simp) _).alloc (by simp; omega) _⟩
/-- a value that is such a struct -/
def CrdV (w : World) (v : Value) : Prop := ∃ (a : Int) (b : Int) (c : Int) (d : Int), v = .agg #[.int .i64 a, .int .i64 b, .int .i64 c, .int .i64 d]
theorem crd_cells {H : Type} {enc : TypeId × Value → H} {w : World} {base : Nat} {spare : Nat → Bool} {held : Bool} {fuel : Nat} {l : List Value} {x : DataW H × List MemPlace} (h : DataW.trod enc Try.prog w base spare held fuel 23 l = some x) (hl : l.length = 4) :
    ∃ (a : Int) (b : Int) (c : Int) (d : Int), l = [.int .i64 a, .int .i64 b, .int .i64 c, .int .i64 d] := by
  match l, hl with
  | [c0, c1, c2, c3], _ =>
    obtain ⟨xs, n, _, _, _, hlen, hg⟩ := DataW.trod_struct Try.underlying23 h
    have z1 : (Try.prog.cellsOf 9) = 1 := by kernel_rfl
    have z2 : (Try.prog.cellsOf 2) = 1 := by kernel_rfl
    match xs, hlen with
    | [y0, y1, y2, y3], _ =>
      have g0 := hg 0 _ rfl
      have g1 := hg 1 _ rfl
      have g2 := hg 2 _ rfl
      have g3 := hg 3 _ rfl
      simp [z1, z2] at g0 g1 g2 g3
      obtain ⟨a, e0, _, _⟩ := DataW.trod_int Try.underlying2 g0
      obtain ⟨b, e1, _, _⟩ := DataW.trod_int Try.underlying2 g1
      obtain ⟨c, e2, _, _⟩ := DataW.trod_int Try.underlying2 g2
      obtain ⟨d, e3, _, _⟩ := DataW.trod_int Try.underlying2 g3
      simp at e0 e1 e2 e3
      subst e0 e1 e2 e3
      exact ⟨a, b, c, d, rfl⟩
set_option maxRecDepth 1000000 in
theorem crd_open {H : Type} {enc : TypeId × Value → H} {w : World} {base : Nat} {spare : Nat → Bool} {held : Bool} {r : Reach} {b0 : Nat} {v : Value} {d : DataW H} {p : List MemPlace} (hv : Value.okWide Try.prog w r b0 23 v) (h : DataW.Trod enc Try.prog w base spare held 23 v d p) : CrdV w v := by
  obtain ⟨cs, rfl, hsz⟩ := okWide_struct Try.underlying23 hv
  obtain ⟨l⟩ := cs
  obtain ⟨fuel, hf⟩ := h
  have hC : Try.prog.cellsOf 23 = 4 := by kernel_rfl
  obtain ⟨a, b, c, d, e⟩ := crd_cells hf (by simpa [Value.cells] using hsz.trans hC)
  have e' : l = [.int .i64 a, .int .i64 b, .int .i64 c, .int .i64 d] := by simpa [Value.cells] using e
  subst e'
  exact ⟨a, b, c, d, rfl⟩
end Go.Proofs.Ytnenccfmopjcjaa
