/-
  Part by value: the law's copies, places in memory.
-/
import Derived.Test.YtmhiekfnkbldeaaDoorMem
import Derived.Test.YtmhiekfnkbldeaaDoorUnits
import Derived.Test.YtmhiekfnkbldeaaDoorName
namespace Go.Proofs.YtmhiekfnkbldeaaDoor
open Go.ChangeShapes Go.WideShapes Go.ChangeAt Go.RowKit Go.Deep
set_option linter.unusedVariables false
set_option linter.unusedSimpArgs false
set_option maxRecDepth 1000000
structure Prt where
  id : ByteArray
  plc : Int
  mas : Int
def PrtAt (w : World) (g o : Nat) (x : Prt) : Prop := w.cell? ⟨g, o, none⟩ = some (.string x.id) ∧ w.cell? ⟨g, o + 1, none⟩ = some (.int .i64 x.plc) ∧ w.cell? ⟨g, o + 2, none⟩ = some (.int .i64 x.mas)
theorem PrtAt.below {w w' : World} {g o : Nat} {x : Prt} (h : PrtAt w g o x) (hg : g < w.heap.size) (hb : Below w.heap.size w w') : PrtAt w' g o x :=
  ⟨(hb.cell (p := ⟨g, _, none⟩) hg).trans h.1, (hb.cell (p := ⟨g, _, none⟩) hg).trans h.2.1, (hb.cell (p := ⟨g, _, none⟩) hg).trans h.2.2⟩
theorem prt_box (s : ByteArray) (a : Int) (b : Int) (w : World) : PrtAt (w.alloc (.cells #[.string s, .int .i64 a, .int .i64 b] 43)) w.heap.size 0 ⟨s, a, b⟩ :=
  ⟨cellB (heap_alloc_new _ _) 0 _ rfl, cellB (heap_alloc_new _ _) 1 _ rfl, cellB (heap_alloc_new _ _) 2 _ rfl⟩
set_option maxHeartbeats 1000000 in
theorem toPart_any (s : ByteArray) (a : Int) (b : Int) (w : World) : Calls Tryd.prog 23 #[.agg #[.string s, .int .i64 a, .int .i64 b]] w fun e w' => e = .returned (.agg #[.string s, .int .i64 a, .int .i64 b]) ∧ Below w.heap.size w w' := by
  go_enter Tryd.func23, Tryd.ntmps23
  go_wp2
  exact bodyPost_ret (v := .agg #[.string s, .int .i64 a, .int .i64 b]) (by simp [results, Tryd.results23, go_sem]) rfl ⟨rfl, (((Below.refl _ _).alloc (Nat.le_refl _) _).alloc (by simp) _).alloc (by simp; omega) _⟩
theorem szPart_yes (s : ByteArray) (a : Int) (b : Int) (n : Int) (h0 : 0 ≤ n) (h1 : n ≤ 1048576) (h : (s.size : Int) ≤ n) (w : World) : Calls Tryd.prog 17 #[.agg #[.string s, .int .i64 a, .int .i64 b], .int .i64 n] w fun e w' => e = .returned (.int .i64 (n - s.size)) ∧ Below w.heap.size w w' := by
  go_enter Tryd.func17, Tryd.ntmps17
  go_wp2
  go_ret
  exact ⟨rfl, (Below.refl _ _).alloc (Nat.le_refl _) _⟩
theorem szPart_no (s : ByteArray) (a : Int) (b : Int) (n : Int) (h0 : 0 ≤ n) (h1 : n ≤ 1048576) (hs : s.size ≤ maxLen) (h : n < (s.size : Int)) (w : World) : Calls Tryd.prog 17 #[.agg #[.string s, .int .i64 a, .int .i64 b], .int .i64 n] w fun e w' => e = .returned (.int .i64 (-1)) ∧ Below w.heap.size w w' := by
  unfold maxLen at hs
  go_enter Tryd.func17, Tryd.ntmps17
  go_wp2
  go_ret
  exact ⟨rfl, (Below.refl _ _).alloc (Nat.le_refl _) _⟩
theorem eqPart_any (s : ByteArray) (a : Int) (b : Int) (w : World) : Calls Tryd.prog 29 #[.agg #[.string s, .int .i64 a, .int .i64 b], .agg #[.string s, .int .i64 a, .int .i64 b]] w fun e w' => e = .returned (.bool true) ∧ Below w.heap.size w w' := by
  go_enter Tryd.func29, Tryd.ntmps29
  go_wp2
  go_ret
  exact ⟨rfl, ((Below.refl _ _).alloc (Nat.le_refl _) _).alloc (by simp) _⟩
/-- a value that is such a struct -/
def PrtV (w : World) (v : Value) : Prop := ∃ (s : ByteArray) (a : Int) (b : Int), v = .agg #[.string s, .int .i64 a, .int .i64 b] ∧ s.size ≤ maxLen
theorem prt_cells {H : Type} {enc : TypeId × Value → H} {w : World} {base : Nat} {spare : Nat → Bool} {held : Bool} {fuel : Nat} {l : List Value} {x : DataW H × List MemPlace} (h : DataW.trod enc Tryd.prog w base spare held fuel 38 l = some x) (hl : l.length = 3) :
    ∃ (s : ByteArray) (a : Int) (b : Int), l = [.string s, .int .i64 a, .int .i64 b] ∧ s.size ≤ maxLen := by
  match l, hl with
  | [c0, c1, c2], _ =>
    obtain ⟨xs, n, _, _, _, hlen, hg⟩ := DataW.trod_struct Tryd.underlying38 h
    have z1 : (Tryd.prog.cellsOf 9) = 1 := by kernel_rfl
    have z2 : (Tryd.prog.cellsOf 2) = 1 := by kernel_rfl
    match xs, hlen with
    | [y0, y1, y2], _ =>
      have g0 := hg 0 _ rfl
      have g1 := hg 1 _ rfl
      have g2 := hg 2 _ rfl
      simp [z1, z2] at g0 g1 g2
      obtain ⟨s, e0, _, hs⟩ := DataW.trod_string Tryd.underlying9 g0
      obtain ⟨a, e1, _, _⟩ := DataW.trod_int Tryd.underlying2 g1
      obtain ⟨b, e2, _, _⟩ := DataW.trod_int Tryd.underlying2 g2
      simp at e0 e1 e2
      subst e0 e1 e2
      exact ⟨s, a, b, rfl, hs⟩
set_option maxRecDepth 1000000 in
theorem prt_open {H : Type} {enc : TypeId × Value → H} {w : World} {base : Nat} {spare : Nat → Bool} {held : Bool} {r : Reach} {b0 : Nat} {v : Value} {d : DataW H} {p : List MemPlace} (hv : Value.okWide Tryd.prog w r b0 38 v) (h : DataW.Trod enc Tryd.prog w base spare held 38 v d p) : PrtV w v := by
  obtain ⟨cs, rfl, hsz⟩ := okWide_struct Tryd.underlying38 hv
  obtain ⟨l⟩ := cs
  obtain ⟨fuel, hf⟩ := h
  have hC : Tryd.prog.cellsOf 38 = 3 := by kernel_rfl
  obtain ⟨s, a, b, e, hs⟩ := prt_cells hf (by simpa [Value.cells] using hsz.trans hC)
  have e' : l = [.string s, .int .i64 a, .int .i64 b] := by simpa [Value.cells] using e
  subst e'
  exact ⟨s, a, b, rfl, hs⟩
end Go.Proofs.YtmhiekfnkbldeaaDoor
