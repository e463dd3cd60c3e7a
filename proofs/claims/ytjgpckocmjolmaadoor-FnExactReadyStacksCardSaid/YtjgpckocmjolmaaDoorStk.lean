/-
  Stack by value: the law's copies, places in memory.
-/
import Derived.Test.YtjgpckocmjolmaaDoorMem
import Derived.Test.YtjgpckocmjolmaaDoorUnits
import Derived.Test.YtjgpckocmjolmaaDoorName
namespace Go.Proofs.YtjgpckocmjolmaaDoor
open Go.ChangeShapes Go.WideShapes Go.ChangeAt Go.RowKit Go.Deep
set_option linter.unusedVariables false
set_option linter.unusedSimpArgs false
set_option maxRecDepth 1000000
structure Stk where
  id : ByteArray
  moi : Int
  thk : Int
  sin : Int
def StkAt (w : World) (g o : Nat) (x : Stk) : Prop := w.cell? ⟨g, o, none⟩ = some (.string x.id) ∧ w.cell? ⟨g, o + 1, none⟩ = some (.int .i64 x.moi) ∧ w.cell? ⟨g, o + 2, none⟩ = some (.int .i64 x.thk) ∧ w.cell? ⟨g, o + 3, none⟩ = some (.int .i64 x.sin)
theorem StkAt.below {w w' : World} {g o : Nat} {x : Stk} (h : StkAt w g o x) (hg : g < w.heap.size) (hb : Below w.heap.size w w') : StkAt w' g o x :=
  ⟨(hb.cell (p := ⟨g, _, none⟩) hg).trans h.1, (hb.cell (p := ⟨g, _, none⟩) hg).trans h.2.1, (hb.cell (p := ⟨g, _, none⟩) hg).trans h.2.2.1, (hb.cell (p := ⟨g, _, none⟩) hg).trans h.2.2.2⟩
theorem stk_box (s : ByteArray) (a : Int) (b : Int) (c : Int) (w : World) : StkAt (w.alloc (.cells #[.string s, .int .i64 a, .int .i64 b, .int .i64 c] 40)) w.heap.size 0 ⟨s, a, b, c⟩ :=
  ⟨cellB (heap_alloc_new _ _) 0 _ rfl, cellB (heap_alloc_new _ _) 1 _ rfl, cellB (heap_alloc_new _ _) 2 _ rfl, cellB (heap_alloc_new _ _) 3 _ rfl⟩
set_option maxHeartbeats 1000000 in
theorem toStack_any (s : ByteArray) (a : Int) (b : Int) (c : Int) (w : World) : Calls Tryd.prog 20 #[.agg #[.string s, .int .i64 a, .int .i64 b, .int .i64 c]] w fun e w' => e = .returned (.agg #[.string s, .int .i64 a, .int .i64 b, .int .i64 c]) ∧ Below w.heap.size w w' := by
  go_enter Tryd.func20, Tryd.ntmps20
  go_wp2
  exact bodyPost_ret (v := .agg #[.string s, .int .i64 a, .int .i64 b, .int .i64 c]) (by simp [results, Tryd.results20, go_sem]) rfl ⟨rfl, (((Below.refl _ _).alloc (Nat.le_refl _) _).alloc (by simp) _).alloc (by simp; omega) _⟩
theorem szStack_yes (s : ByteArray) (a : Int) (b : Int) (c : Int) (n : Int) (h0 : 0 ≤ n) (h1 : n ≤ 1048576) (h : (s.size : Int) ≤ n) (w : World) : Calls Tryd.prog 13 #[.agg #[.string s, .int .i64 a, .int .i64 b, .int .i64 c], .int .i64 n] w fun e w' => e = .returned (.int .i64 (n - s.size)) ∧ Below w.heap.size w w' := by
  go_enter Tryd.func13, Tryd.ntmps13
  go_wp2
  go_ret
  exact ⟨rfl, (Below.refl _ _).alloc (Nat.le_refl _) _⟩
theorem szStack_no (s : ByteArray) (a : Int) (b : Int) (c : Int) (n : Int) (h0 : 0 ≤ n) (h1 : n ≤ 1048576) (hs : s.size ≤ maxLen) (h : n < (s.size : Int)) (w : World) : Calls Tryd.prog 13 #[.agg #[.string s, .int .i64 a, .int .i64 b, .int .i64 c], .int .i64 n] w fun e w' => e = .returned (.int .i64 (-1)) ∧ Below w.heap.size w w' := by
  unfold maxLen at hs
  go_enter Tryd.func13, Tryd.ntmps13
  go_wp2
  go_ret
  exact ⟨rfl, (Below.refl _ _).alloc (Nat.le_refl _) _⟩
theorem eqStack_any (s : ByteArray) (a : Int) (b : Int) (c : Int) (w : World) : Calls Tryd.prog 26 #[.agg #[.string s, .int .i64 a, .int .i64 b, .int .i64 c], .agg #[.string s, .int .i64 a, .int .i64 b, .int .i64 c]] w fun e w' => e = .returned (.bool true) ∧ Below w.heap.size w w' := by
  go_enter Tryd.func26, Tryd.ntmps26
  go_wp2
  go_ret
  exact ⟨rfl, ((Below.refl _ _).alloc (Nat.le_refl _) _).alloc (by simp) _⟩
/-- a value that is such a struct -/
def StkV (w : World) (v : Value) : Prop := ∃ (s : ByteArray) (a : Int) (b : Int) (c : Int), v = .agg #[.string s, .int .i64 a, .int .i64 b, .int .i64 c] ∧ s.size ≤ maxLen
theorem stk_cells {H : Type} {enc : TypeId × Value → H} {w : World} {base : Nat} {spare : Nat → Bool} {held : Bool} {fuel : Nat} {l : List Value} {x : DataW H × List MemPlace} (h : DataW.trod enc Tryd.prog w base spare held fuel 36 l = some x) (hl : l.length = 4) :
    ∃ (s : ByteArray) (a : Int) (b : Int) (c : Int), l = [.string s, .int .i64 a, .int .i64 b, .int .i64 c] ∧ s.size ≤ maxLen := by
  match l, hl with
  | [c0, c1, c2, c3], _ =>
    obtain ⟨xs, n, _, _, _, hlen, hg⟩ := DataW.trod_struct Tryd.underlying36 h
    have z1 : (Tryd.prog.cellsOf 9) = 1 := by kernel_rfl
    have z2 : (Tryd.prog.cellsOf 2) = 1 := by kernel_rfl
    match xs, hlen with
    | [y0, y1, y2, y3], _ =>
      have g0 := hg 0 _ rfl
      have g1 := hg 1 _ rfl
      have g2 := hg 2 _ rfl
      have g3 := hg 3 _ rfl
      simp [z1, z2] at g0 g1 g2 g3
      obtain ⟨s, e0, _, hs⟩ := DataW.trod_string Tryd.underlying9 g0
      obtain ⟨a, e1, _, _⟩ := DataW.trod_int Tryd.underlying2 g1
      obtain ⟨b, e2, _, _⟩ := DataW.trod_int Tryd.underlying2 g2
      obtain ⟨c, e3, _, _⟩ := DataW.trod_int Tryd.underlying2 g3
      simp at e0 e1 e2 e3
      subst e0 e1 e2 e3
      exact ⟨s, a, b, c, rfl, hs⟩
set_option maxRecDepth 1000000 in
theorem stk_open {H : Type} {enc : TypeId × Value → H} {w : World} {base : Nat} {spare : Nat → Bool} {held : Bool} {r : Reach} {b0 : Nat} {v : Value} {d : DataW H} {p : List MemPlace} (hv : Value.okWide Tryd.prog w r b0 36 v) (h : DataW.Trod enc Tryd.prog w base spare held 36 v d p) : StkV w v := by
  obtain ⟨cs, rfl, hsz⟩ := okWide_struct Tryd.underlying36 hv
  obtain ⟨l⟩ := cs
  obtain ⟨fuel, hf⟩ := h
  have hC : Tryd.prog.cellsOf 36 = 4 := by kernel_rfl
  obtain ⟨s, a, b, c, e, hs⟩ := stk_cells hf (by simpa [Value.cells] using hsz.trans hC)
  have e' : l = [.string s, .int .i64 a, .int .i64 b, .int .i64 c] := by simpa [Value.cells] using e
  subst e'
  exact ⟨s, a, b, c, rfl, hs⟩
end Go.Proofs.YtjgpckocmjolmaaDoor
