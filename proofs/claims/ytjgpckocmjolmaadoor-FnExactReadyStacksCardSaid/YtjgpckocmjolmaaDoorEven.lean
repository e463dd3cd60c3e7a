/-
  Even moistures: the package-level points as they are laid, and the contracts.
-/
import Derived.Test.YtjgpckocmjolmaaDoorStkIn
import Derived.Test.YtjgpckocmjolmaaDoorCore2
import Derived.Test.YtjgpckocmjolmaaDoorDryMath
import Derived.Lib.LaidTab
import Derived.Lib.LaidIn
namespace Go.Proofs.YtjgpckocmjolmaaDoor
open Go.ChangeShapes Go.WideShapes Go.ChangeAt Go.RowKit Go.Deep
set_option linter.unusedVariables false
set_option linter.unusedSimpArgs false
theorem var_below {P : Program} {w w' : World} {n : String} {cs : Array Value} (hb : Below w.heap.size w w') (h : w.var? P n = some cs) : w'.var? P n = some cs := by
  unfold World.var? at h ⊢
  cases hg : P.globalNamed n with
  | none => simp [hg] at h
  | some g =>
    simp only [hg, Option.bind_some] at h ⊢
    have hlt : g < w.heap.size := by
      rcases Nat.lt_or_ge g w.heap.size with h' | h'
      · exact h'
      · simp [Array.getElem?_eq_none h'] at h
    rw [hb.block g hlt]; exact h
/-- the points of even moistures lie as their initialiser lays them -/
def EvP (w : World) : Prop := w.var? Tryd.prog "loop.example/g01061/impl.evenPoints" = some #[.int .i64 0, .int .i64 0, .int .i64 300, .int .i64 60, .int .i64 600, .int .i64 110, .int .i64 800, .int .i64 160, .int .i64 1000, .int .i64 280]
theorem EvP.below {w w' : World} (h : EvP w) (hb : Below w.heap.size w w') : EvP w' := var_below hb h
theorem gEv : Tryd.prog.globalNamed "loop.example/g01061/impl.evenPoints" = some 0 := by kernel_rfl
theorem gEvT : (Tryd.prog.globals[0]?).map (·.type) = some 68 := by kernel_rfl
theorem cEvT : Tryd.prog.cellsOf 68 = 10 := by kernel_rfl
theorem cEvE : Tryd.prog.cellsOf 67 = 2 := by kernel_rfl
/-- two cells that read as a point hold its numbers -/
theorem ev_pair {H : Type} {enc : TypeId × Value → H} {w : World} {base : Nat} {spare : Nat → Bool} {held : Bool} {fuel : Nat} {l : List Value} {a b : Int} {p : List MemPlace} (h : DataW.trod enc Tryd.prog w base spare held fuel 67 l = some (.agg [.lit (.int .i64 a), .lit (.int .i64 b)], p)) (hl : l.length = 2) : l = [.int .i64 a, .int .i64 b] := by
  match l, hl with
  | [c0, c1], _ =>
    obtain ⟨xs, n, e, hx0, _, hlen, hg⟩ := DataW.trod_struct Tryd.underlying67 h
    have z2 : (Tryd.prog.cellsOf 2) = 1 := by kernel_rfl
    match xs, hlen with
    | [y0, y1], _ =>
      have g0 := hg 0 _ rfl
      have g1 := hg 1 _ rfl
      simp [z2] at g0 g1
      obtain ⟨a', e0, q0, _⟩ := DataW.trod_int Tryd.underlying2 g0
      obtain ⟨b', e1, q1, _⟩ := DataW.trod_int Tryd.underlying2 g1
      simp at e0 e1
      subst e0 e1
      have hx := congrArg Prod.fst hx0
      simp [q0, q1] at hx
      obtain ⟨rfl, rfl⟩ := hx
      rfl
def evL : List (Int × Int) := [(0, 0), (300, 60), (600, 110), (800, 160), (1000, 280)]
theorem ev_cells {H : Type} {enc : TypeId × Value → H} {w : World} {base : Nat} {spare : Nat → Bool} {held : Bool} {fuel : Nat} {cs : List Value} {p : List MemPlace}
    (h : DataW.trod enc Tryd.prog w base spare held fuel 68 cs = some (.agg (evL.map fun z => .agg [.lit (.int .i64 z.1), .lit (.int .i64 z.2)]), p)) :
    cs = [.int .i64 0, .int .i64 0, .int .i64 300, .int .i64 60, .int .i64 600, .int .i64 110, .int .i64 800, .int .i64 160, .int .i64 1000, .int .i64 280] := by
  cases fuel with
  | zero => simp [DataW.trod] at h
  | succ fuel =>
    simp only [DataW.trod, Tryd.underlying68, cEvE, cEvT] at h
    split at h
    · rename_i hl
      obtain ⟨xs, hm, hx⟩ := Option.map_eq_some_iff.1 h
      have hxs : xs.map (·.1) = evL.map fun z => (.agg [.lit (.int .i64 z.1), .lit (.int .i64 z.2)] : DataW H) := by
        have := congrArg Prod.fst hx
        simpa using this
      have one : ∀ i (hi : i < 5), (cs.drop (i * 2)).take 2 = [.int .i64 (evL.getD i (0, 0)).1, .int .i64 (evL.getD i (0, 0)).2] := by
        intro i hi
        obtain ⟨b, hb, hf⟩ := Lib.mapM_at hm i i (by simp [hi])
        have h2 : (xs.map (·.1))[i]? = some b.1 := by simp [hb]
        rw [hxs] at h2
        have h3 : b.1 = .agg [.lit (.int .i64 (evL.getD i (0, 0)).1), .lit (.int .i64 (evL.getD i (0, 0)).2)] := by
          simp only [List.getElem?_map, Option.map_eq_some_iff] at h2
          obtain ⟨z, hz, hzb⟩ := h2
          rw [← hzb, List.getD_eq_getElem?_getD, hz]; rfl
        obtain ⟨b1, b2⟩ := b
        simp only at h3
        subst h3
        exact ev_pair hf (by simp; omega)
      match cs, hl with
      | [a0, a1, a2, a3, a4, a5, a6, a7, a8, a9], _ =>
        have h0 := one 0 (by decide)
        have h1 := one 1 (by decide)
        have h2 := one 2 (by decide)
        have h3 := one 3 (by decide)
        have h4 := one 4 (by decide)
        simp [evL] at h0 h1 h2 h3 h4
        simp [h0, h1, h2, h3, h4]
    · cases h
theorem evP_head {W : World} {rest : List (String × DataW Unit)} (h : laidMet Tryd.prog (("loop.example/g01061/impl.evenPoints", .agg [.agg [.lit (.int .i64 0), .lit (.int .i64 0)], .agg [.lit (.int .i64 300), .lit (.int .i64 60)], .agg [.lit (.int .i64 600), .lit (.int .i64 110)], .agg [.lit (.int .i64 800), .lit (.int .i64 160)], .agg [.lit (.int .i64 1000), .lit (.int .i64 280)]]) :: rest) W) : EvP W := by
  obtain ⟨ps, ⟨g', t', cs, fuel, p, q, hg', ht', hvar, hd, _, _⟩, _⟩ := h
  obtain rfl := Option.some.inj (gEv.symm.trans hg')
  obtain rfl := Option.some.inj (gEvT.symm.trans ht')
  unfold EvP
  rw [hvar]
  have := ev_cells hd
  obtain ⟨l⟩ := cs
  simp only at this
  rw [this]
theorem EvP.cell {W : World} (h : EvP W) (i : Nat) (v : Value) (hv : (#[.int .i64 0, .int .i64 0, .int .i64 300, .int .i64 60, .int .i64 600, .int .i64 110, .int .i64 800, .int .i64 160, .int .i64 1000, .int .i64 280] : Array Value)[i]? = some v) : W.cell? ⟨0, i, none⟩ = some v := by
  rw [World.var?_cell gEv h i, hv]
/-- the even moisture of a humidity -/
def evenV (h : Int) : Int := if h ≤ 0 then lineR 0 0 0 0 h else if h ≤ 300 then lineR 0 0 300 60 h else if h ≤ 600 then lineR 300 60 600 110 h else if h ≤ 800 then lineR 600 110 800 160 h else if h ≤ 1000 then lineR 800 160 1000 280 h else 280
theorem even_low {h : Int} (h0 : h ≤ 300) : evenV h = lineR 0 0 300 60 h := by
  unfold evenV
  by_cases h1 : h ≤ 0
  · rw [if_pos h1]; unfold lineR; rw [if_pos h1, if_pos h1]
  · rw [if_neg h1, if_pos h0]
theorem lineR_in {x0 y0 x1 y1 h : Int} (hx : x0 < x1) (hy : y0 ≤ y1) : y0 ≤ lineR x0 y0 x1 y1 h ∧ lineR x0 y0 x1 y1 h ≤ y1 := by
  unfold lineR
  by_cases h1 : h ≤ x0
  · rw [if_pos h1]; omega
  rw [if_neg h1, if_neg (by omega)]
  by_cases h2 : x1 ≤ h
  · rw [if_pos h2]; omega
  rw [if_neg h2]
  have a := rnd_nonneg (a := (y1 - y0) * (h - x0)) (b := x1 - x0) (by omega) (Int.mul_nonneg (by omega) (by omega))
  have b := rnd_mono (a := (y1 - y0) * (h - x0)) (a' := (y1 - y0) * (x1 - x0)) (b := x1 - x0) (by omega) (Int.mul_le_mul_of_nonneg_left (by omega) (by omega))
  have c : rnd ((y1 - y0) * (x1 - x0)) (x1 - x0) ≤ y1 - y0 := by
    have u := rnd_upper (a := (y1 - y0) * (x1 - x0)) (b := x1 - x0) (by omega)
    rcases Int.lt_or_le (y1 - y0) (rnd ((y1 - y0) * (x1 - x0)) (x1 - x0)) with g | g
    · have v : (x1 - x0) * (y1 - y0 + 1) ≤ (x1 - x0) * rnd ((y1 - y0) * (x1 - x0)) (x1 - x0) := Int.mul_le_mul_of_nonneg_left (by omega) (by omega)
      rw [Int.mul_add, Int.mul_comm (x1 - x0) (y1 - y0)] at v
      omega
    · exact g
  omega
theorem lineR_mono {x0 y0 x1 y1 h h' : Int} (hx : x0 < x1) (hy : y0 ≤ y1) (hh : h ≤ h') : lineR x0 y0 x1 y1 h ≤ lineR x0 y0 x1 y1 h' := by
  have i1 := lineR_in (h := h) hx hy
  have i2 := lineR_in (h := h') hx hy
  have e1 : ∀ z, z ≤ x0 → lineR x0 y0 x1 y1 z = y0 := fun z hz => by unfold lineR; rw [if_pos hz]
  have e2 : ∀ z, x1 ≤ z → lineR x0 y0 x1 y1 z = y1 := fun z hz => by unfold lineR; rw [if_neg (by omega), if_neg (by omega), if_pos hz]
  have e3 : ∀ z, x0 < z → z < x1 → lineR x0 y0 x1 y1 z = y0 + rnd ((y1 - y0) * (z - x0)) (x1 - x0) := fun z hz hz2 => by unfold lineR; rw [if_neg (by omega), if_neg (by omega), if_neg (by omega)]
  by_cases h1 : h ≤ x0
  · rw [e1 h h1]; exact i2.1
  by_cases h2 : x1 ≤ h'
  · rw [e2 h' h2]; exact i1.2
  rw [e3 h (by omega) (by omega), e3 h' (by omega) (by omega)]
  have := rnd_mono (a := (y1 - y0) * (h - x0)) (a' := (y1 - y0) * (h' - x0)) (b := x1 - x0) (by omega) (Int.mul_le_mul_of_nonneg_left (by omega) (by omega))
  omega
theorem even_in (h : Int) : 0 ≤ evenV h ∧ evenV h ≤ 280 := by
  have a := lineR_in (x0 := 0) (y0 := 0) (x1 := 300) (y1 := 60) (h := h) (by decide) (by decide)
  have b := lineR_in (x0 := 300) (y0 := 60) (x1 := 600) (y1 := 110) (h := h) (by decide) (by decide)
  have c := lineR_in (x0 := 600) (y0 := 110) (x1 := 800) (y1 := 160) (h := h) (by decide) (by decide)
  have d := lineR_in (x0 := 800) (y0 := 160) (x1 := 1000) (y1 := 280) (h := h) (by decide) (by decide)
  by_cases h0 : h ≤ 300
  · rw [even_low h0]; omega
  unfold evenV
  rw [if_neg (by omega), if_neg h0]
  split
  · omega
  split
  · omega
  split <;> omega
theorem even_mono {h h' : Int} (hh : h ≤ h') : evenV h ≤ evenV h' := by
  have key : ∀ z : Int, evenV z = if z ≤ 300 then lineR 0 0 300 60 z else if z ≤ 600 then lineR 300 60 600 110 z else if z ≤ 800 then lineR 600 110 800 160 z else if z ≤ 1000 then lineR 800 160 1000 280 z else 280 := fun z => by
    by_cases h0 : z ≤ 300
    · rw [even_low h0, if_pos h0]
    · rw [if_neg h0]; unfold evenV; rw [if_neg (by omega), if_neg h0]
  rw [key h, key h']
  have a1 := lineR_in (x0 := 0) (y0 := 0) (x1 := 300) (y1 := 60) (h := h) (by decide) (by decide)
  have b1 := lineR_in (x0 := 300) (y0 := 60) (x1 := 600) (y1 := 110) (h := h) (by decide) (by decide)
  have c1 := lineR_in (x0 := 600) (y0 := 110) (x1 := 800) (y1 := 160) (h := h) (by decide) (by decide)
  have d1 := lineR_in (x0 := 800) (y0 := 160) (x1 := 1000) (y1 := 280) (h := h) (by decide) (by decide)
  have a2 := lineR_in (x0 := 0) (y0 := 0) (x1 := 300) (y1 := 60) (h := h') (by decide) (by decide)
  have b2 := lineR_in (x0 := 300) (y0 := 60) (x1 := 600) (y1 := 110) (h := h') (by decide) (by decide)
  have c2 := lineR_in (x0 := 600) (y0 := 110) (x1 := 800) (y1 := 160) (h := h') (by decide) (by decide)
  have d2 := lineR_in (x0 := 800) (y0 := 160) (x1 := 1000) (y1 := 280) (h := h') (by decide) (by decide)
  have ma := lineR_mono (x0 := 0) (y0 := 0) (x1 := 300) (y1 := 60) (by decide) (by decide) hh
  have mb := lineR_mono (x0 := 300) (y0 := 60) (x1 := 600) (y1 := 110) (by decide) (by decide) hh
  have mc := lineR_mono (x0 := 600) (y0 := 110) (x1 := 800) (y1 := 160) (by decide) (by decide) hh
  have md := lineR_mono (x0 := 800) (y0 := 160) (x1 := 1000) (y1 := 280) (by decide) (by decide) hh
  clear key
  by_cases e1 : h' ≤ 300
  · rw [if_pos e1, if_pos (by omega : h ≤ 300)]; exact ma
  by_cases e2 : h' ≤ 600
  · rw [if_neg e1, if_pos e2, if_pos (by omega : h ≤ 600)]; split <;> omega
  by_cases e3 : h' ≤ 800
  · rw [if_neg e1, if_neg e2, if_pos e3, if_pos (by omega : h ≤ 800)]; split <;> (try split) <;> omega
  by_cases e4 : h' ≤ 1000
  · rw [if_neg e1, if_neg e2, if_neg e3, if_pos e4, if_pos (by omega : h ≤ 1000)]; split <;> (try split) <;> (try split) <;> omega
  · rw [if_neg e1, if_neg e2, if_neg e3, if_neg e4]; split <;> (try split) <;> (try split) <;> (try split) <;> omega
theorem below_al {w wr : World} {B : Nat} (h : Below w.heap.size w wr) (hB : w.heap.size = B) (hlt : B < wr.heap.size) (o : Obj) : Below w.heap.size w (wr.alloc o) := h.alloc h.size o
theorem below_st {w wr : World} {B : Nat} (h : Below w.heap.size w wr) (hB : w.heap.size = B) (hlt : B < wr.heap.size) (o : Obj) (i j : Nat) (u v : Value) : Below w.heap.size w (((wr.setCell ⟨B, i, none⟩ u).setCell ⟨B, j, none⟩ v).alloc o) :=
  ((h.setCell (p := ⟨B, i, none⟩) (Nat.le_of_eq hB) u).setCell (p := ⟨B, j, none⟩) (Nat.le_of_eq hB) v).alloc (by simp; exact h.size) o
theorem st2 {wr : World} {B : Nat} {x y x' y' : Value} {o : Obj} (c0 : wr.cell? ⟨B, 0, none⟩ = some x') (c1 : wr.cell? ⟨B, 1, none⟩ = some y') (f0 : wr.frozen? ⟨B, 0, none⟩ = false) (f1 : wr.frozen? ⟨B, 1, none⟩ = false) (hlt : B < wr.heap.size) :
    (((wr.setCell ⟨B, 0, none⟩ x).setCell ⟨B, 1, none⟩ y).alloc o).cell? ⟨B, 0, none⟩ = some x ∧ (((wr.setCell ⟨B, 0, none⟩ x).setCell ⟨B, 1, none⟩ y).alloc o).cell? ⟨B, 1, none⟩ = some y ∧
    (((wr.setCell ⟨B, 0, none⟩ x).setCell ⟨B, 1, none⟩ y).alloc o).frozen? ⟨B, 0, none⟩ = false ∧ (((wr.setCell ⟨B, 0, none⟩ x).setCell ⟨B, 1, none⟩ y).alloc o).frozen? ⟨B, 1, none⟩ = false ∧ B < (((wr.setCell ⟨B, 0, none⟩ x).setCell ⟨B, 1, none⟩ y).alloc o).heap.size := by
  have hz : B < ((wr.setCell ⟨B, 0, none⟩ x).setCell ⟨B, 1, none⟩ y).heap.size := by simpa using hlt
  refine ⟨?_, ?_, ?_, ?_, ?_⟩
  · rw [World.cell?_alloc_past _ _ _ hz, World.cell?_setCell_other _ _ _ _ (by simp), World.cell?_setCell_same _ _ _ c0]
  · rw [World.cell?_alloc_past _ _ _ hz, World.cell?_setCell_same _ _ _ (u := y') (by rw [World.cell?_setCell_other _ _ _ _ (by simp)]; exact c1)]
  · rw [World.frozen?_alloc_past _ _ _ hz, World.frozen?_setCell, World.frozen?_setCell]; exact f0
  · rw [World.frozen?_alloc_past _ _ _ hz, World.frozen?_setCell, World.frozen?_setCell]; exact f1
  · simp; omega
set_option maxHeartbeats 3200000 in
theorem evenMoisture_any (h : Int) (w : World) (hE : EvP w) : Calls Tryd.prog 43 #[.int .i64 h] w fun e w' => e = .returned (.int .i64 (evenV h)) ∧ Below w.heap.size w w' := by
  have hv0 : Hid (evenV h = if h ≤ 0 then lineR 0 0 0 0 h else if h ≤ 300 then lineR 0 0 300 60 h else if h ≤ 600 then lineR 300 60 600 110 h else if h ≤ 800 then lineR 600 110 800 160 h else if h ≤ 1000 then lineR 800 160 1000 280 h else 280) := Lib.hid rfl
  have p0 : w.cell? ⟨0, 0, none⟩ = some (.int .i64 0) := hE.cell 0 _ rfl
  have p1 : w.cell? ⟨0, 1, none⟩ = some (.int .i64 0) := hE.cell 1 _ rfl
  have p2 : w.cell? ⟨0, 2, none⟩ = some (.int .i64 300) := hE.cell 2 _ rfl
  have p3 : w.cell? ⟨0, 3, none⟩ = some (.int .i64 60) := hE.cell 3 _ rfl
  have p4 : w.cell? ⟨0, 4, none⟩ = some (.int .i64 600) := hE.cell 4 _ rfl
  have p5 : w.cell? ⟨0, 5, none⟩ = some (.int .i64 110) := hE.cell 5 _ rfl
  have p6 : w.cell? ⟨0, 6, none⟩ = some (.int .i64 800) := hE.cell 6 _ rfl
  have p7 : w.cell? ⟨0, 7, none⟩ = some (.int .i64 160) := hE.cell 7 _ rfl
  have p8 : w.cell? ⟨0, 8, none⟩ = some (.int .i64 1000) := hE.cell 8 _ rfl
  have p9 : w.cell? ⟨0, 9, none⟩ = some (.int .i64 280) := hE.cell 9 _ rfl
  have hlt : 0 < w.heap.size := World.block_lt_of_cell? w _ p0
  have i0 : ∀ w, (Instr.index 68 (.agg #[.int .i64 0, .int .i64 0, .int .i64 300, .int .i64 60, .int .i64 600, .int .i64 110, .int .i64 800, .int .i64 160, .int .i64 1000, .int .i64 280]) (.int .i64 0)).run Tryd.prog w = .ok (.agg #[.int .i64 0, .int .i64 0]) w := fun _ => by kernel_rfl
  have i1 : ∀ w, (Instr.index 68 (.agg #[.int .i64 0, .int .i64 0, .int .i64 300, .int .i64 60, .int .i64 600, .int .i64 110, .int .i64 800, .int .i64 160, .int .i64 1000, .int .i64 280]) (.int .i64 1)).run Tryd.prog w = .ok (.agg #[.int .i64 300, .int .i64 60]) w := fun _ => by kernel_rfl
  have i2 : ∀ w, (Instr.index 68 (.agg #[.int .i64 0, .int .i64 0, .int .i64 300, .int .i64 60, .int .i64 600, .int .i64 110, .int .i64 800, .int .i64 160, .int .i64 1000, .int .i64 280]) (.int .i64 2)).run Tryd.prog w = .ok (.agg #[.int .i64 600, .int .i64 110]) w := fun _ => by kernel_rfl
  have i3 : ∀ w, (Instr.index 68 (.agg #[.int .i64 0, .int .i64 0, .int .i64 300, .int .i64 60, .int .i64 600, .int .i64 110, .int .i64 800, .int .i64 160, .int .i64 1000, .int .i64 280]) (.int .i64 3)).run Tryd.prog w = .ok (.agg #[.int .i64 800, .int .i64 160]) w := fun _ => by kernel_rfl
  have i4 : ∀ w, (Instr.index 68 (.agg #[.int .i64 0, .int .i64 0, .int .i64 300, .int .i64 60, .int .i64 600, .int .i64 110, .int .i64 800, .int .i64 160, .int .i64 1000, .int .i64 280]) (.int .i64 4)).run Tryd.prog w = .ok (.agg #[.int .i64 1000, .int .i64 280]) w := fun _ => by kernel_rfl
  go_enter Tryd.func43, Tryd.ntmps43
  go_wp2
  clear p0 p1 p2 p3 p4 p5 p6 p7 p8 p9 hE hlt
  have q0 := cellB (heap_alloc_new w (.cells #[.int .i64 0, .int .i64 0] 67)) 0 _ rfl
  have q1 := cellB (heap_alloc_new w (.cells #[.int .i64 0, .int .i64 0] 67)) 1 _ rfl
  have qf := freeB (heap_alloc_new w (.cells #[.int .i64 0, .int .i64 0] 67)) 0
  have qg := freeB (heap_alloc_new w (.cells #[.int .i64 0, .int .i64 0] 67)) 1
  have hB : Below w.heap.size w (w.alloc (.cells #[.int .i64 0, .int .i64 0] 67)) := (Below.refl _ _).alloc (Nat.le_refl _) _
  have hz : w.heap.size < (w.alloc (.cells #[.int .i64 0, .int .i64 0] 67)).heap.size := by simp
  generalize w.alloc (.cells #[.int .i64 0, .int .i64 0] 67) = W0 at q0 q1 qf qg hB hz ⊢
  generalize hBB : w.heap.size = B at q0 q1 qf qg hz ⊢
  have hB' := Lib.hid hB
  have hBB' := Lib.hid hBB
  clear hB hBB
  go_loopw [9] (fun i wr => ∃ k : Nat, k ≤ 5 ∧ i = .int .i64 k ∧ wr.cell? ⟨B, 0, none⟩ = some (.int .i64 (evL.getD (k - 1) (0, 0)).1) ∧ wr.cell? ⟨B, 1, none⟩ = some (.int .i64 (evL.getD (k - 1) (0, 0)).2) ∧ wr.frozen? ⟨B, 0, none⟩ = false ∧ wr.frozen? ⟨B, 1, none⟩ = false ∧ B < wr.heap.size ∧ Hid (1 ≤ k → (evL.getD (k - 1) (0, 0)).1 < h) ∧ Hid (Below w.heap.size w wr)) (fun i _ => 5 - (intOf i).toNat)
  case atStart => exact ⟨0, by omega, rfl, q0, q1, qf, qg, hz, Lib.hid (by omega), hB'⟩
  case round =>
    obtain ⟨k, hk, rfl, c0, c1, f0, f1, hlt, hpast, hbel⟩ := hrel
    rcases (show k = 0 ∨ k = 1 ∨ k = 2 ∨ k = 3 ∨ k = 4 ∨ k = 5 by omega) with rfl | rfl | rfl | rfl | rfl | rfl
    · have c0' : wr.cell? ⟨B, 0, none⟩ = some (.int .i64 0) := c0
      have c1' : wr.cell? ⟨B, 1, none⟩ = some (.int .i64 0) := c1
      clear c0 c1
      by_cases hh : h ≤ 0
      · have hv : Hid (evenV h = lineR 0 0 0 0 h) := Lib.hid (by
          rw [hv0.out, if_pos hh])
        go_wp2_with (go_at_call 51; refine (onLine_any _ _ _ _ _ (by omega) (by omega) (by omega) (by omega) (by omega) (by omega) (by omega) (by omega) _).mono ?_; rintro e w' ⟨rfl, n, rfl⟩)
        go_ret
        exact ⟨ret_int hv.out.symm, belowN (below_al hbel.out hBB'.out hlt _) _⟩
      · go_wp2
        go_roundw
        case rel =>
          obtain ⟨d0, d1, d2, d3, d4⟩ := st2 (x := .int .i64 0) (y := .int .i64 0) (o := .cells #[.int .i64 0, .int .i64 0] 67) c0' c1' f0 f1 hlt
          exact ⟨1, by omega, by go_num, d0, d1, d2, d3, d4, Lib.hid (fun _ => by simp [evL]; omega), Lib.hid (below_st hbel.out hBB'.out hlt _ _ _ _ _)⟩
        case measure => simp [intOf]
    · have c0' : wr.cell? ⟨B, 0, none⟩ = some (.int .i64 0) := c0
      have c1' : wr.cell? ⟨B, 1, none⟩ = some (.int .i64 0) := c1
      clear c0 c1
      by_cases hh : h ≤ 300
      · have hv : Hid (evenV h = lineR 0 0 300 60 h) := Lib.hid (by
          have hp := hpast.out (by omega)
          have hp' : (0 : Int) < h := hp
          rw [hv0.out, if_neg (by omega : ¬ h ≤ 0), if_pos hh])
        go_wp2_with (go_at_call 51; refine (onLine_any _ _ _ _ _ (by omega) (by omega) (by omega) (by omega) (by omega) (by omega) (by omega) (by omega) _).mono ?_; rintro e w' ⟨rfl, n, rfl⟩)
        go_ret
        exact ⟨ret_int hv.out.symm, belowN (below_al hbel.out hBB'.out hlt _) _⟩
      · go_wp2
        go_roundw
        case rel =>
          obtain ⟨d0, d1, d2, d3, d4⟩ := st2 (x := .int .i64 300) (y := .int .i64 60) (o := .cells #[.int .i64 300, .int .i64 60] 67) c0' c1' f0 f1 hlt
          exact ⟨2, by omega, by go_num, d0, d1, d2, d3, d4, Lib.hid (fun _ => by simp [evL]; omega), Lib.hid (below_st hbel.out hBB'.out hlt _ _ _ _ _)⟩
        case measure => simp [intOf]
    · have c0' : wr.cell? ⟨B, 0, none⟩ = some (.int .i64 300) := c0
      have c1' : wr.cell? ⟨B, 1, none⟩ = some (.int .i64 60) := c1
      clear c0 c1
      by_cases hh : h ≤ 600
      · have hv : Hid (evenV h = lineR 300 60 600 110 h) := Lib.hid (by
          have hp := hpast.out (by omega)
          have hp' : (300 : Int) < h := hp
          rw [hv0.out, if_neg (by omega : ¬ h ≤ 0), if_neg (by omega : ¬ h ≤ 300), if_pos hh])
        go_wp2_with (go_at_call 51; refine (onLine_any _ _ _ _ _ (by omega) (by omega) (by omega) (by omega) (by omega) (by omega) (by omega) (by omega) _).mono ?_; rintro e w' ⟨rfl, n, rfl⟩)
        go_ret
        exact ⟨ret_int hv.out.symm, belowN (below_al hbel.out hBB'.out hlt _) _⟩
      · go_wp2
        go_roundw
        case rel =>
          obtain ⟨d0, d1, d2, d3, d4⟩ := st2 (x := .int .i64 600) (y := .int .i64 110) (o := .cells #[.int .i64 600, .int .i64 110] 67) c0' c1' f0 f1 hlt
          exact ⟨3, by omega, by go_num, d0, d1, d2, d3, d4, Lib.hid (fun _ => by simp [evL]; omega), Lib.hid (below_st hbel.out hBB'.out hlt _ _ _ _ _)⟩
        case measure => simp [intOf]
    · have c0' : wr.cell? ⟨B, 0, none⟩ = some (.int .i64 600) := c0
      have c1' : wr.cell? ⟨B, 1, none⟩ = some (.int .i64 110) := c1
      clear c0 c1
      by_cases hh : h ≤ 800
      · have hv : Hid (evenV h = lineR 600 110 800 160 h) := Lib.hid (by
          have hp := hpast.out (by omega)
          have hp' : (600 : Int) < h := hp
          rw [hv0.out, if_neg (by omega : ¬ h ≤ 0), if_neg (by omega : ¬ h ≤ 300), if_neg (by omega : ¬ h ≤ 600), if_pos hh])
        go_wp2_with (go_at_call 51; refine (onLine_any _ _ _ _ _ (by omega) (by omega) (by omega) (by omega) (by omega) (by omega) (by omega) (by omega) _).mono ?_; rintro e w' ⟨rfl, n, rfl⟩)
        go_ret
        exact ⟨ret_int hv.out.symm, belowN (below_al hbel.out hBB'.out hlt _) _⟩
      · go_wp2
        go_roundw
        case rel =>
          obtain ⟨d0, d1, d2, d3, d4⟩ := st2 (x := .int .i64 800) (y := .int .i64 160) (o := .cells #[.int .i64 800, .int .i64 160] 67) c0' c1' f0 f1 hlt
          exact ⟨4, by omega, by go_num, d0, d1, d2, d3, d4, Lib.hid (fun _ => by simp [evL]; omega), Lib.hid (below_st hbel.out hBB'.out hlt _ _ _ _ _)⟩
        case measure => simp [intOf]
    · have c0' : wr.cell? ⟨B, 0, none⟩ = some (.int .i64 800) := c0
      have c1' : wr.cell? ⟨B, 1, none⟩ = some (.int .i64 160) := c1
      clear c0 c1
      by_cases hh : h ≤ 1000
      · have hv : Hid (evenV h = lineR 800 160 1000 280 h) := Lib.hid (by
          have hp := hpast.out (by omega)
          have hp' : (800 : Int) < h := hp
          rw [hv0.out, if_neg (by omega : ¬ h ≤ 0), if_neg (by omega : ¬ h ≤ 300), if_neg (by omega : ¬ h ≤ 600), if_neg (by omega : ¬ h ≤ 800), if_pos hh])
        go_wp2_with (go_at_call 51; refine (onLine_any _ _ _ _ _ (by omega) (by omega) (by omega) (by omega) (by omega) (by omega) (by omega) (by omega) _).mono ?_; rintro e w' ⟨rfl, n, rfl⟩)
        go_ret
        exact ⟨ret_int hv.out.symm, belowN (below_al hbel.out hBB'.out hlt _) _⟩
      · go_wp2
        go_roundw
        case rel =>
          obtain ⟨d0, d1, d2, d3, d4⟩ := st2 (x := .int .i64 1000) (y := .int .i64 280) (o := .cells #[.int .i64 1000, .int .i64 280] 67) c0' c1' f0 f1 hlt
          exact ⟨5, by omega, by go_num, d0, d1, d2, d3, d4, Lib.hid (fun _ => by simp [evL]; omega), Lib.hid (below_st hbel.out hBB'.out hlt _ _ _ _ _)⟩
        case measure => simp [intOf]
    · have hp := hpast.out (by omega)
      have hp' : (1000 : Int) < h := hp
      have hv : Hid (evenV h = 280) := Lib.hid (by rw [hv0.out, if_neg (by omega), if_neg (by omega), if_neg (by omega), if_neg (by omega), if_neg (by omega)])
      have c1' : wr.cell? ⟨B, 1, none⟩ = some (.int .i64 280) := c1
      go_wp2
      go_ret
      exact ⟨ret_int hv.out.symm, hbel.out⟩
end Go.Proofs.YtjgpckocmjolmaaDoor
