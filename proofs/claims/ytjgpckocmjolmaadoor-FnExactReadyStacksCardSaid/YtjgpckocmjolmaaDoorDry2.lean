/-
  The program's drying: one day's change, the sequence of days.
-/
import Derived.Test.YtjgpckocmjolmaaDoorDry
import Derived.Test.YtjgpckocmjolmaaDoorSeq
import Derived.Shelf.Abstract
import Derived.Shelf.RegionOpen
import Derived.OwnWalkIn
import Derived.TacticsInMore
import Derived.LoopNIn
import Derived.LoopIn
namespace Go.Proofs.YtjgpckocmjolmaaDoor
open Go.ChangeShapes Go.WideShapes Go.ChangeAt Go.RowKit Go.Deep
set_option linter.unusedVariables false
set_option linter.unusedSimpArgs false
attribute [local go_sem] Oper.semAt_some
theorem changeTo_any (s : ByteArray) (a : Int) (b : Int) (c : Int) (v : Int) (ha0 : 0 ≤ a) (ha1 : a ≤ 1000) (hb0 : 10 ≤ b) (hb1 : b ≤ 1000) (hv0 : 0 ≤ v) (hv1 : v ≤ 1000) (w : World) : Calls Tryd.prog 45 #[.agg #[.string s, .int .i64 a, .int .i64 b, .int .i64 c], .int .i64 v] w fun e w' => e = .returned (.int .i64 (chgV a v b)) ∧ Below w.heap.size w w' := by
  go_enter Tryd.func45, Tryd.ntmps45
  go_wp2_with (go_at_call 52; refine (nearest_any _ _ (by omega) (by omega) (by omega) (by omega) (by omega) _).mono ?_; rintro e w' ⟨rfl, m, rfl⟩)
  go_ret
  exact ⟨rfl, belowN ((Below.refl _ _).alloc (Nat.le_refl _) _) _⟩
/-- what a day of drying tells: the day, the moisture behind it, its change -/
def dryE (m v t : Int) : Nat → Int × Int × Int
  | 0 => (0, m, 0)
  | k + 1 => ((k : Int) + 1, dryV m v t (k + 1), chgV (dryV m v t k) v t)
/-- the days up to the n-th -/
def dryL (m v t : Int) (n : Nat) : List (Int × Int × Int) := (List.range (n + 1)).map (dryE m v t)
def encD (x : Int × Int × Int) : Value := .agg #[.int .i64 x.1, .int .i64 x.2.1, .int .i64 x.2.2]
theorem dryL_len (m v t : Int) (n : Nat) : (dryL m v t n).length = n + 1 := by simp [dryL]
theorem dryL_snoc (m v t : Int) (k : Nat) : dryL m v t (k + 1) = dryL m v t k ++ [dryE m v t (k + 1)] := by
  unfold dryL; rw [List.range_succ (n := k + 1), List.map_append]; rfl
theorem dryL_pre (m v t : Int) {n k : Nat} (h : k ≤ n) : dryL m v t k <+: dryL m v t n := by
  obtain ⟨j, rfl⟩ : ∃ j, n = k + j := ⟨n - k, by omega⟩
  clear h
  induction j with
  | zero => exact List.prefix_refl _
  | succ j ih => rw [show k + (j + 1) = (k + j) + 1 by omega, dryL_snoc]; exact ih.trans (List.prefix_append _ _)
theorem dryL_zero (m v t : Int) : dryL m v t 0 = [] ++ [(0, m, 0)] := rfl
theorem heap_set {w : World} {b : Nat} {cs : Array Value} {t : TypeId} (h : w.heap[b]? = some (.cells cs t (0, 0))) (i : Nat) (v : Value) (cs' : Array Value) (hc : cs.setIfInBounds i v = cs') : (w.setCell ⟨b, i, none⟩ v).heap[b]? = some (.cells cs' t (0, 0)) := by
  obtain ⟨hlt, hk⟩ := Array.getElem?_eq_some_iff.1 h
  show (w.heap.modify b _)[b]? = _
  rw [Array.getElem?_eq_getElem (by rw [Array.size_modify]; exact hlt), Array.getElem_modify_self, hk, ← hc]
  simp [Array.setIfInBounds]
theorem StkAt.but {b : Nat} {A C : World} (h : CellsBut b A C) {g o : Nat} (hg : g ≠ b) {x : Stk} (hx : StkAt A g o x) : StkAt C g o x := by
  have key : ∀ p : Addr, p.block = g → (A.cell? p).isSome → C.cell? p = A.cell? p := fun p hp hs => by
    obtain ⟨v, hv⟩ := Option.isSome_iff_exists.1 hs
    obtain ⟨q, hq, hc⟩ := cells_of_cell hv
    have := h.same p.block q (by rw [hp]; exact hg) hq hc
    unfold World.cell?
    rw [this, hq]
  obtain ⟨c0, c1, c2, c3⟩ := hx
  exact ⟨(key ⟨g, _, none⟩ rfl (by rw [c0]; rfl)).trans c0, (key ⟨g, _, none⟩ rfl (by rw [c1]; rfl)).trans c1, (key ⟨g, _, none⟩ rfl (by rw [c2]; rfl)).trans c2, (key ⟨g, _, none⟩ rfl (by rw [c3]; rfl)).trans c3⟩
theorem cell_but {b : Nat} {A C : World} (h : CellsBut b A C) {p : Addr} (hg : p.block ≠ b) {v : Value} (hx : A.cell? p = some v) : C.cell? p = some v := by
  obtain ⟨q, hq, hc⟩ := cells_of_cell hx
  have := h.same p.block q hg hq hc
  rw [← hx]; unfold World.cell?; rw [this, hq]
set_option maxHeartbeats 3200000 in
theorem drying1_seq (n bx bd be q : Nat) (s : ByteArray) (a : Int) (b : Int) (c : Int) (dd v : Int) (ha0 : 0 ≤ a) (ha1 : a ≤ 1000) (hb0 : 10 ≤ b) (hb1 : b ≤ 1000) (hv0 : 0 ≤ v) (hv1 : v ≤ 1000) (hd0 : 0 ≤ dd) (hd1 : dd ≤ 4000) (hq1 : q ≠ bx) (hq2 : q ≠ bd) (hq3 : q ≠ be) (w : World) (hqw : q < w.heap.size)
    (hx : StkAt w bx 0 ⟨s, a, b, c⟩) (hd : w.cell? ⟨bd, 0, none⟩ = some (.int .i64 dd)) (he : w.cell? ⟨be, 0, none⟩ = some (.int .i64 v)) :
    SeqB n Tryd.prog 44 #[.pointer (some ⟨bx, 0, none⟩), .pointer (some ⟨bd, 0, none⟩), .pointer (some ⟨be, 0, none⟩)] (fun x => #[encD x]) q (dryL a v b dd.toNat) w := by
  intro l J Jx W hW lowJ lowJx hY h0
  have hbx : bx < w.heap.size := World.block_lt_of_cell? w _ hx.1
  have hbd : bd < w.heap.size := World.block_lt_of_cell? w _ hd
  have hbe : be < w.heap.size := World.block_lt_of_cell? w _ he
  have hx1 := hx.below hbx hW
  have hd1' : W.cell? ⟨bd, 0, none⟩ = some (.int .i64 dd) := (hW.cell (p := ⟨bd, 0, none⟩) hbd).trans hd
  have he1' : W.cell? ⟨be, 0, none⟩ = some (.int .i64 v) := (hW.cell (p := ⟨be, 0, none⟩) hbe).trans he
  obtain ⟨x0, x1, x2, x3⟩ := hx1
  simp only [Nat.zero_add] at x0 x1 x2 x3
  have hBq : W.heap.size ≠ q := by have := hW.size; omega
  have hbe2 : be ≠ W.heap.size := by have := hW.size; omega
  have hbeW : be < W.heap.size := by have := hW.size; omega
  have g0 : (W.alloc (.cells #[.string s, .int .i64 a, .int .i64 b, .int .i64 c] 40)).heap[W.heap.size]? = some (.cells #[.string s, .int .i64 a, .int .i64 b, .int .i64 c] 40 (0, 0)) := heap_alloc_new _ _
  have g1 : (W.alloc (.cells #[.string s, .int .i64 a, .int .i64 b, .int .i64 c] 40)).cell? ⟨be, 0, none⟩ = some (.int .i64 v) := (World.cell?_alloc_past _ _ _ hbeW).trans he1'
  have g2 : J [] (W.alloc (.cells #[.string s, .int .i64 a, .int .i64 b, .int .i64 c] 40)) := lowJ _ _ _ h0 ((Below.refl _ _).alloc (Nat.le_refl _) _)
  have gz : W.heap.size < (W.alloc (.cells #[.string s, .int .i64 a, .int .i64 b, .int .i64 c] 40)).heap.size := by simp
  have hY' := Lib.hid hY
  have lowJ' := Lib.hid lowJ
  obtain ⟨B, hB⟩ : ∃ B, B = W.heap.size := ⟨_, rfl⟩
  clear hY
  obtain ⟨fn, tmps, assign, body, hy, hR⟩ := hY'.out [] (0, a, 0) (W.alloc (.cells #[.string s, .int .i64 a, .int .i64 b, .int .i64 c] 40)) (by rw [← dryL_zero a v b]; exact dryL_pre _ _ _ (Nat.zero_le _)) g2
  have hy' : (Instr.yield l #[.agg #[.int .i64 0, .int .i64 a, .int .i64 0]]).run Tryd.prog (W.alloc (.cells #[.string s, .int .i64 a, .int .i64 b, .int .i64 c] 40)) = .ok (.round l fn tmps assign body) (W.alloc (.cells #[.string s, .int .i64 a, .int .i64 b, .int .i64 c] 40)) := hy
  clear hy g2
  refine callsIn_of_wp Tryd.func44 rfl trivial ?_ rfl
  simp only [Tryd.ntmps44, List.size_toArray, List.length_cons, List.length_nil, Nat.reduceAdd, Nat.reduceSub, Array.replicate_succ, Array.replicate_zero, List.push_toArray, List.append_toArray, List.nil_append, List.cons_append]
  gi_wp2
  refine ⟨fun h => (by cases h), hR.mono ?_⟩
  clear hR hy'
  rintro e W2 (⟨rfl, hJ2, hk2⟩ | ⟨rfl, hJx2⟩)
  rotate_left
  · gi_wp2
    refine bodyPost_ret (results_none rfl _ _ _) rfl ?_
    exact ⟨⟨_, rfl⟩, .inr ⟨[(0, a, 0)], by rw [← List.nil_append [(0, a, 0)], ← dryL_zero a v b]; exact dryL_pre _ _ _ (Nat.zero_le _), hJx2⟩⟩
  have hd2 : W2.cell? ⟨bd, 0, none⟩ = some (.int .i64 dd) := cell_but hk2 (Ne.symm hq2) ((World.cell?_alloc_past _ _ _ (by have := hW.size; omega)).trans hd1')
  have he2 : W2.cell? ⟨be, 0, none⟩ = some (.int .i64 v) := cell_but hk2 (Ne.symm hq3) g1
  have hB2 : W2.heap[B]? = some (.cells #[.string s, .int .i64 a, .int .i64 b, .int .i64 c] 40 (0, 0)) := hk2.same _ _ (by rw [hB]; exact hBq) (by rw [hB]; exact g0) rfl
  have hz2 : W.heap.size ≤ W2.heap.size := Nat.le_trans (by simp) hk2.size
  have hJ3 : Hid (J (dryL a v b 0) W2) := Lib.hid hJ2
  have hB' := Lib.hid hB
  rw [← hB] at hBq hbe2 hbeW hz2 ⊢
  clear hB
  clear hk2 hJ2 g0 g1 gz x0 x1 x2 x3 hd1' he1' hx hd he h0
  gi_wp2_with fail
  gi_loopw [16] (fun i wr => ∃ (k : Nat) (y : Int), (k : Int) ≤ dd ∧ i = .int .i64 k ∧ Hid (y = dryV a v b k) ∧ Hid (J (dryL a v b k) wr) ∧ wr.heap[B]? = some (.cells #[.string s, .int .i64 y, .int .i64 b, .int .i64 c] 40 (0, 0)) ∧ wr.cell? ⟨be, 0, none⟩ = some (.int .i64 v)) (fun i _ => (dd - intOf i).toNat)
  case atStart => exact ⟨0, a, by omega, rfl, Lib.hid rfl, hJ3, hB2, he2⟩
  case round =>
    obtain ⟨k, y, hk, rfl, hy, hJk, hBk, hek⟩ := hrel
    have hb := dry_in (e := v) hb0 ⟨ha0, ha1⟩ ⟨hv0, hv1⟩ k
    rw [← hy.out] at hb
    have hBlt : B < wr.heap.size := lt_of_some hBk
    by_cases hlt : (k : Int) < dd
    · have hc := chg_in (m := y) (e := v) hb0 hb ⟨hv0, hv1⟩
      have hstep : Hid (y + chgV y v b = dryV a v b (k + 1) ∧ chgV y v b = chgV (dryV a v b k) v b) := Lib.hid (by
        refine ⟨?_, by rw [hy.out]⟩
        show _ = dryV a v b k + chgV (dryV a v b k) v b; rw [hy.out])
      have hb2 := dry_in (e := v) hb0 ⟨ha0, ha1⟩ ⟨hv0, hv1⟩ (k + 1)
      rw [← hstep.out.1] at hb2
      have cC := Lib.hid (fun W => changeTo_any s y b c v hb.1 hb.2 hb0 hb1 hv0 hv1 W)
      obtain ⟨ch, hch⟩ : ∃ ch, ch = chgV y v b := ⟨_, rfl⟩
      rw [← hch] at cC hstep hc hb2
      clear hch
      have c0 := cellB hBk 0 _ rfl
      have c1 := cellB hBk 1 _ rfl
      have c2 := cellB hBk 2 _ rfl
      have c3 := cellB hBk 3 _ rfl
      have key : Hid (∀ w2, Below wr.heap.size wr w2 → w2.cell? ⟨B, 1, none⟩ = some (.int .i64 y) ∧ w2.frozen? ⟨B, 1, none⟩ = false ∧
          (w2.setCell ⟨B, 1, none⟩ (.int .i64 (y + ch))).heap[B]? = some (.cells #[.string s, .int .i64 (y + ch), .int .i64 b, .int .i64 c] 40 (0, 0)) ∧
          (w2.setCell ⟨B, 1, none⟩ (.int .i64 (y + ch))).cell? ⟨be, 0, none⟩ = some (.int .i64 v) ∧
          ∃ fn tmps assign body, (Instr.yield l #[.agg #[.int .i64 ((k : Int) + 1), .int .i64 (y + ch), .int .i64 ch]]).run Tryd.prog (w2.setCell ⟨B, 1, none⟩ (.int .i64 (y + ch))) = .ok (.round l fn tmps assign body) (w2.setCell ⟨B, 1, none⟩ (.int .i64 (y + ch))) ∧
            RoundIn Fence.wide (n - 1) Tryd.prog l fn tmps assign body (w2.setCell ⟨B, 1, none⟩ (.int .i64 (y + ch))) fun e W' => (e = .returned (.bool true) ∧ Hid (J (dryL a v b (k + 1)) W') ∧ W'.heap[B]? = some (.cells #[.string s, .int .i64 (y + ch), .int .i64 b, .int .i64 c] 40 (0, 0)) ∧ W'.cell? ⟨be, 0, none⟩ = some (.int .i64 v)) ∨
              (e = .returned (.bool false) ∧ Hid (Jx (dryL a v b (k + 1)) W'))) := Lib.hid (fun w2 b2 => by
        have h1 : w2.heap[B]? = some (.cells #[.string s, .int .i64 y, .int .i64 b, .int .i64 c] 40 (0, 0)) := (b2.block _ hBlt).trans hBk
        have h2 : w2.cell? ⟨be, 0, none⟩ = some (.int .i64 v) := (b2.cell (p := ⟨be, 0, none⟩) (World.block_lt_of_cell? wr ⟨be, 0, none⟩ hek)).trans hek
        have h3 : (w2.setCell ⟨B, 1, none⟩ (.int .i64 (y + ch))).heap[B]? = some (.cells #[.string s, .int .i64 (y + ch), .int .i64 b, .int .i64 c] 40 (0, 0)) := heap_set h1 1 _ _ rfl
        have h4 : (w2.setCell ⟨B, 1, none⟩ (.int .i64 (y + ch))).cell? ⟨be, 0, none⟩ = some (.int .i64 v) := (World.cell?_setCell_other _ _ _ _ (by intro e; injection e with e1; exact hbe2 e1.symm)).trans h2
        have hBW : B = W.heap.size := hB'.out
        have hWr : W.heap.size ≤ wr.heap.size := by omega
        have h5 : J (dryL a v b k) (w2.setCell ⟨B, 1, none⟩ (.int .i64 (y + ch))) := lowJ'.out _ _ _ hJk.out ((b2.mono hWr).setCell (p := ⟨B, 1, none⟩) (Nat.le_of_eq hBW.symm) _)
        have h6 : dryL a v b k ++ [((k : Int) + 1, y + ch, ch)] = dryL a v b (k + 1) := by
          rw [dryL_snoc]; congr 2
          show _ = ((k : Int) + 1, dryV a v b (k + 1), chgV (dryV a v b k) v b)
          rw [← hstep.out.1, ← hstep.out.2]
        obtain ⟨fn, tmps, assign, body, hyy, hR⟩ := hY'.out (dryL a v b k) ((k : Int) + 1, y + ch, ch) _ (by rw [h6]; exact dryL_pre _ _ _ (by omega)) h5
        refine ⟨cellB h1 1 _ rfl, freeB h1 1, h3, h4, fn, tmps, assign, body, hyy, hR.mono ?_⟩
        rintro e W' (⟨rfl, hJ, hk2⟩ | ⟨rfl, hJx⟩)
        · rw [h6] at hJ
          exact .inl ⟨rfl, Lib.hid hJ, hk2.same _ _ hBq h3 rfl, cell_but hk2 (Ne.symm hq3) h4⟩
        · rw [h6] at hJx
          exact .inr ⟨rfl, Lib.hid hJx⟩)
      have hsz := hb
      gi_wp2_with fail
      refine ⟨trivial, (fun h => (by cases h)), (callsIn_wide.2 (cC.out _)).mono ?_⟩
      rintro e w2 ⟨rfl, b2⟩
      obtain ⟨d1, d2, d3, d4, fn2, tmps2, assign2, body2, hy2, hR2⟩ := key.out _ b2
      have hR3 := Lib.hid hR2
      clear hR2 b2 c0 c1 c2 c3
      gi_wp2
      refine ⟨fun h => (by cases h), hR3.out.mono ?_⟩
      clear hR3 hy2 d1 d2 d3 d4 key
      rintro e W5 (⟨rfl, hJ5, hB5, he5⟩ | ⟨rfl, hJx5⟩)
      · gi_wp2
        go_roundw
        case rel => exact ⟨k + 1, y + ch, by omega, by go_num, Lib.hid hstep.out.1, hJ5, hB5, he5⟩
        case measure => simp [intOf]; omega
      · gi_wp2
        refine bodyPost_ret (results_none rfl _ _ _) rfl ?_
        exact ⟨⟨_, rfl⟩, .inr ⟨_, dryL_pre _ _ _ (by omega), hJx5.out⟩⟩
    · have hkd : k = dd.toNat := by omega
      have hfin : Hid (J (dryL a v b dd.toNat) wr) := Lib.hid (hkd ▸ hJk.out)
      clear hkd
      gi_wp2
      go_end0
      exact ⟨⟨_, rfl⟩, .inl hfin.out⟩
end Go.Proofs.YtjgpckocmjolmaaDoor
