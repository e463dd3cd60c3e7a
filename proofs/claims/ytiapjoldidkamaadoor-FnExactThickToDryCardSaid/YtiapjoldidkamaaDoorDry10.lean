/-
  How thick wood may be: the program's and the model's contracts.
-/
import Derived.Test.YtiapjoldidkamaaDoorDry9
import Derived.Laws.EntriesVeiled
namespace Go.Proofs.YtiapjoldidkamaaDoor
open Go.ChangeShapes Go.WideShapes Go.ChangeAt Go.RowKit Go.Deep
set_option linter.unusedVariables false
set_option linter.unusedSimpArgs false
/-- is wood t thick still too wet? -/
def twP (m e z : Int) (n : Nat) (t : Int) : Bool := decide (z < dryV m e t n)
theorem tooWet_any (m h dd z t : Int) (hm0 : 0 ≤ m) (hm1 : m ≤ 1000) (hd0 : 0 ≤ dd) (hd1 : dd ≤ 4000) (ht0 : 10 ≤ t) (ht1 : t ≤ 1000) (bm bh bd bg : Nat) (wr : World) (hE : EvP wr) (c1 : wr.cell? ⟨bm, 0, none⟩ = some (.int .i64 m)) (c2 : wr.cell? ⟨bh, 0, none⟩ = some (.int .i64 h)) (c3 : wr.cell? ⟨bd, 0, none⟩ = some (.int .i64 dd)) (c4 : wr.cell? ⟨bg, 0, none⟩ = some (.int .i64 z)) :
    Calls Tryd.prog 51 #[.int .i64 t, .pointer (some ⟨bm, 0, none⟩), .pointer (some ⟨bh, 0, none⟩), .pointer (some ⟨bd, 0, none⟩), .pointer (some ⟨bg, 0, none⟩)] wr fun e w' => e = .returned (.bool (twP m (evenV h) z dd.toNat t)) ∧ Below wr.heap.size wr w' := by
  have l1 : bm < wr.heap.size := World.block_lt_of_cell? wr _ c1
  have l2 : bh < wr.heap.size := World.block_lt_of_cell? wr _ c2
  have l3 : bd < wr.heap.size := World.block_lt_of_cell? wr _ c3
  have l4 : bg < wr.heap.size := World.block_lt_of_cell? wr _ c4
  have hp : Hid (twP m (evenV h) z dd.toNat t = decide (z < dryV m (evenV h) t dd.toNat)) := Lib.hid rfl
  have cM := Lib.hid (fun W (hh : ((W.cell? ⟨bm, 0, none⟩ = some (.int .i64 m) ∧ W.cell? ⟨bh, 0, none⟩ = some (.int .i64 h) ∧ W.cell? ⟨bd, 0, none⟩ = some (.int .i64 dd) ∧ W.cell? ⟨bg, 0, none⟩ = some (.int .i64 z)) ∧ Below wr.heap.size wr W)) => moistureAfter_any ⟨#[]⟩ m t 0 h dd hm0 hm1 ht0 ht1 hd0 hd1 W (hE.below hh.2))
  obtain ⟨y, hy⟩ : ∃ y, y = dryV m (evenV h) t dd.toNat := ⟨_, rfl⟩
  rw [← hy] at hp cM
  clear hy
  have keep : ∀ W1 W2, ((W1.cell? ⟨bm, 0, none⟩ = some (.int .i64 m) ∧ W1.cell? ⟨bh, 0, none⟩ = some (.int .i64 h) ∧ W1.cell? ⟨bd, 0, none⟩ = some (.int .i64 dd) ∧ W1.cell? ⟨bg, 0, none⟩ = some (.int .i64 z)) ∧ Below wr.heap.size wr W1) → Below W1.heap.size W1 W2 → ((W2.cell? ⟨bm, 0, none⟩ = some (.int .i64 m) ∧ W2.cell? ⟨bh, 0, none⟩ = some (.int .i64 h) ∧ W2.cell? ⟨bd, 0, none⟩ = some (.int .i64 dd) ∧ W2.cell? ⟨bg, 0, none⟩ = some (.int .i64 z)) ∧ Below wr.heap.size wr W2) := fun W1 W2 h1 h2 => by
    obtain ⟨⟨p1, p2, p3, p4⟩, hb⟩ := h1
    have hs := hb.size
    exact ⟨⟨(h2.cell (p := ⟨bm, 0, none⟩) (show bm < _ by omega)).trans p1, (h2.cell (p := ⟨bh, 0, none⟩) (show bh < _ by omega)).trans p2, (h2.cell (p := ⟨bd, 0, none⟩) (show bd < _ by omega)).trans p3, (h2.cell (p := ⟨bg, 0, none⟩) (show bg < _ by omega)).trans p4⟩, hb.trans (h2.mono hs)⟩
  have keepH := Lib.hid keep
  have hS : ((wr.cell? ⟨bm, 0, none⟩ = some (.int .i64 m) ∧ wr.cell? ⟨bh, 0, none⟩ = some (.int .i64 h) ∧ wr.cell? ⟨bd, 0, none⟩ = some (.int .i64 dd) ∧ wr.cell? ⟨bg, 0, none⟩ = some (.int .i64 z)) ∧ Below wr.heap.size wr wr) := ⟨⟨c1, c2, c3, c4⟩, Below.refl _ _⟩
  clear keep hE c1 c2 c3 c4
  go_enter Tryd.func51, Tryd.ntmps51
  go_wp2
  go_region_held3 (fun w' => ((w'.cell? ⟨bm, 0, none⟩ = some (.int .i64 m) ∧ w'.cell? ⟨bh, 0, none⟩ = some (.int .i64 h) ∧ w'.cell? ⟨bd, 0, none⟩ = some (.int .i64 dd) ∧ w'.cell? ⟨bg, 0, none⟩ = some (.int .i64 z)) ∧ Below wr.heap.size wr w'))
    (first | exact ⟨hS.1, belowN hS.2 1⟩ | exact keepH.out _ _ (by assumption) (by assumption) | assumption)
    (first | (go_at_call 46; (with_reducible refine (cM.out _ (by assumption)).mono ?_); rintro e w' ⟨rfl, hbel⟩))
  rename_i hHeld
  go_wp2
  go_ret
  exact ⟨ret_bool hp.out.symm, hHeld.2⟩
def FT (bm bh bd bg : Nat) : Value := .func (.func 51) #[] #[.pointer (some ⟨bm, 0, none⟩), .pointer (some ⟨bh, 0, none⟩), .pointer (some ⟨bd, 0, none⟩), .pointer (some ⟨bg, 0, none⟩)]
theorem tooWet2_any (m h dd z : Int) (hm0 : 0 ≤ m) (hm1 : m ≤ 1000) (hd0 : 0 ≤ dd) (hd1 : dd ≤ 4000) (i : Nat) (hi : i < 990) (bm bh bd bg bf : Nat) (wr : World) (hE : EvP wr) (c1 : wr.cell? ⟨bm, 0, none⟩ = some (.int .i64 m)) (c2 : wr.cell? ⟨bh, 0, none⟩ = some (.int .i64 h)) (c3 : wr.cell? ⟨bd, 0, none⟩ = some (.int .i64 dd)) (c4 : wr.cell? ⟨bg, 0, none⟩ = some (.int .i64 z)) (c5 : wr.cell? ⟨bf, 0, none⟩ = some (FT bm bh bd bg)) :
    Calls Tryd.prog 53 #[.int .i64 i, .pointer (some ⟨bf, 0, none⟩)] wr fun e w' => e = .returned (.bool (twP m (evenV h) z dd.toNat (10 + (i : Int)))) ∧ Below wr.heap.size wr w' := by
  have hc := Lib.hid (tooWet_any m h dd z (10 + (i : Int)) hm0 hm1 hd0 hd1 (by omega) (by omega) bm bh bd bg wr hE c1 c2 c3 c4)
  unfold FT at c5
  clear hE c1 c2 c3 c4
  go_enter Tryd.func53, Tryd.ntmps53
  go_wp2_with (go_at_call 51; refine hc.out.mono ?_; rintro e w' ⟨rfl, b1⟩)
  go_ret
  exact ⟨rfl, b1⟩
/-- is wood that is j less thick than 1000 dry enough? -/
def tkP (m e z : Int) (n : Nat) (j : Nat) : Bool := decide (dryV m e (1000 - (j : Int)) n ≤ z)
def tkN (m e z : Int) (n : Nat) : Int := match fstK (tkP m e z n) 991 with
  | some j => 1000 - (j : Int)
  | none => 0
theorem tk_yes {m e z : Int} {n j : Nat} (hj : j < 991) (hp : dryV m e (1000 - (j : Int)) n ≤ z) (hno : ∀ i, i < j → tkP m e z n i = false) : tkN m e z n = 1000 - (j : Int) ∧ fC (tkP m e z n) 991 = 0 := by
  have h1 := fstK_some (p := tkP m e z n) hj (by simp [tkP, hp]) hno
  unfold tkN fC; rw [h1]; exact ⟨rfl, rfl⟩
theorem tk_no {m e z : Int} {n : Nat} (hno : ∀ i, i < 991 → tkP m e z n i = false) : tkN m e z n = 0 ∧ fC (tkP m e z n) 991 = 3 := by
  have h1 := fstK_none (p := tkP m e z n) hno
  unfold tkN fC; rw [h1]; exact ⟨rfl, rfl⟩
theorem tkP_wet {m e z : Int} {n j : Nat} (t : Int) (ht : t = 1000 - (j : Int)) (h : twP m e z n t = true) : tkP m e z n j = false := by
  subst ht; simp only [twP, decide_eq_true_eq] at h; simp only [tkP, decide_eq_false_iff_not]; omega
theorem tw_mono {m e z : Int} {n : Nat} (hw : twP m e z n 1000 = true) (i j : Nat) (hij : i ≤ j) (hj : j < 990) (h : twP m e z n (10 + (i : Int)) = true) : twP m e z n (10 + (j : Int)) = true := by
  simp only [twP, decide_eq_true_eq] at hw h ⊢
  rcases Int.le_total m e with hm | hm
  · have := dry_thick_up (m := m) (e := e) (t := 10 + (j : Int)) (t' := 1000) (by omega) (by omega) hm n; omega
  · have := dry_thick_down (m := m) (e := e) (t := 10 + (i : Int)) (t' := 10 + (j : Int)) (by omega) (by omega) hm n; omega
theorem tk_least0 {m e z : Int} {n r : Nat} (hw : twP m e z n 1000 = true) (hL : Least (fun k => twP m e z n (10 + (k : Int))) 990 r) (hr : r = 0) : tkN m e z n = 0 ∧ fC (tkP m e z n) 991 = 3 := by
  subst hr
  refine tk_no (fun i hi => ?_)
  by_cases h0 : i = 0
  · subst h0; exact tkP_wet 1000 rfl hw
  · refine tkP_wet (10 + ((990 - i : Nat) : Int)) (by omega) (hL.2.2 (990 - i) (by omega) (by omega))
theorem tk_least {m e z : Int} {n r : Nat} (hw : twP m e z n 1000 = true) (hL : Least (fun k => twP m e z n (10 + (k : Int))) 990 r) (hr : r ≠ 0) : tkN m e z n = 10 + (r : Int) - 1 ∧ fC (tkP m e z n) 991 = 0 := by
  have hrn := hL.1
  have h1 := hL.2.1 (r - 1) (by omega)
  simp only [twP, decide_eq_false_iff_not] at h1
  have := tk_yes (m := m) (e := e) (z := z) (n := n) (j := 991 - r) (by omega) (by rw [show (1000 : Int) - ((991 - r : Nat) : Int) = 10 + ((r - 1 : Nat) : Int) by omega]; omega) (fun i hi => by
    by_cases h0 : i = 0
    · subst h0; exact tkP_wet 1000 rfl hw
    · exact tkP_wet (10 + ((990 - i : Nat) : Int)) (by omega) (hL.2.2 (990 - i) (by omega) (by omega)))
  rw [this.1, this.2]
  exact ⟨by omega, rfl⟩
theorem at_new (w : World) (v : Value) (t : TypeId) (n : Nat) (hn : n = w.heap.size) : (w.alloc (.cells #[v] t)).cell? ⟨n, 0, none⟩ = some v := by subst hn; exact cellB (heap_alloc_new _ _) 0 _ rfl
theorem at_old {w : World} {v : Value} {o : Obj} {n : Nat} (h : w.cell? ⟨n, 0, none⟩ = some v) : (w.alloc o).cell? ⟨n, 0, none⟩ = some v := (World.cell?_alloc_past _ _ _ (World.block_lt_of_cell? w _ h)).trans h
set_option maxHeartbeats 3200000 in
theorem implThickToDry_any (m h z dd : Int) (w : World) (hE : EvP w) : Calls Tryd.prog 20 #[.int .i64 m, .int .i64 h, .int .i64 z, .int .i64 dd] w fun e w' => e = .returned (.tuple #[.int .i64 (pick (inB m 0 1000 && inB h 0 1000 && inB z 0 1000 && inB dd 0 4000) (tkN m (evenV h) z dd.toNat)), .int .i64 (codeD true (inB m 0 1000 && inB h 0 1000 && inB z 0 1000 && inB dd 0 4000) (fC (tkP m (evenV h) z dd.toNat) 991))]) ∧ Below w.heap.size w w' := by
  have hB0 : Below w.heap.size w ((((w.alloc (.cells #[.int .i64 m] 2)).alloc (.cells #[.int .i64 h] 2)).alloc (.cells #[.int .i64 z] 2)).alloc (.cells #[.int .i64 dd] 2)) := ((((Below.refl _ _).alloc (Nat.le_refl _) _).alloc (by simp) _).alloc (by simp; omega) _).alloc (by simp; omega) _
  have c1 : ((((w.alloc (.cells #[.int .i64 m] 2)).alloc (.cells #[.int .i64 h] 2)).alloc (.cells #[.int .i64 z] 2)).alloc (.cells #[.int .i64 dd] 2)).cell? ⟨w.heap.size, 0, none⟩ = some (.int .i64 m) := at_old (at_old (at_old (at_new _ _ _ _ rfl)))
  have c2 : ((((w.alloc (.cells #[.int .i64 m] 2)).alloc (.cells #[.int .i64 h] 2)).alloc (.cells #[.int .i64 z] 2)).alloc (.cells #[.int .i64 dd] 2)).cell? ⟨w.heap.size + 1, 0, none⟩ = some (.int .i64 h) := at_old (at_old (at_new _ _ _ _ (by simp)))
  have c4 : ((((w.alloc (.cells #[.int .i64 m] 2)).alloc (.cells #[.int .i64 h] 2)).alloc (.cells #[.int .i64 z] 2)).alloc (.cells #[.int .i64 dd] 2)).cell? ⟨w.heap.size + 1 + 1, 0, none⟩ = some (.int .i64 z) := at_old (at_new _ _ _ _ (by simp))
  have c3 : ((((w.alloc (.cells #[.int .i64 m] 2)).alloc (.cells #[.int .i64 h] 2)).alloc (.cells #[.int .i64 z] 2)).alloc (.cells #[.int .i64 dd] 2)).cell? ⟨w.heap.size + 1 + 1 + 1, 0, none⟩ = some (.int .i64 dd) := at_new _ _ _ _ (by simp)
  have hz := Lib.hid (show ((((w.alloc (.cells #[.int .i64 m] 2)).alloc (.cells #[.int .i64 h] 2)).alloc (.cells #[.int .i64 z] 2)).alloc (.cells #[.int .i64 dd] 2)).heap.size = w.heap.size + 4 by simp)
  cases h1 : inB m 0 1000
  · go_enter Tryd.func20, Tryd.ntmps20
    go_wp2_with (first
      | (go_at_call 39; refine (isThousandths_any _ _).mono ?_; rintro e w' ⟨rfl, rfl⟩)
      | (go_at_call 45; refine (isTime_any _ _).mono ?_; rintro e w' ⟨rfl, rfl⟩))
    go_ret2
    exact ⟨ret_int2 rfl rfl, hB0⟩
  cases h2 : inB h 0 1000
  · go_enter Tryd.func20, Tryd.ntmps20
    go_wp2_with (first
      | (go_at_call 39; refine (isThousandths_any _ _).mono ?_; rintro e w' ⟨rfl, rfl⟩)
      | (go_at_call 45; refine (isTime_any _ _).mono ?_; rintro e w' ⟨rfl, rfl⟩))
    go_ret2
    exact ⟨ret_int2 rfl rfl, hB0⟩
  cases h3 : inB z 0 1000
  · go_enter Tryd.func20, Tryd.ntmps20
    go_wp2_with (first
      | (go_at_call 39; refine (isThousandths_any _ _).mono ?_; rintro e w' ⟨rfl, rfl⟩)
      | (go_at_call 45; refine (isTime_any _ _).mono ?_; rintro e w' ⟨rfl, rfl⟩))
    go_ret2
    exact ⟨ret_int2 rfl rfl, hB0⟩
  cases h4 : inB dd 0 4000
  · go_enter Tryd.func20, Tryd.ntmps20
    go_wp2_with (first
      | (go_at_call 39; refine (isThousandths_any _ _).mono ?_; rintro e w' ⟨rfl, rfl⟩)
      | (go_at_call 45; refine (isTime_any _ _).mono ?_; rintro e w' ⟨rfl, rfl⟩))
    go_ret2
    exact ⟨ret_int2 rfl rfl, hB0⟩
  have hm := inB_iff.1 h1
  have hd := inB_iff.1 h4
  have hE2 := hE.below hB0
  have d1 := at_old (o := .cells #[.func (.func 51) #[] #[.pointer (some ⟨w.heap.size, 0, none⟩), .pointer (some ⟨w.heap.size + 1, 0, none⟩), .pointer (some ⟨w.heap.size + 1 + 1 + 1, 0, none⟩), .pointer (some ⟨w.heap.size + 1 + 1, 0, none⟩)]] 24) c1
  have d2 := at_old (o := .cells #[.func (.func 51) #[] #[.pointer (some ⟨w.heap.size, 0, none⟩), .pointer (some ⟨w.heap.size + 1, 0, none⟩), .pointer (some ⟨w.heap.size + 1 + 1 + 1, 0, none⟩), .pointer (some ⟨w.heap.size + 1 + 1, 0, none⟩)]] 24) c2
  have d3 := at_old (o := .cells #[.func (.func 51) #[] #[.pointer (some ⟨w.heap.size, 0, none⟩), .pointer (some ⟨w.heap.size + 1, 0, none⟩), .pointer (some ⟨w.heap.size + 1 + 1 + 1, 0, none⟩), .pointer (some ⟨w.heap.size + 1 + 1, 0, none⟩)]] 24) c3
  have d4 := at_old (o := .cells #[.func (.func 51) #[] #[.pointer (some ⟨w.heap.size, 0, none⟩), .pointer (some ⟨w.heap.size + 1, 0, none⟩), .pointer (some ⟨w.heap.size + 1 + 1 + 1, 0, none⟩), .pointer (some ⟨w.heap.size + 1 + 1, 0, none⟩)]] 24) c4
  have d5 : (((((w.alloc (.cells #[.int .i64 m] 2)).alloc (.cells #[.int .i64 h] 2)).alloc (.cells #[.int .i64 z] 2)).alloc (.cells #[.int .i64 dd] 2)).alloc (.cells #[.func (.func 51) #[] #[.pointer (some ⟨w.heap.size, 0, none⟩), .pointer (some ⟨w.heap.size + 1, 0, none⟩), .pointer (some ⟨w.heap.size + 1 + 1 + 1, 0, none⟩), .pointer (some ⟨w.heap.size + 1 + 1, 0, none⟩)]] 24)).cell? ⟨w.heap.size + 1 + 1 + 1 + 1, 0, none⟩ = some (FT w.heap.size (w.heap.size + 1) (w.heap.size + 1 + 1 + 1) (w.heap.size + 1 + 1)) := at_new _ _ _ _ (by simp)
  have hB5 : Below w.heap.size w (((((w.alloc (.cells #[.int .i64 m] 2)).alloc (.cells #[.int .i64 h] 2)).alloc (.cells #[.int .i64 z] 2)).alloc (.cells #[.int .i64 dd] 2)).alloc (.cells #[.func (.func 51) #[] #[.pointer (some ⟨w.heap.size, 0, none⟩), .pointer (some ⟨w.heap.size + 1, 0, none⟩), .pointer (some ⟨w.heap.size + 1 + 1 + 1, 0, none⟩), .pointer (some ⟨w.heap.size + 1 + 1, 0, none⟩)]] 24)) := hB0.alloc hB0.size _
  have hE5 := hE.below hB5
  have hz5 : w.heap.size + 1 + 1 + 1 + 1 < (((((w.alloc (.cells #[.int .i64 m] 2)).alloc (.cells #[.int .i64 h] 2)).alloc (.cells #[.int .i64 z] 2)).alloc (.cells #[.int .i64 dd] 2)).alloc (.cells #[.func (.func 51) #[] #[.pointer (some ⟨w.heap.size, 0, none⟩), .pointer (some ⟨w.heap.size + 1, 0, none⟩), .pointer (some ⟨w.heap.size + 1 + 1 + 1, 0, none⟩), .pointer (some ⟨w.heap.size + 1 + 1, 0, none⟩)]] 24)).heap.size := by simp
  have cT := Lib.hid (tooWet_any m h dd z 1000 hm.1 hm.2 hd.1 hd.2 (by omega) (by omega) w.heap.size (w.heap.size + 1) (w.heap.size + 1 + 1 + 1) (w.heap.size + 1 + 1) _ hE5 d1 d2 d3 d4)
  have D1 := Lib.hid d1
  have D2 := Lib.hid d2
  have D3 := Lib.hid d3
  have D4 := Lib.hid d4
  have D5 := Lib.hid d5
  have HE5 := Lib.hid hE5
  have HZ5 := Lib.hid hz5
  clear d1 d2 d3 d4 d5 hE5 hE2 hE hz5
  go_enter Tryd.func20, Tryd.ntmps20
  go_wp2_with (first
      | (go_at_call 39; refine (isThousandths_any _ _).mono ?_; rintro e w' ⟨rfl, rfl⟩)
      | (go_at_call 45; refine (isTime_any _ _).mono ?_; rintro e w' ⟨rfl, rfl⟩))
  refine cT.out.mono ?_
  rintro e w1 ⟨rfl, b1⟩
  have e1 := (b1.cell (p := ⟨w.heap.size, 0, none⟩) (show w.heap.size < _ by have := HZ5.out; omega)).trans D1.out
  have e2 := (b1.cell (p := ⟨w.heap.size + 1, 0, none⟩) (show w.heap.size + 1 < _ by have := HZ5.out; omega)).trans D2.out
  have e3 := (b1.cell (p := ⟨w.heap.size + 1 + 1 + 1, 0, none⟩) (show w.heap.size + 1 + 1 + 1 < _ by have := HZ5.out; omega)).trans D3.out
  have e4 := (b1.cell (p := ⟨w.heap.size + 1 + 1, 0, none⟩) (show w.heap.size + 1 + 1 < _ by have := HZ5.out; omega)).trans D4.out
  have e5 := (b1.cell (p := ⟨w.heap.size + 1 + 1 + 1 + 1, 0, none⟩) (show w.heap.size + 1 + 1 + 1 + 1 < _ by have := HZ5.out; omega)).trans D5.out
  have hE1 := HE5.out.below b1
  have hz1 := Nat.lt_of_lt_of_le HZ5.out b1.size
  have B1 := hB5.trans (b1.mono hB5.size)
  clear D1 D2 D3 D4 D5 HE5 HZ5 hB5 hB0 b1 c1 c2 c3 c4 hz cT
  cases hw : twP m (evenV h) z dd.toNat 1000
  · have hf := Lib.hid (tk_yes (m := m) (e := evenV h) (z := z) (n := dd.toNat) (j := 0) (by omega) (by simpa [twP] using hw) (fun i hi => absurd hi (Nat.not_lt_zero _)))
    clear e1 e2 e3 e4 e5 hE1
    go_wp2
    go_ret2
    exact ⟨ret_int2 (by rw [hf.out.1]; rfl) (by rw [hf.out.2]; rfl), B1⟩
  have cS := Lib.hid (search_any 53 #[.pointer (some ⟨w.heap.size + 1 + 1 + 1 + 1, 0, none⟩)] 990 (fun k => twP m (evenV h) z dd.toNat (10 + (k : Int))) w1 (enters_of Tryd.func53 (by kernel_rfl) rfl) (by omega) (fun W i hW hi =>
    tooWet2_any m h dd z hm.1 hm.2 hd.1 hd.2 i hi w.heap.size (w.heap.size + 1) (w.heap.size + 1 + 1 + 1) (w.heap.size + 1 + 1) (w.heap.size + 1 + 1 + 1 + 1) W (hE1.below hW) ((hW.cell (p := ⟨w.heap.size, 0, none⟩) (show w.heap.size < _ by omega)).trans e1) ((hW.cell (p := ⟨w.heap.size + 1, 0, none⟩) (show w.heap.size + 1 < _ by omega)).trans e2) ((hW.cell (p := ⟨w.heap.size + 1 + 1 + 1, 0, none⟩) (show w.heap.size + 1 + 1 + 1 < _ by omega)).trans e3) ((hW.cell (p := ⟨w.heap.size + 1 + 1, 0, none⟩) (show w.heap.size + 1 + 1 < _ by omega)).trans e4) ((hW.cell (p := ⟨w.heap.size + 1 + 1 + 1 + 1, 0, none⟩) (show w.heap.size + 1 + 1 + 1 + 1 < _ by omega)).trans e5))
    (fun i j hij hj hh => tw_mono hw i j hij hj hh))
  clear e1 e2 e3 e4 e5 hE1
  go_wp2_with fail
  refine cS.out.mono ?_
  rintro e w2 ⟨r, rfl, hL, b2⟩
  have B2 := below2 B1 b2
  have hrn := hL.1
  by_cases hr : r = 0
  · have hf := Lib.hid (tk_least0 hw hL hr)
    subst hr
    clear hL cS b2
    go_wp2
    go_ret2
    exact ⟨ret_int2 (by rw [hf.out.1]; rfl) (by rw [hf.out.2]; rfl), B2⟩
  · have hf := Lib.hid (tk_least hw hL hr)
    have hrI : ((r : Int) == 0) = false := by simp; omega
    clear hL cS b2
    go_wp2
    go_ret2
    exact ⟨ret_int2 (by rw [hf.out.1]; rfl) (by rw [hf.out.2]; rfl), B2⟩
set_option maxHeartbeats 3200000 in
theorem specThickToDry_any (m h z dd : Int) (w : World) : Calls Tryd.prog 19 #[.int .i64 m, .int .i64 h, .int .i64 z, .int .i64 dd] w fun e w' => e = .returned (.tuple #[.int .i64 (pick (inB m 0 1000 && inB h 0 1000 && inB z 0 1000 && inB dd 0 4000) (tkN m (evenV h) z dd.toNat)), .int .i64 (codeD true (inB m 0 1000 && inB h 0 1000 && inB z 0 1000 && inB dd 0 4000) (fC (tkP m (evenV h) z dd.toNat) 991))]) ∧ Below w.heap.size w w' := by
  cases h1 : inB m 0 1000
  · go_enter Tryd.func19, Tryd.ntmps19
    go_wp2_with (first
      | (go_at_call 37; refine (l04Share_any _ _).mono ?_; rintro e w' ⟨rfl, rfl⟩)
      | (go_at_call 42; refine (l04Days_any _ _).mono ?_; rintro e w' ⟨rfl, rfl⟩))
    go_ret2
    exact ⟨ret_int2 rfl rfl, Below.refl _ _⟩
  cases h2 : inB h 0 1000
  · go_enter Tryd.func19, Tryd.ntmps19
    go_wp2_with (first
      | (go_at_call 37; refine (l04Share_any _ _).mono ?_; rintro e w' ⟨rfl, rfl⟩)
      | (go_at_call 42; refine (l04Days_any _ _).mono ?_; rintro e w' ⟨rfl, rfl⟩))
    go_ret2
    exact ⟨ret_int2 rfl rfl, Below.refl _ _⟩
  cases h3 : inB z 0 1000
  · go_enter Tryd.func19, Tryd.ntmps19
    go_wp2_with (first
      | (go_at_call 37; refine (l04Share_any _ _).mono ?_; rintro e w' ⟨rfl, rfl⟩)
      | (go_at_call 42; refine (l04Days_any _ _).mono ?_; rintro e w' ⟨rfl, rfl⟩))
    go_ret2
    exact ⟨ret_int2 rfl rfl, Below.refl _ _⟩
  cases h4 : inB dd 0 4000
  · go_enter Tryd.func19, Tryd.ntmps19
    go_wp2_with (first
      | (go_at_call 37; refine (l04Share_any _ _).mono ?_; rintro e w' ⟨rfl, rfl⟩)
      | (go_at_call 42; refine (l04Days_any _ _).mono ?_; rintro e w' ⟨rfl, rfl⟩))
    go_ret2
    exact ⟨ret_int2 rfl rfl, Below.refl _ _⟩
  have hm := inB_iff.1 h1
  have hd := inB_iff.1 h4
  have hev := even_in h
  go_enter Tryd.func19, Tryd.ntmps19
  go_wp2_with (first
      | (go_at_call 37; refine (l04Share_any _ _).mono ?_; rintro e w' ⟨rfl, rfl⟩)
      | (go_at_call 42; refine (l04Days_any _ _).mono ?_; rintro e w' ⟨rfl, rfl⟩))
  go_loopw [10] (fun i wr => ∃ (k : Nat) (t : Int), k ≤ 991 ∧ i = .int .i64 t ∧ t = 1000 - (k : Int) ∧ Hid (∀ j, j < k → tkP m (evenV h) z dd.toNat j = false) ∧ Hid (Below w.heap.size w wr)) (fun i _ => (intOf i - 9).toNat)
  case atStart => exact ⟨0, 1000, by omega, rfl, by omega, Lib.hid (by omega), Lib.hid (Below.refl _ _)⟩
  case round =>
    obtain ⟨k, t, hk, rfl, ht, hno, hb⟩ := hrel
    have ht' := Lib.hid ht
    by_cases hlt : 10 ≤ t
    · have cA := Lib.hid (fun W => l04AfterB_any m (evenV h) t dd hm.1 hm.2 hev.1 (by omega) hlt (by omega) hd.1 hd.2 W)
      have hp : Hid (tkP m (evenV h) z dd.toNat k = decide (dryV m (evenV h) t dd.toNat ≤ z)) := Lib.hid (by unfold tkP; rw [← ht])
      have hk2 : k < 991 := by omega
      have ht0 : t ≤ 1000 := by omega
      have hyes : Hid (dryV m (evenV h) t dd.toNat ≤ z → tkN m (evenV h) z dd.toNat = t ∧ fC (tkP m (evenV h) z dd.toNat) 991 = 0) := Lib.hid (fun hh => by
        have := tk_yes (j := k) hk2 (by rw [← ht]; exact hh) hno.out
        rw [← ht] at this; exact this)
      obtain ⟨y, hy⟩ : ∃ y, y = dryV m (evenV h) t dd.toNat := ⟨_, rfl⟩
      rw [← hy] at cA hp hyes
      clear hy ht
      by_cases hg : y ≤ z
      · have hf := Lib.hid (hyes.out hg)
        go_wp2_with (first
          | (go_at_call 38; refine (l04Even_any h _).mono ?_; rintro e w2 ⟨rfl, b2⟩)
          | (go_at_call 43; refine (cA.out _).mono ?_; rintro e w3 ⟨rfl, b3⟩))
        go_ret2
        exact ⟨ret_int2 (by rw [hf.out.1]; rfl) (by rw [hf.out.2]; rfl), below2 (below2 hb.out b2) b3⟩
      · have hno2 : Hid (∀ j, j < k + 1 → tkP m (evenV h) z dd.toNat j = false) := Lib.hid (fun j hj => by
          by_cases e : j = k
          · subst e; rw [hp.out]; simp; omega
          · exact hno.out j (by omega))
        go_wp2_with (first
          | (go_at_call 38; refine (l04Even_any h _).mono ?_; rintro e w2 ⟨rfl, b2⟩)
          | (go_at_call 43; refine (cA.out _).mono ?_; rintro e w3 ⟨rfl, b3⟩))
        go_roundw
        case rel => exact ⟨k + 1, t - 1, by omega, by go_num, by have := ht'.out; omega, hno2, Lib.hid (below2 (below2 hb.out b2) b3)⟩
        case measure => simp [intOf]; omega
    · have hf := Lib.hid (tk_no (m := m) (e := evenV h) (z := z) (n := dd.toNat) (fun j hj => hno.out j (by omega)))
      clear ht
      go_wp2
      go_ret2
      exact ⟨ret_int2 (by rw [hf.out.1]; rfl) (by rw [hf.out.2]; rfl), hb.out⟩
end Go.Proofs.YtiapjoldidkamaaDoor
