/-
  Safe humidities: the program's and the model's contracts.
-/
import Derived.Test.YtdelfgijlhjmoaaDoorDry8
import Derived.Test.YtdelfgijlhjmoaaDoorSearch
import Derived.Test.YtdelfgijlhjmoaaDoorLst
import Derived.Deep.RegionHeld3
namespace Go.Proofs.YtdelfgijlhjmoaaDoor
open Go.ChangeShapes Go.WideShapes Go.ChangeAt Go.RowKit Go.Deep
set_option linter.unusedVariables false
set_option linter.unusedSimpArgs false
set_option maxRecDepth 1000000
/-- what is found below n: the least place, and its code -/
def fN (p : Nat → Bool) (n : Nat) : Int := ((fstK p n).getD 0 : Nat)
def fC (p : Nat → Bool) (n : Nat) : Int := if (fstK p n).isSome then 0 else 3
theorem f_yes {p : Nat → Bool} {n k : Nat} (hk : k < n) (hp : p k = true) (hno : ∀ j, j < k → p j = false) : fN p n = k ∧ fC p n = 0 := by
  have := fstK_some hk hp hno
  unfold fN fC; rw [this]; exact ⟨rfl, rfl⟩
theorem f_no {p : Nat → Bool} {n : Nat} (hno : ∀ j, j < n → p j = false) : fN p n = 0 ∧ fC p n = 3 := by
  have := fstK_none (p := p) (n := n) hno
  unfold fN fC; rw [this]; exact ⟨rfl, rfl⟩
/-- does the moisture a of wood that is b thick fall by no more than z on a day with humidity i? -/
def safP (a b z : Int) (i : Nat) : Bool := decide (-z ≤ chgV a (evenV i) b)
theorem saf_mono {a b z : Int} (hb : 10 ≤ b) (i j : Nat) (hij : i ≤ j) (n : j < 1001) (h : safP a b z i = true) : safP a b z j = true := by
  simp only [safP, decide_eq_true_eq] at h ⊢
  have e := even_mono (h := (i : Int)) (h' := (j : Int)) (by omega)
  have := rnd_mono (a := 20 * (evenV i - a)) (a' := 20 * (evenV j - a)) (b := b + 20) (by omega) (by omega)
  unfold chgV at h ⊢
  omega
theorem safP_any (s : ByteArray) (a : Int) (b : Int) (c : Int) (z : Int) (ha0 : 0 ≤ a) (ha1 : a ≤ 1000) (hb0 : 10 ≤ b) (hb1 : b ≤ 1000) (hz0 : 0 ≤ z) (hz1 : z ≤ 1000) (bx bz i : Nat) (hi : i ≤ 1000) (wr : World) (hE : EvP wr) (hat2 : StkAt wr bx 0 ⟨s, a, b, c⟩) (hz : wr.cell? ⟨bz, 0, none⟩ = some (.int .i64 z)) :
    Calls Tryd.prog 15 #[.int .i64 i, .pointer (some ⟨bx, 0, none⟩), .pointer (some ⟨bz, 0, none⟩)] wr fun e w' => e = .returned (.bool (safP a b z i)) ∧ Below wr.heap.size wr w' := by
  have hxl : bx < wr.heap.size := World.block_lt_of_cell? wr _ hat2.1
  have hzl : bz < wr.heap.size := World.block_lt_of_cell? wr _ hz
  have hev := even_in (i : Int)
  have ez : IntKind.i64.wrap (-z) = -z := IntWalk.i64_in _ (by omega)
  have hE' := Lib.hid hE
  have hp : Hid (safP a b z i = decide (-z ≤ chgV a (evenV i) b)) := Lib.hid rfl
  have hc := chg_in (m := a) (e := evenV i) hb0 ⟨ha0, ha1⟩ ⟨hev.1, by omega⟩
  have cC := Lib.hid (fun W => changeTo_any s a b c (evenV i) ha0 ha1 hb0 hb1 hev.1 (by omega) W)
  have cE := Lib.hid (fun W (h : (((W.cell? ⟨bx, 0, none⟩ = some (.string s) ∧ W.cell? ⟨bx, 1, none⟩ = some (.int .i64 a) ∧ W.cell? ⟨bx, 2, none⟩ = some (.int .i64 b) ∧ W.cell? ⟨bx, 3, none⟩ = some (.int .i64 c)) ∧ W.cell? ⟨bz, 0, none⟩ = some (.int .i64 z)) ∧ Below wr.heap.size wr W)) => evenMoisture_any (i : Int) W (hE.below h.2))
  obtain ⟨ev, hev2⟩ : ∃ ev, ev = evenV i := ⟨_, rfl⟩
  rw [← hev2] at cC cE hp hc hev
  obtain ⟨ch, hch⟩ : ∃ ch, ch = chgV a ev b := ⟨_, rfl⟩
  rw [← hch] at cC hp hc
  clear hch hev2
  have keep : ∀ W1 W2, (((W1.cell? ⟨bx, 0, none⟩ = some (.string s) ∧ W1.cell? ⟨bx, 1, none⟩ = some (.int .i64 a) ∧ W1.cell? ⟨bx, 2, none⟩ = some (.int .i64 b) ∧ W1.cell? ⟨bx, 3, none⟩ = some (.int .i64 c)) ∧ W1.cell? ⟨bz, 0, none⟩ = some (.int .i64 z)) ∧ Below wr.heap.size wr W1) → Below W1.heap.size W1 W2 → (((W2.cell? ⟨bx, 0, none⟩ = some (.string s) ∧ W2.cell? ⟨bx, 1, none⟩ = some (.int .i64 a) ∧ W2.cell? ⟨bx, 2, none⟩ = some (.int .i64 b) ∧ W2.cell? ⟨bx, 3, none⟩ = some (.int .i64 c)) ∧ W2.cell? ⟨bz, 0, none⟩ = some (.int .i64 z)) ∧ Below wr.heap.size wr W2) := fun W1 W2 h1 h2 => by
    obtain ⟨⟨p0, p1⟩, hb⟩ := h1
    have q0 := StkAt.below (x := ⟨s, a, b, c⟩) (o := 0) p0 (Nat.lt_of_lt_of_le hxl hb.size) h2
    have q1 := (h2.cell (p := ⟨bz, 0, none⟩) (Nat.lt_of_lt_of_le hzl hb.size)).trans p1
    exact ⟨⟨q0, q1⟩, hb.trans (h2.mono hb.size)⟩
  have keepH := Lib.hid keep
  have hS : (((wr.cell? ⟨bx, 0, none⟩ = some (.string s) ∧ wr.cell? ⟨bx, 1, none⟩ = some (.int .i64 a) ∧ wr.cell? ⟨bx, 2, none⟩ = some (.int .i64 b) ∧ wr.cell? ⟨bx, 3, none⟩ = some (.int .i64 c)) ∧ wr.cell? ⟨bz, 0, none⟩ = some (.int .i64 z)) ∧ Below wr.heap.size wr wr) := ⟨⟨hat2, hz⟩, Below.refl _ _⟩
  clear keep hat2 hz hE
  go_enter Tryd.func15, Tryd.ntmps15
  go_wp2
  go_region_held3 (fun w' => (((w'.cell? ⟨bx, 0, none⟩ = some (.string s) ∧ w'.cell? ⟨bx, 1, none⟩ = some (.int .i64 a) ∧ w'.cell? ⟨bx, 2, none⟩ = some (.int .i64 b) ∧ w'.cell? ⟨bx, 3, none⟩ = some (.int .i64 c)) ∧ w'.cell? ⟨bz, 0, none⟩ = some (.int .i64 z)) ∧ Below wr.heap.size wr w'))
    (first | exact ⟨hS.1, belowN hS.2 1⟩ | exact keepH.out _ _ (by assumption) (by assumption) | assumption)
    (first | (go_at_call 17; (with_reducible refine (cE.out _ (by assumption)).mono ?_); rintro e w' ⟨rfl, hbel⟩)
           | (go_at_call 16; (with_reducible refine (cC.out _).mono ?_); rintro e w' ⟨rfl, hbel⟩))
  rename_i hHeld
  go_wp2
  go_ret
  exact ⟨ret_bool hp.out.symm, hHeld.2⟩
theorem least_found {p : Nat → Bool} {n r : Nat} (h : Least p n r) (hr : r < n) : fN p n = r ∧ fC p n = 0 := f_yes hr (h.2.2 r (Nat.le_refl _) hr) h.2.1
theorem least_none {p : Nat → Bool} {n r : Nat} (h : Least p n r) (hr : ¬ r < n) : fN p n = 0 ∧ fC p n = 3 := f_no (fun j hj => h.2.1 j (by have := h.1; omega))
theorem lf_f (p : Nat → Bool) (n : Nat) : lfV 0 (lstN p n) n = fN p n ∧ lfC (lstN p n) n = fC p n := by
  cases hf : (List.range n).find? p with
  | none =>
    have hno : ∀ j, j < n → p j = false := fun j hj => by
      have := List.find?_range_eq_none.1 hf j hj
      simpa using this
    have e : lstN p n = n := by unfold lstN; rw [hf]; rfl
    have := f_no hno
    rw [this.1, this.2, e]
    unfold lfV lfC
    rw [if_pos rfl, if_pos rfl]; exact ⟨rfl, rfl⟩
  | some q =>
    obtain ⟨h1, h2, h3⟩ := List.find?_range_eq_some.1 hf
    have hq := List.mem_range.1 h2
    have e : lstN p n = q := by unfold lstN; rw [hf]; rfl
    have := f_yes hq h1 (fun j hj => by have := h3 j hj; simpa using this)
    rw [this.1, this.2, e]
    unfold lfV lfC
    rw [if_neg (by omega), if_neg (by omega)]; exact ⟨by omega, rfl⟩
set_option maxHeartbeats 3200000 in
theorem implSafeHumidity_any (s : ByteArray) (a : Int) (b : Int) (c : Int) (z : Int) (hs : s.size ≤ maxLen) (w : World) (hE : EvP w) : Calls Tryd.prog 7 #[.agg #[.string s, .int .i64 a, .int .i64 b, .int .i64 c], .int .i64 z] w fun e w' => e = .returned (.tuple #[.int .i64 (pick (stkB ⟨s, a, b, c⟩ && inB z 0 1000) (fN (safP a b z) 1001)), .int .i64 (codeD (stkB ⟨s, a, b, c⟩) (inB z 0 1000) (fC (safP a b z) 1001))]) ∧ Below w.heap.size w w' := by
  have hB0 : Below w.heap.size w ((w.alloc (.cells #[.string s, .int .i64 a, .int .i64 b, .int .i64 c] 27)).alloc (.cells #[.int .i64 z] 2)) := ((Below.refl _ _).alloc (Nat.le_refl _) _).alloc (by simp) _
  have hz0 : w.heap.size ≤ ((w.alloc (.cells #[.string s, .int .i64 a, .int .i64 b, .int .i64 c] 27)).alloc (.cells #[.int .i64 z] 2)).heap.size := by simp <;> omega
  have hzz : ((w.alloc (.cells #[.string s, .int .i64 a, .int .i64 b, .int .i64 c] 27)).alloc (.cells #[.int .i64 z] 2)).heap.size = w.heap.size + 2 := by simp
  have x1 : StkAt ((w.alloc (.cells #[.string s, .int .i64 a, .int .i64 b, .int .i64 c] 27)).alloc (.cells #[.int .i64 z] 2)) w.heap.size 0 ⟨s, a, b, c⟩ := (stk_box s a b c w).below (by simp) ((Below.refl _ _).alloc (Nat.le_refl _) _)
  have x2 : ((w.alloc (.cells #[.string s, .int .i64 a, .int .i64 b, .int .i64 c] 27)).alloc (.cells #[.int .i64 z] 2)).cell? ⟨w.heap.size + 1, 0, none⟩ = some (.int .i64 z) := cellB (by rw [show w.heap.size + 1 = (w.alloc (.cells #[.string s, .int .i64 a, .int .i64 b, .int .i64 c] 27)).heap.size by simp]; exact heap_alloc_new _ _) 0 _ rfl
  cases h1 : stkB ⟨s, a, b, c⟩
  · go_enter Tryd.func7, Tryd.ntmps7
    go_wp2_with (first
      | (go_at_call 12; refine (isValid_any _ _ _ _ hs _).mono ?_; rintro e w1 ⟨rfl, b1⟩; have C1 := bcell b1)
      | (go_at_call 13; refine (isThousandths_any _ _).mono ?_; rintro e w' ⟨rfl, rfl⟩))
    go_ret2
    exact ⟨ret_int2 rfl rfl, hB0.trans (b1.mono hz0)⟩
  cases h2 : inB z 0 1000
  · go_enter Tryd.func7, Tryd.ntmps7
    go_wp2_with (first
      | (go_at_call 12; refine (isValid_any _ _ _ _ hs _).mono ?_; rintro e w1 ⟨rfl, b1⟩; have C1 := bcell b1)
      | (go_at_call 13; refine (isThousandths_any _ _).mono ?_; rintro e w' ⟨rfl, rfl⟩))
    go_ret2
    exact ⟨ret_int2 rfl rfl, hB0.trans (b1.mono hz0)⟩
  obtain ⟨ha, hb, hc⟩ := stk_bd h1
  have hz := inB_iff.1 h2
  have hE2 := hE.below hB0
  go_enter Tryd.func7, Tryd.ntmps7
  go_wp2_with fail
  refine (isValid_any _ _ _ _ hs _).mono ?_
  rintro e w1 ⟨rfl, b1⟩
  have C1 := bcell b1
  go_wp2_with (go_at_call 13; refine (isThousandths_any _ _).mono ?_; rintro e w' ⟨rfl, rfl⟩)
  have hE1 := hE2.below b1
  have y1 : StkAt w1 w.heap.size 0 ⟨s, a, b, c⟩ := x1.below (by omega) b1
  have y2 : w1.cell? ⟨w.heap.size + 1, 0, none⟩ = some (.int .i64 z) := (b1.cell (p := ⟨w.heap.size + 1, 0, none⟩) (show w.heap.size + 1 < _ by omega)).trans x2
  have B1 := hB0.trans (b1.mono hz0)
  have hl1 : w.heap.size + 2 ≤ w1.heap.size := by have := b1.size; omega
  have h9 := leastFrom_any 15 #[.pointer (some ⟨w.heap.size, 0, none⟩), .pointer (some ⟨w.heap.size + 1, 0, none⟩)] 0 1000 1001 (safP a b z) w1 (enters_of Tryd.func15 (by kernel_rfl) rfl) (by omega) (by omega) (by omega) (by omega) (fun W i hW hi => by
      rw [Int.zero_add]
      exact safP_any s a b c z ha.1 ha.2 hb.1 hb.2 hz.1 hz.2 w.heap.size (w.heap.size + 1) i (by omega) W (hE1.below hW) (y1.below (by omega) hW) ((hW.cell (p := ⟨w.heap.size + 1, 0, none⟩) (show w.heap.size + 1 < _ by omega)).trans y2)) (fun i j hij hj h => saf_mono hb.1 i j hij hj h)
  rw [(lf_f _ _).1, (lf_f _ _).2] at h9
  have cF := Lib.hid h9
  have B1' := Lib.hid B1
  clear hE hE2 hE1 hB0 C1 b1 x1 x2 y1 y2 hz0 hzz hl1 B1 h9
  go_wp2_with (go_at_call 14; (with_reducible refine cF.out.mono ?_); rintro e w2 ⟨rfl, b2⟩)
  go_ret2
  exact ⟨ret_int2 rfl rfl, below2 B1'.out b2⟩
set_option maxHeartbeats 3200000 in
theorem specSafeHumidity_any (s : ByteArray) (a : Int) (b : Int) (c : Int) (z : Int) (hs : s.size ≤ maxLen) (w : World) : Calls Tryd.prog 5 #[.agg #[.string s, .int .i64 a, .int .i64 b, .int .i64 c], .int .i64 z] w fun e w' => e = .returned (.tuple #[.int .i64 (pick (stkB ⟨s, a, b, c⟩ && inB z 0 1000) (fN (safP a b z) 1001)), .int .i64 (codeD (stkB ⟨s, a, b, c⟩) (inB z 0 1000) (fC (safP a b z) 1001))]) ∧ Below w.heap.size w w' := by
  have hat := stk_box s a b c w
  cases h1 : stkB ⟨s, a, b, c⟩
  · go_enter Tryd.func5, Tryd.ntmps5
    go_wp2_with (first
      | (go_at_call 8; refine (l04One_any _ _ _ _ hs _ _ _ hat).mono ?_; rintro e w' ⟨rfl, rfl⟩)
      | (go_at_call 9; refine (l04Share_any _ _).mono ?_; rintro e w' ⟨rfl, rfl⟩))
    go_ret2
    exact ⟨ret_int2 rfl rfl, (Below.refl _ _).alloc (Nat.le_refl _) _⟩
  cases h2 : inB z 0 1000
  · go_enter Tryd.func5, Tryd.ntmps5
    go_wp2_with (first
      | (go_at_call 8; refine (l04One_any _ _ _ _ hs _ _ _ hat).mono ?_; rintro e w' ⟨rfl, rfl⟩)
      | (go_at_call 9; refine (l04Share_any _ _).mono ?_; rintro e w' ⟨rfl, rfl⟩))
    go_ret2
    exact ⟨ret_int2 rfl rfl, (Below.refl _ _).alloc (Nat.le_refl _) _⟩
  obtain ⟨ha, hb, hc⟩ := stk_bd h1
  have hz := inB_iff.1 h2
  go_enter Tryd.func5, Tryd.ntmps5
  go_wp2_with (first
      | (go_at_call 8; refine (l04One_any _ _ _ _ hs _ _ _ hat).mono ?_; rintro e w' ⟨rfl, rfl⟩)
      | (go_at_call 9; refine (l04Share_any _ _).mono ?_; rintro e w' ⟨rfl, rfl⟩))
  have hbW : Below w.heap.size w (w.alloc (.cells #[.string s, .int .i64 a, .int .i64 b, .int .i64 c] 27)) := (Below.refl _ _).alloc (Nat.le_refl _) _
  have hBz : w.heap.size < (w.alloc (.cells #[.string s, .int .i64 a, .int .i64 b, .int .i64 c] 27)).heap.size := by simp
  have hBB' : Hid (w.heap.size = w.heap.size) := Lib.hid rfl
  generalize w.alloc (.cells #[.string s, .int .i64 a, .int .i64 b, .int .i64 c] 27) = W0 at hat hbW hBz ⊢
  have hbW' := Lib.hid hbW
  clear hbW hBB'
  obtain ⟨B, hB⟩ : ∃ B, B = w.heap.size := ⟨_, rfl⟩
  have hB' := Lib.hid hB
  rw [← hB] at hat hBz ⊢
  clear hB
  go_loopw [6] (fun i wr => ∃ k : Nat, k ≤ 1001 ∧ i = .int .i64 k ∧ Hid (∀ j, j < k → safP a b z j = false) ∧ (wr.cell? ⟨B, 0, none⟩ = some (.string s) ∧ wr.cell? ⟨B, 1, none⟩ = some (.int .i64 a) ∧ wr.cell? ⟨B, 2, none⟩ = some (.int .i64 b) ∧ wr.cell? ⟨B, 3, none⟩ = some (.int .i64 c)) ∧ B < wr.heap.size ∧ Hid (Below w.heap.size w wr)) (fun i _ => 1001 - (intOf i).toNat)
  case atStart => exact ⟨0, by omega, rfl, Lib.hid (by omega), hat, hBz, hbW'⟩
  case round =>
    obtain ⟨k, hk, rfl, hno, hat2, hBlt, hbO⟩ := hrel
    by_cases hlt : (k : Int) ≤ 1000
    · have hev := even_in (k : Int)
      have hc := chg_in (m := a) (e := evenV k) hb.1 ha ⟨hev.1, by omega⟩
      have cC := Lib.hid (fun W => l04ChangeB_any a (evenV k) b ha.1 ha.2 hev.1 (by omega) hb.1 hb.2 W)
      have hp : Hid (safP a b z k = decide (-z ≤ chgV a (evenV k) b)) := Lib.hid rfl
      obtain ⟨ch, hch⟩ : ∃ ch, ch = chgV a (evenV k) b := ⟨_, rfl⟩
      rw [← hch] at cC hc hp
      clear hch
      have ew : IntKind.i64.wrap (-ch) = -ch := IntWalk.i64_in _ (by omega)
      have hBr : B < wr.heap.size := hBlt
      have keep : ∀ W1 W2, ((W1.cell? ⟨B, 0, none⟩ = some (.string s) ∧ W1.cell? ⟨B, 1, none⟩ = some (.int .i64 a) ∧ W1.cell? ⟨B, 2, none⟩ = some (.int .i64 b) ∧ W1.cell? ⟨B, 3, none⟩ = some (.int .i64 c)) ∧ Below wr.heap.size wr W1) → Below W1.heap.size W1 W2 → ((W2.cell? ⟨B, 0, none⟩ = some (.string s) ∧ W2.cell? ⟨B, 1, none⟩ = some (.int .i64 a) ∧ W2.cell? ⟨B, 2, none⟩ = some (.int .i64 b) ∧ W2.cell? ⟨B, 3, none⟩ = some (.int .i64 c)) ∧ Below wr.heap.size wr W2) := fun W1 W2 h1 h2 => by
        obtain ⟨p0, hb⟩ := h1
        have q0 := StkAt.below (x := ⟨s, a, b, c⟩) (o := 0) p0 (Nat.lt_of_lt_of_le hBr hb.size) h2
        exact ⟨q0, hb.trans (h2.mono hb.size)⟩
      have keepH := Lib.hid keep
      have hS : ((wr.cell? ⟨B, 0, none⟩ = some (.string s) ∧ wr.cell? ⟨B, 1, none⟩ = some (.int .i64 a) ∧ wr.cell? ⟨B, 2, none⟩ = some (.int .i64 b) ∧ wr.cell? ⟨B, 3, none⟩ = some (.int .i64 c)) ∧ Below wr.heap.size wr wr) := ⟨hat2, Below.refl _ _⟩
      clear keep hat2
      go_wp2
      go_region_held3 (fun w' => ((w'.cell? ⟨B, 0, none⟩ = some (.string s) ∧ w'.cell? ⟨B, 1, none⟩ = some (.int .i64 a) ∧ w'.cell? ⟨B, 2, none⟩ = some (.int .i64 b) ∧ w'.cell? ⟨B, 3, none⟩ = some (.int .i64 c)) ∧ Below wr.heap.size wr w'))
        (first | exact ⟨hS.1, belowN hS.2 1⟩ | exact keepH.out _ _ (by assumption) (by assumption) | assumption)
        (first | (go_at_call 11; (with_reducible refine (l04Even_any (k : Int) _).mono ?_); rintro e w' ⟨rfl, hbel⟩)
               | (go_at_call 10; (with_reducible refine (cC.out _).mono ?_); rintro e w' ⟨rfl, hbel⟩))
      rename_i hHeld
      have hb2 := below2 hbO.out hHeld.2
      have hat3 := hHeld.1
      have hz3 := Nat.lt_of_lt_of_le hBr hHeld.2.size
      clear hS keepH hHeld
      by_cases g : -ch ≤ z
      · have hf := Lib.hid (f_yes (p := safP a b z) (n := 1001) (k := k) (by omega) (by rw [hp.out]; simp; omega) hno.out)
        go_wp2
        go_ret2
        exact ⟨ret_int2 (by rw [hf.out.1]; rfl) (by rw [hf.out.2]; rfl), hb2⟩
      · have hno2 : Hid (∀ j, j < k + 1 → safP a b z j = false) := Lib.hid (fun j hj => by
          by_cases e : j = k
          · subst e; rw [hp.out]; simp; omega
          · exact hno.out j (by omega))
        go_wp2
        go_roundw
        case rel => exact ⟨k + 1, by omega, by go_num, hno2, hat3, hz3, Lib.hid hb2⟩
        case measure => simp [intOf]; omega
    · have hf := Lib.hid (f_no (p := safP a b z) (n := 1001) (fun j hj => hno.out j (by omega)))
      go_wp2
      go_ret2
      exact ⟨ret_int2 (by rw [hf.out.1]; rfl) (by rw [hf.out.2]; rfl), hbO.out⟩
end Go.Proofs.YtdelfgijlhjmoaaDoor
