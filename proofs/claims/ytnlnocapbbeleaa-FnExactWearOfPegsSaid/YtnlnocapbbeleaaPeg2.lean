/-
  Pegs: how thick one is, how far it goes in, turns; on both sides.
-/
import Derived.Test.YtnlnocapbbeleaaPegIn
import Derived.Test.YtnlnocapbbeleaaPegMath
import Derived.BigQuiet
import Derived.Deep.QuietTactic
import Derived.Deep.RegionHeld3
namespace Go.Proofs.Ytnlnocapbbeleaa
open Go.ChangeShapes Go.WideShapes Go.ChangeAt Go.RowKit Go.Deep
set_option linter.unusedVariables false
set_option linter.unusedSimpArgs false
set_option maxRecDepth 1000000
def cd3 (b1 b2 : Bool) (c : Int) : Int := if b1 = true then (if b2 = true then c else 2) else 1
theorem peg_n {s : ByteArray} {a b c : Int} (h : pegB ⟨s, a, b, c⟩ = true) : pegN a b c := peg_bd h
theorem near9_any (a b : Int) (hb : b ≠ 0) (ha0 : -1000000000000 ≤ a) (ha1 : a ≤ 1000000000000) (hb0 : -1000000000 ≤ b) (hb1 : b ≤ 1000000000) (w : World) : Calls Try.prog 64 #[.int .i64 a, .int .i64 b] w fun e w' => e = .returned (.int .i64 (rnd a b)) ∧ Below w.heap.size w w' :=
  (nearest_any a b hb (by omega) (by omega) (by omega) (by omega) w).mono (by rintro e w' ⟨rfl, n, rfl⟩; exact ⟨rfl, belowN (Below.refl _ _) n⟩)
theorem peg_cel {s : ByteArray} {a b c : Int} {W0 : World} {g : Nat} (h : PegAt W0 g 0 ⟨s, a, b, c⟩) (hg : g < W0.heap.size) : ∀ W, Below W0.heap.size W0 W → (W.cell? ⟨g, 0, none⟩ = some (.string s) ∧ W.cell? ⟨g, 1, none⟩ = some (.int .i64 a) ∧ W.cell? ⟨g, 2, none⟩ = some (.int .i64 b) ∧ W.cell? ⟨g, 3, none⟩ = some (.int .i64 c)) := fun W hb => by
  have := PegAt.below (x := ⟨s, a, b, c⟩) (o := 0) h hg hb
  obtain ⟨c0, c1, c2, c3⟩ := this
  simp only [Nat.zero_add] at c0 c1 c2 c3
  exact ⟨c0, c1, c2, c3⟩
set_option maxHeartbeats 1600000 in
theorem thickAt_any (s : ByteArray) (a : Int) (b : Int) (c : Int) (n : Int) (hc : 10 ≤ c ∧ c ≤ 100) (ha : 20 ≤ a ∧ a ≤ 200) (hn : 0 ≤ n ∧ n ≤ 1000) (w : World) : Calls Try.prog 57 #[.agg #[.string s, .int .i64 a, .int .i64 b, .int .i64 c], .int .i64 n] w fun e w' => e = .returned (.int .i64 (thV a c n)) ∧ Below w.heap.size w w' := by
  have hV : Hid (a + n / c = thV a c n) := Lib.hid rfl
  have hb := thV_bd (a := a) hc hn
  have hq : n.tdiv c = n / c := Int.tdiv_eq_ediv_of_nonneg hn.1
  have e0 : IntKind.i64.wrap (n / c) = n / c := IntWalk.i64_in _ (by unfold thV at hb; omega)
  have e1 : IntKind.i64.wrap (a + n / c) = a + n / c := IntWalk.i64_in _ (by unfold thV at hb; omega)
  have hne : c ≠ 0 := by omega
  have hB0 : Below w.heap.size w (w.alloc (.cells #[.string s, .int .i64 a, .int .i64 b, .int .i64 c] 34)) := (Below.refl _ _).alloc (Nat.le_refl _) _
  have hx := peg_box s a b c w
  have hsz : w.heap.size < (w.alloc (.cells #[.string s, .int .i64 a, .int .i64 b, .int .i64 c] 34)).heap.size := by simp
  obtain ⟨k0, k1, k2, k3⟩ := peg_cel hx hsz (w.alloc (.cells #[.string s, .int .i64 a, .int .i64 b, .int .i64 c] 34)) (Below.refl _ _)
  clear hb hx hsz
  go_enter Try.func57, Try.ntmps57
  go_wp2_with fail
  generalize (w.alloc (.cells #[.string s, .int .i64 a, .int .i64 b, .int .i64 c] 34)) = W0 at hB0 k0 k1 k2 k3 ⊢
  go_quiet (fail)
  go_wp2
  go_ret
  exact ⟨ret_int hV.out, belowN hB0 _⟩
set_option maxHeartbeats 1600000 in
theorem wayIn1_any (s : ByteArray) (a : Int) (b : Int) (c : Int) (h : Int) (i : Nat) (bx by' : Nat) (w : World) (hp : pegN a b c) (hi : i ≤ 1000) (hh : -1000 ≤ h ∧ h ≤ 1000) (hbx : bx < w.heap.size) (hby : by' < w.heap.size) (hk : (w.cell? ⟨bx, 0, none⟩ = some (.string s) ∧ w.cell? ⟨bx, 1, none⟩ = some (.int .i64 a) ∧ w.cell? ⟨bx, 2, none⟩ = some (.int .i64 b) ∧ w.cell? ⟨bx, 3, none⟩ = some (.int .i64 c))) (hy : w.cell? ⟨by', 0, none⟩ = some (.int .i64 h)) : Calls Try.prog 86 #[.int .i64 (i : Int), .pointer (some ⟨bx, 0, none⟩), .pointer (some ⟨by', 0, none⟩)] w fun e w' => e = .returned (.bool (wiP a c h i)) ∧ Below w.heap.size w w' := by
  obtain ⟨k0, k1, k2, k3⟩ := hk
  have hV : Hid (wiP a c h i = decide (h ≤ thV a c (i : Int))) := Lib.hid rfl
  have cT0 := fun W => thickAt_any s a b c (i : Int) hp.2.2 hp.1 (by omega) W
  obtain ⟨q, hq⟩ : ∃ q, q = thV a c (i : Int) := ⟨_, rfl⟩
  rw [← hq] at cT0 hV
  have cT := Lib.hid cT0
  clear hq cT0
  have keepH : Hid (∀ W1 W2, (((W1.cell? ⟨bx, 0, none⟩ = some (.string s) ∧ W1.cell? ⟨bx, 1, none⟩ = some (.int .i64 a) ∧ W1.cell? ⟨bx, 2, none⟩ = some (.int .i64 b) ∧ W1.cell? ⟨bx, 3, none⟩ = some (.int .i64 c)) ∧ W1.cell? ⟨by', 0, none⟩ = some (.int .i64 h)) ∧ Below w.heap.size w W1) → Below W1.heap.size W1 W2 → (((W2.cell? ⟨bx, 0, none⟩ = some (.string s) ∧ W2.cell? ⟨bx, 1, none⟩ = some (.int .i64 a) ∧ W2.cell? ⟨bx, 2, none⟩ = some (.int .i64 b) ∧ W2.cell? ⟨bx, 3, none⟩ = some (.int .i64 c)) ∧ W2.cell? ⟨by', 0, none⟩ = some (.int .i64 h)) ∧ Below w.heap.size w W2)) := Lib.hid (fun W1 W2 h1 h2 => by
    obtain ⟨⟨⟨p0, p1, p2, p3⟩, p4⟩, hb⟩ := h1
    have hl := Nat.lt_of_lt_of_le hbx hb.size
    have hl2 := Nat.lt_of_lt_of_le hby hb.size
    exact ⟨⟨⟨(h2.cell (p := ⟨bx, 0, none⟩) hl).trans p0, (h2.cell (p := ⟨bx, 1, none⟩) hl).trans p1, (h2.cell (p := ⟨bx, 2, none⟩) hl).trans p2, (h2.cell (p := ⟨bx, 3, none⟩) hl).trans p3⟩, (h2.cell (p := ⟨by', 0, none⟩) hl2).trans p4⟩, hb.trans (h2.mono hb.size)⟩)
  have hS : (((w.cell? ⟨bx, 0, none⟩ = some (.string s) ∧ w.cell? ⟨bx, 1, none⟩ = some (.int .i64 a) ∧ w.cell? ⟨bx, 2, none⟩ = some (.int .i64 b) ∧ w.cell? ⟨bx, 3, none⟩ = some (.int .i64 c)) ∧ w.cell? ⟨by', 0, none⟩ = some (.int .i64 h)) ∧ Below w.heap.size w w) := ⟨⟨⟨k0, k1, k2, k3⟩, hy⟩, Below.refl _ _⟩
  clear k0 k1 k2 k3 hy
  by_cases hle : h ≤ q
  all_goals
    go_enter Try.func86, Try.ntmps86
    go_wp2
    go_region_held3 (fun w' => (((w'.cell? ⟨bx, 0, none⟩ = some (.string s) ∧ w'.cell? ⟨bx, 1, none⟩ = some (.int .i64 a) ∧ w'.cell? ⟨bx, 2, none⟩ = some (.int .i64 b) ∧ w'.cell? ⟨bx, 3, none⟩ = some (.int .i64 c)) ∧ w'.cell? ⟨by', 0, none⟩ = some (.int .i64 h)) ∧ Below w.heap.size w w'))
      (first | exact ⟨hS.1, belowN hS.2 1⟩ | exact keepH.out _ _ (by assumption) (by assumption) | assumption)
      (first | (go_at_call 57; (with_reducible refine (cT.out _).mono ?_); rintro e w' ⟨rfl, hbel⟩))
    rename_i hHeld
    go_wp2
    go_ret
    exact ⟨ret_bool (by first | (rw [hV.out]; done) | (rw [hV.out, decide_eq_true hle]; done) | (rw [hV.out, decide_eq_false hle]; done)), hHeld.2⟩
set_option maxHeartbeats 1600000 in
theorem wayIn_any (s : ByteArray) (a : Int) (b : Int) (c : Int) (h : Int) (hp : pegN a b c) (hh : -1000 ≤ h ∧ h ≤ 1000) (w : World) : Calls Try.prog 61 #[.agg #[.string s, .int .i64 a, .int .i64 b, .int .i64 c], .int .i64 h] w fun e w' => e = .returned (.tuple #[.int .i64 (iwV a b c h), .int .i64 (iwC a b c h)]) ∧ Below w.heap.size w w' := by
  have hB2 : Below w.heap.size w (((w.alloc (.cells #[.string s, .int .i64 a, .int .i64 b, .int .i64 c] 34))).alloc (.cells #[.int .i64 h] 2)) := ((Below.refl _ _).alloc (Nat.le_refl _) _).alloc (by simp) _
  have hbb : Below (w.alloc (.cells #[.string s, .int .i64 a, .int .i64 b, .int .i64 c] 34)).heap.size (w.alloc (.cells #[.string s, .int .i64 a, .int .i64 b, .int .i64 c] 34)) (((w.alloc (.cells #[.string s, .int .i64 a, .int .i64 b, .int .i64 c] 34))).alloc (.cells #[.int .i64 h] 2)) := (Below.refl _ _).alloc (Nat.le_refl _) _
  have hx2 := PegAt.below (x := ⟨s, a, b, c⟩) (o := 0) (peg_box s a b c w) (by simp) hbb
  have hy2 : (((w.alloc (.cells #[.string s, .int .i64 a, .int .i64 b, .int .i64 c] 34))).alloc (.cells #[.int .i64 h] 2)).cell? ⟨w.heap.size + 1, 0, none⟩ = some (.int .i64 h) := cellB (by rw [show w.heap.size + 1 = (w.alloc (.cells #[.string s, .int .i64 a, .int .i64 b, .int .i64 c] 34)).heap.size by simp]; exact heap_alloc_new _ _) 0 _ rfl
  have hsz2 : (((w.alloc (.cells #[.string s, .int .i64 a, .int .i64 b, .int .i64 c] 34))).alloc (.cells #[.int .i64 h] 2)).heap.size = w.heap.size + 2 := by simp
  have cF0 := leastFrom_any 86 #[.pointer (some ⟨w.heap.size, 0, none⟩), .pointer (some ⟨w.heap.size + 1, 0, none⟩)] 0 b (b.toNat + 1) (wiP a c h) (((w.alloc (.cells #[.string s, .int .i64 a, .int .i64 b, .int .i64 c] 34))).alloc (.cells #[.int .i64 h] 2)) (enters_of Try.func86 (by kernel_rfl) rfl) (by omega) (by have := hp.2.1; omega) (by have := hp.2.1; omega) (by have := hp.2.1; omega) (fun W i hW hi => by
    have h1 := hp.2.1
    have h2 := hW.size
    rw [Int.zero_add]
    exact wayIn1_any s a b c h i w.heap.size (w.heap.size + 1) W hp (by omega) hh (by omega) (by omega) (peg_cel hx2 (by omega) W hW) ((hW.cell (p := ⟨w.heap.size + 1, 0, none⟩) (show w.heap.size + 1 < _ by omega)).trans hy2)) (fun i j hij _ h => wi_mono hp.2.2.1 hij h)
  rw [(wi_lst hp hh.2).1, (wi_lst hp hh.2).2] at cF0
  have cF := Lib.hid cF0
  obtain ⟨k0, k1, k2, k3⟩ := peg_cel hx2 (by omega) (((w.alloc (.cells #[.string s, .int .i64 a, .int .i64 b, .int .i64 c] 34))).alloc (.cells #[.int .i64 h] 2)) (Below.refl _ _)
  obtain ⟨u, hu⟩ : ∃ u, u = iwV a b c h := ⟨_, rfl⟩
  obtain ⟨r, hr⟩ : ∃ r, r = iwC a b c h := ⟨_, rfl⟩
  rw [← hu, ← hr] at cF ⊢
  clear cF0 hx2 hy2 hbb hu hr
  go_enter Try.func61, Try.ntmps61
  go_wp2_with fail
  generalize (((w.alloc (.cells #[.string s, .int .i64 a, .int .i64 b, .int .i64 c] 34))).alloc (.cells #[.int .i64 h] 2)) = W0 at hB2 hsz2 cF k0 k1 k2 k3 ⊢
  go_wp2_with (go_at_call 66; (with_reducible refine cF.out.mono ?_); rintro e w1 ⟨rfl, b1⟩)
  go_ret2
  exact ⟨rfl, below2 hB2 b1⟩
set_option maxHeartbeats 1600000 in
theorem implPegAt_any (s : ByteArray) (a : Int) (b : Int) (c : Int) (z : Int) (hs : s.size ≤ maxLen) (w : World) : Calls Try.prog 22 #[.agg #[.string s, .int .i64 a, .int .i64 b, .int .i64 c], .int .i64 z] w fun e w' => e = .returned (.tuple #[.int .i64 (pick (pegB ⟨s, a, b, c⟩ && inB z 0 b) (thV a c z)), .int .i64 (cd3 (pegB ⟨s, a, b, c⟩) (inB z 0 b) 0)]) ∧ Below w.heap.size w w' := by
  have hB0 : Below w.heap.size w (w.alloc (.cells #[.string s, .int .i64 a, .int .i64 b, .int .i64 c] 34)) := (Below.refl _ _).alloc (Nat.le_refl _) _
  have hx := peg_box s a b c w
  have hsz : w.heap.size < (w.alloc (.cells #[.string s, .int .i64 a, .int .i64 b, .int .i64 c] 34)).heap.size := by simp
  have hcel := Lib.hid (peg_cel hx hsz)
  obtain ⟨k0, k1, k2, k3⟩ := hcel.out (w.alloc (.cells #[.string s, .int .i64 a, .int .i64 b, .int .i64 c] 34)) (Below.refl _ _)
  have cV0 := fun W => isValidPeg_any s a b c hs W
  cases h1 : pegB ⟨s, a, b, c⟩ <;> rw [h1] at cV0 <;> have cV := Lib.hid cV0 <;> clear cV0
  · clear hx
    go_enter Try.func22, Try.ntmps22
    go_wp2_with fail
    generalize (w.alloc (.cells #[.string s, .int .i64 a, .int .i64 b, .int .i64 c] 34)) = W0 at hB0 hsz hcel k0 k1 k2 k3 ⊢
    go_wp2_with (first
      | (go_at_call 51; (with_reducible refine (cV.out _).mono ?_); rintro e w1 ⟨rfl, b1⟩; obtain ⟨j0, j1, j2, j3⟩ := hcel.out _ b1))
    go_ret2
    exact ⟨ret_int2 rfl rfl, below2 hB0 b1⟩
  have hp := peg_n h1
  have cW0 := fun W => within64_any z 0 b W
  cases h2 : inB z 0 b <;> rw [h2] at cW0 <;> have cW := Lib.hid cW0 <;> clear cW0
  · clear hx
    go_enter Try.func22, Try.ntmps22
    go_wp2_with fail
    generalize (w.alloc (.cells #[.string s, .int .i64 a, .int .i64 b, .int .i64 c] 34)) = W0 at hB0 hsz hcel k0 k1 k2 k3 ⊢
    go_wp2_with (first
      | (go_at_call 51; (with_reducible refine (cV.out _).mono ?_); rintro e w1 ⟨rfl, b1⟩; obtain ⟨j0, j1, j2, j3⟩ := hcel.out _ b1)
      | (go_at_call 56; (with_reducible refine (cW.out _).mono ?_); rintro e w' ⟨rfl, rfl⟩))
    go_ret2
    exact ⟨ret_int2 rfl rfl, below2 hB0 b1⟩
  have hz := inB_iff.1 h2
  have cT := Lib.hid (fun W => thickAt_any s a b c z hp.2.2 hp.1 (by have := hp.2.1; omega) W)
  clear hx
  go_enter Try.func22, Try.ntmps22
  go_wp2_with fail
  generalize (w.alloc (.cells #[.string s, .int .i64 a, .int .i64 b, .int .i64 c] 34)) = W0 at hB0 hsz hcel k0 k1 k2 k3 ⊢
  go_wp2_with (first
    | (go_at_call 51; (with_reducible refine (cV.out _).mono ?_); rintro e w1 ⟨rfl, b1⟩; obtain ⟨j0, j1, j2, j3⟩ := hcel.out _ b1)
    | (go_at_call 56; (with_reducible refine (cW.out _).mono ?_); rintro e w' ⟨rfl, rfl⟩)
    | (go_at_call 57; (with_reducible refine (cT.out _).mono ?_); rintro e w2 ⟨rfl, b2⟩))
  go_ret2
  exact ⟨ret_int2 rfl rfl, below2 hB0 (below2 b1 b2)⟩
set_option maxHeartbeats 1600000 in
theorem implWayIn_any (s : ByteArray) (a : Int) (b : Int) (c : Int) (h : Int) (hs : s.size ≤ maxLen) (w : World) : Calls Try.prog 24 #[.agg #[.string s, .int .i64 a, .int .i64 b, .int .i64 c], .int .i64 h] w fun e w' => e = .returned (.tuple #[.int .i64 (pick (pegB ⟨s, a, b, c⟩ && inB h 20 200) (iwV a b c h)), .int .i64 (cd3 (pegB ⟨s, a, b, c⟩) (inB h 20 200) (iwC a b c h))]) ∧ Below w.heap.size w w' := by
  have hB0 : Below w.heap.size w (w.alloc (.cells #[.string s, .int .i64 a, .int .i64 b, .int .i64 c] 34)) := (Below.refl _ _).alloc (Nat.le_refl _) _
  have hx := peg_box s a b c w
  have hsz : w.heap.size < (w.alloc (.cells #[.string s, .int .i64 a, .int .i64 b, .int .i64 c] 34)).heap.size := by simp
  have hcel := Lib.hid (peg_cel hx hsz)
  obtain ⟨k0, k1, k2, k3⟩ := hcel.out (w.alloc (.cells #[.string s, .int .i64 a, .int .i64 b, .int .i64 c] 34)) (Below.refl _ _)
  have cV0 := fun W => isValidPeg_any s a b c hs W
  cases h1 : pegB ⟨s, a, b, c⟩ <;> rw [h1] at cV0 <;> have cV := Lib.hid cV0 <;> clear cV0
  · clear hx
    go_enter Try.func24, Try.ntmps24
    go_wp2_with fail
    generalize (w.alloc (.cells #[.string s, .int .i64 a, .int .i64 b, .int .i64 c] 34)) = W0 at hB0 hsz hcel k0 k1 k2 k3 ⊢
    go_wp2_with (first
      | (go_at_call 51; (with_reducible refine (cV.out _).mono ?_); rintro e w1 ⟨rfl, b1⟩; obtain ⟨j0, j1, j2, j3⟩ := hcel.out _ b1))
    go_ret2
    exact ⟨ret_int2 rfl rfl, below2 hB0 b1⟩
  have hp := peg_n h1
  have cH0 := fun W => isHole_any h W
  cases h2 : inB h 20 200 <;> rw [h2] at cH0 <;> have cH := Lib.hid cH0 <;> clear cH0
  · clear hx
    go_enter Try.func24, Try.ntmps24
    go_wp2_with fail
    generalize (w.alloc (.cells #[.string s, .int .i64 a, .int .i64 b, .int .i64 c] 34)) = W0 at hB0 hsz hcel k0 k1 k2 k3 ⊢
    go_wp2_with (first
      | (go_at_call 51; (with_reducible refine (cV.out _).mono ?_); rintro e w1 ⟨rfl, b1⟩; obtain ⟨j0, j1, j2, j3⟩ := hcel.out _ b1)
      | (go_at_call 60; (with_reducible refine (cH.out _).mono ?_); rintro e w' ⟨rfl, rfl⟩))
    go_ret2
    exact ⟨ret_int2 rfl rfl, below2 hB0 b1⟩
  have hz := inB_iff.1 h2
  have cY := Lib.hid (fun W => wayIn_any s a b c h hp (by omega) W)
  clear hx
  go_enter Try.func24, Try.ntmps24
  go_wp2_with fail
  generalize (w.alloc (.cells #[.string s, .int .i64 a, .int .i64 b, .int .i64 c] 34)) = W0 at hB0 hsz hcel k0 k1 k2 k3 ⊢
  go_wp2_with (first
    | (go_at_call 51; (with_reducible refine (cV.out _).mono ?_); rintro e w1 ⟨rfl, b1⟩; obtain ⟨j0, j1, j2, j3⟩ := hcel.out _ b1)
    | (go_at_call 60; (with_reducible refine (cH.out _).mono ?_); rintro e w' ⟨rfl, rfl⟩)
    | (go_at_call 61; (with_reducible refine (cY.out _).mono ?_); rintro e w2 ⟨rfl, b2⟩; obtain ⟨i0, i1, i2, i3⟩ := hcel.out _ (below2 b1 b2)))
  go_ret2
  exact ⟨ret_int2 rfl rfl, below2 hB0 (below2 b1 b2)⟩
/-- how far a peg turns -/
def tfV (a b c h z : Int) : Int := if b < wyV a c h then 0 else rnd (360000 * z) (3142 * thV a c (wyV a c h))
set_option maxHeartbeats 1600000 in
theorem implTurnFor_any (s : ByteArray) (a : Int) (b : Int) (c : Int) (h z : Int) (hs : s.size ≤ maxLen) (w : World) : Calls Try.prog 26 #[.agg #[.string s, .int .i64 a, .int .i64 b, .int .i64 c], .int .i64 h, .int .i64 z] w fun e w' => e = .returned (.tuple #[.int .i64 (pick (pegB ⟨s, a, b, c⟩ && (inB h 20 200 && inB z 0 100)) (tfV a b c h z)), .int .i64 (cd3 (pegB ⟨s, a, b, c⟩) (inB h 20 200 && inB z 0 100) (iwC a b c h))]) ∧ Below w.heap.size w w' := by
  have hB0 : Below w.heap.size w (w.alloc (.cells #[.string s, .int .i64 a, .int .i64 b, .int .i64 c] 34)) := (Below.refl _ _).alloc (Nat.le_refl _) _
  have hx := peg_box s a b c w
  have hsz : w.heap.size < (w.alloc (.cells #[.string s, .int .i64 a, .int .i64 b, .int .i64 c] 34)).heap.size := by simp
  have hcel := Lib.hid (peg_cel hx hsz)
  obtain ⟨k0, k1, k2, k3⟩ := hcel.out (w.alloc (.cells #[.string s, .int .i64 a, .int .i64 b, .int .i64 c] 34)) (Below.refl _ _)
  have cV0 := fun W => isValidPeg_any s a b c hs W
  cases h1 : pegB ⟨s, a, b, c⟩ <;> rw [h1] at cV0 <;> have cV := Lib.hid cV0 <;> clear cV0
  · clear hx
    go_enter Try.func26, Try.ntmps26
    go_wp2_with fail
    generalize (w.alloc (.cells #[.string s, .int .i64 a, .int .i64 b, .int .i64 c] 34)) = W0 at hB0 hsz hcel k0 k1 k2 k3 ⊢
    go_wp2_with (first
      | (go_at_call 51; (with_reducible refine (cV.out _).mono ?_); rintro e w1 ⟨rfl, b1⟩; obtain ⟨j0, j1, j2, j3⟩ := hcel.out _ b1))
    go_ret2
    exact ⟨ret_int2 rfl rfl, below2 hB0 b1⟩
  have hp := peg_n h1
  have cH0 := fun W => isHole_any h W
  cases h2 : inB h 20 200 <;> rw [h2] at cH0 <;> have cH := Lib.hid cH0 <;> clear cH0
  · clear hx
    go_enter Try.func26, Try.ntmps26
    go_wp2_with fail
    generalize (w.alloc (.cells #[.string s, .int .i64 a, .int .i64 b, .int .i64 c] 34)) = W0 at hB0 hsz hcel k0 k1 k2 k3 ⊢
    go_wp2_with (first
      | (go_at_call 51; (with_reducible refine (cV.out _).mono ?_); rintro e w1 ⟨rfl, b1⟩; obtain ⟨j0, j1, j2, j3⟩ := hcel.out _ b1)
      | (go_at_call 60; (with_reducible refine (cH.out _).mono ?_); rintro e w' ⟨rfl, rfl⟩))
    go_ret2
    exact ⟨ret_int2 rfl rfl, below2 hB0 b1⟩
  have cW0 := fun W => within64_any z 0 100 W
  cases h3 : inB z 0 100 <;> rw [h3] at cW0 <;> have cW := Lib.hid cW0 <;> clear cW0
  · clear hx
    go_enter Try.func26, Try.ntmps26
    go_wp2_with fail
    generalize (w.alloc (.cells #[.string s, .int .i64 a, .int .i64 b, .int .i64 c] 34)) = W0 at hB0 hsz hcel k0 k1 k2 k3 ⊢
    go_wp2_with (first
      | (go_at_call 51; (with_reducible refine (cV.out _).mono ?_); rintro e w1 ⟨rfl, b1⟩; obtain ⟨j0, j1, j2, j3⟩ := hcel.out _ b1)
      | (go_at_call 60; (with_reducible refine (cH.out _).mono ?_); rintro e w' ⟨rfl, rfl⟩)
      | (go_at_call 56; (with_reducible refine (cW.out _).mono ?_); rintro e w' ⟨rfl, rfl⟩))
    go_ret2
    exact ⟨ret_int2 rfl rfl, below2 hB0 b1⟩
  have hz := inB_iff.1 h2
  have hz3 := inB_iff.1 h3
  have cY0 := fun W => wayIn_any s a b c h hp (by omega) W
  by_cases hlt : b < wyV a c h
  · rw [show iwV a b c h = 0 from if_pos hlt, show iwC a b c h = 3 from if_pos hlt] at cY0
    rw [show iwC a b c h = 3 from if_pos hlt, show tfV a b c h z = 0 from if_pos hlt]
    have cY := Lib.hid cY0
    clear hx cY0
    go_enter Try.func26, Try.ntmps26
    go_wp2_with fail
    generalize (w.alloc (.cells #[.string s, .int .i64 a, .int .i64 b, .int .i64 c] 34)) = W0 at hB0 hsz hcel k0 k1 k2 k3 ⊢
    go_wp2_with (first
      | (go_at_call 51; (with_reducible refine (cV.out _).mono ?_); rintro e w1 ⟨rfl, b1⟩; obtain ⟨j0, j1, j2, j3⟩ := hcel.out _ b1)
      | (go_at_call 60; (with_reducible refine (cH.out _).mono ?_); rintro e w' ⟨rfl, rfl⟩)
      | (go_at_call 56; (with_reducible refine (cW.out _).mono ?_); rintro e w' ⟨rfl, rfl⟩)
      | (go_at_call 61; (with_reducible refine (cY.out _).mono ?_); rintro e w2 ⟨rfl, b2⟩; obtain ⟨i0, i1, i2, i3⟩ := hcel.out _ (below2 b1 b2)))
    go_ret2
    exact ⟨ret_int2 rfl rfl, below2 hB0 (below2 b1 b2)⟩
  rw [show iwV a b c h = wyV a c h from if_neg hlt, show iwC a b c h = 0 from if_neg hlt] at cY0
  rw [show iwC a b c h = 0 from if_neg hlt, show tfV a b c h z = rnd (360000 * z) (3142 * thV a c (wyV a c h)) from if_neg hlt]
  have hwb := wyV_bd (a := a) (h := h) hp.1.1 hp.2.2 (by omega)
  have hbb := hp.2.1
  have htb := thV_bd (a := a) (c := c) (w := wyV a c h) hp.2.2 (by omega)
  have cT0 := fun W => thickAt_any s a b c (wyV a c h) hp.2.2 hp.1 (by omega) W
  obtain ⟨u, hu⟩ : ∃ u, u = wyV a c h := ⟨_, rfl⟩
  rw [← hu] at cY0 cT0 htb ⊢
  obtain ⟨q, hq⟩ : ∃ q, q = thV a c u := ⟨_, rfl⟩
  rw [← hq] at cT0 htb ⊢
  have ha0 := hp.1
  rw [Int.mul_comm 360000 z]
  have cN := Lib.hid (fun W => near9_any (z * 360000) (3142 * q) (by omega) (by omega) (by omega) (by omega) (by omega) W)
  have e1 : IntKind.i64.wrap (z * 360000) = z * 360000 := IntWalk.i64_in _ (by omega)
  have e2 : IntKind.i64.wrap (3142 * q) = 3142 * q := IntWalk.i64_in _ (by omega)
  have cY := Lib.hid cY0
  have cT := Lib.hid cT0
  clear hx cY0 cT0 hu hq hwb hlt
  go_enter Try.func26, Try.ntmps26
  go_wp2_with fail
  generalize (w.alloc (.cells #[.string s, .int .i64 a, .int .i64 b, .int .i64 c] 34)) = W0 at hB0 hsz hcel k0 k1 k2 k3 ⊢
  go_wp2_with (first
    | (go_at_call 51; (with_reducible refine (cV.out _).mono ?_); rintro e w1 ⟨rfl, b1⟩; obtain ⟨j0, j1, j2, j3⟩ := hcel.out _ b1)
    | (go_at_call 60; (with_reducible refine (cH.out _).mono ?_); rintro e w' ⟨rfl, rfl⟩)
    | (go_at_call 56; (with_reducible refine (cW.out _).mono ?_); rintro e w' ⟨rfl, rfl⟩)
    | (go_at_call 61; (with_reducible refine (cY.out _).mono ?_); rintro e w2 ⟨rfl, b2⟩; obtain ⟨i0, i1, i2, i3⟩ := hcel.out _ (below2 b1 b2))
    | (go_at_call 57; (with_reducible refine (cT.out _).mono ?_); rintro e w3 ⟨rfl, b3⟩)
    | (go_at_call 64; (with_reducible refine (cN.out _).mono ?_); rintro e w4 ⟨rfl, b4⟩))
  go_ret2
  exact ⟨ret_int2 rfl rfl, below2 hB0 (below2 b1 (below2 b2 (below2 b3 b4)))⟩
end Go.Proofs.Ytnlnocapbbeleaa
