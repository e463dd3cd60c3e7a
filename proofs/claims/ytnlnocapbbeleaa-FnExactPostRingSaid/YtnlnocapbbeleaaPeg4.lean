/-
  Pegs: ReamTo on both sides.
-/
import Derived.Test.YtnlnocapbbeleaaPeg3
namespace Go.Proofs.Ytnlnocapbbeleaa
open Go.ChangeShapes Go.WideShapes Go.ChangeAt Go.RowKit Go.Deep
set_option linter.unusedVariables false
set_option linter.unusedSimpArgs false
set_option maxRecDepth 1000000
theorem search0_any (g : Nat) (cb : Array Value) (n : Int) (hn : n ≤ 0) (w : World) : Calls Try.prog 88 #[.int .i64 n, .func (.func g) #[] cb] w fun e w' => e = .returned (.int .i64 0) ∧ w = w' := by
  go_enter Try.func88, Try.ntmps88
  go_wp2
  refine wp_loop_rounds 1 ?_
  rw [rounds_succ]
  go_wp2
  go_ret
  exact ⟨rfl, rfl⟩
set_option maxHeartbeats 1600000 in
theorem leastFrom0_any (g : Nat) (cb : Array Value) (lo hi : Int) (w : World) (h0 : -1000000 ≤ lo) (h1 : hi < lo) (h2 : lo ≤ 1000000) (h3 : -1000000 ≤ hi) : Calls Try.prog 66 #[.int .i64 lo, .int .i64 hi, .func (.func g) #[] cb] w fun e w' => e = .returned (.tuple #[.int .i64 (0), .int .i64 (3)]) ∧ Below w.heap.size w w' := by
  have hB0 : Below w.heap.size w ((w.alloc (.cells #[.int .i64 lo] 2)).alloc (.cells #[.func (.func g) #[] cb] 69)) := ((Below.refl _ _).alloc (Nat.le_refl _) _).alloc (by simp) _
  have x1 : ((w.alloc (.cells #[.int .i64 lo] 2)).alloc (.cells #[.func (.func g) #[] cb] 69)).cell? ⟨w.heap.size, 0, none⟩ = some (.int .i64 lo) := ((Below.refl (w.alloc (.cells #[.int .i64 lo] 2)).heap.size (w.alloc (.cells #[.int .i64 lo] 2))).alloc (Nat.le_refl _) _ |>.cell (p := ⟨w.heap.size, 0, none⟩) (by simp)).trans (cellB (heap_alloc_new w _) 0 _ rfl)
  have e1 : IntKind.i64.wrap (hi - lo) = hi - lo := IntWalk.i64_in _ (by omega)
  have e2 : IntKind.i64.wrap (hi - lo + 1) = hi - lo + 1 := IntWalk.i64_in _ (by omega)
  have e3 : IntKind.i64.wrap (lo + 0) = lo := by rw [Int.add_zero]; exact IntWalk.i64_in _ (by omega)
  go_enter Try.func66, Try.ntmps66
  go_wp2_with fail
  generalize ((w.alloc (.cells #[.int .i64 lo] 2)).alloc (.cells #[.func (.func g) #[] cb] 69)) = W0 at hB0 x1 ⊢
  refine (search0_any _ _ _ (by omega) _).mono ?_
  rintro e w1 ⟨rfl, rfl⟩
  go_wp2
  go_ret2
  exact ⟨rfl, hB0⟩
theorem lstN_le (p : Nat → Bool) (n : Nat) : lstN p n ≤ n := by
  unfold lstN
  rcases h : (List.range n).find? p with _ | r
  · exact Nat.le_refl n
  · have := List.mem_range.1 (List.mem_of_find?_eq_some h)
    show r ≤ n
    omega
set_option maxHeartbeats 1600000 in
theorem ream1_any (s : ByteArray) (a : Int) (b : Int) (c : Int) (h y : Int) (i : Nat) (bx by' : Nat) (w : World) (hp : pegN a b c) (hi : i < rmN a b c h) (hh : 20 ≤ h ∧ h ≤ 200) (hbx : bx < w.heap.size) (hby : by' < w.heap.size) (hk : (w.cell? ⟨bx, 0, none⟩ = some (.string s) ∧ w.cell? ⟨bx, 1, none⟩ = some (.int .i64 a) ∧ w.cell? ⟨bx, 2, none⟩ = some (.int .i64 b) ∧ w.cell? ⟨bx, 3, none⟩ = some (.int .i64 c))) (hy : w.cell? ⟨by', 0, none⟩ = some (.int .i64 y)) : Calls Try.prog 67 #[.int .i64 (h + i), .pointer (some ⟨bx, 0, none⟩), .pointer (some ⟨by', 0, none⟩)] w fun e w' => e = .returned (.bool (rmP a c h y i)) ∧ Below w.heap.size w w' := by
  obtain ⟨k0, k1, k2, k3⟩ := hk
  have hin := rm_in (y := y) hp hi
  have hV : Hid (rmP a c h y i = decide (y ≤ wyV a c (h + i))) := Lib.hid rfl
  have cY0 := fun W => wayIn_any s a b c (h + i) hp (by omega) W
  rw [show iwV a b c (h + i) = wyV a c (h + i) from if_neg (by omega), show iwC a b c (h + i) = 0 from if_neg (by omega)] at cY0
  obtain ⟨q, hq⟩ : ∃ q, q = wyV a c (h + i) := ⟨_, rfl⟩
  rw [← hq] at cY0 hV
  have cY := Lib.hid cY0
  clear hq cY0 hin
  by_cases hle : y ≤ q
  all_goals
    go_enter Try.func67, Try.ntmps67
    go_wp2_with (go_at_call 61; (with_reducible refine (cY.out _).mono ?_); rintro e w1 ⟨rfl, b1⟩; have hy1 := (b1.cell (p := ⟨by', 0, none⟩) hby).trans hy)
    go_ret
    exact ⟨ret_bool (by first | (rw [hV.out]; done) | (rw [hV.out, decide_eq_true hle]; done) | (rw [hV.out, decide_eq_false hle]; done)), b1⟩
set_option maxHeartbeats 6400000 in
theorem implReamTo_any (h : Int) (s : ByteArray) (a : Int) (b : Int) (c : Int) (y : Int) (hs : s.size ≤ maxLen) (w : World) : Calls Try.prog 28 #[.int .i64 h, .agg #[.string s, .int .i64 a, .int .i64 b, .int .i64 c], .int .i64 y] w fun e w' => e = .returned (.tuple #[.int .i64 (pick (pegB ⟨s, a, b, c⟩ && (inB h 20 200 && inB y 0 1000)) (rmV a b c h y)), .int .i64 (cd3 (pegB ⟨s, a, b, c⟩) (inB h 20 200 && inB y 0 1000) (rmC a b c h y))]) ∧ Below w.heap.size w w' := by
  have hB2 : Below w.heap.size w (((w.alloc (.cells #[.string s, .int .i64 a, .int .i64 b, .int .i64 c] 34))).alloc (.cells #[.int .i64 y] 2)) := ((Below.refl _ _).alloc (Nat.le_refl _) _).alloc (by simp) _
  have hbb : Below (w.alloc (.cells #[.string s, .int .i64 a, .int .i64 b, .int .i64 c] 34)).heap.size (w.alloc (.cells #[.string s, .int .i64 a, .int .i64 b, .int .i64 c] 34)) (((w.alloc (.cells #[.string s, .int .i64 a, .int .i64 b, .int .i64 c] 34))).alloc (.cells #[.int .i64 y] 2)) := (Below.refl _ _).alloc (Nat.le_refl _) _
  have hx2 := PegAt.below (x := ⟨s, a, b, c⟩) (o := 0) (peg_box s a b c w) (by simp) hbb
  have hy2 : (((w.alloc (.cells #[.string s, .int .i64 a, .int .i64 b, .int .i64 c] 34))).alloc (.cells #[.int .i64 y] 2)).cell? ⟨w.heap.size + 1, 0, none⟩ = some (.int .i64 y) := cellB (by rw [show w.heap.size + 1 = (w.alloc (.cells #[.string s, .int .i64 a, .int .i64 b, .int .i64 c] 34)).heap.size by simp]; exact heap_alloc_new _ _) 0 _ rfl
  have hsz2 : (((w.alloc (.cells #[.string s, .int .i64 a, .int .i64 b, .int .i64 c] 34))).alloc (.cells #[.int .i64 y] 2)).heap.size = w.heap.size + 2 := by simp
  have hcel : Hid (∀ W, Below (((w.alloc (.cells #[.string s, .int .i64 a, .int .i64 b, .int .i64 c] 34))).alloc (.cells #[.int .i64 y] 2)).heap.size (((w.alloc (.cells #[.string s, .int .i64 a, .int .i64 b, .int .i64 c] 34))).alloc (.cells #[.int .i64 y] 2)) W → (W.cell? ⟨w.heap.size, 0, none⟩ = some (.string s) ∧ W.cell? ⟨w.heap.size, 1, none⟩ = some (.int .i64 a) ∧ W.cell? ⟨w.heap.size, 2, none⟩ = some (.int .i64 b) ∧ W.cell? ⟨w.heap.size, 3, none⟩ = some (.int .i64 c)) ∧ W.cell? ⟨w.heap.size + 1, 0, none⟩ = some (.int .i64 y)) := Lib.hid (fun W hb => ⟨peg_cel hx2 (by omega) W hb, (hb.cell (p := ⟨w.heap.size + 1, 0, none⟩) (show w.heap.size + 1 < _ by omega)).trans hy2⟩)
  obtain ⟨⟨k0, k1, k2, k3⟩, k4⟩ := hcel.out (((w.alloc (.cells #[.string s, .int .i64 a, .int .i64 b, .int .i64 c] 34))).alloc (.cells #[.int .i64 y] 2)) (Below.refl _ _)
  clear hx2 hbb
  have cV0 := fun W => isValidPeg_any s a b c hs W
  cases h1 : pegB ⟨s, a, b, c⟩ <;> rw [h1] at cV0 <;> have cV := Lib.hid cV0 <;> clear cV0
  · go_enter Try.func28, Try.ntmps28
    go_wp2_with fail
    generalize (((w.alloc (.cells #[.string s, .int .i64 a, .int .i64 b, .int .i64 c] 34))).alloc (.cells #[.int .i64 y] 2)) = W0 at hB2 hsz2 hcel k0 k1 k2 k3 k4 hy2  ⊢
    go_wp2_with (go_at_call 51; (with_reducible refine (cV.out _).mono ?_); rintro e w1 ⟨rfl, b1⟩; obtain ⟨⟨j0, j1, j2, j3⟩, j4⟩ := hcel.out _ b1)
    go_ret2
    exact ⟨ret_int2 rfl rfl, below2 hB2 b1⟩
  have hp := peg_n h1
  have cH0 := fun W => isHole_any h W
  cases h2 : inB h 20 200 <;> rw [h2] at cH0 <;> have cH := Lib.hid cH0 <;> clear cH0
  · go_enter Try.func28, Try.ntmps28
    go_wp2_with fail
    generalize (((w.alloc (.cells #[.string s, .int .i64 a, .int .i64 b, .int .i64 c] 34))).alloc (.cells #[.int .i64 y] 2)) = W0 at hB2 hsz2 hcel k0 k1 k2 k3 k4 hy2  ⊢
    go_wp2_with (first
      | (go_at_call 51; (with_reducible refine (cV.out _).mono ?_); rintro e w1 ⟨rfl, b1⟩; obtain ⟨⟨j0, j1, j2, j3⟩, j4⟩ := hcel.out _ b1)
      | (go_at_call 60; (with_reducible refine (cH.out _).mono ?_); rintro e w' ⟨rfl, rfl⟩))
    go_ret2
    exact ⟨ret_int2 rfl rfl, below2 hB2 b1⟩
  have cW0 := fun W => isWay_any y W
  cases h3 : inB y 0 1000 <;> rw [h3] at cW0 <;> have cW := Lib.hid cW0 <;> clear cW0
  · go_enter Try.func28, Try.ntmps28
    go_wp2_with fail
    generalize (((w.alloc (.cells #[.string s, .int .i64 a, .int .i64 b, .int .i64 c] 34))).alloc (.cells #[.int .i64 y] 2)) = W0 at hB2 hsz2 hcel k0 k1 k2 k3 k4 hy2  ⊢
    go_wp2_with (first
      | (go_at_call 51; (with_reducible refine (cV.out _).mono ?_); rintro e w1 ⟨rfl, b1⟩; obtain ⟨⟨j0, j1, j2, j3⟩, j4⟩ := hcel.out _ b1)
      | (go_at_call 60; (with_reducible refine (cH.out _).mono ?_); rintro e w' ⟨rfl, rfl⟩)
      | (go_at_call 65; (with_reducible refine (cW.out _).mono ?_); rintro e w' ⟨rfl, rfl⟩))
    go_ret2
    exact ⟨ret_int2 rfl rfl, below2 hB2 b1⟩
  have hh := inB_iff.1 h2
  have hwd := wd_bd hp
  have hb1 := hp.2.1
  have htb := thV_bd (a := a) (c := c) (w := b) hp.2.2 (by omega)
  have hWD : Hid (min 200 (thV a c b) = wdV a b c) := Lib.hid rfl
  have cT0 := fun W => thickAt_any s a b c b hp.2.2 hp.1 (by omega) W
  have hN : ((rmN a b c h : Nat) : Int) = max 0 (wdV a b c + 1 - h) := by unfold rmN; omega
  clear h1 h2 h3
  have ex : ∃ (x : Int) (r : Int), ((r = 0 ∧ x = h + rmV a b c h y ∧ rmC a b c h y = 0 ∧ 0 ≤ rmV a b c h y ∧ rmV a b c h y ≤ 200) ∨ (r = 3 ∧ rmV a b c h y = 0 ∧ rmC a b c h y = 3)) ∧ Hid (∀ W0 : World, W0.heap.size = w.heap.size + 2 → (∀ W, Below W0.heap.size W0 W → (W.cell? ⟨w.heap.size, 0, none⟩ = some (.string s) ∧ W.cell? ⟨w.heap.size, 1, none⟩ = some (.int .i64 a) ∧ W.cell? ⟨w.heap.size, 2, none⟩ = some (.int .i64 b) ∧ W.cell? ⟨w.heap.size, 3, none⟩ = some (.int .i64 c)) ∧ W.cell? ⟨w.heap.size + 1, 0, none⟩ = some (.int .i64 y)) → ∀ W, Below W0.heap.size W0 W → Calls Try.prog 66 #[.int .i64 h, .int .i64 (wdV a b c), .func (.func 67) #[] #[.pointer (some ⟨w.heap.size, 0, none⟩), .pointer (some ⟨w.heap.size + 1, 0, none⟩)]] W fun e w' => e = .returned (.tuple #[.int .i64 x, .int .i64 r]) ∧ Below W.heap.size W w') := by
    by_cases hhw : h ≤ wdV a b c
    · refine ⟨lfV h (lstN (rmP a c h y) (rmN a b c h)) (rmN a b c h), lfC (lstN (rmP a c h y) (rmN a b c h)) (rmN a b c h), ?_, Lib.hid (fun W0 hb2 hcl W hb => leastFrom_any 67 #[.pointer (some ⟨w.heap.size, 0, none⟩), .pointer (some ⟨w.heap.size + 1, 0, none⟩)] h (wdV a b c) (rmN a b c h) (rmP a c h y) W (enters_of Try.func67 (by kernel_rfl) rfl) (by omega) (by omega) (by omega) (by omega) (fun W3 i hW hi => by
        have h9 := hW.size
        have h8 := hb.size
        exact ream1_any s a b c h y i w.heap.size (w.heap.size + 1) W3 hp hi hh (by omega) (by omega) (hcl W3 (below2 hb hW)).1 (hcl W3 (below2 hb hW)).2) (fun i j hij _ h => rm_mono hp.2.2.1 hij h))⟩
      unfold rmV rmC lfV lfC
      have hle := lstN_le (rmP a c h y) (rmN a b c h)
      by_cases hr : lstN (rmP a c h y) (rmN a b c h) = rmN a b c h
      · right
        rw [if_pos hr, if_pos hr]
        exact ⟨rfl, rfl, rfl⟩
      · left
        rw [if_neg hr, if_neg hr, if_neg hr]
        exact ⟨rfl, by omega, rfl, by omega, by omega⟩
    · refine ⟨0, 3, Or.inr ⟨rfl, ?_, ?_⟩, Lib.hid (fun W0 _ _ W _ => leastFrom0_any 67 #[.pointer (some ⟨w.heap.size, 0, none⟩), .pointer (some ⟨w.heap.size + 1, 0, none⟩)] h (wdV a b c) W (by omega) (by omega) (by omega) (by omega))⟩
      · unfold rmV lfV
        rw [show rmN a b c h = 0 by omega, if_pos (by have := lstN_le (rmP a c h y) 0; omega)]
      · unfold rmC lfC
        rw [show rmN a b c h = 0 by omega, if_pos (by have := lstN_le (rmP a c h y) 0; omega)]
  obtain ⟨x, r, hcase, hF⟩ := ex
  obtain ⟨V, hVV⟩ : ∃ V, V = rmV a b c h y := ⟨_, rfl⟩
  obtain ⟨C, hCC⟩ : ∃ C, C = rmC a b c h y := ⟨_, rfl⟩
  rw [← hVV, ← hCC] at hcase ⊢
  obtain ⟨q, hq⟩ : ∃ q, q = thV a c b := ⟨_, rfl⟩
  obtain ⟨d, hd⟩ : ∃ d, d = wdV a b c := ⟨_, rfl⟩
  rw [← hq] at cT0 htb hWD
  rw [← hd] at hF hWD
  have hWD' := hWD.out
  clear hq hd hVV hCC hN hwd hWD
  rcases hcase with ⟨rfl, rfl, rfl, hv0, hv1⟩ | ⟨rfl, rfl, rfl⟩
  all_goals
    rw [← hWD'] at hF
    clear hWD'
    have cT := Lib.hid cT0
    clear cT0
    go_enter Try.func28, Try.ntmps28
    go_wp2_with fail
    generalize (((w.alloc (.cells #[.string s, .int .i64 a, .int .i64 b, .int .i64 c] 34))).alloc (.cells #[.int .i64 y] 2)) = W0 at hB2 hsz2 hcel k0 k1 k2 k3 k4 hy2  ⊢
    have cF := Lib.hid (hF.out W0 hsz2 hcel.out)
    go_wp2_with (first
      | (go_at_call 51; (with_reducible refine (cV.out _).mono ?_); rintro e w1 ⟨rfl, b1⟩; obtain ⟨⟨j0, j1, j2, j3⟩, j4⟩ := hcel.out _ b1)
      | (go_at_call 60; (with_reducible refine (cH.out _).mono ?_); rintro e w' ⟨rfl, rfl⟩)
      | (go_at_call 65; (with_reducible refine (cW.out _).mono ?_); rintro e w' ⟨rfl, rfl⟩)
      | (go_at_call 57; (with_reducible refine (cT.out _).mono ?_); rintro e w2 ⟨rfl, b2⟩; have b12 := below2 b1 b2; obtain ⟨⟨i0, i1, i2, i3⟩, i4⟩ := hcel.out _ b12)
      | (go_at_call 66; (with_reducible refine (cF.out _ b12).mono ?_); rintro e w3 ⟨rfl, b3⟩))
    go_ret2
    exact ⟨ret_int2 (by first | rfl | (show _ = _; simp [pick]; omega)) rfl, below2 hB2 (below2 b12 b3)⟩
end Go.Proofs.Ytnlnocapbbeleaa
