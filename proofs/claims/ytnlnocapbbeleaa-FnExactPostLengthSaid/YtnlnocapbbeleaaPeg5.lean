/-
  Pegs: the model's ReamTo; lengths and rings of posts.
-/
import Derived.Test.YtnlnocapbbeleaaPeg4
namespace Go.Proofs.Ytnlnocapbbeleaa
open Go.ChangeShapes Go.WideShapes Go.ChangeAt Go.RowKit Go.Deep
set_option linter.unusedVariables false
set_option linter.unusedSimpArgs false
set_option maxRecDepth 1000000
set_option maxHeartbeats 6400000 in
theorem specReamTo_any (h : Int) (s : ByteArray) (a : Int) (b : Int) (c : Int) (y : Int) (hs : s.size ≤ maxLen) (w : World) : Calls Try.prog 27 #[.int .i64 h, .agg #[.string s, .int .i64 a, .int .i64 b, .int .i64 c], .int .i64 y] w fun e w' => e = .returned (.tuple #[.int .i64 (pick (pegB ⟨s, a, b, c⟩ && (inB h 20 200 && inB y 0 1000)) (rmV a b c h y)), .int .i64 (cd3 (pegB ⟨s, a, b, c⟩) (inB h 20 200 && inB y 0 1000) (rmC a b c h y))]) ∧ Below w.heap.size w w' := by
  have hB0 : Below w.heap.size w (w.alloc (.cells #[.string s, .int .i64 a, .int .i64 b, .int .i64 c] 34)) := (Below.refl _ _).alloc (Nat.le_refl _) _
  have hx := peg_box s a b c w
  have hsz : w.heap.size < (w.alloc (.cells #[.string s, .int .i64 a, .int .i64 b, .int .i64 c] 34)).heap.size := by simp
  have cV0 := l12One_any s a b c hs (w.alloc (.cells #[.string s, .int .i64 a, .int .i64 b, .int .i64 c] 34)) w.heap.size 0 hx
  cases h1 : pegB ⟨s, a, b, c⟩ <;> rw [h1] at cV0 <;> have cV := Lib.hid cV0 <;> clear cV0
  · clear hx
    go_enter Try.func27, Try.ntmps27
    go_wp2_with (go_at_call 54; (with_reducible refine (cV.out).mono ?_); rintro e w1 ⟨rfl, rfl⟩)
    go_ret2
    exact ⟨ret_int2 rfl rfl, hB0⟩
  have hp := peg_n h1
  have cH0 := fun W => l12Hole_any h W
  cases h2 : inB h 20 200 <;> rw [h2] at cH0 <;> have cH := Lib.hid cH0 <;> clear cH0
  · clear hx
    go_enter Try.func27, Try.ntmps27
    go_wp2_with (first
      | (go_at_call 54; (with_reducible refine (cV.out).mono ?_); rintro e w1 ⟨rfl, rfl⟩)
      | (go_at_call 58; (with_reducible refine (cH.out _).mono ?_); rintro e w' ⟨rfl, rfl⟩))
    go_ret2
    exact ⟨ret_int2 rfl rfl, hB0⟩
  have cW0 := fun W => l12Way_any y W
  cases h3 : inB y 0 1000 <;> rw [h3] at cW0 <;> have cW := Lib.hid cW0 <;> clear cW0
  · clear hx
    go_enter Try.func27, Try.ntmps27
    go_wp2_with (first
      | (go_at_call 54; (with_reducible refine (cV.out).mono ?_); rintro e w1 ⟨rfl, rfl⟩)
      | (go_at_call 58; (with_reducible refine (cH.out _).mono ?_); rintro e w' ⟨rfl, rfl⟩)
      | (go_at_call 55; (with_reducible refine (cW.out _).mono ?_); rintro e w' ⟨rfl, rfl⟩))
    go_ret2
    exact ⟨ret_int2 rfl rfl, hB0⟩
  have hh := inB_iff.1 h2
  have hwd := wd_bd hp
  have hN1 : ((rmN a b c h : Nat) : Int) = max 0 (wdV a b c + 1 - h) := by unfold rmN; omega
  have hc10 := hp.2.2.1
  have hV : Hid (rmV a b c h y = lfV 0 (lstN (rmP a c h y) (rmN a b c h)) (rmN a b c h)) := Lib.hid rfl
  have hC : Hid (rmC a b c h y = lfC (lstN (rmP a c h y) (rmN a b c h)) (rmN a b c h)) := Lib.hid rfl
  obtain ⟨N, hN⟩ : ∃ N, N = rmN a b c h := ⟨_, rfl⟩
  rw [← hN] at hV hC hN1
  have hN' := Lib.hid hN
  have hp' := Lib.hid hp
  have hNb : (N : Int) ≤ 181 := by omega
  clear h1 h2 h3 hN hN1
  go_enter Try.func27, Try.ntmps27
  go_wp2_with (first
    | (go_at_call 54; (with_reducible refine (cV.out).mono ?_); rintro e w1 ⟨rfl, rfl⟩)
    | (go_at_call 58; (with_reducible refine (cH.out _).mono ?_); rintro e w' ⟨rfl, rfl⟩)
    | (go_at_call 55; (with_reducible refine (cW.out _).mono ?_); rintro e w' ⟨rfl, rfl⟩))
  generalize (w.alloc (.cells #[.string s, .int .i64 a, .int .i64 b, .int .i64 c] 34)) = W0 at hB0 hx hsz ⊢
  have hxx : Hid (∀ W, Below W0.heap.size W0 W → PegAt W w.heap.size 0 ⟨s, a, b, c⟩) := Lib.hid (fun W hb => hx.below hsz hb)
  have hB0' := Lib.hid hB0
  clear hx hB0 hsz cV
  go_loopw [8] (fun i wr => ∃ k : Nat, k ≤ N ∧ i = .int .i64 k ∧ Hid (∀ j, j < k → rmP a c h y j = false) ∧ Hid (Below W0.heap.size W0 wr)) (fun i _ => N + 1 - (intOf i).toNat)
  case atStart => exact ⟨0, by omega, rfl, Lib.hid (fun j hj => by omega), Lib.hid (Below.refl _ _)⟩
  case round =>
    obtain ⟨k, hk, rfl, hno, hbR⟩ := hrel
    have hat := hxx.out wr hbR.out
    by_cases hlt : k < N
    · have hin := rm_in (y := y) hp'.out (k := k) (by rw [← hN'.out]; exact hlt)
      have hle := hin.1
      have cY0 := l12In_any s a b c (h + k) hp'.out (by omega) wr w.heap.size 0 hat
      rw [show inV a b c (h + k) = wyV a c (h + k) from if_neg (by omega)] at cY0
      have hlp : Hid (rmP a c h y k = decide (y ≤ wyV a c (h + k))) := Lib.hid rfl
      have hwb := (wyV_bd (a := a) (c := c) (h := h + k) hp'.out.1.1 hp'.out.2.2 (by omega)).1
      obtain ⟨Q, hQ⟩ : ∃ Q, Q = wyV a c (h + k) := ⟨_, rfl⟩
      rw [← hQ] at cY0 hlp hwb
      have cY := Lib.hid cY0
      have hng : ¬ Q < 0 := by omega
      clear hQ cY0 hat hin
      by_cases hge : y ≤ Q
      · have hL : Hid (lstN (rmP a c h y) N = k) := Lib.hid (lst_at (by omega) hno.out (by rw [hlp.out]; exact decide_eq_true hge) (fun i j hij h => rm_mono hc10 hij h))
        have hf : Hid ((k : Int) = rmV a b c h y ∧ (0 : Int) = rmC a b c h y) := Lib.hid (by rw [hV.out, hC.out, hL.out]; have h9 := lf_yes (lo := 0) (r := k) (n := N) (by omega); rw [Int.zero_add] at h9; exact h9)
        go_wp2_with (go_at_call 59; (with_reducible refine (cY.out).mono ?_); rintro e w2 ⟨rfl, d2⟩)
        go_ret2
        exact ⟨ret_int2 hf.out.1 hf.out.2, below2 hB0'.out (below2 hbR.out d2.below)⟩
      · have hno2 : Hid (∀ j, j < k + 1 → rmP a c h y j = false) := Lib.hid (fun j hj => by
          rcases Nat.lt_or_ge j k with h | h
          · exact hno.out j h
          · rw [show j = k by omega, hlp.out]; exact decide_eq_false hge)
        go_wp2_with (go_at_call 59; (with_reducible refine (cY.out).mono ?_); rintro e w2 ⟨rfl, d2⟩)
        go_roundw
        case rel => exact ⟨k + 1, by omega, by go_num, hno2, Lib.hid (below2 hbR.out d2.below)⟩
        case measure => simp [intOf]; omega
    · obtain rfl : k = N := by omega
      have hf : Hid ((0 : Int) = rmV a b c h y ∧ (3 : Int) = rmC a b c h y) := Lib.hid (by rw [hV.out, hC.out, lst_none hno.out]; exact lf_no rfl)
      by_cases h200 : h + (k : Int) ≤ 200
      · have cY0 := l12In_any s a b c (h + k) hp'.out (by omega) wr w.heap.size 0 hat
        rw [show inV a b c (h + k) = -1 from if_pos (rm_out (y := y) hp'.out (by rw [← hN'.out]; exact hlt) h200)] at cY0
        have cY := Lib.hid cY0
        clear cY0 hat
        go_wp2_with (go_at_call 59; (with_reducible refine (cY.out).mono ?_); rintro e w2 ⟨rfl, d2⟩)
        go_ret2
        exact ⟨ret_int2 hf.out.1 hf.out.2, below2 hB0'.out (below2 hbR.out d2.below)⟩
      · clear hat
        go_wp2
        go_ret2
        exact ⟨ret_int2 hf.out.1 hf.out.2, below2 hB0'.out hbR.out⟩
set_option maxHeartbeats 1600000 in
theorem implAfterLength_any (z y : Int) (w : World) : Calls Try.prog 30 #[.int .i64 z, .int .i64 y] w fun e w' => e = .returned (.tuple #[.int .i64 (pick (inB z 100 10000 && inB y 1 1000) (rnd (z * y) 1000)), .int .i64 (code (inB z 100 10000 && inB y 1 1000) 2)]) ∧ Below w.heap.size w w' := by
  have c00 := fun W => within64_any z 100 10000 W
  cases h0 : inB z 100 10000 <;> rw [h0] at c00 <;> have c0 := Lib.hid c00 <;> clear c00
  · go_enter Try.func30, Try.ntmps30
    go_wp2_with (first
      | (go_at_call 56; (with_reducible refine (c0.out _).mono ?_); rintro e w' ⟨rfl, rfl⟩))
    go_ret2
    exact ⟨ret_int2 rfl rfl, Below.refl _ _⟩
  have c10 := fun W => within64_any y 1 1000 W
  cases h1 : inB y 1 1000 <;> rw [h1] at c10 <;> have c1 := Lib.hid c10 <;> clear c10
  · go_enter Try.func30, Try.ntmps30
    go_wp2_with (first
      | (go_at_call 56; (with_reducible refine (c0.out _).mono ?_); rintro e w' ⟨rfl, rfl⟩)
      | (go_at_call 56; (with_reducible refine (c1.out _).mono ?_); rintro e w' ⟨rfl, rfl⟩))
    go_ret2
    exact ⟨ret_int2 rfl rfl, Below.refl _ _⟩
  have b0 := inB_iff.1 h0
  have b1 := inB_iff.1 h1
  have hzy := mulP_bd (a := z) (b := y) (A := 10000) (B := 1000) (by omega) (by omega)
  have e1 : IntKind.i64.wrap (z * y) = z * y := IntWalk.i64_in _ (by omega)
  have cN := Lib.hid (fun W => near9_any (z * y) 1000 (by decide) (by omega) (by omega) (by decide) (by decide) W)
  go_enter Try.func30, Try.ntmps30
  go_wp2_with (first
    | (go_at_call 56; (with_reducible refine (c0.out _).mono ?_); rintro e w' ⟨rfl, rfl⟩)
    | (go_at_call 56; (with_reducible refine (c1.out _).mono ?_); rintro e w' ⟨rfl, rfl⟩)
    | (go_at_call 64; (with_reducible refine (cN.out _).mono ?_); rintro e w4 ⟨rfl, b4⟩))
  go_ret2
  exact ⟨ret_int2 rfl rfl, b4⟩
set_option maxHeartbeats 1600000 in
theorem specAfterLength_any (z y : Int) (w : World) : Calls Try.prog 29 #[.int .i64 z, .int .i64 y] w fun e w' => e = .returned (.tuple #[.int .i64 (pick (inB z 100 10000 && inB y 1 1000) (rnd (z * y) 1000)), .int .i64 (code (inB z 100 10000 && inB y 1 1000) 2)]) ∧ Below w.heap.size w w' := by
  have c00 := fun W => l00In_any z 100 10000 W
  cases h0 : inB z 100 10000 <;> rw [h0] at c00 <;> have c0 := Lib.hid c00 <;> clear c00
  · go_enter Try.func29, Try.ntmps29
    go_wp2_with (first
      | (go_at_call 62; (with_reducible refine (c0.out _).mono ?_); rintro e w' ⟨rfl, rfl⟩))
    go_ret2
    exact ⟨ret_int2 rfl rfl, Below.refl _ _⟩
  have c10 := fun W => l00In_any y 1 1000 W
  cases h1 : inB y 1 1000 <;> rw [h1] at c10 <;> have c1 := Lib.hid c10 <;> clear c10
  · go_enter Try.func29, Try.ntmps29
    go_wp2_with (first
      | (go_at_call 62; (with_reducible refine (c0.out _).mono ?_); rintro e w' ⟨rfl, rfl⟩)
      | (go_at_call 62; (with_reducible refine (c1.out _).mono ?_); rintro e w' ⟨rfl, rfl⟩))
    go_ret2
    exact ⟨ret_int2 rfl rfl, Below.refl _ _⟩
  have b0 := inB_iff.1 h0
  have b1 := inB_iff.1 h1
  have hzy := mulP_bd (a := z) (b := y) (A := 10000) (B := 1000) (by omega) (by omega)
  have e1 : IntKind.i64.wrap (z * y) = z * y := IntWalk.i64_in _ (by omega)
  have cN := Lib.hid (fun W => l01Div_any (z * y) 1000 (by decide) (by omega) (by omega) (by decide) (by decide) W)
  go_enter Try.func29, Try.ntmps29
  go_wp2_with (first
    | (go_at_call 62; (with_reducible refine (c0.out _).mono ?_); rintro e w' ⟨rfl, rfl⟩)
    | (go_at_call 62; (with_reducible refine (c1.out _).mono ?_); rintro e w' ⟨rfl, rfl⟩)
    | (go_at_call 63; (with_reducible refine (cN.out _).mono ?_); rintro e w4 ⟨rfl, rfl⟩))
  go_ret2
  exact ⟨ret_int2 rfl rfl, Below.refl _ _⟩
set_option maxHeartbeats 1600000 in
theorem implPostRing_any (z y : Int) (w : World) : Calls Try.prog 32 #[.int .i64 z, .int .i64 y] w fun e w' => e = .returned (.tuple #[.int .i64 (pick (inB z 0 500 && inB y 1 100) (max 0 (1000 - 4 * z - y * y))), .int .i64 (code (inB z 0 500 && inB y 1 100) 2)]) ∧ Below w.heap.size w w' := by
  have c00 := fun W => within64_any z 0 500 W
  cases h0 : inB z 0 500 <;> rw [h0] at c00 <;> have c0 := Lib.hid c00 <;> clear c00
  · go_enter Try.func32, Try.ntmps32
    go_wp2_with (first
      | (go_at_call 56; (with_reducible refine (c0.out _).mono ?_); rintro e w' ⟨rfl, rfl⟩))
    go_ret2
    exact ⟨ret_int2 rfl rfl, Below.refl _ _⟩
  have c10 := fun W => within64_any y 1 100 W
  cases h1 : inB y 1 100 <;> rw [h1] at c10 <;> have c1 := Lib.hid c10 <;> clear c10
  · go_enter Try.func32, Try.ntmps32
    go_wp2_with (first
      | (go_at_call 56; (with_reducible refine (c0.out _).mono ?_); rintro e w' ⟨rfl, rfl⟩)
      | (go_at_call 56; (with_reducible refine (c1.out _).mono ?_); rintro e w' ⟨rfl, rfl⟩))
    go_ret2
    exact ⟨ret_int2 rfl rfl, Below.refl _ _⟩
  have b0 := inB_iff.1 h0
  have b1 := inB_iff.1 h1
  have hyy := mulP_bd (a := y) (b := y) (A := 100) (B := 100) (by omega) (by omega)
  have e1 : IntKind.i64.wrap (y * y) = y * y := IntWalk.i64_in _ (by omega)
  have e2 : IntKind.i64.wrap (1000 - 4 * z - y * y) = 1000 - 4 * z - y * y := IntWalk.i64_in _ (by omega)
  go_enter Try.func32, Try.ntmps32
  go_wp2_with (first
    | (go_at_call 56; (with_reducible refine (c0.out _).mono ?_); rintro e w' ⟨rfl, rfl⟩)
    | (go_at_call 56; (with_reducible refine (c1.out _).mono ?_); rintro e w' ⟨rfl, rfl⟩))
  all_goals go_ret2
  all_goals exact ⟨ret_int2 (by show _ = max 0 (1000 - 4 * z - y * y); omega) rfl, Below.refl _ _⟩
set_option maxHeartbeats 1600000 in
theorem specPostRing_any (z y : Int) (w : World) : Calls Try.prog 31 #[.int .i64 z, .int .i64 y] w fun e w' => e = .returned (.tuple #[.int .i64 (pick (inB z 0 500 && inB y 1 100) (max 0 (1000 - 4 * z - y * y))), .int .i64 (code (inB z 0 500 && inB y 1 100) 2)]) ∧ Below w.heap.size w w' := by
  have c00 := fun W => l00In_any z 0 500 W
  cases h0 : inB z 0 500 <;> rw [h0] at c00 <;> have c0 := Lib.hid c00 <;> clear c00
  · go_enter Try.func31, Try.ntmps31
    go_wp2_with (first
      | (go_at_call 62; (with_reducible refine (c0.out _).mono ?_); rintro e w' ⟨rfl, rfl⟩))
    go_ret2
    exact ⟨ret_int2 rfl rfl, Below.refl _ _⟩
  have c10 := fun W => l00In_any y 1 100 W
  cases h1 : inB y 1 100 <;> rw [h1] at c10 <;> have c1 := Lib.hid c10 <;> clear c10
  · go_enter Try.func31, Try.ntmps31
    go_wp2_with (first
      | (go_at_call 62; (with_reducible refine (c0.out _).mono ?_); rintro e w' ⟨rfl, rfl⟩)
      | (go_at_call 62; (with_reducible refine (c1.out _).mono ?_); rintro e w' ⟨rfl, rfl⟩))
    go_ret2
    exact ⟨ret_int2 rfl rfl, Below.refl _ _⟩
  have b0 := inB_iff.1 h0
  have b1 := inB_iff.1 h1
  have hyy := mulP_bd (a := y) (b := y) (A := 100) (B := 100) (by omega) (by omega)
  have e1 : IntKind.i64.wrap (y * y) = y * y := IntWalk.i64_in _ (by omega)
  have e2 : IntKind.i64.wrap (1000 - 4 * z - y * y) = 1000 - 4 * z - y * y := IntWalk.i64_in _ (by omega)
  have cM := Lib.hid (fun W => max9_any 0 (1000 - 4 * z - y * y) W)
  go_enter Try.func31, Try.ntmps31
  go_wp2_with (first
    | (go_at_call 62; (with_reducible refine (c0.out _).mono ?_); rintro e w' ⟨rfl, rfl⟩)
    | (go_at_call 62; (with_reducible refine (c1.out _).mono ?_); rintro e w' ⟨rfl, rfl⟩)
    | (go_at_call 68; (with_reducible refine (cM.out _).mono ?_); rintro e w4 ⟨rfl, rfl⟩))
  go_ret2
  exact ⟨ret_int2 rfl rfl, Below.refl _ _⟩
/-- a post's length -/
def plV (z y x u : Int) : Int := if z - u + rnd (y * x) 1000 < 1 then 0 else z - u + rnd (y * x) 1000
def plC (z y x u : Int) : Int := if z - u + rnd (y * x) 1000 < 1 then 6 else 0
def plD (z y x u : Int) : Int := if (inB z 100 1000 && (inB y 0 500 && (inB x 0 500 && inB u 0 100))) = true then plC z y x u else 2
set_option maxHeartbeats 1600000 in
theorem implPostLength_any (z y x u : Int) (w : World) : Calls Try.prog 39 #[.int .i64 z, .int .i64 y, .int .i64 x, .int .i64 u] w fun e w' => e = .returned (.tuple #[.int .i64 (pick (inB z 100 1000 && (inB y 0 500 && (inB x 0 500 && inB u 0 100))) (plV z y x u)), .int .i64 (plD z y x u)]) ∧ Below w.heap.size w w' := by
  unfold plD
  have c00 := fun W => within64_any z 100 1000 W
  cases h0 : inB z 100 1000 <;> rw [h0] at c00 <;> have c0 := Lib.hid c00 <;> clear c00
  · go_enter Try.func39, Try.ntmps39
    go_wp2_with (first
      | (go_at_call 56; (with_reducible refine (c0.out _).mono ?_); rintro e w' ⟨rfl, rfl⟩))
    go_ret2
    exact ⟨ret_int2 rfl rfl, Below.refl _ _⟩
  have c10 := fun W => within64_any y 0 500 W
  cases h1 : inB y 0 500 <;> rw [h1] at c10 <;> have c1 := Lib.hid c10 <;> clear c10
  · go_enter Try.func39, Try.ntmps39
    go_wp2_with (first
      | (go_at_call 56; (with_reducible refine (c0.out _).mono ?_); rintro e w' ⟨rfl, rfl⟩)
      | (go_at_call 56; (with_reducible refine (c1.out _).mono ?_); rintro e w' ⟨rfl, rfl⟩))
    go_ret2
    exact ⟨ret_int2 rfl rfl, Below.refl _ _⟩
  have c20 := fun W => within64_any x 0 500 W
  cases h2 : inB x 0 500 <;> rw [h2] at c20 <;> have c2 := Lib.hid c20 <;> clear c20
  · go_enter Try.func39, Try.ntmps39
    go_wp2_with (first
      | (go_at_call 56; (with_reducible refine (c0.out _).mono ?_); rintro e w' ⟨rfl, rfl⟩)
      | (go_at_call 56; (with_reducible refine (c1.out _).mono ?_); rintro e w' ⟨rfl, rfl⟩)
      | (go_at_call 56; (with_reducible refine (c2.out _).mono ?_); rintro e w' ⟨rfl, rfl⟩))
    go_ret2
    exact ⟨ret_int2 rfl rfl, Below.refl _ _⟩
  have c30 := fun W => within64_any u 0 100 W
  cases h3 : inB u 0 100 <;> rw [h3] at c30 <;> have c3 := Lib.hid c30 <;> clear c30
  · go_enter Try.func39, Try.ntmps39
    go_wp2_with (first
      | (go_at_call 56; (with_reducible refine (c0.out _).mono ?_); rintro e w' ⟨rfl, rfl⟩)
      | (go_at_call 56; (with_reducible refine (c1.out _).mono ?_); rintro e w' ⟨rfl, rfl⟩)
      | (go_at_call 56; (with_reducible refine (c2.out _).mono ?_); rintro e w' ⟨rfl, rfl⟩)
      | (go_at_call 56; (with_reducible refine (c3.out _).mono ?_); rintro e w' ⟨rfl, rfl⟩))
    go_ret2
    exact ⟨ret_int2 rfl rfl, Below.refl _ _⟩
  have b0 := inB_iff.1 h0
  have b1 := inB_iff.1 h1
  have b2 := inB_iff.1 h2
  have b3 := inB_iff.1 h3
  have hyx := mulP_bd (a := y) (b := x) (A := 500) (B := 500) (by omega) (by omega)
  have hrb := rnd_bd (y * x) 1000 (by omega)
  have e1 : IntKind.i64.wrap (y * x) = y * x := IntWalk.i64_in _ (by omega)
  have cN0 := fun W => near9_any (y * x) 1000 (by decide) (by omega) (by omega) (by decide) (by decide) W
  unfold plV plC
  obtain ⟨r, hr⟩ : ∃ r, r = rnd (y * x) 1000 := ⟨_, rfl⟩
  rw [← hr] at hrb cN0 ⊢
  have cN := Lib.hid cN0
  clear hr cN0
  by_cases hlt : z - u + r < 1
  · rw [if_pos hlt, if_pos hlt]
    have hlt2 : z - u + r < 1 := by omega
    go_enter Try.func39, Try.ntmps39
    go_wp2_with (first
      | (go_at_call 56; (with_reducible refine (c0.out _).mono ?_); rintro e w' ⟨rfl, rfl⟩)
      | (go_at_call 56; (with_reducible refine (c1.out _).mono ?_); rintro e w' ⟨rfl, rfl⟩)
      | (go_at_call 56; (with_reducible refine (c2.out _).mono ?_); rintro e w' ⟨rfl, rfl⟩)
      | (go_at_call 56; (with_reducible refine (c3.out _).mono ?_); rintro e w' ⟨rfl, rfl⟩)
      | (go_at_call 64; (with_reducible refine (cN.out _).mono ?_); rintro e w4 ⟨rfl, b4⟩))
    go_ret2
    exact ⟨ret_int2 (by first | rfl | (show _ = z - u + r; omega)) rfl, b4⟩
  · rw [if_neg hlt, if_neg hlt]
    have hlt2 : ¬ z - u + r < 1 := by omega
    go_enter Try.func39, Try.ntmps39
    go_wp2_with (first
      | (go_at_call 56; (with_reducible refine (c0.out _).mono ?_); rintro e w' ⟨rfl, rfl⟩)
      | (go_at_call 56; (with_reducible refine (c1.out _).mono ?_); rintro e w' ⟨rfl, rfl⟩)
      | (go_at_call 56; (with_reducible refine (c2.out _).mono ?_); rintro e w' ⟨rfl, rfl⟩)
      | (go_at_call 56; (with_reducible refine (c3.out _).mono ?_); rintro e w' ⟨rfl, rfl⟩)
      | (go_at_call 64; (with_reducible refine (cN.out _).mono ?_); rintro e w4 ⟨rfl, b4⟩))
    go_ret2
    exact ⟨ret_int2 (by first | rfl | (show _ = z - u + r; omega)) rfl, b4⟩
set_option maxHeartbeats 1600000 in
theorem specPostLength_any (z y x u : Int) (w : World) : Calls Try.prog 38 #[.int .i64 z, .int .i64 y, .int .i64 x, .int .i64 u] w fun e w' => e = .returned (.tuple #[.int .i64 (pick (inB z 100 1000 && (inB y 0 500 && (inB x 0 500 && inB u 0 100))) (plV z y x u)), .int .i64 (plD z y x u)]) ∧ Below w.heap.size w w' := by
  unfold plD
  have c00 := fun W => l00In_any z 100 1000 W
  cases h0 : inB z 100 1000 <;> rw [h0] at c00 <;> have c0 := Lib.hid c00 <;> clear c00
  · go_enter Try.func38, Try.ntmps38
    go_wp2_with (first
      | (go_at_call 62; (with_reducible refine (c0.out _).mono ?_); rintro e w' ⟨rfl, rfl⟩))
    go_ret2
    exact ⟨ret_int2 rfl rfl, Below.refl _ _⟩
  have c10 := fun W => l00In_any y 0 500 W
  cases h1 : inB y 0 500 <;> rw [h1] at c10 <;> have c1 := Lib.hid c10 <;> clear c10
  · go_enter Try.func38, Try.ntmps38
    go_wp2_with (first
      | (go_at_call 62; (with_reducible refine (c0.out _).mono ?_); rintro e w' ⟨rfl, rfl⟩)
      | (go_at_call 62; (with_reducible refine (c1.out _).mono ?_); rintro e w' ⟨rfl, rfl⟩))
    go_ret2
    exact ⟨ret_int2 rfl rfl, Below.refl _ _⟩
  have c20 := fun W => l00In_any x 0 500 W
  cases h2 : inB x 0 500 <;> rw [h2] at c20 <;> have c2 := Lib.hid c20 <;> clear c20
  · go_enter Try.func38, Try.ntmps38
    go_wp2_with (first
      | (go_at_call 62; (with_reducible refine (c0.out _).mono ?_); rintro e w' ⟨rfl, rfl⟩)
      | (go_at_call 62; (with_reducible refine (c1.out _).mono ?_); rintro e w' ⟨rfl, rfl⟩)
      | (go_at_call 62; (with_reducible refine (c2.out _).mono ?_); rintro e w' ⟨rfl, rfl⟩))
    go_ret2
    exact ⟨ret_int2 rfl rfl, Below.refl _ _⟩
  have c30 := fun W => l00In_any u 0 100 W
  cases h3 : inB u 0 100 <;> rw [h3] at c30 <;> have c3 := Lib.hid c30 <;> clear c30
  · go_enter Try.func38, Try.ntmps38
    go_wp2_with (first
      | (go_at_call 62; (with_reducible refine (c0.out _).mono ?_); rintro e w' ⟨rfl, rfl⟩)
      | (go_at_call 62; (with_reducible refine (c1.out _).mono ?_); rintro e w' ⟨rfl, rfl⟩)
      | (go_at_call 62; (with_reducible refine (c2.out _).mono ?_); rintro e w' ⟨rfl, rfl⟩)
      | (go_at_call 62; (with_reducible refine (c3.out _).mono ?_); rintro e w' ⟨rfl, rfl⟩))
    go_ret2
    exact ⟨ret_int2 rfl rfl, Below.refl _ _⟩
  have b0 := inB_iff.1 h0
  have b1 := inB_iff.1 h1
  have b2 := inB_iff.1 h2
  have b3 := inB_iff.1 h3
  have hyx := mulP_bd (a := y) (b := x) (A := 500) (B := 500) (by omega) (by omega)
  have hrb := rnd_bd (y * x) 1000 (by omega)
  have e1 : IntKind.i64.wrap (y * x) = y * x := IntWalk.i64_in _ (by omega)
  have cN0 := fun W => l01Div_any (y * x) 1000 (by decide) (by omega) (by omega) (by decide) (by decide) W
  unfold plV plC
  obtain ⟨r, hr⟩ : ∃ r, r = rnd (y * x) 1000 := ⟨_, rfl⟩
  rw [← hr] at hrb cN0 ⊢
  have cN := Lib.hid cN0
  clear hr cN0
  by_cases hlt : z - u + r < 1
  · rw [if_pos hlt, if_pos hlt]
    have hlt2 : z + r - u < 1 := by omega
    go_enter Try.func38, Try.ntmps38
    go_wp2_with (first
      | (go_at_call 62; (with_reducible refine (c0.out _).mono ?_); rintro e w' ⟨rfl, rfl⟩)
      | (go_at_call 62; (with_reducible refine (c1.out _).mono ?_); rintro e w' ⟨rfl, rfl⟩)
      | (go_at_call 62; (with_reducible refine (c2.out _).mono ?_); rintro e w' ⟨rfl, rfl⟩)
      | (go_at_call 62; (with_reducible refine (c3.out _).mono ?_); rintro e w' ⟨rfl, rfl⟩)
      | (go_at_call 63; (with_reducible refine (cN.out _).mono ?_); rintro e w4 ⟨rfl, rfl⟩))
    go_ret2
    exact ⟨ret_int2 (by first | rfl | (show _ = z - u + r; omega)) rfl, Below.refl _ _⟩
  · rw [if_neg hlt, if_neg hlt]
    have hlt2 : ¬ z + r - u < 1 := by omega
    go_enter Try.func38, Try.ntmps38
    go_wp2_with (first
      | (go_at_call 62; (with_reducible refine (c0.out _).mono ?_); rintro e w' ⟨rfl, rfl⟩)
      | (go_at_call 62; (with_reducible refine (c1.out _).mono ?_); rintro e w' ⟨rfl, rfl⟩)
      | (go_at_call 62; (with_reducible refine (c2.out _).mono ?_); rintro e w' ⟨rfl, rfl⟩)
      | (go_at_call 62; (with_reducible refine (c3.out _).mono ?_); rintro e w' ⟨rfl, rfl⟩)
      | (go_at_call 63; (with_reducible refine (cN.out _).mono ?_); rintro e w4 ⟨rfl, rfl⟩))
    go_ret2
    exact ⟨ret_int2 (by first | rfl | (show _ = z - u + r; omega)) rfl, Below.refl _ _⟩
end Go.Proofs.Ytnlnocapbbeleaa
