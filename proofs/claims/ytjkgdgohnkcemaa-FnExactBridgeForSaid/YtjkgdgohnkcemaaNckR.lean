/-
  Necks: AngleFor, ShimFor, StringAngle, BridgeFor, by the model.
-/
import Derived.Test.YtjkgdgohnkcemaaNckM
import Derived.Test.YtjkgdgohnkcemaaNckA
import Derived.Test.YtjkgdgohnkcemaaNckQ
namespace Go.Proofs.Ytjkgdgohnkcemaa
open Go.ChangeShapes Go.WideShapes Go.ChangeAt Go.RowKit Go.Deep
set_option linter.unusedVariables false
set_option linter.unusedSimpArgs false
set_option maxRecDepth 1000000
set_option maxHeartbeats 3200000 in
theorem specAngleFor_any (a : Int) (b : Int) (c : Int) (d : Int) (z : Int) (w : World) : Calls Try.prog 26 #[.agg #[.int .i64 a, .int .i64 b, .int .i64 c, .int .i64 d], .int .i64 z] w fun e w' => e = .returned (.tuple #[.int .i64 (pick (nckB ⟨a, b, c, d⟩ && (inB z 0 2000)) (agV b c z)), .int .i64 (cd3 (nckB ⟨a, b, c, d⟩) (inB z 0 2000) (agC b c z))]) ∧ Below w.heap.size w w' := by
  have hat := nck_box a b c d w
  have c1 := fun W g o (hat : NckAt W g o ⟨a, b, c, d⟩) => l10Ok_any a b c d W g o hat
  cases h1 : nckB ⟨a, b, c, d⟩ <;> rw [h1] at c1
  · go_enter Try.func26, Try.ntmps26
    go_wp2_with (go_at_call 47; (with_reducible refine (c1 _ _ 0 hat).mono ?_); rintro e w' ⟨rfl, rfl⟩)
    go_ret2
    exact ⟨ret_int2 rfl rfl, (Below.refl _ _).alloc (Nat.le_refl _) _⟩
  cases h2 : inB z 0 2000
  · go_enter Try.func26, Try.ntmps26
    go_wp2_with (first
      | (go_at_call 47; (with_reducible refine (c1 _ _ 0 hat).mono ?_); rintro e w' ⟨rfl, rfl⟩)
      | (go_at_call 57; refine (l10Height_any z _).mono ?_; rw [h2]; rintro e w' ⟨rfl, rfl⟩))
    go_ret2
    exact ⟨ret_int2 rfl rfl, (Below.refl _ _).alloc (Nat.le_refl _) _⟩
  obtain ⟨ha, hb, hc, hd⟩ := nck_bd h1
  have h2I := inB_iff.1 h2
  have hB1 : Below w.heap.size w (w.alloc (.cells #[.int .i64 a, .int .i64 b, .int .i64 c, .int .i64 d] 25)) := (Below.refl _ _).alloc (Nat.le_refl _) _
  have hlt1 : w.heap.size < (w.alloc (.cells #[.int .i64 a, .int .i64 b, .int .i64 c, .int .i64 d] 25)).heap.size := by simp
  go_enter Try.func26, Try.ntmps26
  go_wp2_with (first
    | (go_at_call 47; (with_reducible refine (c1 _ _ 0 hat).mono ?_); rintro e w' ⟨rfl, rfl⟩)
    | (go_at_call 57; refine (l10Height_any z _).mono ?_; rw [h2]; rintro e w' ⟨rfl, rfl⟩))
  generalize (w.alloc (.cells #[.int .i64 a, .int .i64 b, .int .i64 c, .int .i64 d] 25)) = W1 at hat hB1 hlt1 ⊢
  have hat' : Hid (∀ W, Below W1.heap.size W1 W → NckAt W w.heap.size 0 ⟨a, b, c, d⟩) := Lib.hid (fun W hb => hat.below hlt1 hb)
  have hB1' := Lib.hid hB1
  clear hat hB1 hlt1 h1 h2 c1
  go_loopw [6] (fun i wr => ∃ k : Nat, k ≤ 301 ∧ i = .int .i64 k ∧ Hid (∀ j, j < k → agP b c z j = false) ∧ Hid (Below W1.heap.size W1 wr)) (fun i _ => 301 - (intOf i).toNat)
  case atStart => exact ⟨0, by omega, rfl, Lib.hid (fun j hj => by omega), Lib.hid (Below.refl _ _)⟩
  case round =>
    obtain ⟨k, hk, rfl, hno, hbR⟩ := hrel
    by_cases hlt : k ≤ 300
    · have hltI : (k : Int) ≤ 300 := by omega
      have hatk := hat'.out wr hbR.out
      have cH0 := l10High_any a b c d (k : Int) hb hc ⟨by omega, by omega⟩ wr w.heap.size 0 hatk
      have hlp : Hid (agP b c z k = decide (z ≤ prjV b c (k : Int))) := Lib.hid rfl
      obtain ⟨Q, hQ⟩ : ∃ Q, Q = prjV b c (k : Int) := ⟨_, rfl⟩
      rw [← hQ] at cH0 hlp
      have cH := Lib.hid cH0
      clear cH0 hQ hatk
      by_cases hge : z ≤ Q
      · have hL : Hid (lstN (agP b c z) 301 = k) := Lib.hid (lst_at (by omega) hno.out (by rw [hlp.out]; exact decide_eq_true hge) (fun i j hij h => ag_mono (by omega) i j hij h))
        have hf : Hid ((k : Int) = lfV 0 (lstN (agP b c z) 301) 301 ∧ (0 : Int) = lfC (lstN (agP b c z) 301) 301) := Lib.hid (by rw [hL.out]; have h9 := lf_yes (lo := 0) (r := k) (n := 301) (by omega); rw [Int.zero_add] at h9; exact h9)
        go_wp2_with (go_at_call 55; (with_reducible refine cH.out.mono ?_); rintro e w5 ⟨rfl, m5, hm5⟩; have hq5 : Below wr.heap.size wr w5 := (by rw [hm5]; exact belowN (Below.refl _ _) m5); clear hm5)
        go_ret2
        exact ⟨ret_int2 hf.out.1 hf.out.2, below2 hB1'.out (below2 hbR.out hq5)⟩
      · have hno2 : Hid (∀ j, j < k + 1 → agP b c z j = false) := Lib.hid (fun j hj => by
          rcases Nat.lt_or_ge j k with h | h
          · exact hno.out j h
          · rw [show j = k by omega, hlp.out]; exact decide_eq_false hge)
        go_wp2_with (go_at_call 55; (with_reducible refine cH.out.mono ?_); rintro e w5 ⟨rfl, m5, hm5⟩; have hq5 : Below wr.heap.size wr w5 := (by rw [hm5]; exact belowN (Below.refl _ _) m5); clear hm5)
        go_roundw
        case rel => exact ⟨k + 1, by omega, by go_num, hno2, Lib.hid (below2 hbR.out hq5)⟩
        case measure => simp [intOf]; omega
    · obtain rfl : k = 301 := by omega
      have hf : Hid ((0 : Int) = lfV 0 (lstN (agP b c z) 301) 301 ∧ (3 : Int) = lfC (lstN (agP b c z) 301) 301) := Lib.hid (by rw [lst_none hno.out]; exact lf_no rfl)
      go_wp2
      go_ret2
      exact ⟨ret_int2 hf.out.1 hf.out.2, below2 hB1'.out hbR.out⟩
set_option maxHeartbeats 3200000 in
theorem specShimFor_any (a : Int) (b : Int) (c : Int) (d : Int) (z y : Int) (w : World) : Calls Try.prog 28 #[.agg #[.int .i64 a, .int .i64 b, .int .i64 c, .int .i64 d], .int .i64 z, .int .i64 y] w fun e w' => e = .returned (.tuple #[.int .i64 (pick (nckB ⟨a, b, c, d⟩ && (inB z 0 2000 && inB y 1 1000)) (shV b c d z y)), .int .i64 (cd3 (nckB ⟨a, b, c, d⟩) (inB z 0 2000 && inB y 1 1000) (shC b c d z y))]) ∧ Below w.heap.size w w' := by
  have hat := nck_box a b c d w
  have c1 := fun W g o (hat : NckAt W g o ⟨a, b, c, d⟩) => l10Ok_any a b c d W g o hat
  cases h1 : nckB ⟨a, b, c, d⟩ <;> rw [h1] at c1
  · go_enter Try.func28, Try.ntmps28
    go_wp2_with (go_at_call 47; (with_reducible refine (c1 _ _ 0 hat).mono ?_); rintro e w' ⟨rfl, rfl⟩)
    go_ret2
    exact ⟨ret_int2 rfl rfl, (Below.refl _ _).alloc (Nat.le_refl _) _⟩
  cases h2 : inB z 0 2000
  · go_enter Try.func28, Try.ntmps28
    go_wp2_with (first
      | (go_at_call 47; (with_reducible refine (c1 _ _ 0 hat).mono ?_); rintro e w' ⟨rfl, rfl⟩)
      | (go_at_call 57; refine (l10Height_any z _).mono ?_; rw [h2]; rintro e w' ⟨rfl, rfl⟩))
    go_ret2
    exact ⟨ret_int2 rfl rfl, (Below.refl _ _).alloc (Nat.le_refl _) _⟩
  cases h3 : inB y 1 1000
  · go_enter Try.func28, Try.ntmps28
    go_wp2_with (first
      | (go_at_call 47; (with_reducible refine (c1 _ _ 0 hat).mono ?_); rintro e w' ⟨rfl, rfl⟩)
      | (go_at_call 57; refine (l10Height_any z _).mono ?_; rw [h2]; rintro e w' ⟨rfl, rfl⟩)
      | (go_at_call 54; refine (l00In_any y 1 1000 _).mono ?_; rw [h3]; rintro e w' ⟨rfl, rfl⟩))
    go_ret2
    exact ⟨ret_int2 rfl rfl, (Below.refl _ _).alloc (Nat.le_refl _) _⟩
  obtain ⟨ha, hb, hc, hd⟩ := nck_bd h1
  have h2I := inB_iff.1 h2
  have h3I := inB_iff.1 h3
  have hB1 : Below w.heap.size w (w.alloc (.cells #[.int .i64 a, .int .i64 b, .int .i64 c, .int .i64 d] 25)) := (Below.refl _ _).alloc (Nat.le_refl _) _
  have hlt1 : w.heap.size < (w.alloc (.cells #[.int .i64 a, .int .i64 b, .int .i64 c, .int .i64 d] 25)).heap.size := by simp
  go_enter Try.func28, Try.ntmps28
  go_wp2_with (first
    | (go_at_call 47; (with_reducible refine (c1 _ _ 0 hat).mono ?_); rintro e w' ⟨rfl, rfl⟩)
    | (go_at_call 57; refine (l10Height_any z _).mono ?_; rw [h2]; rintro e w' ⟨rfl, rfl⟩)
    | (go_at_call 54; refine (l00In_any y 1 1000 _).mono ?_; rw [h3]; rintro e w' ⟨rfl, rfl⟩))
  generalize (w.alloc (.cells #[.int .i64 a, .int .i64 b, .int .i64 c, .int .i64 d] 25)) = W1 at hat hB1 hlt1 ⊢
  have hat' : Hid (∀ W, Below W1.heap.size W1 W → NckAt W w.heap.size 0 ⟨a, b, c, d⟩) := Lib.hid (fun W hb => hat.below hlt1 hb)
  have hB1' := Lib.hid hB1
  clear hat hB1 hlt1 h1 h2 h3 c1
  go_loopw [8] (fun i wr => ∃ k : Nat, k ≤ 201 ∧ i = .int .i64 k ∧ Hid (∀ j, j < k → shP b c d z y j = false) ∧ Hid (Below W1.heap.size W1 wr)) (fun i _ => 201 - (intOf i).toNat)
  case atStart => exact ⟨0, by omega, rfl, Lib.hid (fun j hj => by omega), Lib.hid (Below.refl _ _)⟩
  case round =>
    obtain ⟨k, hk, rfl, hno, hbR⟩ := hrel
    by_cases hlt : k ≤ 200
    · have hltI : (k : Int) ≤ 200 := by omega
      have hatk := hat'.out wr hbR.out
      have hsb := shm_bd hd (k := (k : Int)) (j := y) ⟨by omega, by omega⟩ h3I
      have hmm : Hid (d + rnd (1000 * (k : Int)) y = shmV d (k : Int) y) := Lib.hid rfl
      have cD0 : ∀ W : World, Calls Try.prog 51 #[.int .i64 (1000 * (k : Int)), .int .i64 y] W fun e w' => e = .returned (.int .i64 (rnd (1000 * (k : Int)) y)) ∧ Below W.heap.size W w' := fun W => (l01Div_any (1000 * (k : Int)) y (by omega) (by omega) (by omega) (by omega) (by omega) W).mono (by rintro e w' ⟨rfl, rfl⟩; exact ⟨rfl, Below.refl _ _⟩)
      have cH0 : ∀ W, ((W.cell? ⟨w.heap.size, 0, none⟩ = some (.int .i64 a) ∧ W.cell? ⟨w.heap.size, 1, none⟩ = some (.int .i64 b) ∧ W.cell? ⟨w.heap.size, 2, none⟩ = some (.int .i64 c) ∧ W.cell? ⟨w.heap.size, 3, none⟩ = some (.int .i64 d)) ∧ Below wr.heap.size wr W) → Calls Try.prog 55 #[.pointer (some ⟨w.heap.size, 0, none⟩), .int .i64 (shmV d (k : Int) y)] W fun e w' => e = .returned (.int .i64 (prjV b c (shmV d (k : Int) y))) ∧ Below W.heap.size W w' := fun W hW => (l10High_any a b c d _ hb hc ⟨hsb.2.2.1, by omega⟩ W w.heap.size 0 (hat'.out W (below2 hbR.out hW.2))).mono (by rintro e w' ⟨rfl, n, rfl⟩; exact ⟨rfl, belowN (Below.refl _ _) n⟩)
      have open0 : Hid (∀ w', Below wr.heap.size wr w' → (w'.cell? ⟨w.heap.size, 0, none⟩ = some (.int .i64 a) ∧ w'.cell? ⟨w.heap.size, 1, none⟩ = some (.int .i64 b) ∧ w'.cell? ⟨w.heap.size, 2, none⟩ = some (.int .i64 c) ∧ w'.cell? ⟨w.heap.size, 3, none⟩ = some (.int .i64 d))) := Lib.hid (fun w' hw' => hat'.out w' (below2 hbR.out hw'))
      have hlp : Hid (shP b c d z y k = decide (z ≤ prjV b c (shmV d (k : Int) y))) := Lib.hid rfl
      obtain ⟨Q, hQ⟩ : ∃ Q, Q = prjV b c (shmV d (k : Int) y) := ⟨_, rfl⟩
      rw [← hQ] at cH0 hlp
      rw [← hmm.out] at cH0 hsb
      obtain ⟨r, hr⟩ : ∃ r, r = rnd (1000 * (k : Int)) y := ⟨_, rfl⟩
      rw [← hr] at cD0 cH0 hsb
      have e1 : IntKind.i64.wrap (1000 * (k : Int)) = 1000 * (k : Int) := IntWalk.i64_in _ (by omega)
      have e2 : IntKind.i64.wrap (d + r) = d + r := IntWalk.i64_in _ (by omega)
      have cD := Lib.hid cD0
      have cH := Lib.hid cH0
      clear cH0 cD0 hQ hr hatk hmm hsb
      by_cases hge : z ≤ Q
      · have hL : Hid (lstN (shP b c d z y) 201 = k) := Lib.hid (lst_at (by omega) hno.out (by rw [hlp.out]; exact decide_eq_true hge) (fun i j hij h => sh_mono (by omega) h3I.1 i j hij h))
        have hf : Hid ((k : Int) = lfV 0 (lstN (shP b c d z y) 201) 201 ∧ (0 : Int) = lfC (lstN (shP b c d z y) 201) 201) := Lib.hid (by rw [hL.out]; have h9 := lf_yes (lo := 0) (r := k) (n := 201) (by omega); rw [Int.zero_add] at h9; exact h9)
        have hS : ((wr.cell? ⟨w.heap.size, 0, none⟩ = some (.int .i64 a) ∧ wr.cell? ⟨w.heap.size, 1, none⟩ = some (.int .i64 b) ∧ wr.cell? ⟨w.heap.size, 2, none⟩ = some (.int .i64 c) ∧ wr.cell? ⟨w.heap.size, 3, none⟩ = some (.int .i64 d)) ∧ Below wr.heap.size wr wr) := ⟨open0.out wr (Below.refl _ _), Below.refl _ _⟩
        have keepH : Hid (∀ W1 W2, ((W1.cell? ⟨w.heap.size, 0, none⟩ = some (.int .i64 a) ∧ W1.cell? ⟨w.heap.size, 1, none⟩ = some (.int .i64 b) ∧ W1.cell? ⟨w.heap.size, 2, none⟩ = some (.int .i64 c) ∧ W1.cell? ⟨w.heap.size, 3, none⟩ = some (.int .i64 d)) ∧ Below wr.heap.size wr W1) → Below W1.heap.size W1 W2 → ((W2.cell? ⟨w.heap.size, 0, none⟩ = some (.int .i64 a) ∧ W2.cell? ⟨w.heap.size, 1, none⟩ = some (.int .i64 b) ∧ W2.cell? ⟨w.heap.size, 2, none⟩ = some (.int .i64 c) ∧ W2.cell? ⟨w.heap.size, 3, none⟩ = some (.int .i64 d)) ∧ Below wr.heap.size wr W2)) := Lib.hid (fun W1 W2 h1 h2 => ⟨open0.out W2 (below2 h1.2 h2), below2 h1.2 h2⟩)
        go_wp2
        go_region_held3 (fun w' => ((w'.cell? ⟨w.heap.size, 0, none⟩ = some (.int .i64 a) ∧ w'.cell? ⟨w.heap.size, 1, none⟩ = some (.int .i64 b) ∧ w'.cell? ⟨w.heap.size, 2, none⟩ = some (.int .i64 c) ∧ w'.cell? ⟨w.heap.size, 3, none⟩ = some (.int .i64 d)) ∧ Below wr.heap.size wr w'))
          (first | exact ⟨hS.1, belowN hS.2 1⟩ | exact keepH.out _ _ (by assumption) (fresh_k _ _) | exact keepH.out _ _ (by assumption) (belowN (fresh_k _ _) 1) | exact keepH.out _ _ hS (belowN (fresh_k _ _) 1) | exact keepH.out _ _ (by assumption) (by assumption) | assumption)
          (first | (go_at_call 51; (with_reducible refine (cD.out _).mono ?_); rintro e w' ⟨rfl, hbel⟩) | (go_at_call 55; (with_reducible refine (cH.out _ (by assumption)).mono ?_); rintro e w' ⟨rfl, hbel⟩))
        rename_i hHeld'
        go_wp2
        have hq5 := hHeld'.2
        go_ret2
        exact ⟨ret_int2 hf.out.1 hf.out.2, below2 hB1'.out (below2 hbR.out hq5)⟩
      · have hno2 : Hid (∀ j, j < k + 1 → shP b c d z y j = false) := Lib.hid (fun j hj => by
          rcases Nat.lt_or_ge j k with h | h
          · exact hno.out j h
          · rw [show j = k by omega, hlp.out]; exact decide_eq_false hge)
        have hS : ((wr.cell? ⟨w.heap.size, 0, none⟩ = some (.int .i64 a) ∧ wr.cell? ⟨w.heap.size, 1, none⟩ = some (.int .i64 b) ∧ wr.cell? ⟨w.heap.size, 2, none⟩ = some (.int .i64 c) ∧ wr.cell? ⟨w.heap.size, 3, none⟩ = some (.int .i64 d)) ∧ Below wr.heap.size wr wr) := ⟨open0.out wr (Below.refl _ _), Below.refl _ _⟩
        have keepH : Hid (∀ W1 W2, ((W1.cell? ⟨w.heap.size, 0, none⟩ = some (.int .i64 a) ∧ W1.cell? ⟨w.heap.size, 1, none⟩ = some (.int .i64 b) ∧ W1.cell? ⟨w.heap.size, 2, none⟩ = some (.int .i64 c) ∧ W1.cell? ⟨w.heap.size, 3, none⟩ = some (.int .i64 d)) ∧ Below wr.heap.size wr W1) → Below W1.heap.size W1 W2 → ((W2.cell? ⟨w.heap.size, 0, none⟩ = some (.int .i64 a) ∧ W2.cell? ⟨w.heap.size, 1, none⟩ = some (.int .i64 b) ∧ W2.cell? ⟨w.heap.size, 2, none⟩ = some (.int .i64 c) ∧ W2.cell? ⟨w.heap.size, 3, none⟩ = some (.int .i64 d)) ∧ Below wr.heap.size wr W2)) := Lib.hid (fun W1 W2 h1 h2 => ⟨open0.out W2 (below2 h1.2 h2), below2 h1.2 h2⟩)
        go_wp2
        go_region_held3 (fun w' => ((w'.cell? ⟨w.heap.size, 0, none⟩ = some (.int .i64 a) ∧ w'.cell? ⟨w.heap.size, 1, none⟩ = some (.int .i64 b) ∧ w'.cell? ⟨w.heap.size, 2, none⟩ = some (.int .i64 c) ∧ w'.cell? ⟨w.heap.size, 3, none⟩ = some (.int .i64 d)) ∧ Below wr.heap.size wr w'))
          (first | exact ⟨hS.1, belowN hS.2 1⟩ | exact keepH.out _ _ (by assumption) (fresh_k _ _) | exact keepH.out _ _ (by assumption) (belowN (fresh_k _ _) 1) | exact keepH.out _ _ hS (belowN (fresh_k _ _) 1) | exact keepH.out _ _ (by assumption) (by assumption) | assumption)
          (first | (go_at_call 51; (with_reducible refine (cD.out _).mono ?_); rintro e w' ⟨rfl, hbel⟩) | (go_at_call 55; (with_reducible refine (cH.out _ (by assumption)).mono ?_); rintro e w' ⟨rfl, hbel⟩))
        rename_i hHeld'
        go_wp2
        have hq5 := hHeld'.2
        go_roundw
        case rel => exact ⟨k + 1, by omega, by go_num, hno2, Lib.hid (below2 hbR.out hq5)⟩
        case measure => simp [intOf]; omega
    · obtain rfl : k = 201 := by omega
      have hf : Hid ((0 : Int) = lfV 0 (lstN (shP b c d z y) 201) 201 ∧ (3 : Int) = lfC (lstN (shP b c d z y) 201) 201) := Lib.hid (by rw [lst_none hno.out]; exact lf_no rfl)
      go_wp2
      go_ret2
      exact ⟨ret_int2 hf.out.1 hf.out.2, below2 hB1'.out hbR.out⟩
set_option maxHeartbeats 3200000 in
theorem specBridgeFor_any (a : Int) (b : Int) (c : Int) (d : Int) (z : Int) (w : World) : Calls Try.prog 32 #[.agg #[.int .i64 a, .int .i64 b, .int .i64 c, .int .i64 d], .int .i64 z] w fun e w' => e = .returned (.tuple #[.int .i64 (pick (nckB ⟨a, b, c, d⟩ && (inB z 0 1000)) (brV b c d z)), .int .i64 (cd3 (nckB ⟨a, b, c, d⟩) (inB z 0 1000) (brC b c d z))]) ∧ Below w.heap.size w w' := by
  have hat := nck_box a b c d w
  have c1 := fun W g o (hat : NckAt W g o ⟨a, b, c, d⟩) => l10Ok_any a b c d W g o hat
  cases h1 : nckB ⟨a, b, c, d⟩ <;> rw [h1] at c1
  · go_enter Try.func32, Try.ntmps32
    go_wp2_with (go_at_call 47; (with_reducible refine (c1 _ _ 0 hat).mono ?_); rintro e w' ⟨rfl, rfl⟩)
    go_ret2
    exact ⟨ret_int2 rfl rfl, (Below.refl _ _).alloc (Nat.le_refl _) _⟩
  cases h2 : inB z 0 1000
  · go_enter Try.func32, Try.ntmps32
    go_wp2_with (first
      | (go_at_call 47; (with_reducible refine (c1 _ _ 0 hat).mono ?_); rintro e w' ⟨rfl, rfl⟩)
      | (go_at_call 54; refine (l00In_any z 0 1000 _).mono ?_; rw [h2]; rintro e w' ⟨rfl, rfl⟩))
    go_ret2
    exact ⟨ret_int2 rfl rfl, (Below.refl _ _).alloc (Nat.le_refl _) _⟩
  obtain ⟨ha, hb, hc, hd⟩ := nck_bd h1
  have h2I := inB_iff.1 h2
  have c3 := fun W g o (hat : NckAt W g o ⟨a, b, c, d⟩) => l10High_any a b c d d hb hc ⟨hd.1, by omega⟩ W g o hat
  have hq := prj_bd hb hc (d := d) ⟨hd.1, by omega⟩
  have hV : Hid (brV b c d z = if prjV b c d + z ≤ 2000 then prjV b c d + z else 0) := Lib.hid rfl
  have hC : Hid (brC b c d z = if prjV b c d + z ≤ 2000 then 0 else 3) := Lib.hid rfl
  obtain ⟨Q, hQ⟩ : ∃ Q, Q = prjV b c d := ⟨_, rfl⟩
  rw [← hQ] at c3 hq hV hC
  have e1 : IntKind.i64.wrap (Q + z) = Q + z := IntWalk.i64_in _ (by omega)
  clear hQ
  by_cases hle : Q + z ≤ 2000
  · have hgt : ¬ 2000 < Q + z := by omega
    go_enter Try.func32, Try.ntmps32
    go_wp2_with (first
      | (go_at_call 47; (with_reducible refine (c1 _ _ 0 hat).mono ?_); rintro e w' ⟨rfl, rfl⟩)
      | (go_at_call 54; refine (l00In_any z 0 1000 _).mono ?_; rw [h2]; rintro e w' ⟨rfl, rfl⟩)
      | (go_at_call 55; (with_reducible refine (c3 _ _ 0 hat).mono ?_); rintro e w5 ⟨rfl, m5, rfl⟩))
    go_ret2
    exact ⟨ret_int2 (by rw [show pick (true && true) (brV b c d z) = brV b c d z from rfl, hV.out, if_pos hle]) (by rw [show (cd3 true true (brC b c d z)) = brC b c d z from rfl, hC.out, if_pos hle]), belowN ((Below.refl _ _).alloc (Nat.le_refl _) _) m5⟩
  · have hgt : 2000 < Q + z := by omega
    go_enter Try.func32, Try.ntmps32
    go_wp2_with (first
      | (go_at_call 47; (with_reducible refine (c1 _ _ 0 hat).mono ?_); rintro e w' ⟨rfl, rfl⟩)
      | (go_at_call 54; refine (l00In_any z 0 1000 _).mono ?_; rw [h2]; rintro e w' ⟨rfl, rfl⟩)
      | (go_at_call 55; (with_reducible refine (c3 _ _ 0 hat).mono ?_); rintro e w5 ⟨rfl, m5, rfl⟩))
    go_ret2
    exact ⟨ret_int2 (by rw [show pick (true && true) (brV b c d z) = brV b c d z from rfl, hV.out, if_neg (show ¬ Q + z ≤ 2000 by omega)]) (by rw [show (cd3 true true (brC b c d z)) = brC b c d z from rfl, hC.out, if_neg (show ¬ Q + z ≤ 2000 by omega)]), belowN ((Below.refl _ _).alloc (Nat.le_refl _) _) m5⟩
set_option maxHeartbeats 3200000 in
theorem specStringAngle_any (a : Int) (b : Int) (c : Int) (d : Int) (z : Int) (w : World) : Calls Try.prog 30 #[.agg #[.int .i64 a, .int .i64 b, .int .i64 c, .int .i64 d], .int .i64 z] w fun e w' => e = .returned (.tuple #[.int .i64 (pick (nckB ⟨a, b, c, d⟩ && (inB z 0 2000)) (saV a b c d z)), .int .i64 (cd3 (nckB ⟨a, b, c, d⟩) (inB z 0 2000) (0))]) ∧ Below w.heap.size w w' := by
  have hat := nck_box a b c d w
  have c1 := fun W g o (hat : NckAt W g o ⟨a, b, c, d⟩) => l10Ok_any a b c d W g o hat
  cases h1 : nckB ⟨a, b, c, d⟩ <;> rw [h1] at c1
  · go_enter Try.func30, Try.ntmps30
    go_wp2_with (go_at_call 47; (with_reducible refine (c1 _ _ 0 hat).mono ?_); rintro e w' ⟨rfl, rfl⟩)
    go_ret2
    exact ⟨ret_int2 rfl rfl, (Below.refl _ _).alloc (Nat.le_refl _) _⟩
  cases h2 : inB z 0 2000
  · go_enter Try.func30, Try.ntmps30
    go_wp2_with (first
      | (go_at_call 47; (with_reducible refine (c1 _ _ 0 hat).mono ?_); rintro e w' ⟨rfl, rfl⟩)
      | (go_at_call 57; refine (l10Height_any z _).mono ?_; rw [h2]; rintro e w' ⟨rfl, rfl⟩))
    go_ret2
    exact ⟨ret_int2 rfl rfl, (Below.refl _ _).alloc (Nat.le_refl _) _⟩
  obtain ⟨ha, hb, hc, hd⟩ := nck_bd h1
  have h2I := inB_iff.1 h2
  have hq := prj_bd hb hc (d := d) ⟨hd.1, by omega⟩
  have hV : Hid (rnd (1000 * (z - prjV b c d)) (a + b) = saV a b c d z) := Lib.hid rfl
  have cP0 := fun n => (l10High_any a b c d d hb hc ⟨hd.1, by omega⟩ ((w.alloc (.cells #[.int .i64 a, .int .i64 b, .int .i64 c, .int .i64 d] 25)).drewN n) w.heap.size 0 hat).mono (R' := fun e w' => e = .returned (.int .i64 (prjV b c d)) ∧ ∃ m, w' = (w.alloc (.cells #[.int .i64 a, .int .i64 b, .int .i64 c, .int .i64 d] 25)).drewN m) (by rintro e w' ⟨rfl, m, rfl⟩; exact ⟨rfl, n + m, by rw [World.drewN_drewN]⟩)
  obtain ⟨Q, hQ⟩ : ∃ Q, Q = prjV b c d := ⟨_, rfl⟩
  rw [← hQ] at cP0 hq hV
  have e1 : IntKind.i64.wrap (z - Q) = z - Q := IntWalk.i64_in _ (by omega)
  have e2 : IntKind.i64.wrap (1000 * (z - Q)) = 1000 * (z - Q) := IntWalk.i64_in _ (by omega)
  have e3 : IntKind.i64.wrap (a + b) = a + b := IntWalk.i64_in _ (by omega)
  have cD := Lib.hid (fun W => l01Div_any (1000 * (z - Q)) (a + b) (by omega) (by omega) (by omega) (by omega) (by omega) W)
  have cP := Lib.hid cP0
  have k0 := hat.1
  have k1 := hat.2.1
  have k2 := hat.2.2.1
  have k3 := hat.2.2.2
  simp only [Nat.zero_add] at k0 k1 k2 k3
  clear hQ cP0
  go_enter Try.func30, Try.ntmps30
  go_wp2_with (first
    | (go_at_call 47; (with_reducible refine (c1 _ _ 0 hat).mono ?_); rintro e w' ⟨rfl, rfl⟩)
    | (go_at_call 57; refine (l10Height_any z _).mono ?_; rw [h2]; rintro e w' ⟨rfl, rfl⟩))
  go_quiet ((first
    | (go_at_call 55; (with_reducible exact cP.out _))
    | (go_at_call 51; (with_reducible exact Qs (cD.out _)))))
  go_wp2
  go_ret2
  exact ⟨ret_int2 hV.out rfl, belowN ((Below.refl _ _).alloc (Nat.le_refl _) _) _⟩
end Go.Proofs.Ytjkgdgohnkcemaa
