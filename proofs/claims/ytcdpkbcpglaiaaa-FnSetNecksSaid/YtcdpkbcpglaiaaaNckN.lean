/-
  Necks: the nearest one, on both sides.
-/
import Derived.Test.YtcdpkbcpglaiaaaNckB
namespace Go.Proofs.Ytcdpkbcpglaiaaa
open Go.ChangeShapes Go.WideShapes Go.ChangeAt Go.RowKit Go.Deep
set_option linter.unusedVariables false
set_option linter.unusedSimpArgs false
set_option maxRecDepth 1000000
theorem nn_one {Z : List Nck} {x : Nck} (h : nckB x = true) {c : Int} (e : nkC Z true = c) (hc : c ≠ 0) : nnC Z x = c := by unfold nnC; rw [h, if_pos rfl, e, if_neg hc]
theorem nn_empty {Z : List Nck} {x : Nck} (h : nckB x = true) (e : nkC Z true = 0) (hl : Z.length = 0) : nnC Z x = 3 := by unfold nnC; rw [h, if_pos rfl, e, if_pos rfl, if_pos hl]
theorem nn_full {Z : List Nck} {x : Nck} (h : nckB x = true) (e : nkC Z true = 0) (hl : Z.length ≠ 0) : nnC Z x = 0 := by unfold nnC; rw [h, if_pos rfl, e, if_pos rfl, if_neg hl]
set_option maxHeartbeats 6400000 in
theorem implNearestNeck_any (v : Value) (Z : List Nck) (a : Int) (b : Int) (c : Int) (d : Int) (w : World) (hn : Z.length ≤ 1048576) (hv : NcksAt w v Z) : Calls Try.prog 6 #[v, .agg #[.int .i64 a, .int .i64 b, .int .i64 c, .int .i64 d]] w fun e w' => e = .returned (.tuple #[.int .i64 (nnI Z ⟨a, b, c, d⟩), .int .i64 (nnG Z ⟨a, b, c, d⟩), .int .i64 (nnC Z ⟨a, b, c, d⟩)]) ∧ Below w.heap.size w w' := by
  obtain ⟨a0, cap, rfl, hcap, hids, hread⟩ := hv
  have hv : Hid (NcksAt w (.slice a0 Z.length cap) Z) := Lib.hid ⟨a0, cap, rfl, hcap, hids, hread⟩
  have hread' := Lib.hid hread
  have hf0 : Below w.heap.size w (w.alloc (.cells #[.int .i64 a, .int .i64 b, .int .i64 c, .int .i64 d] 26)) := (Below.refl _ _).alloc (Nat.le_refl _) _
  have cV := Lib.hid (fun W => implValidNeck_any a b c d W)
  have cC0 : Hid (∀ W, Below w.heap.size w W → Calls Try.prog 19 #[.bool true, .slice a0 Z.length cap] W fun e w' => e = .returned (.int .i64 (nkC Z true)) ∧ Below W.heap.size W w') := Lib.hid (fun W hb => codeOfNecks_any true _ Z W hn (hv.out.below hb))
  clear hread hids
  cases h1 : nckB ⟨a, b, c, d⟩ <;> rw [h1] at cV
  · have hr := Lib.hid (nn_bad (show nnC Z ⟨a, b, c, d⟩ = 1 by unfold nnC; rw [h1]; rfl) (by decide))
    go_enter Try.func6, Try.ntmps6
    go_wp2_with (go_at_call 18; (with_reducible refine (cV.out _).mono ?_); rintro e w1 ⟨rfl, b1⟩; have B1 := hf0.trans (b1.mono hf0.size))
    go_ret3
    exact ⟨ret_i3 hr.out.1 hr.out.2.1 hr.out.2.2, B1⟩
  rcases nkC_cases Z with e | e | e
  rotate_left
  · have hr := Lib.hid (nn_bad (nn_one h1 e (by decide)) (by decide))
    have cC := cC0
    rw [e] at cC
    go_enter Try.func6, Try.ntmps6
    go_wp2_with (first | (go_at_call 18; (with_reducible refine (cV.out _).mono ?_); rintro e w1 ⟨rfl, b1⟩; have B1 := hf0.trans (b1.mono hf0.size)) | (go_at_call 19; (with_reducible refine (cC.out _ B1).mono ?_); rintro e w2 ⟨rfl, b2⟩))
    go_ret3
    exact ⟨ret_i3 hr.out.1 hr.out.2.1 hr.out.2.2, below2 B1 b2⟩
  · have hr := Lib.hid (nn_bad (nn_one h1 e (by decide)) (by decide))
    have cC := cC0
    rw [e] at cC
    go_enter Try.func6, Try.ntmps6
    go_wp2_with (first | (go_at_call 18; (with_reducible refine (cV.out _).mono ?_); rintro e w1 ⟨rfl, b1⟩; have B1 := hf0.trans (b1.mono hf0.size)) | (go_at_call 19; (with_reducible refine (cC.out _ B1).mono ?_); rintro e w2 ⟨rfl, b2⟩))
    go_ret3
    exact ⟨ret_i3 hr.out.1 hr.out.2.1 hr.out.2.2, below2 B1 b2⟩
  have cC := cC0
  rw [e] at cC
  by_cases hl : Z.length = 0
  · have hr := Lib.hid (nn_bad (nn_empty h1 e hl) (by decide))
    have hq : ((Z.length : Int) == 0) = true := by simp [hl]
    clear hl
    go_enter Try.func6, Try.ntmps6
    go_wp2_with (first | (go_at_call 18; (with_reducible refine (cV.out _).mono ?_); rintro e w1 ⟨rfl, b1⟩; have B1 := hf0.trans (b1.mono hf0.size)) | (go_at_call 19; (with_reducible refine (cC.out _ B1).mono ?_); rintro e w2 ⟨rfl, b2⟩))
    go_ret3
    exact ⟨ret_i3 hr.out.1 hr.out.2.1 hr.out.2.2, below2 B1 b2⟩
  have hr := nn_good (nn_full h1 e hl)
  have hq : ((Z.length : Int) == 0) = false := by simpa using hl
  have h0 : 0 < Z.length := by omega
  clear hl
  obtain ⟨hok, h64⟩ := nkC_ok e
  obtain ⟨ha, hb, hc, hd⟩ := nck_bd h1
  have hok' := Lib.hid hok
  have hGe : Hid (∀ k (hk : k < Z.length), ngG Z ⟨a, b, c, d⟩ k = gapN ⟨a, b, c, d⟩ Z[k]) := Lib.hid (fun k hk => by unfold ngG; rw [getD_of _ hk])
  obtain ⟨G, hG⟩ : ∃ G, G = ngG Z ⟨a, b, c, d⟩ := ⟨_, rfl⟩
  rw [← hG] at hr hGe
  clear hG
  have hr' := Lib.hid hr
  clear hr
  have hGb : Hid (∀ k, k < Z.length → 0 ≤ G k ∧ G k ≤ 40000) := Lib.hid (fun k hk => by
    rw [hGe.out k hk]
    have hB := ncks_one hok'.out hk
    generalize Z[k] = x at hB
    obtain ⟨a', b', c', d'⟩ := x
    obtain ⟨ha', hb', hc', hd'⟩ := nck_bd hB
    have z0 := absG_bnd (p := a) (q := a') (M := 10000) (by omega) (by omega) (by omega) (by omega)
    have z1 := absG_bnd (p := b) (q := b') (M := 10000) (by omega) (by omega) (by omega) (by omega)
    have z2 := absG_bnd (p := c) (q := c') (M := 10000) (by omega) (by omega) (by omega) (by omega)
    have z3 := absG_bnd (p := d) (q := d') (M := 10000) (by omega) (by omega) (by omega) (by omega)
    unfold gapN
    simp only
    omega)
  have hGt : Hid (∀ k (hk : k < Z.length) W, Calls Try.prog 20 #[.agg #[.int .i64 a, .int .i64 b, .int .i64 c, .int .i64 d], .agg #[.int .i64 Z[k].stp, .int .i64 Z[k].bod, .int .i64 Z[k].ovr, .int .i64 Z[k].ang]] W fun e w' => e = .returned (.int .i64 (G k)) ∧ Below W.heap.size W w') := Lib.hid (fun k hk W => by
    rw [hGe.out k hk]
    have hB := ncks_one hok'.out hk
    generalize Z[k] = x at hB
    obtain ⟨a', b', c', d'⟩ := x
    obtain ⟨ha', hb', hc', hd'⟩ := nck_bd hB
    exact gapTo_any a b c d a' b' c' d' (by omega) (by omega) (by omega) (by omega) (by omega) (by omega) (by omega) (by omega) W)
  have hx0 : NckAt (w.alloc (.cells #[.int .i64 a, .int .i64 b, .int .i64 c, .int .i64 d] 26)) w.heap.size 0 ⟨a, b, c, d⟩ := nck_box a b c d w
  have hsz0 : w.heap.size < (w.alloc (.cells #[.int .i64 a, .int .i64 b, .int .i64 c, .int .i64 d] 26)).heap.size := by simp
  rcases hread'.out with h | ⟨g, o, rfl, hg, hcc⟩
  · subst h; simp at h0
  go_enter Try.func6, Try.ntmps6
  go_wp2_with fail
  generalize (w.alloc (.cells #[.int .i64 a, .int .i64 b, .int .i64 c, .int .i64 d] 26)) = W0 at hf0 hx0 hsz0 ⊢
  refine (cV.out _).mono ?_
  rintro e w1 ⟨rfl, b1⟩
  have B1 := hf0.trans (b1.mono hf0.size)
  have hx1 := hx0.below hsz0 b1
  have hsz1 := Nat.lt_of_lt_of_le hsz0 b1.size
  clear hx0 hsz0 b1 hf0
  go_wp2_with fail
  refine (cC.out _ B1).mono ?_
  rintro e w2 ⟨rfl, b2⟩
  have B2 := below2 B1 b2
  have hx2 := hx1.below hsz1 b2
  have hsz2 := Nat.lt_of_lt_of_le hsz1 b2.size
  clear hx1 hsz1 b2 B1 cC cC0 cV
  have hX := Lib.hid (fun W (hb : Below w2.heap.size w2 W) => hx2.below hsz2 hb)
  have hgt0 := hGt.out 0 h0
  have hr0 := range_below (hcc 0 h0) hg B2
  have hat0 := nckAt_of hr0
  have hG0 := hGb.out 0 h0
  obtain ⟨x, hx⟩ : ∃ x, x = Z[0] := ⟨_, rfl⟩
  rw [← hx] at hgt0 hat0
  obtain ⟨a', b', c', d'⟩ := x
  have cT := Lib.hid hgt0
  clear hgt0 hr0 hx
  have hg2 : g < w2.heap.size := Nat.lt_of_lt_of_le hg B2.size
  have keepH : Hid (∀ W1 W2, (((W1.cell? ⟨w.heap.size, 0, none⟩ = some (.int .i64 a) ∧ W1.cell? ⟨w.heap.size, 1, none⟩ = some (.int .i64 b) ∧ W1.cell? ⟨w.heap.size, 2, none⟩ = some (.int .i64 c) ∧ W1.cell? ⟨w.heap.size, 3, none⟩ = some (.int .i64 d)) ∧ (W1.cell? ⟨g, o, none⟩ = some (.int .i64 a') ∧ W1.cell? ⟨g, o + 1, none⟩ = some (.int .i64 b') ∧ W1.cell? ⟨g, o + 2, none⟩ = some (.int .i64 c') ∧ W1.cell? ⟨g, o + 3, none⟩ = some (.int .i64 d'))) ∧ Below w2.heap.size w2 W1) → Below W1.heap.size W1 W2 → (((W2.cell? ⟨w.heap.size, 0, none⟩ = some (.int .i64 a) ∧ W2.cell? ⟨w.heap.size, 1, none⟩ = some (.int .i64 b) ∧ W2.cell? ⟨w.heap.size, 2, none⟩ = some (.int .i64 c) ∧ W2.cell? ⟨w.heap.size, 3, none⟩ = some (.int .i64 d)) ∧ (W2.cell? ⟨g, o, none⟩ = some (.int .i64 a') ∧ W2.cell? ⟨g, o + 1, none⟩ = some (.int .i64 b') ∧ W2.cell? ⟨g, o + 2, none⟩ = some (.int .i64 c') ∧ W2.cell? ⟨g, o + 3, none⟩ = some (.int .i64 d'))) ∧ Below w2.heap.size w2 W2)) := Lib.hid (fun W1 W2 h1 h2 => by
    obtain ⟨⟨p0, q0, q1, q2, q3⟩, hb⟩ := h1
    have hl := Nat.lt_of_lt_of_le hg2 hb.size
    exact ⟨⟨NckAt.below (x := ⟨a, b, c, d⟩) (o := 0) p0 (Nat.lt_of_lt_of_le hsz2 hb.size) h2, (h2.cell (p := ⟨g, o, none⟩) hl).trans q0, (h2.cell (p := ⟨g, o + 1, none⟩) hl).trans q1, (h2.cell (p := ⟨g, o + 2, none⟩) hl).trans q2, (h2.cell (p := ⟨g, o + 3, none⟩) hl).trans q3⟩, hb.trans (h2.mono hb.size)⟩)
  have hS : (((w2.cell? ⟨w.heap.size, 0, none⟩ = some (.int .i64 a) ∧ w2.cell? ⟨w.heap.size, 1, none⟩ = some (.int .i64 b) ∧ w2.cell? ⟨w.heap.size, 2, none⟩ = some (.int .i64 c) ∧ w2.cell? ⟨w.heap.size, 3, none⟩ = some (.int .i64 d)) ∧ (w2.cell? ⟨g, o, none⟩ = some (.int .i64 a') ∧ w2.cell? ⟨g, o + 1, none⟩ = some (.int .i64 b') ∧ w2.cell? ⟨g, o + 2, none⟩ = some (.int .i64 c') ∧ w2.cell? ⟨g, o + 3, none⟩ = some (.int .i64 d'))) ∧ Below w2.heap.size w2 w2) := ⟨⟨hx2, by
    obtain ⟨q0, q1, q2, q3⟩ := hat0
    simp only [Nat.zero_mul, Nat.add_zero] at q0 q1 q2 q3
    exact ⟨q0, q1, q2, q3⟩⟩, Below.refl _ _⟩
  have hlen0 : (0 : Int) < (Z.length : Int) := by omega
  clear hat0 hx2
  go_wp2
  go_region_held3 (fun w' => (((w'.cell? ⟨w.heap.size, 0, none⟩ = some (.int .i64 a) ∧ w'.cell? ⟨w.heap.size, 1, none⟩ = some (.int .i64 b) ∧ w'.cell? ⟨w.heap.size, 2, none⟩ = some (.int .i64 c) ∧ w'.cell? ⟨w.heap.size, 3, none⟩ = some (.int .i64 d)) ∧ (w'.cell? ⟨g, o, none⟩ = some (.int .i64 a') ∧ w'.cell? ⟨g, o + 1, none⟩ = some (.int .i64 b') ∧ w'.cell? ⟨g, o + 2, none⟩ = some (.int .i64 c') ∧ w'.cell? ⟨g, o + 3, none⟩ = some (.int .i64 d'))) ∧ Below w2.heap.size w2 w'))
    (first | exact ⟨hS.1, belowN hS.2 1⟩ | exact keepH.out _ _ (by assumption) (by assumption) | assumption)
    (first | (go_at_call 20; (with_reducible refine (cT.out _).mono ?_); rintro e w' ⟨rfl, hbel⟩))
  rename_i hHeld
  have B3 := below2 B2 hHeld.2
  have hb3 := Lib.hid hHeld.2
  clear hS keepH cT hHeld
  go_wp2
  go_loopw [8, 9, 31] (fun p q i wr => ∃ k : Nat, k ≤ Z.length ∧ i = .int .i64 k ∧ p = .int .i64 (nkN G k : Nat) ∧ q = .int .i64 (G (nkN G k)) ∧ Hid (Below w2.heap.size w2 wr)) (fun _ _ i _ => Z.length - (intOf i).toNat)
  case atStart => exact ⟨0, by omega, rfl, rfl, rfl, hb3⟩
  case round =>
    obtain ⟨k, hk, rfl, rfl, rfl, hbel⟩ := hrel
    by_cases hlt : k < Z.length
    · have hltI : (k : Int) < (Z.length : Int) := by omega
      have hgt := hGt.out k hlt
      have hG1 := hGb.out k hlt
      have hG2 := hGb.out (nkN G k) (nkN_lt G h0 k hk)
      have hr1' := range_below (hcc k hlt) hg (below2 B2 hbel.out)
      obtain ⟨x, hx⟩ : ∃ x, x = Z[k] := ⟨_, rfl⟩
      rw [← hx] at hgt hr1'
      obtain ⟨a', b', c', d'⟩ := x
      have cT := Lib.hid hgt
      have hr1 : wr.rangeAt g (o + k * 4) [.int .i64 a', .int .i64 b', .int .i64 c', .int .i64 d'] := hr1'
      have hxA := hX.out _ (hbel.out.alloc hbel.out.size (.cells #[.int .i64 a', .int .i64 b', .int .i64 c', .int .i64 d'] 26))
      obtain ⟨c0, c1, c2, c3⟩ := hxA
      simp only [Nat.zero_add] at c0 c1 c2 c3
      have hbA : Hid (Below w2.heap.size w2 (wr.alloc (.cells #[.int .i64 a', .int .i64 b', .int .i64 c', .int .i64 d'] 26))) := Lib.hid (hbel.out.alloc hbel.out.size _)
      have hnk : Hid (nkN G (k + 1) = if G k < G (nkN G k) then k else nkN G k) := Lib.hid rfl
      obtain ⟨gk, hgk⟩ : ∃ q, q = G k := ⟨_, rfl⟩
      have hgk' := Lib.hid hgk
      rw [← hgk] at cT hG1
      obtain ⟨gb, hgb⟩ : ∃ q, q = G (nkN G k) := ⟨_, rfl⟩
      have hgb' := Lib.hid hgb
      rw [← hgb] at hG2 ⊢
      obtain ⟨nb, hnb⟩ : ∃ q, q = nkN G k := ⟨_, rfl⟩
      have hnb' := Lib.hid hnb
      rw [← hnb]
      clear hgt hr1' hx hgk hgb hnb
      by_cases hcmp : gk < gb
      · have hn2 : Hid (nkN G (k + 1) = k) := Lib.hid (by rw [hnk.out, ← hgk'.out, ← hgb'.out, if_pos hcmp])
        go_wp2_with (first
          | (refine wpList_load_mid rfl _ _ rfl g (o + k * 4) rfl _ _ hr1 Try.underlying26 rfl rfl ?_)
          | (go_at_call 20; (with_reducible refine (cT.out _).mono ?_); rintro e w5 ⟨rfl, b5⟩))
        go_roundw
        case rel => exact ⟨k + 1, by omega, by go_num, by rw [hn2.out], by rw [hn2.out, hgk'.out], Lib.hid (below2 hbA.out b5)⟩
        case measure => simp [intOf]; omega
      · have hn2 : Hid (nkN G (k + 1) = nkN G k) := Lib.hid (by rw [hnk.out, ← hgk'.out, ← hgb'.out, if_neg hcmp])
        go_wp2_with (first
          | (refine wpList_load_mid rfl _ _ rfl g (o + k * 4) rfl _ _ hr1 Try.underlying26 rfl rfl ?_)
          | (go_at_call 20; (with_reducible refine (cT.out _).mono ?_); rintro e w5 ⟨rfl, b5⟩))
        go_roundw
        case rel => exact ⟨k + 1, by omega, by go_num, by rw [hn2.out, hnb'.out], by rw [hn2.out, hgb'.out], Lib.hid (below2 hbA.out b5)⟩
        case measure => simp [intOf]; omega
    · obtain rfl : k = Z.length := by omega
      have hG2 := hGb.out (nkN G Z.length) (nkN_lt G h0 _ (Nat.le_refl _))
      have hnl := nkN_lt G h0 Z.length (Nat.le_refl _)
      obtain ⟨gb, hgb⟩ : ∃ q, q = G (nkN G Z.length) := ⟨_, rfl⟩
      obtain ⟨nb, hnb⟩ : ∃ q, q = nkN G Z.length := ⟨_, rfl⟩
      have hr := hr'.out
      rw [← hgb, ← hnb] at hr
      rw [← hgb] at hG2
      rw [← hnb] at hnl
      have hr9 := Lib.hid hr
      rw [← hgb, ← hnb]
      clear hgb hnb hr hr'
      go_wp2
      go_ret3
      exact ⟨ret_i3 hr9.out.1 hr9.out.2.1 hr9.out.2.2, below2 B2 hbel.out⟩
end Go.Proofs.Ytcdpkbcpglaiaaa
