/-
  Necks: the nearest one by the model.
-/
import Derived.Test.YtjkgdgohnkcemaaNckN
import Derived.BigQuiet
namespace Go.Proofs.Ytjkgdgohnkcemaa
open Go.ChangeShapes Go.WideShapes Go.ChangeAt Go.RowKit Go.Deep
set_option linter.unusedVariables false
set_option linter.unusedSimpArgs false
set_option maxRecDepth 1000000
set_option maxHeartbeats 6400000 in
theorem specNearestNeck_any (v : Value) (Z : List Nck) (a : Int) (b : Int) (c : Int) (d : Int) (w : World) (hn : Z.length ≤ 1048576) (hv : NcksAt w v Z) : Calls Try.prog 40 #[v, .agg #[.int .i64 a, .int .i64 b, .int .i64 c, .int .i64 d]] w fun e w' => e = .returned (.tuple #[.int .i64 (nnI Z ⟨a, b, c, d⟩), .int .i64 (nnG Z ⟨a, b, c, d⟩), .int .i64 (nnC Z ⟨a, b, c, d⟩)]) ∧ Below w.heap.size w w' := by
  obtain ⟨a0, cap, rfl, hcap, hids, hread⟩ := hv
  have hv : Hid (NcksAt w (.slice a0 Z.length cap) Z) := Lib.hid ⟨a0, cap, rfl, hcap, hids, hread⟩
  have hread' := Lib.hid hread
  have hf0 : Below w.heap.size w (w.alloc (.cells #[.int .i64 a, .int .i64 b, .int .i64 c, .int .i64 d] 25)) := (Below.refl _ _).alloc (Nat.le_refl _) _
  have hat : NckAt (w.alloc (.cells #[.int .i64 a, .int .i64 b, .int .i64 c, .int .i64 d] 25)) w.heap.size 0 ⟨a, b, c, d⟩ := nck_box a b c d w
  have c1 := fun W g o (hat : NckAt W g o ⟨a, b, c, d⟩) => l10Ok_any a b c d W g o hat
  have cC0 : Hid (∀ W, Below w.heap.size w W → Calls Try.prog 68 #[.slice a0 Z.length cap] W fun e w' => e = .returned (.int .i64 (nkC Z true)) ∧ W = w') := Lib.hid (fun W hb => l10List_any _ Z W hn (hv.out.below hb))
  clear hread hids
  have cC := cC0
  clear cC0
  cases h1 : nckB ⟨a, b, c, d⟩ <;> rw [h1] at c1
  · have hr := Lib.hid (nn_bad (show nnC Z ⟨a, b, c, d⟩ = 1 by unfold nnC; rw [h1]; rfl) (by decide))
    rcases nkC_cases Z with e | e | e <;> rw [e] at cC
    all_goals
      go_enter Try.func40, Try.ntmps40
      go_wp2_with (first | (go_at_call 68; (with_reducible refine (cC.out _ (by assumption)).mono ?_); rintro e w1 ⟨rfl, rfl⟩) | (go_at_call 47; (with_reducible refine (c1 _ _ 0 hat).mono ?_); rintro e w' ⟨rfl, rfl⟩))
      go_ret3
      exact ⟨ret_i3 hr.out.1 hr.out.2.1 hr.out.2.2, hf0⟩
  rcases nkC_cases Z with e | e | e <;> rw [e] at cC
  rotate_left
  · have hr := Lib.hid (nn_bad (nn_one h1 e (by decide)) (by decide))
    go_enter Try.func40, Try.ntmps40
    go_wp2_with (first | (go_at_call 68; (with_reducible refine (cC.out _ (by assumption)).mono ?_); rintro e w1 ⟨rfl, rfl⟩) | (go_at_call 47; (with_reducible refine (c1 _ _ 0 hat).mono ?_); rintro e w' ⟨rfl, rfl⟩))
    go_ret3
    exact ⟨ret_i3 hr.out.1 hr.out.2.1 hr.out.2.2, hf0⟩
  · have hr := Lib.hid (nn_bad (nn_one h1 e (by decide)) (by decide))
    go_enter Try.func40, Try.ntmps40
    go_wp2_with (first | (go_at_call 68; (with_reducible refine (cC.out _ (by assumption)).mono ?_); rintro e w1 ⟨rfl, rfl⟩) | (go_at_call 47; (with_reducible refine (c1 _ _ 0 hat).mono ?_); rintro e w' ⟨rfl, rfl⟩))
    go_ret3
    exact ⟨ret_i3 hr.out.1 hr.out.2.1 hr.out.2.2, hf0⟩
  by_cases hl : Z.length = 0
  · have hr := Lib.hid (nn_bad (nn_empty h1 e hl) (by decide))
    have hq : ((Z.length : Int) == 0) = true := by simp [hl]
    clear hl
    go_enter Try.func40, Try.ntmps40
    go_wp2_with (first | (go_at_call 68; (with_reducible refine (cC.out _ (by assumption)).mono ?_); rintro e w1 ⟨rfl, rfl⟩) | (go_at_call 47; (with_reducible refine (c1 _ _ 0 hat).mono ?_); rintro e w' ⟨rfl, rfl⟩))
    go_ret3
    exact ⟨ret_i3 hr.out.1 hr.out.2.1 hr.out.2.2, hf0⟩
  have hr := nn_good (nn_full h1 e hl)
  have hq : ((Z.length : Int) == 0) = false := by simpa using hl
  have h0 : 0 < Z.length := by omega
  clear hl
  obtain ⟨hok, h64⟩ := nkC_ok e
  obtain ⟨ha, hb, hc, hd⟩ := nck_bd h1
  have hok' := Lib.hid hok
  have hGe : Hid (∀ k (hk : k < Z.length), ngG Z ⟨a, b, c, d⟩ k = gapN ⟨a, b, c, d⟩ Z[k]) := Lib.hid (fun k hk => by unfold ngG; rw [getD_of _ hk])
  obtain ⟨G, hG⟩ : ∃ G, G = ngG Z ⟨a, b, c, d⟩ := ⟨_, rfl⟩
  rw [← hG] at hr hGe
  clear hG
  have hr' := Lib.hid hr
  clear hr
  have hGb : Hid (∀ k, k < Z.length → 0 ≤ G k ∧ G k ≤ 40000) := Lib.hid (fun k hk => by
    rw [hGe.out k hk]
    have hB := ncks_one hok'.out hk
    generalize Z[k] = x at hB
    obtain ⟨a', b', c', d'⟩ := x
    obtain ⟨ha', hb', hc', hd'⟩ := nck_bd hB
    have z0 := absG_bnd (p := a) (q := a') (M := 10000) (by omega) (by omega) (by omega) (by omega)
    have z1 := absG_bnd (p := b) (q := b') (M := 10000) (by omega) (by omega) (by omega) (by omega)
    have z2 := absG_bnd (p := c) (q := c') (M := 10000) (by omega) (by omega) (by omega) (by omega)
    have z3 := absG_bnd (p := d) (q := d') (M := 10000) (by omega) (by omega) (by omega) (by omega)
    unfold gapN
    simp only
    omega)
  rcases hread'.out with h | ⟨g, o, rfl, hg, hcc⟩
  · subst h; simp at h0
  have hlt0 : w.heap.size < (w.alloc (.cells #[.int .i64 a, .int .i64 b, .int .i64 c, .int .i64 d] 25)).heap.size := by simp
  have hX := Lib.hid (fun W (hb : Below (w.alloc (.cells #[.int .i64 a, .int .i64 b, .int .i64 c, .int .i64 d] 25)).heap.size (w.alloc (.cells #[.int .i64 a, .int .i64 b, .int .i64 c, .int .i64 d] 25)) W) => hat.below hlt0 hb)
  have hZ := Lib.hid (fun k (hk : k < Z.length) W (hb : Below w.heap.size w W) => nckAt_of (range_below (hcc k hk) hg hb))
  have hA : Hid (∀ k (hk : k < Z.length) W, Below (w.alloc (.cells #[.int .i64 a, .int .i64 b, .int .i64 c, .int .i64 d] 25)).heap.size (w.alloc (.cells #[.int .i64 a, .int .i64 b, .int .i64 c, .int .i64 d] 25)) W → Calls Try.prog 69 #[.pointer (some ⟨g, o + k * 4, none⟩), .pointer (some ⟨w.heap.size, 0, none⟩)] W fun e w' => e = .returned (.int .i64 (G k)) ∧ ∃ m, w' = W.drewN m) := Lib.hid (fun k hk W hW => by
    have hak := hZ.out k hk W (hf0.trans (hW.mono hf0.size))
    rw [hGe.out k hk]
    have hB := ncks_one hok'.out hk
    generalize Z[k] = x at hB hak
    obtain ⟨a', b', c', d'⟩ := x
    obtain ⟨ha', hb', hc', hd'⟩ := nck_bd hB
    have h9 := l10Apart_any a' b' c' d' a b c d (by omega) (by omega) (by omega) (by omega) (by omega) (by omega) (by omega) (by omega) W g (o + k * 4) w.heap.size 0 hak (hX.out W hW)
    rwa [gapN_comm] at h9)
  have hAq : Hid (∀ k (hk : k < Z.length) W, Below (w.alloc (.cells #[.int .i64 a, .int .i64 b, .int .i64 c, .int .i64 d] 25)).heap.size (w.alloc (.cells #[.int .i64 a, .int .i64 b, .int .i64 c, .int .i64 d] 25)) W → ∀ n, Calls Try.prog 69 #[.pointer (some ⟨g, o + k * 4, none⟩), .pointer (some ⟨w.heap.size, 0, none⟩)] (W.drewN n) fun e w' => e = .returned (.int .i64 (G k)) ∧ ∃ m, w' = W.drewN m) := Lib.hid (fun k hk W hW n => (hA.out k hk (W.drewN n) (belowN hW n)).mono (by rintro e w' ⟨rfl, m, rfl⟩; exact ⟨rfl, n + m, by rw [World.drewN_drewN]⟩))
  have hlen0 : (0 : Int) < (Z.length : Int) := by omega
  go_enter Try.func40, Try.ntmps40
  go_wp2_with (first | (go_at_call 68; (with_reducible refine (cC.out _ (by assumption)).mono ?_); rintro e w1 ⟨rfl, rfl⟩) | (go_at_call 47; (with_reducible refine (c1 _ _ 0 hat).mono ?_); rintro e w' ⟨rfl, rfl⟩))
  generalize (w.alloc (.cells #[.int .i64 a, .int .i64 b, .int .i64 c, .int .i64 d] 25)) = W0 at hf0 hA hAq ⊢
  clear hat c1 cC hX hZ hread' hlt0 hg hcc
  go_loopw [8, 9] (fun p i wr => ∃ k : Nat, 1 ≤ k ∧ k ≤ Z.length ∧ i = .int .i64 k ∧ p = .int .i64 (nkN G k : Nat) ∧ Hid (Below W0.heap.size W0 wr)) (fun _ i _ => Z.length - (intOf i).toNat)
  case atStart => exact ⟨1, by omega, by omega, rfl, by rw [nkN_one]; rfl, Lib.hid (Below.refl _ _)⟩
  case round =>
    obtain ⟨k, hk1, hk, rfl, rfl, hbel⟩ := hrel
    have hnl := nkN_lt G h0 k hk
    by_cases hlt : k < Z.length
    · have hltI : (k : Int) < (Z.length : Int) := by omega
      have cA0 := hAq.out k hlt wr hbel.out
      have cB0 := hAq.out (nkN G k) hnl wr hbel.out
      have hnk : Hid (nkN G (k + 1) = if G k < G (nkN G k) then k else nkN G k) := Lib.hid rfl
      obtain ⟨gk, hgk⟩ : ∃ q, q = G k := ⟨_, rfl⟩
      have hgk' := Lib.hid hgk
      rw [← hgk] at cA0
      obtain ⟨gb, hgb⟩ : ∃ q, q = G (nkN G k) := ⟨_, rfl⟩
      have hgb' := Lib.hid hgb
      rw [← hgb] at cB0
      obtain ⟨nb, hnb⟩ : ∃ q, q = nkN G k := ⟨_, rfl⟩
      have hnb' := Lib.hid hnb
      rw [← hnb] at cB0 hnl ⊢
      have hnbI : (nb : Int) < (Z.length : Int) := by omega
      have cA := Lib.hid cA0
      have cB := Lib.hid cB0
      clear hgk hgb hnb cA0 cB0
      by_cases hcmp : gk < gb
      · have hn2 : Hid (nkN G (k + 1) = k) := Lib.hid (by rw [hnk.out, ← hgk'.out, ← hgb'.out, if_pos hcmp])
        go_wp2
        go_quiet ((first
          | (go_at_call 69; (with_reducible exact cA.out _))
          | (go_at_call 69; (with_reducible exact cB.out _))))
        go_wp2
        go_roundw
        case rel => exact ⟨k + 1, by omega, by omega, by go_num, by rw [hn2.out], Lib.hid (belowN hbel.out _)⟩
        case measure => simp [intOf]; omega
      · have hn2 : Hid (nkN G (k + 1) = nkN G k) := Lib.hid (by rw [hnk.out, ← hgk'.out, ← hgb'.out, if_neg hcmp])
        go_wp2
        go_quiet ((first
          | (go_at_call 69; (with_reducible exact cA.out _))
          | (go_at_call 69; (with_reducible exact cB.out _))))
        go_wp2
        go_roundw
        case rel => exact ⟨k + 1, by omega, by omega, by go_num, by rw [hn2.out, hnb'.out], Lib.hid (belowN hbel.out _)⟩
        case measure => simp [intOf]; omega
    · obtain rfl : k = Z.length := by omega
      have cB0 := hA.out (nkN G Z.length) hnl wr hbel.out
      obtain ⟨gb, hgb⟩ : ∃ q, q = G (nkN G Z.length) := ⟨_, rfl⟩
      obtain ⟨nb, hnb⟩ : ∃ q, q = nkN G Z.length := ⟨_, rfl⟩
      have hr := hr'.out
      rw [← hgb, ← hnb] at hr
      rw [← hgb] at cB0
      rw [← hnb] at hnl cB0
      have hr9 := Lib.hid hr
      rw [← hnb]
      have cB := Lib.hid cB0
      have hnbI : (nb : Int) < (Z.length : Int) := by omega
      clear hgb hnb hr hr' cB0
      go_wp2_with (go_at_call 69; (with_reducible refine cB.out.mono ?_); rintro e w5 ⟨rfl, m5, rfl⟩)
      go_ret3
      exact ⟨ret_i3 hr9.out.1 hr9.out.2.1 hr9.out.2.2, hf0.trans ((belowN hbel.out m5).mono hf0.size)⟩
end Go.Proofs.Ytjkgdgohnkcemaa
