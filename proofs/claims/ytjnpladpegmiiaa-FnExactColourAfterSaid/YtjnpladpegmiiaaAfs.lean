/-
  The colour that coats give: the model's.
-/
import Derived.Test.YtjnpladpegmiiaaAft
import Derived.Deep.Cut
namespace Go.Proofs.Ytjnpladpegmiiaa
open Go.ChangeShapes Go.WideShapes Go.ChangeAt Go.RowKit Go.Deep
set_option linter.unusedVariables false
set_option linter.unusedSimpArgs false
set_option maxRecDepth 1000000
set_option maxHeartbeats 3200000 in
theorem specColourAfter_any (v : Value) (Z : List Ct) (v' : Value) (O : List Int) (v2 : Value) (G : List Int) (w : World) (hz : Z.length ≤ 1048576) (hv : CtsAt w v Z) (ho : O.length ≤ 1048576) (hv' : IntsAt w v' O) (hg9 : G.length ≤ 1048576) (hv2 : IntsAt w v2 G) : Calls Try.prog 22 #[v, v', v2] w (RowC (aftV Z O G) (aftC Z O G) w) := by
  have cV := l13Ok_any v Z w hz hv
  have hV : Hid (aftV Z O G = if (ctsB Z && colB G) = true then (if ordC Z.length O = true then aftK Z O G O.length else []) else []) := Lib.hid rfl
  have hC : Hid (aftC Z O G = if (ctsB Z && colB G) = true then code (ordC Z.length O) 7 else 1) := Lib.hid rfl
  have cG := fun W (hb : Below w.heap.size w W) => l13Colour_any v2 G W (by unfold maxLen; omega) (hv2.below hb)
  obtain ⟨p9, c9, hv9, _, _, hread9⟩ := hv
  have cO := fun W (hb : Below w.heap.size w W) => l13Order_any v p9 Z.length c9 hv9 v' O W hz ho (hv'.below hb)
  subst hv9
  obtain ⟨p7, c7, hv7, _⟩ := id hv2
  obtain ⟨p8, c8, hv8, _, _, hread8⟩ := hv'
  subst hv8
  have hv2' := Lib.hid hv2
  clear hv2
  subst hv7
  cases q1 : ctsB Z
  · rw [q1] at cV hV hC
    replace cV := Lib.hid cV
    clear cO cG hread9 hread8
    go_enter Try.func22, Try.ntmps22
    go_wp2_with (first | (go_at_call 47; (with_reducible refine (cV.out).mono ?_); rintro e w1 ⟨rfl, b1⟩))
    go_ret2
    exact rowC_nil hV.out hC.out b1.below
  cases q3 : colB G
  · rw [q1] at cV hV hC
    rw [q3] at cG hV hC
    replace cV := Lib.hid cV
    replace cG := Lib.hid cG
    clear cO hread9 hread8
    go_enter Try.func22, Try.ntmps22
    go_wp2_with (first | (go_at_call 47; (with_reducible refine (cV.out).mono ?_); rintro e w1 ⟨rfl, b1⟩) | (go_at_call 53; (with_reducible refine (cG.out _ b1.below).mono ?_); rintro e w2 ⟨rfl, rfl⟩))
    go_ret2
    exact rowC_nil hV.out hC.out b1.below
  cases q2 : ordC Z.length O
  · rw [q1] at cV hV hC
    rw [q3] at cG hV hC
    rw [q2] at cO hV hC
    replace cV := Lib.hid cV
    replace cG := Lib.hid cG
    replace cO := Lib.hid cO
    clear hread9 hread8
    go_enter Try.func22, Try.ntmps22
    go_wp2_with (first | (go_at_call 47; (with_reducible refine (cV.out).mono ?_); rintro e w1 ⟨rfl, b1⟩) | (go_at_call 53; (with_reducible refine (cG.out _ b1.below).mono ?_); rintro e w2 ⟨rfl, rfl⟩) | (go_at_call 51; (with_reducible refine (cO.out _ b1.below).mono ?_); rintro e w2 ⟨rfl, rfl⟩))
    go_ret2
    exact rowC_nil hV.out hC.out b1.below
  have hcol := Lib.hid (fun k hk => aft_col q1 q2 q3 k hk)
  have hoB := Lib.hid q2
  have hzB := Lib.hid q1
  have hl10 := ordC_len q2
  rw [q1] at cV hV hC
  rw [q3] at cG hV hC
  rw [q2] at cO hV hC
  obtain ⟨x0, y0, z0, hG0, _, _, _⟩ := col3_of q3
  have hG0' := Lib.hid hG0
  have cN : Hid (∀ W, Below w.heap.size w W → Calls Try.prog 54 #[.slice p7 G.length c7] W (RowI G W)) := Lib.hid (fun W hb => by
    have := (hv2'.out).below hb
    rw [hG0] at this ⊢
    exact own3_any _ x0 y0 z0 W this)
  replace cV := Lib.hid cV
  replace cG := Lib.hid cG
  replace cO := Lib.hid cO
  have hr9 := Lib.hid hread9
  have hr8 := Lib.hid hread8
  clear hread9 hread8 q1 q2 q3 hG0
  go_enter Try.func22, Try.ntmps22
  go_wp2_with (first | (go_at_call 47; (with_reducible refine (cV.out).mono ?_); rintro e w1 ⟨rfl, b1⟩) | (go_at_call 53; (with_reducible refine (cG.out _ b1.below).mono ?_); rintro e w2 ⟨rfl, rfl⟩) | (go_at_call 51; (with_reducible refine (cO.out _ b1.below).mono ?_); rintro e w2 ⟨rfl, rfl⟩) | (go_at_call 54; (with_reducible refine (cN.out _ b1.below).mono ?_); rintro e w3 ⟨v3, rfl, o3, b3⟩))
  have hB3 := below2 b1.below b3
  have hB3' := Lib.hid hB3
  have o3' := Lib.hid (own_low o3 b1.below.size)
  clear o3 b3
  go_loopw [8, 9] (fun u i wr => ∃ (k : Nat) (L : List Int), k ≤ O.length ∧ i = .int .i64 k ∧ Hid (L = aftK Z O G k) ∧ Hid (wr.ownsRow w.heap.size 2 1 u L.length (L.map encI)) ∧ Hid (Below w.heap.size w wr)) (fun _ i _ => O.length - (intOf i).toNat)
  case atStart => exact ⟨0, G, by omega, rfl, Lib.hid rfl, o3', hB3'⟩
  case round =>
    obtain ⟨k, L, hk, rfl, hL, hown, hb⟩ := hrel
    by_cases hlt : k < O.length
    · rcases hr8.out with h | ⟨g8, o8, rfl, hg8, hc8⟩
      · subst h; simp at hlt
      have c0 := rowcell hb.out hg8 hc8 hlt
      rcases hr9.out with h | ⟨g, o, rfl, hg, hc⟩
      · have := (ordC_at hoB.out hlt).2.1; rw [h] at this; simp at this
      obtain ⟨j, u, hj, hjl, hat, hgd⟩ := ordCell hb.out hg hc hoB.out hlt
      have hvx := ctB_bd (cts_one hzB.out hjl)
      rw [← cts_getD hjl] at hvx
      have hLn : ov3 (Z.getD j ct0).col (Z.getD j ct0).cover L = aftK Z O G (k + 1) := by conv => rhs; unfold aftK; rw [hgd, ← hL.out]
      rw [hj] at c0
      have hjI : (j : Int) < (Z.length : Int) := by omega
      have hcl := hcol.out k hk
      rw [← hL.out] at hcl
      obtain ⟨x, y, z, hLe, bx, by9, bz⟩ := hcl
      obtain ⟨p, q, r, hpe, bp, bq, br⟩ := col3_of hvx.2.2
      obtain ⟨⟨s, a, b, cc⟩, hX⟩ : ∃ X, X = Z.getD j ct0 := ⟨_, rfl⟩
      rw [← hX] at hat hvx hLn hpe
      simp only at hpe hvx hLn
      subst hpe
      subst hLe
      have hinn : ∀ n ∈ [x, y, z], inI n := (col3_inn ⟨x, y, z, rfl, bx, by9, bz⟩).1
      have cS := Lib.hid (l13Over_any g (o + j * 4) _ s a b u p q r x y z bx by9 bz bp bq br hvx.2.1 wr (Nat.lt_of_lt_of_le hg hb.out.size) hat (ints_own hown.out hinn))
      have hLn' : Hid ([ovN x p b, ovN y q b, ovN z r b] = aftK Z O G (k + 1)) := Lib.hid hLn
      obtain ⟨N, hN⟩ : ∃ N, N = [ovN x p b, ovN y q b, ovN z r b] := ⟨_, rfl⟩
      rw [← hN] at cS hLn'
      obtain ⟨ua, uc, hue⟩ := ownShape hown.out
      have hun : ([x, y, z] : List Int).length = 3 := rfl
      rw [hun] at hue
      subst hue
      clear hN hX hat hvx hLn hinn hj hgd hc hc8 hL
      go_wp2_with (go_at_call 55; (with_reducible refine (cS.out).mono ?_); rintro e w9 ⟨v9, rfl, o9, b9⟩)
      have hb9 := Lib.hid (below2 hb.out b9)
      have o9' := Lib.hid (own_low o9 hb.out.size)
      clear o9 b9
      go_roundw
      case rel => exact ⟨k + 1, N, by omega, by go_num, hLn', o9', hb9⟩
      case measure => simp [intOf]; omega
    · obtain rfl : k = O.length := by omega
      have hfin : Hid (aftV Z O G = L) := Lib.hid (by rw [hV.out]; simp; exact hL.out.symm)
      go_wp2
      go_ret2
      exact rowC_mk hfin.out hC.out (Nat.le_refl _) hown.out hb.out
end Go.Proofs.Ytjnpladpegmiiaa
