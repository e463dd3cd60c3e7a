/-
  Outlines: the arc with the least radius.
-/
import Derived.Test.YtdgkpghecfpgoaaArcD
import Derived.WalkMore
namespace Go.Proofs.Ytdgkpghecfpgoaa
open Go.ChangeShapes Go.WideShapes Go.ChangeAt Go.RowKit Go.Deep
set_option linter.unusedVariables false
set_option linter.unusedSimpArgs false
set_option maxRecDepth 1000000
def radA (Z : List Arc) (i : Nat) : Int := radV (Z.getD i arc0)
/-- the first of the least among numbers 0 to k -/
def shpK (Z : List Arc) : Nat → Nat
  | 0 => 0
  | k + 1 => if radA Z (k + 1) < radA Z (shpK Z k) then k + 1 else shpK Z k
theorem shpK_ok (Z : List Arc) : ∀ k, shpK Z k ≤ k ∧ (∀ j, j ≤ k → radA Z (shpK Z k) ≤ radA Z j) ∧ (∀ j, j < shpK Z k → radA Z (shpK Z k) < radA Z j)
  | 0 => ⟨Nat.le_refl _, fun j hj => by rw [show j = 0 by omega]; exact Int.le_refl _, fun j hj => absurd hj (Nat.not_lt_zero _)⟩
  | k + 1 => by
    obtain ⟨h1, h2, h3⟩ := shpK_ok Z k
    unfold shpK
    by_cases hc : radA Z (k + 1) < radA Z (shpK Z k)
    · rw [if_pos hc]
      refine ⟨Nat.le_refl _, fun j hj => ?_, fun j hj => ?_⟩
      · rcases Nat.lt_or_ge j (k + 1) with h | h
        · have := h2 j (by omega); omega
        · rw [show j = k + 1 by omega]; exact Int.le_refl _
      · have := h2 j (by omega); omega
    · rw [if_neg hc]
      refine ⟨by omega, fun j hj => ?_, h3⟩
      rcases Nat.lt_or_ge j (k + 1) with h | h
      · exact h2 j (by omega)
      · rw [show j = k + 1 by omega]; omega
/-- number k is the least, none before it is -/
theorem shp_eq {Z : List Arc} {k : Nat} (hk : k < Z.length) (h1 : ∀ j, j < Z.length → ¬ radA Z j < radA Z k) (h2 : ∀ j, j < k → ∃ i, i < Z.length ∧ radA Z i < radA Z j) : shpK Z (Z.length - 1) = k := by
  obtain ⟨a1, a2, a3⟩ := shpK_ok Z (Z.length - 1)
  rcases Nat.lt_trichotomy (shpK Z (Z.length - 1)) k with h | h | h
  · obtain ⟨i, hi, hl⟩ := h2 _ h
    have := a2 i (by omega); omega
  · exact h
  · exact absurd (a3 k h) (h1 _ (by omega))
theorem shp_no {Z : List Arc} (hn : 0 < Z.length) (h2 : ∀ j, j < Z.length → ∃ i, i < Z.length ∧ radA Z i < radA Z j) : False := by
  obtain ⟨a1, a2, a3⟩ := shpK_ok Z (Z.length - 1)
  obtain ⟨i, hi, hl⟩ := h2 _ (show shpK Z (Z.length - 1) < Z.length by omega)
  have := a2 i (by omega); omega
def shpV (Z : List Arc) : Int := pick (outB Z) ((shpK Z (Z.length - 1) : Nat) : Int)
set_option maxHeartbeats 1600000 in
theorem specSharpestOf_any (v : Value) (Z : List Arc) (w : World) (hn : Z.length ≤ 1048576) (hv : ArcsAt w v Z) : Calls Try.prog 46 #[v] w fun e w' => e = .returned (.tuple #[.int .i64 (shpV Z), .int .i64 (okC Z)]) ∧ Below w.heap.size w w' := by
  have cO := Lib.hid (l05Ok_any v Z w hn hv)
  cases hout0 : outB Z
  · have hc1 : Hid (shpV Z = 0 ∧ okC Z = 1) := Lib.hid (by unfold shpV okC; rw [hout0]; exact ⟨rfl, rfl⟩)
    rw [hout0] at cO
    go_enter Try.func46, Try.ntmps46
    go_wp2_with (go_at_call 52; (with_reducible refine cO.out.mono ?_); rintro e w' ⟨rfl, hbel⟩)
    go_ret2
    exact ⟨ret_int2 hc1.out.1.symm hc1.out.2.symm, hbel⟩
  have hlen := out_len hout0
  have hout := Lib.hid hout0
  rw [hout0] at cO
  have hv0 := Lib.hid hv
  obtain ⟨p, cap, rfl, hcap, _, hread0⟩ := hv
  clear hread0 hout0
  go_enter Try.func46, Try.ntmps46
  go_wp2_with (go_at_call 52; (with_reducible refine cO.out.mono ?_); rintro e w' ⟨rfl, hbel⟩)
  have hread' : Hid _ := Lib.hid hv0.out
  have hb1 := Lib.hid hbel
  clear hbel cO hv0
  go_loopw [4, 5] (fun u i wr => ∃ (k m : Nat), 0 < k ∧ k ≤ Z.length ∧ m < Z.length ∧ i = .int .i64 k ∧ u = .int .i64 m ∧ Hid (m = shpK Z (k - 1)) ∧ Hid (Below w.heap.size w wr)) (fun _ i _ => Z.length - (intOf i).toNat)
  case atStart => exact ⟨1, 0, by omega, by omega, by omega, rfl, rfl, Lib.hid rfl, hb1⟩
  case round =>
    obtain ⟨k, m, hk0, hk, hml, rfl, rfl, hm, hbel0⟩ := hrel
    have hb := hbel0.out
    by_cases hlt : k < Z.length
    · obtain ⟨p2, cap2, hpe, _, _, hread⟩ := hread'.out
      injection hpe with hp1 _ hp3
      subst hp1 hp3
      rcases hread with h | ⟨g, o, rfl, hg, hc⟩
      · subst h; simp at hlt
      obtain ⟨x, hx⟩ : ∃ x, x = Z[k] := ⟨_, rfl⟩
      obtain ⟨y, hy⟩ : ∃ y, y = Z[m] := ⟨_, rfl⟩
      have hr := range_below (hc k hlt) hg hb
      have hr2 := range_below (hc m hml) hg hb
      have hx1 := out_one hout.out hlt
      have hy1 := out_one hout.out hml
      rw [← hx] at hr hx1
      rw [← hy] at hr2 hy1
      have hgr : g < wr.heap.size := Nat.lt_of_lt_of_le hg hb.size
      have P1 := arcAt_of hr
      have P2 := arcAt_of hr2
      have hkI : (k : Int) < (Z.length : Int) := by omega
      have hmI : (m : Int) < (Z.length : Int) := by omega
      have hst : Hid (shpK Z (k + 1 - 1) = if radV x < radV y then k else m) := Lib.hid (by
        obtain ⟨q, rfl⟩ : ∃ q, k = q + 1 := ⟨k - 1, by omega⟩
        have e := hm.out
        rw [show q + 1 - 1 = q by omega] at e
        show (if radA Z (q + 1) < radA Z (shpK Z q) then _ else _) = _
        rw [← e, show radA Z (q + 1) = radV x by unfold radA; rw [getD_of _ hlt, ← hx], show radA Z m = radV y by unfold radA; rw [getD_of _ hml, ← hy]])
      clear hx hy hc hr hr2
      obtain ⟨a, b, c, d, p, s⟩ := x
      obtain ⟨a', b', c', d', p', s'⟩ := y
      obtain ⟨hx2, hx3, hx4⟩ := arc_bd hx1
      obtain ⟨hy2, hy3, hy4⟩ := arc_bd hy1
      simp only at hx2 hx3 hx4 hy2 hy3 hy4
      have cA : ∀ W, Calls Try.prog 56 #[.agg #[.int .i64 a, .int .i64 b], .agg #[.int .i64 c, .int .i64 d]] W fun e w' => e = .returned (.int .i64 (radV ⟨a, b, c, d, p, s⟩)) ∧ Below W.heap.size W w' := fun W => l05Square_any a b c d hx2 hx3 W
      have cB : ∀ W, Calls Try.prog 56 #[.agg #[.int .i64 a', .int .i64 b'], .agg #[.int .i64 c', .int .i64 d']] W fun e w' => e = .returned (.int .i64 (radV ⟨a', b', c', d', p', s'⟩)) ∧ Below W.heap.size W w' := fun W => l05Square_any a' b' c' d' hy2 hy3 W
      generalize radV ⟨a, b, c, d, p, s⟩ = rx at cA hst
      generalize radV ⟨a', b', c', d', p', s'⟩ = ry at cB hst
      have cA' := Lib.hid cA
      have cB' := Lib.hid cB
      have hS : (((wr.cell? ⟨g, o + k * 6, none⟩ = some (.int .i64 a) ∧ wr.cell? ⟨g, o + k * 6 + 1, none⟩ = some (.int .i64 b) ∧ wr.cell? ⟨g, o + k * 6 + 2, none⟩ = some (.int .i64 c) ∧ wr.cell? ⟨g, o + k * 6 + 3, none⟩ = some (.int .i64 d) ∧ wr.cell? ⟨g, o + k * 6 + 4, none⟩ = some (.int .i64 p) ∧ wr.cell? ⟨g, o + k * 6 + 5, none⟩ = some (.int .i64 s)) ∧ (wr.cell? ⟨g, o + m * 6, none⟩ = some (.int .i64 a') ∧ wr.cell? ⟨g, o + m * 6 + 1, none⟩ = some (.int .i64 b') ∧ wr.cell? ⟨g, o + m * 6 + 2, none⟩ = some (.int .i64 c') ∧ wr.cell? ⟨g, o + m * 6 + 3, none⟩ = some (.int .i64 d') ∧ wr.cell? ⟨g, o + m * 6 + 4, none⟩ = some (.int .i64 p') ∧ wr.cell? ⟨g, o + m * 6 + 5, none⟩ = some (.int .i64 s'))) ∧ Below wr.heap.size wr wr) := ⟨⟨P1, P2⟩, Below.refl _ _⟩
      have keep : ∀ W1 W2, (((W1.cell? ⟨g, o + k * 6, none⟩ = some (.int .i64 a) ∧ W1.cell? ⟨g, o + k * 6 + 1, none⟩ = some (.int .i64 b) ∧ W1.cell? ⟨g, o + k * 6 + 2, none⟩ = some (.int .i64 c) ∧ W1.cell? ⟨g, o + k * 6 + 3, none⟩ = some (.int .i64 d) ∧ W1.cell? ⟨g, o + k * 6 + 4, none⟩ = some (.int .i64 p) ∧ W1.cell? ⟨g, o + k * 6 + 5, none⟩ = some (.int .i64 s)) ∧ (W1.cell? ⟨g, o + m * 6, none⟩ = some (.int .i64 a') ∧ W1.cell? ⟨g, o + m * 6 + 1, none⟩ = some (.int .i64 b') ∧ W1.cell? ⟨g, o + m * 6 + 2, none⟩ = some (.int .i64 c') ∧ W1.cell? ⟨g, o + m * 6 + 3, none⟩ = some (.int .i64 d') ∧ W1.cell? ⟨g, o + m * 6 + 4, none⟩ = some (.int .i64 p') ∧ W1.cell? ⟨g, o + m * 6 + 5, none⟩ = some (.int .i64 s'))) ∧ Below wr.heap.size wr W1) → Below W1.heap.size W1 W2 → (((W2.cell? ⟨g, o + k * 6, none⟩ = some (.int .i64 a) ∧ W2.cell? ⟨g, o + k * 6 + 1, none⟩ = some (.int .i64 b) ∧ W2.cell? ⟨g, o + k * 6 + 2, none⟩ = some (.int .i64 c) ∧ W2.cell? ⟨g, o + k * 6 + 3, none⟩ = some (.int .i64 d) ∧ W2.cell? ⟨g, o + k * 6 + 4, none⟩ = some (.int .i64 p) ∧ W2.cell? ⟨g, o + k * 6 + 5, none⟩ = some (.int .i64 s)) ∧ (W2.cell? ⟨g, o + m * 6, none⟩ = some (.int .i64 a') ∧ W2.cell? ⟨g, o + m * 6 + 1, none⟩ = some (.int .i64 b') ∧ W2.cell? ⟨g, o + m * 6 + 2, none⟩ = some (.int .i64 c') ∧ W2.cell? ⟨g, o + m * 6 + 3, none⟩ = some (.int .i64 d') ∧ W2.cell? ⟨g, o + m * 6 + 4, none⟩ = some (.int .i64 p') ∧ W2.cell? ⟨g, o + m * 6 + 5, none⟩ = some (.int .i64 s'))) ∧ Below wr.heap.size wr W2) := fun W1 W2 h1 h2 => by
        obtain ⟨⟨p0, p1⟩, hb⟩ := h1
        have hgw := Nat.lt_of_lt_of_le hgr hb.size
        exact ⟨⟨ArcAt.below (x := ⟨a, b, c, d, p, s⟩) (o := o + k * 6) p0 hgw h2, ArcAt.below (x := ⟨a', b', c', d', p', s'⟩) (o := o + m * 6) p1 hgw h2⟩, hb.trans (h2.mono hb.size)⟩
      have keepH := Lib.hid keep
      clear keep
      clear P1 P2 hx1 hy1 hx2 hx3 hx4 hy2 hy3 hy4 cA cB
      by_cases hlr : rx < ry
      · have hst2 : Hid (k = shpK Z (k + 1 - 1)) := Lib.hid (by rw [hst.out, if_pos hlr])
        go_wp2
        go_region_held3 (fun w' => (((w'.cell? ⟨g, o + k * 6, none⟩ = some (.int .i64 a) ∧ w'.cell? ⟨g, o + k * 6 + 1, none⟩ = some (.int .i64 b) ∧ w'.cell? ⟨g, o + k * 6 + 2, none⟩ = some (.int .i64 c) ∧ w'.cell? ⟨g, o + k * 6 + 3, none⟩ = some (.int .i64 d) ∧ w'.cell? ⟨g, o + k * 6 + 4, none⟩ = some (.int .i64 p) ∧ w'.cell? ⟨g, o + k * 6 + 5, none⟩ = some (.int .i64 s)) ∧ (w'.cell? ⟨g, o + m * 6, none⟩ = some (.int .i64 a') ∧ w'.cell? ⟨g, o + m * 6 + 1, none⟩ = some (.int .i64 b') ∧ w'.cell? ⟨g, o + m * 6 + 2, none⟩ = some (.int .i64 c') ∧ w'.cell? ⟨g, o + m * 6 + 3, none⟩ = some (.int .i64 d') ∧ w'.cell? ⟨g, o + m * 6 + 4, none⟩ = some (.int .i64 p') ∧ w'.cell? ⟨g, o + m * 6 + 5, none⟩ = some (.int .i64 s'))) ∧ Below wr.heap.size wr w'))
          (first | exact ⟨hS.1, belowN hS.2 1⟩ | exact keepH.out _ _ (by assumption) (by assumption) | assumption)
          (first | (go_at_call 56; (with_reducible refine (cA'.out _).mono ?_); rintro e w' ⟨rfl, hbel⟩) | (go_at_call 56; (with_reducible refine (cB'.out _).mono ?_); rintro e w' ⟨rfl, hbel⟩))
        rename_i hHeld'
        have hbel2 : Hid (Below w.heap.size w w') := Lib.hid (below2 hb hHeld'.2)
        clear hS keepH hHeld'
        go_wp2
        go_roundw
        case rel => exact ⟨k + 1, k, by omega, by omega, by omega, by go_num, rfl, hst2, hbel2⟩
        case measure => simp [intOf]; omega
      · have hst2 : Hid (m = shpK Z (k + 1 - 1)) := Lib.hid (by rw [hst.out, if_neg hlr])
        go_wp2
        go_region_held3 (fun w' => (((w'.cell? ⟨g, o + k * 6, none⟩ = some (.int .i64 a) ∧ w'.cell? ⟨g, o + k * 6 + 1, none⟩ = some (.int .i64 b) ∧ w'.cell? ⟨g, o + k * 6 + 2, none⟩ = some (.int .i64 c) ∧ w'.cell? ⟨g, o + k * 6 + 3, none⟩ = some (.int .i64 d) ∧ w'.cell? ⟨g, o + k * 6 + 4, none⟩ = some (.int .i64 p) ∧ w'.cell? ⟨g, o + k * 6 + 5, none⟩ = some (.int .i64 s)) ∧ (w'.cell? ⟨g, o + m * 6, none⟩ = some (.int .i64 a') ∧ w'.cell? ⟨g, o + m * 6 + 1, none⟩ = some (.int .i64 b') ∧ w'.cell? ⟨g, o + m * 6 + 2, none⟩ = some (.int .i64 c') ∧ w'.cell? ⟨g, o + m * 6 + 3, none⟩ = some (.int .i64 d') ∧ w'.cell? ⟨g, o + m * 6 + 4, none⟩ = some (.int .i64 p') ∧ w'.cell? ⟨g, o + m * 6 + 5, none⟩ = some (.int .i64 s'))) ∧ Below wr.heap.size wr w'))
          (first | exact ⟨hS.1, belowN hS.2 1⟩ | exact keepH.out _ _ (by assumption) (by assumption) | assumption)
          (first | (go_at_call 56; (with_reducible refine (cA'.out _).mono ?_); rintro e w' ⟨rfl, hbel⟩) | (go_at_call 56; (with_reducible refine (cB'.out _).mono ?_); rintro e w' ⟨rfl, hbel⟩))
        rename_i hHeld'
        have hbel2 : Hid (Below w.heap.size w w') := Lib.hid (below2 hb hHeld'.2)
        clear hS keepH hHeld'
        go_wp2
        go_roundw
        case rel => exact ⟨k + 1, m, by omega, by omega, by omega, by go_num, rfl, hst2, hbel2⟩
        case measure => simp [intOf]; omega
    · obtain rfl : k = Z.length := by omega
      have hc1 : Hid (shpV Z = (m : Int) ∧ okC Z = 0) := Lib.hid (by unfold shpV okC pick; rw [hout.out, ← hm.out]; exact ⟨rfl, rfl⟩)
      go_wp2
      go_ret2
      exact ⟨ret_int2 hc1.out.1.symm hc1.out.2.symm, hb⟩
set_option maxHeartbeats 3200000 in
theorem implSharpestOf_any (v : Value) (Z : List Arc) (w : World) (hn : Z.length ≤ 1048576) (hv : ArcsAt w v Z) : Calls Try.prog 47 #[v] w fun e w' => e = .returned (.tuple #[.int .i64 (shpV Z), .int .i64 (okC Z)]) ∧ Below w.heap.size w w' := by
  have cO := Lib.hid (implValidOutline_any v Z w hn hv)
  cases hout0 : outB Z
  · have hc1 : Hid (shpV Z = 0 ∧ okC Z = 1) := Lib.hid (by unfold shpV okC; rw [hout0]; exact ⟨rfl, rfl⟩)
    rw [hout0] at cO
    go_enter Try.func47, Try.ntmps47
    go_wp2
    go_step3
    go_wp2_with (go_at_call 21; (with_reducible refine cO.out.mono ?_); rintro e w1 ⟨rfl, hbel1⟩)
    rw [Exit.noGoto_ret]
    go_ret2
    exact ⟨ret_int2 hc1.out.1.symm hc1.out.2.symm, hbel1⟩
  have hlen := out_len hout0
  have hout := Lib.hid hout0
  rw [hout0] at cO
  have hv0 := Lib.hid hv
  obtain ⟨p, cap, rfl, hcap, _, hread0⟩ := hv
  clear hread0 hout0
  go_enter Try.func47, Try.ntmps47
  go_wp2
  go_step3
  go_wp2_with (go_at_call 21; (with_reducible refine cO.out.mono ?_); rintro e w1 ⟨rfl, hbel1⟩)
  go_step3
  go_wp2
  have hread' : Hid _ := Lib.hid hv0.out
  have hb1 := Lib.hid hbel1
  clear hbel1 cO hv0
  go_loopw [4, 14] (fun u i wr => ∃ (k : Nat), k ≤ Z.length ∧ i = .int .i64 k ∧ u = .int .i64 0 ∧ Hid (∀ j, j < k → ∃ i, i < Z.length ∧ radA Z i < radA Z j) ∧ Hid (Below w.heap.size w wr)) (fun _ i _ => Z.length - (intOf i).toNat)
  case atStart => exact ⟨0, by omega, rfl, rfl, Lib.hid (fun j hj => absurd hj (Nat.not_lt_zero _)), hb1⟩
  case round =>
    obtain ⟨k, hk, rfl, rfl, hm, hbel0⟩ := hrel
    have hb := hbel0.out
    by_cases hlt : k < Z.length
    · have hread2 := hread'
      obtain ⟨p2, cap2, hpe, _, _, hread⟩ := hread'.out
      injection hpe with hp1 _ hp3
      subst hp1 hp3
      rcases hread with h | ⟨g, o, rfl, hg, hc⟩
      · subst h; simp at hlt
      obtain ⟨x, hx⟩ : ∃ x, x = Z[k] := ⟨_, rfl⟩
      have hr := range_below (hc k hlt) hg hb
      have hx1 := out_one hout.out hlt
      rw [← hx] at hr hx1
      have hgr : g < wr.heap.size := Nat.lt_of_lt_of_le hg hb.size
      have hxk : Hid (Z.getD k arc0 = x) := Lib.hid (by rw [getD_of _ hlt, ← hx])
      have P1 := arcAt_of hr
      have hkI : (k : Int) < (Z.length : Int) := by omega
      clear hx hc
      obtain ⟨a, b, c, d, p, s⟩ := x
      obtain ⟨hx2, hx3, hx4⟩ := arc_bd hx1
      simp only at hx2 hx3 hx4
      have hrx : Hid (radA Z k = radV ⟨a, b, c, d, p, s⟩) := Lib.hid (by unfold radA; rw [hxk.out])
      have hr1 : wr.rangeAt g (o + k * 6) [.int .i64 a, .int .i64 b, .int .i64 c, .int .i64 d, .int .i64 p, .int .i64 s] := hr
      have cA : ∀ W, Calls Try.prog 57 #[.agg #[.int .i64 a, .int .i64 b, .int .i64 c, .int .i64 d, .int .i64 p, .int .i64 s]] W fun e w' => e = .returned (.int .i64 (radV ⟨a, b, c, d, p, s⟩)) ∧ Below W.heap.size W w' := fun W => radiusSquared_any a b c d p s hx2 hx3 W
      generalize radV ⟨a, b, c, d, p, s⟩ = rx at cA hrx
      have cA' := Lib.hid cA
      clear hr hx1 hx2 hx3 hx4 P1 cA
      go_wp2_with (refine wpList_load_mid rfl _ _ rfl g (o + k * 6) rfl _ _ hr1 Try.underlying29 rfl rfl ?_)
      obtain ⟨q1, hB0, hsz⟩ := one_box wr #[.int .i64 a, .int .i64 b, .int .i64 c, .int .i64 d, .int .i64 p, .int .i64 s] 29
      generalize (wr.alloc (.cells #[.int .i64 a, .int .i64 b, .int .i64 c, .int .i64 d, .int .i64 p, .int .i64 s] 29)) = W0 at q1 hB0 hsz ⊢
      have hS0 : (W0.cell? ⟨wr.heap.size, 0, none⟩ = some (.int .i64 a) ∧ W0.cell? ⟨wr.heap.size, 1, none⟩ = some (.int .i64 b) ∧ W0.cell? ⟨wr.heap.size, 2, none⟩ = some (.int .i64 c) ∧ W0.cell? ⟨wr.heap.size, 3, none⟩ = some (.int .i64 d) ∧ W0.cell? ⟨wr.heap.size, 4, none⟩ = some (.int .i64 p) ∧ W0.cell? ⟨wr.heap.size, 5, none⟩ = some (.int .i64 s)) := ⟨q1 0 _ rfl, q1 1 _ rfl, q1 2 _ rfl, q1 3 _ rfl, q1 4 _ rfl, q1 5 _ rfl⟩
      have hbW := Lib.hid (below2 hb hB0)
      clear q1 hr1 hB0
      generalize wr.heap.size = B at hsz hS0 ⊢
      go_loopw [21] (fun i wr2 => ∃ (j : Nat), j ≤ Z.length ∧ i = .int .i64 j ∧ Hid (∀ q, q < j → rx ≤ radA Z q) ∧ Hid (Below W0.heap.size W0 wr2)) (fun i _ => Z.length - (intOf i).toNat)
      case atStart => exact ⟨0, by omega, rfl, Lib.hid (fun q hq => absurd hq (Nat.not_lt_zero _)), Lib.hid (Below.refl _ _)⟩
      case round =>
        obtain ⟨j, hj, rfl, hall, hbel2⟩ := hrel
        have hb2 := hbel2.out
        by_cases hlt2 : j < Z.length
        · obtain ⟨p3, cap3, hpe3, _, _, hread3⟩ := hread2.out
          injection hpe3 with hp4 _ hp5
          subst hp4 hp5
          rcases hread3 with h | ⟨g', o', heq, hg', hc'⟩
          · subst h; simp at hlt2
          injection heq with heq
          injection heq with hea heb _
          subst hea heb
          obtain ⟨y, hy⟩ : ∃ y, y = Z[j] := ⟨_, rfl⟩
          have hr2 := range_below (range_below (hc' j hlt2) hg' hbW.out) (Nat.lt_of_lt_of_le hg' hbW.out.size) hb2
          have hy1 := out_one hout.out hlt2
          rw [← hy] at hr2 hy1
          have hyk : Hid (Z.getD j arc0 = y) := Lib.hid (by rw [getD_of _ hlt2, ← hy])
          have hjI : (j : Int) < (Z.length : Int) := by omega
          clear hy hc'
          obtain ⟨a', b', c', d', p', s'⟩ := y
          obtain ⟨hy2, hy3, hy4⟩ := arc_bd hy1
          simp only at hy2 hy3 hy4
          have hry : Hid (radA Z j = radV ⟨a', b', c', d', p', s'⟩) := Lib.hid (by unfold radA; rw [hyk.out])
          have hr3 : wr.rangeAt g (o + j * 6) [.int .i64 a', .int .i64 b', .int .i64 c', .int .i64 d', .int .i64 p', .int .i64 s'] := hr2
          have cB : ∀ W, Calls Try.prog 57 #[.agg #[.int .i64 a', .int .i64 b', .int .i64 c', .int .i64 d', .int .i64 p', .int .i64 s']] W fun e w' => e = .returned (.int .i64 (radV ⟨a', b', c', d', p', s'⟩)) ∧ Below W.heap.size W w' := fun W => radiusSquared_any a' b' c' d' p' s' hy2 hy3 W
          generalize radV ⟨a', b', c', d', p', s'⟩ = ry at cB hry
          have cB' := Lib.hid cB
          clear hr2 hy1 hy2 hy3 hy4 cB
          go_wp2_with (refine wpList_load_mid rfl _ _ rfl g (o + j * 6) rfl _ _ hr3 Try.underlying29 rfl rfl ?_)
          obtain ⟨q1, hB2, hsz2⟩ := one_box wr #[.int .i64 a', .int .i64 b', .int .i64 c', .int .i64 d', .int .i64 p', .int .i64 s'] 29
          generalize (wr.alloc (.cells #[.int .i64 a', .int .i64 b', .int .i64 c', .int .i64 d', .int .i64 p', .int .i64 s'] 29)) = W2 at q1 hB2 hsz2 ⊢
          have hsW : B < wr.heap.size := Nat.lt_of_lt_of_le hsz hb2.size
          have hS : (((W2.cell? ⟨B, 0, none⟩ = some (.int .i64 a) ∧ W2.cell? ⟨B, 1, none⟩ = some (.int .i64 b) ∧ W2.cell? ⟨B, 2, none⟩ = some (.int .i64 c) ∧ W2.cell? ⟨B, 3, none⟩ = some (.int .i64 d) ∧ W2.cell? ⟨B, 4, none⟩ = some (.int .i64 p) ∧ W2.cell? ⟨B, 5, none⟩ = some (.int .i64 s)) ∧ (W2.cell? ⟨wr.heap.size, 0, none⟩ = some (.int .i64 a') ∧ W2.cell? ⟨wr.heap.size, 1, none⟩ = some (.int .i64 b') ∧ W2.cell? ⟨wr.heap.size, 2, none⟩ = some (.int .i64 c') ∧ W2.cell? ⟨wr.heap.size, 3, none⟩ = some (.int .i64 d') ∧ W2.cell? ⟨wr.heap.size, 4, none⟩ = some (.int .i64 p') ∧ W2.cell? ⟨wr.heap.size, 5, none⟩ = some (.int .i64 s'))) ∧ Below W2.heap.size W2 W2) := ⟨⟨ArcAt.below (x := ⟨a, b, c, d, p, s⟩) (o := 0) (ArcAt.below (x := ⟨a, b, c, d, p, s⟩) (o := 0) hS0 hsz hb2) hsW hB2, q1 0 _ rfl, q1 1 _ rfl, q1 2 _ rfl, q1 3 _ rfl, q1 4 _ rfl, q1 5 _ rfl⟩, Below.refl _ _⟩
          have keep : ∀ W1 W3, (((W1.cell? ⟨B, 0, none⟩ = some (.int .i64 a) ∧ W1.cell? ⟨B, 1, none⟩ = some (.int .i64 b) ∧ W1.cell? ⟨B, 2, none⟩ = some (.int .i64 c) ∧ W1.cell? ⟨B, 3, none⟩ = some (.int .i64 d) ∧ W1.cell? ⟨B, 4, none⟩ = some (.int .i64 p) ∧ W1.cell? ⟨B, 5, none⟩ = some (.int .i64 s)) ∧ (W1.cell? ⟨wr.heap.size, 0, none⟩ = some (.int .i64 a') ∧ W1.cell? ⟨wr.heap.size, 1, none⟩ = some (.int .i64 b') ∧ W1.cell? ⟨wr.heap.size, 2, none⟩ = some (.int .i64 c') ∧ W1.cell? ⟨wr.heap.size, 3, none⟩ = some (.int .i64 d') ∧ W1.cell? ⟨wr.heap.size, 4, none⟩ = some (.int .i64 p') ∧ W1.cell? ⟨wr.heap.size, 5, none⟩ = some (.int .i64 s'))) ∧ Below W2.heap.size W2 W1) → Below W1.heap.size W1 W3 → (((W3.cell? ⟨B, 0, none⟩ = some (.int .i64 a) ∧ W3.cell? ⟨B, 1, none⟩ = some (.int .i64 b) ∧ W3.cell? ⟨B, 2, none⟩ = some (.int .i64 c) ∧ W3.cell? ⟨B, 3, none⟩ = some (.int .i64 d) ∧ W3.cell? ⟨B, 4, none⟩ = some (.int .i64 p) ∧ W3.cell? ⟨B, 5, none⟩ = some (.int .i64 s)) ∧ (W3.cell? ⟨wr.heap.size, 0, none⟩ = some (.int .i64 a') ∧ W3.cell? ⟨wr.heap.size, 1, none⟩ = some (.int .i64 b') ∧ W3.cell? ⟨wr.heap.size, 2, none⟩ = some (.int .i64 c') ∧ W3.cell? ⟨wr.heap.size, 3, none⟩ = some (.int .i64 d') ∧ W3.cell? ⟨wr.heap.size, 4, none⟩ = some (.int .i64 p') ∧ W3.cell? ⟨wr.heap.size, 5, none⟩ = some (.int .i64 s'))) ∧ Below W2.heap.size W2 W3) := fun W1 W3 h1 h2 => by
            obtain ⟨⟨p0, p1⟩, hb⟩ := h1
            have hz2 := Nat.lt_of_lt_of_le hsz2 hb.size
            exact ⟨⟨ArcAt.below (x := ⟨a, b, c, d, p, s⟩) (o := 0) p0 (Nat.lt_trans hsW hz2) h2, ArcAt.below (x := ⟨a', b', c', d', p', s'⟩) (o := 0) p1 hz2 h2⟩, hb.trans (h2.mono hb.size)⟩
          have keepH := Lib.hid keep
          clear keep q1 hr3
          go_region_held3 (fun w' => (((w'.cell? ⟨B, 0, none⟩ = some (.int .i64 a) ∧ w'.cell? ⟨B, 1, none⟩ = some (.int .i64 b) ∧ w'.cell? ⟨B, 2, none⟩ = some (.int .i64 c) ∧ w'.cell? ⟨B, 3, none⟩ = some (.int .i64 d) ∧ w'.cell? ⟨B, 4, none⟩ = some (.int .i64 p) ∧ w'.cell? ⟨B, 5, none⟩ = some (.int .i64 s)) ∧ (w'.cell? ⟨wr.heap.size, 0, none⟩ = some (.int .i64 a') ∧ w'.cell? ⟨wr.heap.size, 1, none⟩ = some (.int .i64 b') ∧ w'.cell? ⟨wr.heap.size, 2, none⟩ = some (.int .i64 c') ∧ w'.cell? ⟨wr.heap.size, 3, none⟩ = some (.int .i64 d') ∧ w'.cell? ⟨wr.heap.size, 4, none⟩ = some (.int .i64 p') ∧ w'.cell? ⟨wr.heap.size, 5, none⟩ = some (.int .i64 s'))) ∧ Below W2.heap.size W2 w'))
            (first | exact ⟨hS.1, belowN hS.2 1⟩ | exact keepH.out _ _ (by assumption) (by assumption) | assumption)
            (first | (go_at_call 57; (with_reducible refine (cA'.out _).mono ?_); rintro e w' ⟨rfl, hbel⟩) | (go_at_call 57; (with_reducible refine (cB'.out _).mono ?_); rintro e w' ⟨rfl, hbel⟩))
          rename_i hHeld'
          have hbel3 : Hid (Below W0.heap.size W0 w') := Lib.hid (below2 (below2 hb2 hB2) hHeld'.2)
          clear hS keepH hHeld'
          by_cases hlr : ry < rx
          · have hex : Hid (∀ q, q < k + 1 → ∃ i, i < Z.length ∧ radA Z i < radA Z q) := Lib.hid (fun q hq => by
              rcases Nat.lt_or_ge q k with h | h
              · exact hm.out q h
              · exact ⟨j, hlt2, by rw [show q = k by omega, hry.out, hrx.out]; exact hlr⟩)
            have hbel4 : Hid (Below w.heap.size w w') := Lib.hid (below2 hbW.out hbel3.out)
            go_wp2
            go_roundw
            case rel => exact ⟨k + 1, by omega, by go_num, rfl, hex, hbel4⟩
            case measure => simp [intOf]; omega
          · have hall2 : Hid (∀ q, q < j + 1 → rx ≤ radA Z q) := Lib.hid (fun q hq => by
              rcases Nat.lt_or_ge q j with h | h
              · exact hall.out q h
              · rw [show q = j by omega, hry.out]; omega)
            go_wp2
            go_roundw
            case rel => exact ⟨j + 1, by omega, by go_num, hall2, hbel3⟩
            case measure => simp [intOf]; omega
        · obtain rfl : j = Z.length := by omega
          have hkk : shpK Z (Z.length - 1) = k := shp_eq hlt (fun q hq => by rw [hrx.out]; have := hall.out q hq; omega) hm.out
          have hc1 : Hid (shpV Z = (k : Int) ∧ okC Z = 0) := Lib.hid (by unfold shpV okC pick; rw [hout.out, hkk]; exact ⟨rfl, rfl⟩)
          have hbel4 : Hid (Below w.heap.size w wr) := Lib.hid (below2 hbW.out hb2)
          clear hkk
          go_wp2
          dsimp only [Exit.noGoto]
          go_ret2
          exact ⟨ret_int2 hc1.out.1.symm hc1.out.2.symm, hbel4.out⟩
    · obtain rfl : k = Z.length := by omega
      exact (shp_no (by omega) hm.out).elim
end Go.Proofs.Ytdgkpghecfpgoaa
