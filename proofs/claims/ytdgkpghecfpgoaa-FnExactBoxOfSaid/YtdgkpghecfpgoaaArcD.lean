/-
  Outlines: corners, by the program; smooth outlines.
-/
import Derived.Test.YtdgkpghecfpgoaaArcC
namespace Go.Proofs.Ytdgkpghecfpgoaa
open Go.ChangeShapes Go.WideShapes Go.ChangeAt Go.RowKit Go.Deep
set_option linter.unusedVariables false
set_option linter.unusedSimpArgs false
set_option maxRecDepth 1000000
set_option maxHeartbeats 3200000 in
theorem implCornersOf_any (v : Value) (Z : List Arc) (w : World) (hn : Z.length ≤ 1048576) (hv : ArcsAt w v Z) : Calls Try.prog 28 #[v] w (RowC (corV Z) (okC Z) w) := by
  obtain ⟨i0, hi, hz0, hz1, hz2⟩ := info_parts infoI
  have cO := Lib.hid (implValidOutline_any v Z w hn hv)
  cases hout0 : outB Z
  · have hc1 : Hid (corV Z = [] ∧ okC Z = 1) := Lib.hid (by unfold corV okC; rw [hout0]; exact ⟨rfl, rfl⟩)
    rw [hout0] at cO
    go_enter Try.func28, Try.ntmps28
    go_wp2_with (go_at_call 21; (with_reducible refine cO.out.mono ?_); rintro e w' ⟨rfl, hbel⟩)
    go_ret2
    exact rowC_nil hc1.out.1 hc1.out.2 hbel
  have hlen := out_len hout0
  have hout := Lib.hid hout0
  rw [hout0] at cO
  have hv0 := Lib.hid hv
  obtain ⟨p, cap, rfl, hcap, _, hread0⟩ := hv
  clear hread0 hout0
  go_enter Try.func28, Try.ntmps28
  go_wp2_with (go_at_call 21; (with_reducible refine cO.out.mono ?_); rintro e w1 ⟨rfl, hbel1⟩)
  have hread' : Hid _ := Lib.hid hv0.out
  have hb1 := Lib.hid hbel1
  clear hbel1 cO hv0
  have hown0 : w1.ownsRow w.heap.size 2 1 (.slice none 0 0) (corL Z 0).length ((corL Z 0).map encI) := World.ownsRow_nil _ _ _ _
  go_loopw [4, 12] (fun u i wr => ∃ (k : Nat) (L : List Int), k ≤ Z.length ∧ i = .int .i64 k ∧ Hid (L = corL Z k) ∧ L.length ≤ k ∧ wr.ownsRow w.heap.size 2 1 u L.length (L.map encI) ∧ Hid (Below w.heap.size w wr)) (fun _ i _ => Z.length - (intOf i).toNat)
  case atStart => exact ⟨0, [], by omega, rfl, Lib.hid rfl, Nat.le_refl _, hown0, hb1⟩
  case round =>
    obtain ⟨k, L, hk, rfl, hL, hLk, hown, hbel0⟩ := hrel
    have hb := hbel0.out
    by_cases hlt : k < Z.length
    · obtain ⟨p2, cap2, hpe, _, _, hread⟩ := hread'.out
      injection hpe with hp1 _ hp3
      subst hp1 hp3
      rcases hread with h | ⟨g, o, rfl, hg, hc⟩
      · subst h; simp at hlt
      obtain ⟨m, hm⟩ : ∃ m, m = (k + 1) % Z.length := ⟨_, rfl⟩
      have hml : m < Z.length := by rw [hm]; exact Nat.mod_lt _ (by omega)
      obtain ⟨x, hx⟩ : ∃ x, x = Z[k] := ⟨_, rfl⟩
      obtain ⟨y, hy⟩ : ∃ y, y = Z[m] := ⟨_, rfl⟩
      have hr := range_below (hc k hlt) hg hb
      have hr2 := range_below (hc m hml) hg hb
      have hx1 := out_one hout.out hlt
      have hy1 := out_one hout.out hml
      rw [← hx] at hr hx1
      rw [← hy] at hr2 hy1
      have hgr : g < wr.heap.size := Nat.lt_of_lt_of_le hg hb.size
      have hst : Hid (corS Z k = smoB x y) := Lib.hid (by unfold corS; rw [← hm, getD_of _ hlt, getD_of _ hml, ← hx, ← hy])
      have P1 := arcAt_of hr
      have P2 := arcAt_of hr2
      have hkI : (k : Int) < (Z.length : Int) := by omega
      have hmI : (m : Int) < (Z.length : Int) := by omega
      have hmod : ((k : Int) + 1).tmod (Z.length : Int) = (m : Int) := by rw [hm, Int.tmod_eq_emod_of_nonneg (by omega)]; rfl
      have hwk : IntKind.i64.wrap ((k : Int) + 1) = (k : Int) + 1 := IntWalk.i64_in _ (by omega)
      have hwm : IntKind.i64.wrap (m : Int) = (m : Int) := IntWalk.i64_in _ (by omega)
      have hZ0 : Z ≠ [] := fun h => by rw [h] at hlt; exact absurd hlt (Nat.not_lt_zero _)
      have hn0 : ((Z.length : Int) == 0) = false := beq_false_of_ne (by omega)
      clear hm hx hy hc hr2
      obtain ⟨a, b, c, d, p, s⟩ := x
      obtain ⟨a', b', c', d', p', s'⟩ := y
      obtain ⟨hx2, hx3, hx4⟩ := arc_bd hx1
      obtain ⟨hy2, hy3, hy4⟩ := arc_bd hy1
      simp only at hx2 hx3 hx4 hy2 hy3 hy4
      have cS0 : ∀ W, Calls Try.prog 59 #[.agg #[.int .i64 a, .int .i64 b, .int .i64 c, .int .i64 d, .int .i64 p, .int .i64 s], .agg #[.int .i64 a', .int .i64 b', .int .i64 c', .int .i64 d', .int .i64 p', .int .i64 s']] W fun e w' => e = .returned (.bool (smoB ⟨a, b, c, d, p, s⟩ ⟨a', b', c', d', p', s'⟩)) ∧ Below W.heap.size W w' := fun W => goesSmoothly_any a b c d p s a' b' c' d' p' s' hx2 hx4 hy2 W
      have hr1 : wr.rangeAt g (o + k * 6) [.int .i64 a, .int .i64 b, .int .i64 c, .int .i64 d, .int .i64 p, .int .i64 s] := hr
      clear hr
      clear P1 hx1 hy1 hx2 hx3 hx4 hy2 hy3 hy4
      cases hb1 : smoB ⟨a, b, c, d, p, s⟩ ⟨a', b', c', d', p', s'⟩
      · rw [hb1] at cS0 hst
        have cS := Lib.hid cS0
        clear cS0
        have hL2 : Hid (L ++ [(k : Int)] = corL Z (k + 1)) := Lib.hid (by rw [corL_yes hst.out, ← hL.out])
        go_wp2_with (refine wpList_load_mid rfl _ _ rfl g (o + k * 6) rfl _ _ hr1 Try.underlying29 rfl rfl ?_)
        obtain ⟨q1, hB0, hsz⟩ := one_box wr #[.int .i64 a, .int .i64 b, .int .i64 c, .int .i64 d, .int .i64 p, .int .i64 s] 29
        have hownA := hown.alloc (.cells #[.int .i64 a, .int .i64 b, .int .i64 c, .int .i64 d, .int .i64 p, .int .i64 s] 29)
        generalize (wr.alloc (.cells #[.int .i64 a, .int .i64 b, .int .i64 c, .int .i64 d, .int .i64 p, .int .i64 s] 29)) = W0 at q1 hB0 hsz hownA ⊢
        have hS : (((W0.cell? ⟨wr.heap.size, 0, none⟩ = some (.int .i64 a) ∧ W0.cell? ⟨wr.heap.size, 1, none⟩ = some (.int .i64 b) ∧ W0.cell? ⟨wr.heap.size, 2, none⟩ = some (.int .i64 c) ∧ W0.cell? ⟨wr.heap.size, 3, none⟩ = some (.int .i64 d) ∧ W0.cell? ⟨wr.heap.size, 4, none⟩ = some (.int .i64 p) ∧ W0.cell? ⟨wr.heap.size, 5, none⟩ = some (.int .i64 s)) ∧ (W0.cell? ⟨g, o + m * 6, none⟩ = some (.int .i64 a') ∧ W0.cell? ⟨g, o + m * 6 + 1, none⟩ = some (.int .i64 b') ∧ W0.cell? ⟨g, o + m * 6 + 2, none⟩ = some (.int .i64 c') ∧ W0.cell? ⟨g, o + m * 6 + 3, none⟩ = some (.int .i64 d') ∧ W0.cell? ⟨g, o + m * 6 + 4, none⟩ = some (.int .i64 p') ∧ W0.cell? ⟨g, o + m * 6 + 5, none⟩ = some (.int .i64 s'))) ∧ Below W0.heap.size W0 W0) := ⟨⟨⟨q1 0 _ rfl, q1 1 _ rfl, q1 2 _ rfl, q1 3 _ rfl, q1 4 _ rfl, q1 5 _ rfl⟩, ArcAt.below (x := ⟨a', b', c', d', p', s'⟩) P2 hgr hB0⟩, Below.refl _ _⟩
        have hgW := Nat.lt_of_lt_of_le hgr hB0.size
        have keep : ∀ W1 W2, (((W1.cell? ⟨wr.heap.size, 0, none⟩ = some (.int .i64 a) ∧ W1.cell? ⟨wr.heap.size, 1, none⟩ = some (.int .i64 b) ∧ W1.cell? ⟨wr.heap.size, 2, none⟩ = some (.int .i64 c) ∧ W1.cell? ⟨wr.heap.size, 3, none⟩ = some (.int .i64 d) ∧ W1.cell? ⟨wr.heap.size, 4, none⟩ = some (.int .i64 p) ∧ W1.cell? ⟨wr.heap.size, 5, none⟩ = some (.int .i64 s)) ∧ (W1.cell? ⟨g, o + m * 6, none⟩ = some (.int .i64 a') ∧ W1.cell? ⟨g, o + m * 6 + 1, none⟩ = some (.int .i64 b') ∧ W1.cell? ⟨g, o + m * 6 + 2, none⟩ = some (.int .i64 c') ∧ W1.cell? ⟨g, o + m * 6 + 3, none⟩ = some (.int .i64 d') ∧ W1.cell? ⟨g, o + m * 6 + 4, none⟩ = some (.int .i64 p') ∧ W1.cell? ⟨g, o + m * 6 + 5, none⟩ = some (.int .i64 s'))) ∧ Below W0.heap.size W0 W1) → Below W1.heap.size W1 W2 → (((W2.cell? ⟨wr.heap.size, 0, none⟩ = some (.int .i64 a) ∧ W2.cell? ⟨wr.heap.size, 1, none⟩ = some (.int .i64 b) ∧ W2.cell? ⟨wr.heap.size, 2, none⟩ = some (.int .i64 c) ∧ W2.cell? ⟨wr.heap.size, 3, none⟩ = some (.int .i64 d) ∧ W2.cell? ⟨wr.heap.size, 4, none⟩ = some (.int .i64 p) ∧ W2.cell? ⟨wr.heap.size, 5, none⟩ = some (.int .i64 s)) ∧ (W2.cell? ⟨g, o + m * 6, none⟩ = some (.int .i64 a') ∧ W2.cell? ⟨g, o + m * 6 + 1, none⟩ = some (.int .i64 b') ∧ W2.cell? ⟨g, o + m * 6 + 2, none⟩ = some (.int .i64 c') ∧ W2.cell? ⟨g, o + m * 6 + 3, none⟩ = some (.int .i64 d') ∧ W2.cell? ⟨g, o + m * 6 + 4, none⟩ = some (.int .i64 p') ∧ W2.cell? ⟨g, o + m * 6 + 5, none⟩ = some (.int .i64 s'))) ∧ Below W0.heap.size W0 W2) := fun W1 W2 h1 h2 => by
          obtain ⟨⟨p0, p1⟩, hb⟩ := h1
          exact ⟨⟨ArcAt.below (x := ⟨a, b, c, d, p, s⟩) (o := 0) p0 (Nat.lt_of_lt_of_le hsz hb.size) h2, ArcAt.below (x := ⟨a', b', c', d', p', s'⟩) (o := o + m * 6) p1 (Nat.lt_of_lt_of_le hgW hb.size) h2⟩, hb.trans (h2.mono hb.size)⟩
        have keepH := Lib.hid keep
        have hownH := Lib.hid hownA
        clear keep q1 P2 hownA
        go_region_held3 (fun w' => (((w'.cell? ⟨wr.heap.size, 0, none⟩ = some (.int .i64 a) ∧ w'.cell? ⟨wr.heap.size, 1, none⟩ = some (.int .i64 b) ∧ w'.cell? ⟨wr.heap.size, 2, none⟩ = some (.int .i64 c) ∧ w'.cell? ⟨wr.heap.size, 3, none⟩ = some (.int .i64 d) ∧ w'.cell? ⟨wr.heap.size, 4, none⟩ = some (.int .i64 p) ∧ w'.cell? ⟨wr.heap.size, 5, none⟩ = some (.int .i64 s)) ∧ (w'.cell? ⟨g, o + m * 6, none⟩ = some (.int .i64 a') ∧ w'.cell? ⟨g, o + m * 6 + 1, none⟩ = some (.int .i64 b') ∧ w'.cell? ⟨g, o + m * 6 + 2, none⟩ = some (.int .i64 c') ∧ w'.cell? ⟨g, o + m * 6 + 3, none⟩ = some (.int .i64 d') ∧ w'.cell? ⟨g, o + m * 6 + 4, none⟩ = some (.int .i64 p') ∧ w'.cell? ⟨g, o + m * 6 + 5, none⟩ = some (.int .i64 s'))) ∧ Below W0.heap.size W0 w'))
          (first | exact ⟨hS.1, belowN hS.2 1⟩ | exact keepH.out _ _ (by assumption) (by assumption) | assumption)
          (first | (go_at_call 59; (with_reducible refine (cS.out _).mono ?_); rintro e w' ⟨rfl, hbel⟩))
        rename_i hHeld'
        have hbel2 : Hid (Below w.heap.size w w') := Lib.hid (below2 (below2 hb hB0) hHeld'.2)
        have hown2 := own_kept hownH.out hHeld'.2
        clear hS keepH hHeld'
        go_wp2_with (at_builtin; refine wpList_append_own _ rfl _ _ 43 rfl w.heap.size 2 i0 (.int .i64 0) 1 8 Try.underlying43 hi hz0 hz1 hz2 rfl (by decide) _ _ _ rfl (hown2.alloc _) ⟨w'.heap.size, 0, none⟩ 1 1 [.int .i64 k] rfl rfl ?c1A ?c2A ?c3A ?c4A ?c5A ?_)
        case c1A =>
          intro j u hj
          match j, hj with
          | 0, hj => simp at hj; subst hj; simp [Addr.add]
        case c2A => intro u hu; simp at hu; subst hu; rfl
        case c3A => unfold maxLen; omega
        case c4A => omega
        case c5A => have := hbel2.out.size; simp; omega
        intro v' w3 hown' hgrow' _
        have hb3 : Below w.heap.size w w3 := (hbel2.out.alloc hbel2.out.size (.cells #[.int .i64 k] 2)).grown hgrow' (by have := hbel2.out.size; simp at this ⊢; omega) (fun j hj => hown2.own_ge j hj)
        have hLl : (L ++ [((k) : Int)]).length = L.length + 1 := by simp
        have hown3 : w3.ownsRow w.heap.size 2 1 v' (L ++ [((k) : Int)]).length ((L ++ [((k) : Int)]).map encI) := by
          rw [hLl, List.map_append, List.map_singleton]; simpa [encI] using hown'
        have hb3' := Lib.hid hb3
        clear hgrow' hown' hb3
        go_wp2
        go_roundw
        case rel => exact ⟨k + 1, L ++ [(k : Int)], by omega, by go_num, hL2, by rw [hLl]; omega, hown3, hb3'⟩
        case measure => simp [intOf]; omega
      · rw [hb1] at cS0 hst
        have cS := Lib.hid cS0
        clear cS0
        have hL2 : Hid (L = corL Z (k + 1)) := Lib.hid (by rw [corL_no hst.out, ← hL.out])
        go_wp2_with (refine wpList_load_mid rfl _ _ rfl g (o + k * 6) rfl _ _ hr1 Try.underlying29 rfl rfl ?_)
        obtain ⟨q1, hB0, hsz⟩ := one_box wr #[.int .i64 a, .int .i64 b, .int .i64 c, .int .i64 d, .int .i64 p, .int .i64 s] 29
        have hownA := hown.alloc (.cells #[.int .i64 a, .int .i64 b, .int .i64 c, .int .i64 d, .int .i64 p, .int .i64 s] 29)
        generalize (wr.alloc (.cells #[.int .i64 a, .int .i64 b, .int .i64 c, .int .i64 d, .int .i64 p, .int .i64 s] 29)) = W0 at q1 hB0 hsz hownA ⊢
        have hS : (((W0.cell? ⟨wr.heap.size, 0, none⟩ = some (.int .i64 a) ∧ W0.cell? ⟨wr.heap.size, 1, none⟩ = some (.int .i64 b) ∧ W0.cell? ⟨wr.heap.size, 2, none⟩ = some (.int .i64 c) ∧ W0.cell? ⟨wr.heap.size, 3, none⟩ = some (.int .i64 d) ∧ W0.cell? ⟨wr.heap.size, 4, none⟩ = some (.int .i64 p) ∧ W0.cell? ⟨wr.heap.size, 5, none⟩ = some (.int .i64 s)) ∧ (W0.cell? ⟨g, o + m * 6, none⟩ = some (.int .i64 a') ∧ W0.cell? ⟨g, o + m * 6 + 1, none⟩ = some (.int .i64 b') ∧ W0.cell? ⟨g, o + m * 6 + 2, none⟩ = some (.int .i64 c') ∧ W0.cell? ⟨g, o + m * 6 + 3, none⟩ = some (.int .i64 d') ∧ W0.cell? ⟨g, o + m * 6 + 4, none⟩ = some (.int .i64 p') ∧ W0.cell? ⟨g, o + m * 6 + 5, none⟩ = some (.int .i64 s'))) ∧ Below W0.heap.size W0 W0) := ⟨⟨⟨q1 0 _ rfl, q1 1 _ rfl, q1 2 _ rfl, q1 3 _ rfl, q1 4 _ rfl, q1 5 _ rfl⟩, ArcAt.below (x := ⟨a', b', c', d', p', s'⟩) P2 hgr hB0⟩, Below.refl _ _⟩
        have hgW := Nat.lt_of_lt_of_le hgr hB0.size
        have keep : ∀ W1 W2, (((W1.cell? ⟨wr.heap.size, 0, none⟩ = some (.int .i64 a) ∧ W1.cell? ⟨wr.heap.size, 1, none⟩ = some (.int .i64 b) ∧ W1.cell? ⟨wr.heap.size, 2, none⟩ = some (.int .i64 c) ∧ W1.cell? ⟨wr.heap.size, 3, none⟩ = some (.int .i64 d) ∧ W1.cell? ⟨wr.heap.size, 4, none⟩ = some (.int .i64 p) ∧ W1.cell? ⟨wr.heap.size, 5, none⟩ = some (.int .i64 s)) ∧ (W1.cell? ⟨g, o + m * 6, none⟩ = some (.int .i64 a') ∧ W1.cell? ⟨g, o + m * 6 + 1, none⟩ = some (.int .i64 b') ∧ W1.cell? ⟨g, o + m * 6 + 2, none⟩ = some (.int .i64 c') ∧ W1.cell? ⟨g, o + m * 6 + 3, none⟩ = some (.int .i64 d') ∧ W1.cell? ⟨g, o + m * 6 + 4, none⟩ = some (.int .i64 p') ∧ W1.cell? ⟨g, o + m * 6 + 5, none⟩ = some (.int .i64 s'))) ∧ Below W0.heap.size W0 W1) → Below W1.heap.size W1 W2 → (((W2.cell? ⟨wr.heap.size, 0, none⟩ = some (.int .i64 a) ∧ W2.cell? ⟨wr.heap.size, 1, none⟩ = some (.int .i64 b) ∧ W2.cell? ⟨wr.heap.size, 2, none⟩ = some (.int .i64 c) ∧ W2.cell? ⟨wr.heap.size, 3, none⟩ = some (.int .i64 d) ∧ W2.cell? ⟨wr.heap.size, 4, none⟩ = some (.int .i64 p) ∧ W2.cell? ⟨wr.heap.size, 5, none⟩ = some (.int .i64 s)) ∧ (W2.cell? ⟨g, o + m * 6, none⟩ = some (.int .i64 a') ∧ W2.cell? ⟨g, o + m * 6 + 1, none⟩ = some (.int .i64 b') ∧ W2.cell? ⟨g, o + m * 6 + 2, none⟩ = some (.int .i64 c') ∧ W2.cell? ⟨g, o + m * 6 + 3, none⟩ = some (.int .i64 d') ∧ W2.cell? ⟨g, o + m * 6 + 4, none⟩ = some (.int .i64 p') ∧ W2.cell? ⟨g, o + m * 6 + 5, none⟩ = some (.int .i64 s'))) ∧ Below W0.heap.size W0 W2) := fun W1 W2 h1 h2 => by
          obtain ⟨⟨p0, p1⟩, hb⟩ := h1
          exact ⟨⟨ArcAt.below (x := ⟨a, b, c, d, p, s⟩) (o := 0) p0 (Nat.lt_of_lt_of_le hsz hb.size) h2, ArcAt.below (x := ⟨a', b', c', d', p', s'⟩) (o := o + m * 6) p1 (Nat.lt_of_lt_of_le hgW hb.size) h2⟩, hb.trans (h2.mono hb.size)⟩
        have keepH := Lib.hid keep
        have hownH := Lib.hid hownA
        clear keep q1 P2 hownA
        go_region_held3 (fun w' => (((w'.cell? ⟨wr.heap.size, 0, none⟩ = some (.int .i64 a) ∧ w'.cell? ⟨wr.heap.size, 1, none⟩ = some (.int .i64 b) ∧ w'.cell? ⟨wr.heap.size, 2, none⟩ = some (.int .i64 c) ∧ w'.cell? ⟨wr.heap.size, 3, none⟩ = some (.int .i64 d) ∧ w'.cell? ⟨wr.heap.size, 4, none⟩ = some (.int .i64 p) ∧ w'.cell? ⟨wr.heap.size, 5, none⟩ = some (.int .i64 s)) ∧ (w'.cell? ⟨g, o + m * 6, none⟩ = some (.int .i64 a') ∧ w'.cell? ⟨g, o + m * 6 + 1, none⟩ = some (.int .i64 b') ∧ w'.cell? ⟨g, o + m * 6 + 2, none⟩ = some (.int .i64 c') ∧ w'.cell? ⟨g, o + m * 6 + 3, none⟩ = some (.int .i64 d') ∧ w'.cell? ⟨g, o + m * 6 + 4, none⟩ = some (.int .i64 p') ∧ w'.cell? ⟨g, o + m * 6 + 5, none⟩ = some (.int .i64 s'))) ∧ Below W0.heap.size W0 w'))
          (first | exact ⟨hS.1, belowN hS.2 1⟩ | exact keepH.out _ _ (by assumption) (by assumption) | assumption)
          (first | (go_at_call 59; (with_reducible refine (cS.out _).mono ?_); rintro e w' ⟨rfl, hbel⟩))
        rename_i hHeld'
        have hbel2 : Hid (Below w.heap.size w w') := Lib.hid (below2 (below2 hb hB0) hHeld'.2)
        have hown2 := own_kept hownH.out hHeld'.2
        clear hS keepH hHeld'
        go_wp2
        go_roundw
        case rel => exact ⟨k + 1, L, by omega, by go_num, hL2, by omega, hown2, hbel2⟩
        case measure => simp [intOf]; omega
    · obtain rfl : k = Z.length := by omega
      have hc1 : Hid (corV Z = corL Z Z.length ∧ okC Z = 0) := Lib.hid (by unfold corV okC; rw [hout.out]; exact ⟨rfl, rfl⟩)
      have hc2 : Hid (corV Z = L) := Lib.hid (by rw [hc1.out.1, hL.out])
      go_wp2
      go_ret2
      exact rowC_mk hc2.out hc1.out.2 (Nat.le_refl _) hown hb
end Go.Proofs.Ytdgkpghecfpgoaa
