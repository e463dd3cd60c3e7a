/-
  Outlines mirrored: by the model.
-/
import Derived.Test.YtdgkpghecfpgoaaArcU
namespace Go.Proofs.Ytdgkpghecfpgoaa
open Go.ChangeShapes Go.WideShapes Go.ChangeAt Go.RowKit Go.Deep
set_option linter.unusedVariables false
set_option linter.unusedSimpArgs false
set_option maxRecDepth 1000000
/-- the mirrored arcs behind number m, the last one first -/
def mirD (Z : List Arc) (m : Nat) : List Arc := ((Z.drop m).map mir1).reverse
theorem mirD_step {Z : List Arc} {m : Nat} (h : m < Z.length) : mirD Z m = mirD Z (m + 1) ++ [mir1 (Z.getD m arc0)] := by
  unfold mirD
  rw [List.drop_eq_getElem_cons h, List.map_cons, List.reverse_cons, getD_of _ h]
theorem mirD_end (Z : List Arc) : mirD Z Z.length = [] := by unfold mirD; simp
theorem mirD_len (Z : List Arc) (m : Nat) : (mirD Z m).length = Z.length - m := by unfold mirD; simp
def mirV (Z : List Arc) : List Arc := if outB Z = true then mirD Z 0 else []
theorem mirV_len (Z : List Arc) : (mirV Z).length ≤ 16 := by
  unfold mirV
  by_cases h : outB Z = true
  · rw [if_pos h, mirD_len]; have := out_len h; omega
  · rw [if_neg h]; simp
set_option maxHeartbeats 6400000 in
theorem specMirrorOutline_any (v : Value) (Z : List Arc) (w : World) (hn : Z.length ≤ 1048576) (hv : ArcsAt w v Z) : Calls Try.prog 40 #[v] w (RowA (mirV Z) (okC Z) w) := by
  obtain ⟨i0, hi, hz0, hz1, hz2⟩ := info_parts infoArc
  have cO := Lib.hid (l05Ok_any v Z w hn hv)
  cases hout0 : outB Z
  · have hc1 : Hid (mirV Z = [] ∧ okC Z = 1) := Lib.hid (by unfold mirV okC; rw [hout0]; exact ⟨rfl, rfl⟩)
    rw [hout0] at cO
    go_enter Try.func40, Try.ntmps40
    go_wp2_with (go_at_call 52; (with_reducible refine cO.out.mono ?_); rintro e w' ⟨rfl, hbel⟩)
    go_ret2
    exact rowA_nil hc1.out.1 hc1.out.2 hbel
  rw [hout0] at cO
  have hlen := out_len hout0
  have hout := Lib.hid hout0
  have hv0 := Lib.hid hv
  obtain ⟨p, cap, rfl, hcap, _, hread0⟩ := hv
  clear hread0 hout0
  go_enter Try.func40, Try.ntmps40
  go_wp2_with (go_at_call 52; (with_reducible refine cO.out.mono ?_); rintro e w1 ⟨rfl, hbel⟩)
  have hread' : Hid _ := Lib.hid hv0.out
  have hb1 := Lib.hid (hbel.alloc hbel.size (.cells #[] 29))
  have hown0 := own_low (rowA_start w1) hbel.size
  clear hbel cO hv0
  go_loopw [4, 5] (fun u i wr => ∃ (t : Int) (L : List Arc), -1 ≤ t ∧ t < Z.length ∧ i = .int .i64 t ∧ Hid (L = mirD Z (t + 1).toNat) ∧ L.length ≤ 16 ∧ wr.ownsRow w.heap.size 29 6 u L.length (flatA L) ∧ Hid (Below w.heap.size w wr)) (fun _ i _ => (intOf i + 1).toNat)
  case atStart => exact ⟨(Z.length : Int) - 1, [], by omega, by omega, by go_num, Lib.hid (by rw [show ((Z.length : Int) - 1 + 1).toNat = Z.length by omega, mirD_end]), by simp, hown0, hb1⟩
  case round =>
    obtain ⟨t, L, ht0, ht1, rfl, hL, hLk, hown, hbel0⟩ := hrel
    have hb := hbel0.out
    by_cases hge : 0 ≤ t
    · obtain ⟨k, rfl⟩ : ∃ k : Nat, t = (k : Int) := ⟨t.toNat, by omega⟩
      have hlt : k < Z.length := by omega
      obtain ⟨p2, cap2, hpe, _, _, hread⟩ := hread'.out
      injection hpe with hp1 _ hp3
      subst hp1 hp3
      rcases hread with h | ⟨g, o, rfl, hg, hc⟩
      · subst h; simp at hlt
      obtain ⟨x, hx⟩ : ∃ x, x = Z[k] := ⟨_, rfl⟩
      have hr := range_below (hc k hlt) hg hb
      have hx1 := out_one hout.out hlt
      rw [← hx] at hr hx1
      have hgr : g < wr.heap.size := Nat.lt_of_lt_of_le hg hb.size
      have hxk : Hid (Z.getD k arc0 = x) := Lib.hid (by rw [getD_of _ hlt, ← hx])
      have P1 := arcAt_of hr
      have hkI : (k : Int) < (Z.length : Int) := by omega
      clear hx hc
      obtain ⟨a, b, c, d, p, s⟩ := x
      obtain ⟨hx2, hx3, hx4⟩ := arc_bd hx1
      simp only at hx2 hx3 hx4
      have b1 := ptB_bd hx2
      have b2 := ptB_bd hx3
      have b3 := ptB_bd hx4
      have hr1 : wr.rangeAt g (o + k * 6) [.int .i64 a, .int .i64 b, .int .i64 c, .int .i64 d, .int .i64 p, .int .i64 s] := hr
      have hL2 : Hid (L ++ [mir1 ⟨a, b, c, d, p, s⟩] = mirD Z ((k : Int) - 1 + 1).toNat) := Lib.hid (by
        have e := hL.out
        rw [show ((k : Int) + 1).toNat = k + 1 by omega] at e
        rw [show ((k : Int) - 1 + 1).toNat = k by omega, mirD_step hlt, hxk.out, ← e])
      have hl17 : (L ++ [mir1 ⟨a, b, c, d, p, s⟩]).length ≤ 16 := by rw [hL2.out, mirD_len]; omega
      have cA := Lib.hid (fun W => l05Flip_any a b b1.1 W)
      have cB := Lib.hid (fun W => l05Flip_any c d b2.1 W)
      have cC := Lib.hid (fun W => l05Flip_any p s b3.1 W)
      have hlL : Hid (L.length + 1 = (L ++ [mir1 ⟨a, b, c, d, p, s⟩]).length) := Lib.hid (by simp)
      go_upto_region 8 with (refine wpList_load_mid rfl _ _ rfl g (o + k * 6) rfl _ _ hr1 Try.underlying29 rfl rfl ?_)
      have hOwn := Lib.hid (hown.alloc (.cells #[.int .i64 a, .int .i64 b, .int .i64 c, .int .i64 d, .int .i64 p, .int .i64 s] 29))
      obtain ⟨q1, hB0, hsz⟩ := one_box wr #[.int .i64 a, .int .i64 b, .int .i64 c, .int .i64 d, .int .i64 p, .int .i64 s] 29
      generalize hBx : wr.heap.size = B at q1 hsz ⊢
      have hB0' := below2 hb hB0
      generalize (wr.alloc (.cells #[.int .i64 a, .int .i64 b, .int .i64 c, .int .i64 d, .int .i64 p, .int .i64 s] 29)) = W0 at q1 hB0' hsz hOwn ⊢
      have hS : ((W0.cell? ⟨B, 0, none⟩ = some (.int .i64 a) ∧ W0.cell? ⟨B, 1, none⟩ = some (.int .i64 b) ∧ W0.cell? ⟨B, 2, none⟩ = some (.int .i64 c) ∧ W0.cell? ⟨B, 3, none⟩ = some (.int .i64 d) ∧ W0.cell? ⟨B, 4, none⟩ = some (.int .i64 p) ∧ W0.cell? ⟨B, 5, none⟩ = some (.int .i64 s)) ∧ Below w.heap.size w W0 ∧ B < W0.heap.size) := ⟨⟨q1 0 _ rfl, q1 1 _ rfl, q1 2 _ rfl, q1 3 _ rfl, q1 4 _ rfl, q1 5 _ rfl⟩, hB0', hsz⟩
      have keep : ∀ W1 W2, ((W1.cell? ⟨B, 0, none⟩ = some (.int .i64 a) ∧ W1.cell? ⟨B, 1, none⟩ = some (.int .i64 b) ∧ W1.cell? ⟨B, 2, none⟩ = some (.int .i64 c) ∧ W1.cell? ⟨B, 3, none⟩ = some (.int .i64 d) ∧ W1.cell? ⟨B, 4, none⟩ = some (.int .i64 p) ∧ W1.cell? ⟨B, 5, none⟩ = some (.int .i64 s)) ∧ Below w.heap.size w W1 ∧ B < W1.heap.size) → Below W1.heap.size W1 W2 → ((W2.cell? ⟨B, 0, none⟩ = some (.int .i64 a) ∧ W2.cell? ⟨B, 1, none⟩ = some (.int .i64 b) ∧ W2.cell? ⟨B, 2, none⟩ = some (.int .i64 c) ∧ W2.cell? ⟨B, 3, none⟩ = some (.int .i64 d) ∧ W2.cell? ⟨B, 4, none⟩ = some (.int .i64 p) ∧ W2.cell? ⟨B, 5, none⟩ = some (.int .i64 s)) ∧ Below w.heap.size w W2 ∧ B < W2.heap.size) := fun W1 W2 h1 h2 =>
        ⟨ArcAt.below (x := ⟨a, b, c, d, p, s⟩) (o := 0) h1.1 h1.2.2 h2, below2 h1.2.1 h2, Nat.lt_of_lt_of_le h1.2.2 h2.size⟩
      have hSz : w.heap.size ≤ W0.heap.size := hB0'.size
      have keepH := Lib.hid keep
      have keep2 : ∀ W1 W2, ((W1.cell? ⟨B, 0, none⟩ = some (.int .i64 a) ∧ W1.cell? ⟨B, 1, none⟩ = some (.int .i64 b) ∧ W1.cell? ⟨B, 2, none⟩ = some (.int .i64 c) ∧ W1.cell? ⟨B, 3, none⟩ = some (.int .i64 d) ∧ W1.cell? ⟨B, 4, none⟩ = some (.int .i64 p) ∧ W1.cell? ⟨B, 5, none⟩ = some (.int .i64 s)) ∧ Below w.heap.size w W1 ∧ B < W1.heap.size) → W1.grownBy W2 (Value.ownBlock u4) → ((W2.cell? ⟨B, 0, none⟩ = some (.int .i64 a) ∧ W2.cell? ⟨B, 1, none⟩ = some (.int .i64 b) ∧ W2.cell? ⟨B, 2, none⟩ = some (.int .i64 c) ∧ W2.cell? ⟨B, 3, none⟩ = some (.int .i64 d) ∧ W2.cell? ⟨B, 4, none⟩ = some (.int .i64 p) ∧ W2.cell? ⟨B, 5, none⟩ = some (.int .i64 s)) ∧ Below w.heap.size w W2 ∧ B < W2.heap.size) := fun W1 W2 h1 hg => by
        have hne : some B ≠ Value.ownBlock u4 := fun e => by have := (hown.lt _ e.symm).2; omega
        obtain ⟨⟨m0, m1, m2, m3, m4, m5⟩, m6, m7⟩ := h1
        exact ⟨⟨(grown_cell hg m7 hne).trans m0, (grown_cell hg m7 hne).trans m1, (grown_cell hg m7 hne).trans m2, (grown_cell hg m7 hne).trans m3, (grown_cell hg m7 hne).trans m4, (grown_cell hg m7 hne).trans m5⟩, m6.grown hg m6.size (fun j hj => hown.own_ge j hj), Nat.lt_of_lt_of_le m7 hg.size⟩
      have keepG := Lib.hid keep2
      clear keep keep2 q1 hB0 hB0' hsz hr hr1 hx1 hx2 hx3 hx4 P1 b1 b2 b3
      go_region_held3 (fun w' => ((w'.cell? ⟨B, 0, none⟩ = some (.int .i64 a) ∧ w'.cell? ⟨B, 1, none⟩ = some (.int .i64 b) ∧ w'.cell? ⟨B, 2, none⟩ = some (.int .i64 c) ∧ w'.cell? ⟨B, 3, none⟩ = some (.int .i64 d) ∧ w'.cell? ⟨B, 4, none⟩ = some (.int .i64 p) ∧ w'.cell? ⟨B, 5, none⟩ = some (.int .i64 s)) ∧ Below w.heap.size w w' ∧ B < w'.heap.size))
        (first | exact ⟨hS.1, belowN hS.2.1 1, hS.2.2⟩ | exact keepH.out _ _ (by assumption) (by assumption) | assumption | exact keepH.out _ _ (by assumption) ((Below.refl _ _).alloc (Nat.le_refl _) _) | exact keepG.out _ _ (by assumption) hgrow9)
        (first | (go_at_call 69; (with_reducible refine (cA.out _).mono ?_); rintro e w' ⟨rfl, hbel⟩; (first | replace hOwn := Lib.hid (own_kept hOwn.out hbel) | replace hOwn := Lib.hid (own_kept (own_drew hOwn.out) hbel)); replace hSz := Nat.le_trans hSz hbel.size) | (go_at_call 69; (with_reducible refine (cB.out _).mono ?_); rintro e w' ⟨rfl, hbel⟩; (first | replace hOwn := Lib.hid (own_kept hOwn.out hbel) | replace hOwn := Lib.hid (own_kept (own_drew hOwn.out) hbel)); replace hSz := Nat.le_trans hSz hbel.size) | (go_at_call 69; (with_reducible refine (cC.out _).mono ?_); rintro e w' ⟨rfl, hbel⟩; (first | replace hOwn := Lib.hid (own_kept hOwn.out hbel) | replace hOwn := Lib.hid (own_kept (own_drew hOwn.out) hbel)); replace hSz := Nat.le_trans hSz hbel.size) | ((refine step_append_lies _ (by rfl) _ _ _ (by rfl) w.heap.size 29 i0 (.agg #[.int .i64 (0), .int .i64 (0), .int .i64 (0), .int .i64 (0), .int .i64 (0), .int .i64 (0)]) 6 48 Try.underlying35 hi hz0 hz1 hz2 rfl (by decide) _ L.length (flatA L) (by rfl) (hOwn.out.alloc _) _ 1 1 [.int .i64 (-a), .int .i64 (b), .int .i64 (-p), .int .i64 (s), .int .i64 (-c), .int .i64 (d)] (by rfl) (by rfl) (World.news_of_block (heap_alloc_new _ _)) (by simp [Value.oneCell']) (by omega) (by unfold maxLen; omega) (by omega) (by simp; omega) _ rfl ?_; intro g9 cap9 w9 hown9 hgrow9 hat9 hlt9)))
      rename_i hHeld'
      clear hS keepH keepG hOwn
      have hown10 : w9.ownsRow w.heap.size 29 6 (.slice (some ⟨g9, 0, none⟩) (L.length + 1) cap9) (L ++ [mir1 ⟨a, b, c, d, p, s⟩]).length (flatA (L ++ [mir1 ⟨a, b, c, d, p, s⟩])) := by
        rw [flatA_app, ← hlL.out]
        exact hown9
      have hb9 := Lib.hid hHeld'.2.1
      have ew : IntKind.i64.wrap ((k : Int) - 1) = (k : Int) - 1 := IntWalk.i64_in _ (by omega)
      clear hgrow9 hown9 hown hHeld'
      go_wp2
      go_roundw
      case rel => exact ⟨(k : Int) - 1, L ++ [mir1 ⟨a, b, c, d, p, s⟩], by omega, by omega, by first | rfl | go_num, hL2, hl17, hown10, hb9⟩
      case measure => simp [intOf] <;> omega
    · obtain rfl : t = -1 := by omega
      have hc1 : Hid (mirV Z = L ∧ okC Z = 0) := Lib.hid (by
        have e := hL.out
        rw [show ((-1 : Int) + 1).toNat = 0 by decide] at e
        unfold mirV okC
        rw [hout.out, if_pos rfl, ← e]
        exact ⟨rfl, rfl⟩)
      have hA := Lib.hid (ownA_row hown)
      go_wp2
      go_ret2
      exact rowA_mk hc1.out.1 hc1.out.2 (Nat.le_refl _) hA.out hb
end Go.Proofs.Ytdgkpghecfpgoaa
