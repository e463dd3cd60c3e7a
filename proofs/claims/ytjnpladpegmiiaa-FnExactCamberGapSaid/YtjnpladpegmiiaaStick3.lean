/-
  Heights of a stick: CamberOf, CamberGap.
-/
import Derived.Test.YtjnpladpegmiiaaStick2
namespace Go.Proofs.Ytjnpladpegmiiaa
open Go.ChangeShapes Go.WideShapes Go.ChangeAt Go.RowKit Go.Deep
set_option linter.unusedVariables false
set_option linter.unusedSimpArgs false
set_option maxRecDepth 1000000
/-- the place of the greatest camber -/
def cmI (H : List Int) : Nat := fgI (dpV (hAt H) (H.length - 1)) H.length
def cmD (H : List Int) : Int := rnd (dpV (hAt H) (H.length - 1) (cmI H)) ((H.length - 1 : Nat) : Int)
def cgV (H : List Int) : Int := mxF (bnV (hAt H)) (H.length - 2)
theorem near9_any (a b : Int) (hb : b ≠ 0) (ha0 : -1000000 ≤ a) (ha1 : a ≤ 1000000000) (hb0 : -1000000 ≤ b) (hb1 : b ≤ 1000000) (w : World) : Calls Try.prog 76 #[.int .i64 a, .int .i64 b] w fun e w' => e = .returned (.int .i64 (rnd a b)) ∧ Below w.heap.size w w' :=
  (nearest_any a b hb (by omega) (by omega) (by omega) (by omega) w).mono (by rintro e w' ⟨rfl, n, rfl⟩; exact ⟨rfl, belowN (Below.refl _ _) n⟩)
theorem dpv_bd {f : Nat → Int} {L k : Nat} (hL : 2 ≤ L ∧ L ≤ 63) (hk : k ≤ L) (hb : ∀ i, i ≤ L → -8000 ≤ f i ∧ f i ≤ 8000) : -1600000 ≤ dpV f L k ∧ dpV f L k ≤ 1600000 := by
  have := dp_bd hL hk hb
  unfold dpV
  omega
/-- the greatest depth is not negative: it is 0 at the ends -/
theorem cm_pos {f : Nat → Int} {L : Nat} : 0 ≤ dpV f L (fgI (dpV f L) (L + 1)) := by
  have h := fgI_ge (f := dpV f L) (L + 1) 0 (by omega)
  have h0 : dpV f L 0 = 0 := by unfold dpV; simp
  omega
set_option maxHeartbeats 3200000 in
theorem implCamberOf_any (v : Value) (H : List Int) (w : World) (hn : H.length ≤ 1048576) (hv : IntsAt w v H) : Calls Try.prog 39 #[v] w fun e w' => e = .returned (.tuple #[.int .i64 (pick (hsB H) (cmI H : Nat)), .int .i64 (pick (hsB H) (cmD H)), .int .i64 (code (hsB H) 1)]) ∧ Below w.heap.size w w' := by
  have cV := isStick_any v H w hn hv
  cases h1 : hsB H <;> rw [h1] at cV
  · replace cV := Lib.hid cV
    go_enter Try.func39, Try.ntmps39
    go_wp2_with (go_at_call 73; (with_reducible refine cV.out.mono ?_); rintro e w1 ⟨rfl, b1⟩)
    go_ret3
    exact ⟨ret_int3 rfl rfl rfl, b1⟩
  have hx := hs_bd h1
  obtain ⟨L, hL⟩ : ∃ L, H.length = L + 1 := ⟨H.length - 1, by omega⟩
  have hL2 : 2 ≤ L ∧ L ≤ 63 := by omega
  have hfb : ∀ i, i ≤ L → -8000 ≤ hAt H i ∧ hAt H i ≤ 8000 := fun i hi => hx.2.2 i (by omega)
  obtain ⟨a0, cap, rfl, hcap, hids, hread⟩ := hv
  rcases hread with h | ⟨g, o, rfl, hg, hc⟩
  · subst h; simp at hL
  have hcc : Hid (∀ W, Below w.heap.size w W → ∀ i, i ≤ L → W.cell? ⟨g, o + i, none⟩ = some (.int .i64 (hAt H i))) := Lib.hid (fun W hb i hi => ints_cell hb hg hc (by omega))
  have hfb' := Lib.hid hfb
  rw [hL] at cV ⊢
  have hI : Hid (fgI (dpV (hAt H) L) (L + 1) = cmI H) := Lib.hid (by unfold cmI; rw [hL]; rfl)
  have hD : Hid (rnd (dpV (hAt H) L (fgI (dpV (hAt H) L) (L + 1))) (L : Int) = cmD H) := Lib.hid (by unfold cmD cmI; rw [hL]; rfl)
  have hlt := fgI_lt (f := dpV (hAt H) L) (L + 1) (by omega)
  have hdb := dpv_bd hL2 (show fgI (dpV (hAt H) L) (L + 1) ≤ L by omega) hfb
  have hpos := cm_pos (f := hAt H) (L := L)
  have cF0 := fun W (hb : Below w.heap.size w W) => firstGreatestB_any 75 (.slice (some ⟨g, o, none⟩) (L + 1) cap) (L + 1) (dpV (hAt H) L) W (enters_of Try.func75 (by kernel_rfl) rfl) (by omega) (by omega) (fun W2 i hW hi => depth_any g o cap L (hAt H) i W2 hL2 (by omega) hfb'.out (hcc.out W2 (below2 hb hW)))
  simp only [show ((L + 1 : Nat) : Int) = (L : Int) + 1 from by omega] at cF0
  obtain ⟨x, hxx⟩ : ∃ x, x = fgI (dpV (hAt H) L) (L + 1) := ⟨_, rfl⟩
  rw [← hxx] at cF0 hI hD hlt hdb hpos
  obtain ⟨y, hy⟩ : ∃ y, y = dpV (hAt H) L x := ⟨_, rfl⟩
  rw [← hy] at cF0 hD hdb hpos
  have cN := Lib.hid (fun W => near9_any y (L : Int) (by omega) (by omega) (by omega) (by omega) (by omega) W)
  have cS := Lib.hid (fun W => steps_any (some ⟨g, o, none⟩) L cap hL2.2 W)
  have cF := Lib.hid cF0
  replace cV := Lib.hid cV
  have e1 : IntKind.i64.wrap ((L : Int) + 1) = (L : Int) + 1 := IntWalk.i64_in _ (by omega)
  clear cF0 hy hxx hc hx hids hfb h1 hg
  go_enter Try.func39, Try.ntmps39
  go_wp2_with (first
    | (go_at_call 73; (with_reducible refine cV.out.mono ?_); rintro e w1 ⟨rfl, b1⟩)
    | (go_at_call 74; (with_reducible refine (cS.out _).mono ?_); rintro e w' ⟨rfl, rfl⟩)
    | (go_at_call 69; (with_reducible refine (cF.out _ b1).mono ?_); rintro e w2 ⟨rfl, b2⟩)
    | (go_at_call 76; (with_reducible refine (cN.out _).mono ?_); rintro e w3 ⟨rfl, b3⟩))
  go_ret3
  exact ⟨ret_int3 (by rw [← hI.out]; rfl) (by rw [← hD.out]; rfl) rfl, below2 (below2 b1 b2) b3⟩
theorem gap1_any (bx g o cap L : Nat) (f : Nat → Int) (k : Nat) (w : World) (hL : 2 ≤ L ∧ L ≤ 63) (hk : k + 2 ≤ L) (hb : ∀ i, i ≤ L → -8000 ≤ f i ∧ f i ≤ 8000) (hc : ∀ i, i ≤ L → w.cell? ⟨g, o + i, none⟩ = some (.int .i64 (f i))) (hx : w.cell? ⟨bx, 0, none⟩ = some (.slice (some ⟨g, o, none⟩) (L + 1) cap)) : Calls Try.prog 78 #[.int .i64 (k : Int), .pointer (some ⟨bx, 0, none⟩)] w fun e w' => e = .returned (.int .i64 (bnV f k)) ∧ Below w.heap.size w w' := by
  have cB := Lib.hid (bend_any g o cap L f k w hL hk hb hc)
  have e1 : IntKind.i64.wrap ((k : Int) + 1) = (k : Int) + 1 := IntWalk.i64_in _ (by omega)
  clear hc hb
  go_enter Try.func78, Try.ntmps78
  go_wp2_with (go_at_call 79; (with_reducible refine cB.out.mono ?_); rintro e w2 ⟨rfl, b2⟩)
  go_ret
  exact ⟨rfl, b2⟩
set_option maxHeartbeats 3200000 in
theorem implCamberGap_any (v : Value) (H : List Int) (w : World) (hn : H.length ≤ 1048576) (hv : IntsAt w v H) : Calls Try.prog 41 #[v] w fun e w' => e = .returned (.tuple #[.int .i64 (pick (hsB H) (cgV H)), .int .i64 (code (hsB H) 1)]) ∧ Below w.heap.size w w' := by
  have hv' := Lib.hid hv
  obtain ⟨a0, cap, rfl, hcap, hids, hread⟩ := hv
  have hB0 : Below w.heap.size w (w.alloc (.cells #[.slice a0 H.length cap] 82)) := (Below.refl _ _).alloc (Nat.le_refl _) _
  have q1 : (w.alloc (.cells #[.slice a0 H.length cap] 82)).cell? ⟨w.heap.size, 0, none⟩ = some (.slice a0 H.length cap) := cellB (heap_alloc_new w (.cells #[.slice a0 H.length cap] 82)) 0 _ rfl
  have hsz : w.heap.size < (w.alloc (.cells #[.slice a0 H.length cap] 82)).heap.size := by simp
  have cV := isStick_any (.slice a0 H.length cap) H (w.alloc (.cells #[.slice a0 H.length cap] 82)) hn (hv'.out.below hB0)
  cases h1 : hsB H <;> rw [h1] at cV
  · replace cV := Lib.hid cV
    go_enter Try.func41, Try.ntmps41
    go_wp2_with (go_at_call 73; (with_reducible refine cV.out.mono ?_); rintro e w1 ⟨rfl, b1⟩)
    go_ret2
    exact ⟨ret_int2 rfl rfl, below2 hB0 b1⟩
  have hx := hs_bd h1
  obtain ⟨L, hL⟩ : ∃ L, H.length = L + 1 := ⟨H.length - 1, by omega⟩
  have hL2 : 2 ≤ L ∧ L ≤ 63 := by omega
  have hfb : ∀ i, i ≤ L → -8000 ≤ hAt H i ∧ hAt H i ≤ 8000 := fun i hi => hx.2.2 i (by omega)
  rcases hread with h | ⟨g, o, rfl, hg, hc⟩
  · subst h; simp at hL
  have hcc : Hid (∀ W, Below w.heap.size w W → ∀ i, i ≤ L → W.cell? ⟨g, o + i, none⟩ = some (.int .i64 (hAt H i))) := Lib.hid (fun W hb i hi => ints_cell hb hg hc (by omega))
  have hfb' := Lib.hid hfb
  rw [hL] at cV hB0 q1 hsz ⊢
  have hV : Hid (bnV (hAt H) (fgI (bnV (hAt H)) (L - 1)) = cgV H) := Lib.hid (by
    unfold cgV
    rw [hL, show L + 1 - 2 = L - 1 by omega]
    exact (mxF_fg _ (by omega) (fun i hi => (bn_bd (show i + 2 ≤ L by omega) hfb).2.2.1)).symm)
  have cF0 := fun W (hb : Below (w.alloc (.cells #[.slice (some ⟨g, o, none⟩) (L + 1) cap] 82)).heap.size (w.alloc (.cells #[.slice (some ⟨g, o, none⟩) (L + 1) cap] 82)) W) => firstGreatest_any 78 #[.pointer (some ⟨w.heap.size, 0, none⟩)] (L - 1) (bnV (hAt H)) W (enters_of Try.func78 (by kernel_rfl) rfl) (by omega) (by omega) (fun W2 i hW hi => gap1_any w.heap.size g o cap L (hAt H) i W2 hL2 (by omega) hfb'.out (hcc.out W2 (below2 (below2 hB0 hb) hW)) ((hW.cell (p := ⟨w.heap.size, 0, none⟩) (Nat.lt_of_lt_of_le hsz hb.size)).trans ((hb.cell (p := ⟨w.heap.size, 0, none⟩) hsz).trans q1)))
  simp only [show ((L - 1 : Nat) : Int) = (L : Int) - 1 from by omega, hV.out] at cF0
  have cS := Lib.hid (fun W => steps_any (some ⟨g, o, none⟩) L cap hL2.2 W)
  have e1 : IntKind.i64.wrap ((L : Int) - 1) = (L : Int) - 1 := IntWalk.i64_in _ (by omega)
  have cF := Lib.hid cF0
  replace cV := Lib.hid cV
  clear cF0 hc hx hids hfb h1 hg
  go_enter Try.func41, Try.ntmps41
  go_wp2_with fail
  generalize (w.alloc (.cells #[.slice (some ⟨g, o, none⟩) (L + 1) cap] 82)) = W0 at cV hB0 q1 hsz cF ⊢
  go_wp2_with (first
    | (go_at_call 73; (with_reducible refine cV.out.mono ?_); rintro e w1 ⟨rfl, b1⟩; have q2 := (b1.cell (p := ⟨w.heap.size, 0, none⟩) hsz).trans q1)
    | (go_at_call 74; (with_reducible refine (cS.out _).mono ?_); rintro e w' ⟨rfl, rfl⟩)
    | (go_at_call 69; (with_reducible refine (cF.out _ b1).mono ?_); rintro e w2 ⟨rfl, b2⟩))
  go_ret2
  exact ⟨ret_int2 rfl rfl, below2 hB0 (below2 b1 b2)⟩
set_option maxHeartbeats 3200000 in
theorem specCamberGap_any (v : Value) (H : List Int) (w : World) (hn : H.length ≤ 1048576) (hv : IntsAt w v H) : Calls Try.prog 40 #[v] w fun e w' => e = .returned (.tuple #[.int .i64 (pick (hsB H) (cgV H)), .int .i64 (code (hsB H) 1)]) ∧ Below w.heap.size w w' := by
  have cV := l11Heights_any v H w hn hv
  cases h1 : hsB H <;> rw [h1] at cV
  · replace cV := Lib.hid cV
    go_enter Try.func40, Try.ntmps40
    go_wp2_with (go_at_call 71; (with_reducible refine (cV.out).mono ?_); rintro e w' ⟨rfl, rfl⟩)
    go_ret2
    exact ⟨ret_int2 rfl rfl, Below.refl _ _⟩
  have hx := hs_bd h1
  obtain ⟨L, hL⟩ : ∃ L, H.length = L + 1 := ⟨H.length - 1, by omega⟩
  have hL2 : 2 ≤ L ∧ L ≤ 63 := by omega
  have hfb : ∀ i, i ≤ L → -8000 ≤ hAt H i ∧ hAt H i ≤ 8000 := fun i hi => hx.2.2 i (by omega)
  obtain ⟨a0, cap, rfl, hcap, hids, hread⟩ := hv
  rcases hread with h | ⟨g, o, rfl, hg, hc⟩
  · subst h; simp at hL
  have hcc : Hid (∀ W, Below w.heap.size w W → ∀ i, i ≤ L → W.cell? ⟨g, o + i, none⟩ = some (.int .i64 (hAt H i))) := Lib.hid (fun W hb i hi => ints_cell hb hg hc (by omega))
  have hfb' := Lib.hid hfb
  rw [hL] at cV ⊢
  have hV : Hid (mxF (bnV (hAt H)) (L - 1) = cgV H) := Lib.hid (by unfold cgV; rw [hL, show L + 1 - 2 = L - 1 by omega])
  replace cV := Lib.hid cV
  clear hc hx hids hfb h1 hg
  go_enter Try.func40, Try.ntmps40
  go_wp2_with (go_at_call 71; (with_reducible refine (cV.out).mono ?_); rintro e w' ⟨rfl, rfl⟩)
  go_loopw [4, 5] (fun q i wr => ∃ (j : Nat) (m : Int), j + 1 ≤ L ∧ i = .int .i64 ((j : Int) + 1) ∧ q = .int .i64 m ∧ Hid (m = mxF (bnV (hAt H)) j) ∧ DrewOf w wr) (fun _ i _ => L - (intOf i).toNat)
  case atStart => exact ⟨0, 0, by omega, rfl, rfl, Lib.hid rfl, DrewOf.refl _⟩
  case round =>
    obtain ⟨j, m, hj, rfl, rfl, hm, hd⟩ := hrel
    have e1 : IntKind.i64.wrap ((j : Int) + 1 + 1) = (j : Int) + 2 := by rw [show (j : Int) + 1 + 1 = (j : Int) + 2 by omega]; exact IntWalk.i64_in _ (by omega)
    have e2 : IntKind.i64.wrap ((j : Int) + 1 - 1) = (j : Int) := by rw [show (j : Int) + 1 - 1 = (j : Int) by omega]; exact IntWalk.i64_in _ (by omega)
    by_cases hlt : j + 2 ≤ L
    · have h1I : (j : Int) < (L : Int) + 1 := by omega
      have h2I : (j : Int) + 1 < (L : Int) + 1 := by omega
      have h3I : (j : Int) + 2 < (L : Int) + 1 := by omega
      have c0 := hcc.out wr hd.below j (by omega)
      have c1 := hcc.out wr hd.below (j + 1) (by omega)
      have c2 := hcc.out wr hd.below (j + 2) (by omega)
      have b0 := hfb'.out j (by omega)
      have b1 := hfb'.out (j + 1) (by omega)
      have b2 := hfb'.out (j + 2) (by omega)
      have hnew : Hid (max m (max (hAt H j + hAt H (j + 2) - 2 * hAt H (j + 1)) (-(hAt H j + hAt H (j + 2) - 2 * hAt H (j + 1)))) = mxF (bnV (hAt H)) (j + 1)) := Lib.hid (by show _ = max (mxF (bnV (hAt H)) j) (bnV (hAt H) j); rw [← hm.out]; rfl)
      obtain ⟨x, hx⟩ : ∃ x, x = hAt H j := ⟨_, rfl⟩
      obtain ⟨y, hy⟩ : ∃ y, y = hAt H (j + 1) := ⟨_, rfl⟩
      obtain ⟨z, hz⟩ : ∃ z, z = hAt H (j + 2) := ⟨_, rfl⟩
      rw [← hx] at c0 b0 hnew
      rw [← hy] at c1 b1 hnew
      rw [← hz] at c2 b2 hnew
      have e3 : IntKind.i64.wrap (x + z) = x + z := IntWalk.i64_in _ (by omega)
      have e4 : IntKind.i64.wrap (2 * y) = 2 * y := IntWalk.i64_in _ (by omega)
      have e5 : IntKind.i64.wrap (x + z - 2 * y) = x + z - 2 * y := IntWalk.i64_in _ (by omega)
      have e6 : IntKind.i64.wrap (-(x + z - 2 * y)) = -(x + z - 2 * y) := IntWalk.i64_in _ (by omega)
      have cM := Lib.hid (fun p q W => max9_any p q W)
      clear hx hy hz hm
      go_wp2
      go_quiet (fail)
      go_wp2_with (go_at_call 77; (with_reducible refine (cM.out _ _ _).mono ?_); rintro e w2 ⟨rfl, rfl⟩)
      go_roundw
      case rel => exact ⟨j + 1, _, by omega, by go_num, rfl, hnew, hd.more _⟩
      case measure => simp [intOf]; omega
    · obtain rfl : j = L - 1 := by omega
      have hgt : ¬ ((L - 1 : Nat) : Int) + 2 < (L : Int) + 1 := by omega
      go_wp2
      go_ret2
      exact ⟨ret_int2 (by rw [hm.out]; exact hV.out) rfl, hd.below⟩
set_option maxHeartbeats 3200000 in
theorem specCamberOf_any (v : Value) (H : List Int) (w : World) (hn : H.length ≤ 1048576) (hv : IntsAt w v H) : Calls Try.prog 38 #[v] w fun e w' => e = .returned (.tuple #[.int .i64 (pick (hsB H) (cmI H : Nat)), .int .i64 (pick (hsB H) (cmD H)), .int .i64 (code (hsB H) 1)]) ∧ Below w.heap.size w w' := by
  have cV := l11Heights_any v H w hn hv
  cases h1 : hsB H <;> rw [h1] at cV
  · replace cV := Lib.hid cV
    go_enter Try.func38, Try.ntmps38
    go_wp2_with (go_at_call 71; (with_reducible refine (cV.out).mono ?_); rintro e w' ⟨rfl, rfl⟩)
    go_ret3
    exact ⟨ret_int3 rfl rfl rfl, Below.refl _ _⟩
  have hx := hs_bd h1
  obtain ⟨L, hL⟩ : ∃ L, H.length = L + 1 := ⟨H.length - 1, by omega⟩
  have hL2 : 2 ≤ L ∧ L ≤ 63 := by omega
  have hfb : ∀ i, i ≤ L → -8000 ≤ hAt H i ∧ hAt H i ≤ 8000 := fun i hi => hx.2.2 i (by omega)
  obtain ⟨a0, cap, rfl, hcap, hids, hread⟩ := hv
  rcases hread with h | ⟨g, o, rfl, hg, hc⟩
  · subst h; simp at hL
  have hcc : Hid (∀ W, Below w.heap.size w W → ∀ i, i ≤ L → W.cell? ⟨g, o + i, none⟩ = some (.int .i64 (hAt H i))) := Lib.hid (fun W hb i hi => ints_cell hb hg hc (by omega))
  have hfb' := Lib.hid hfb
  rw [hL] at cV ⊢
  have hI : Hid (fgI (dpV (hAt H) L) (L + 1) = cmI H) := Lib.hid (by unfold cmI; rw [hL]; rfl)
  have hD : Hid (rnd (dpV (hAt H) L (fgI (dpV (hAt H) L) (L + 1))) (L : Int) = cmD H) := Lib.hid (by unfold cmD cmI; rw [hL]; rfl)
  have hlt := fgI_lt (f := dpV (hAt H) L) (L + 1) (by omega)
  have hdb := dpv_bd hL2 (show fgI (dpV (hAt H) L) (L + 1) ≤ L by omega) hfb
  have hpos := cm_pos (f := hAt H) (L := L)
  replace cV := Lib.hid cV
  have cD := Lib.hid (fun W i (hd : DrewOf w W) (hi : i ≤ L) => l11Depth_any g o cap L (hAt H) i W hL2 hi hfb'.out (hcc.out W hd.below))
  have e0 : IntKind.i64.wrap ((L : Int) + 1 - 1) = (L : Int) := by rw [show (L : Int) + 1 - 1 = (L : Int) by omega]; exact IntWalk.i64_in _ (by omega)
  clear hc hx hids hfb h1 hg
  go_enter Try.func38, Try.ntmps38
  go_wp2_with (go_at_call 71; (with_reducible refine (cV.out).mono ?_); rintro e w' ⟨rfl, rfl⟩)
  go_loopw [6, 7] (fun q i wr => ∃ (k x : Nat), 1 ≤ k ∧ k ≤ L + 1 ∧ i = .int .i64 k ∧ q = .int .i64 x ∧ x < k ∧ Hid (x = fgI (dpV (hAt H) L) k) ∧ DrewOf w wr) (fun _ i _ => L + 1 - (intOf i).toNat)
  case atStart => exact ⟨1, 0, by omega, by omega, rfl, rfl, by omega, Lib.hid (fgI_one _).symm, DrewOf.refl _⟩
  case round =>
    obtain ⟨k, x, hk0, hk, rfl, rfl, hxk, hx, hd⟩ := hrel
    by_cases hlt : k ≤ L
    · have hltI : (k : Int) ≤ (L : Int) := by omega
      have ca := cD.out wr k hd hlt
      have cb := Lib.hid (fun W (h : DrewOf wr W) => cD.out W x (hd.trans h) (by omega))
      have hq : dpV (hAt H) L x = dpV (hAt H) L (fgI (dpV (hAt H) L) k) := by rw [hx.out]
      obtain ⟨y1, hy1⟩ : ∃ y, y = dpV (hAt H) L k := ⟨_, rfl⟩
      obtain ⟨y2, hy2⟩ : ∃ y, y = dpV (hAt H) L x := ⟨_, rfl⟩
      rw [← hy1] at ca
      rw [← hy2] at cb
      have ca' := Lib.hid ca
      clear ca
      by_cases hgt : y2 < y1
      · have hnew : Hid (k = fgI (dpV (hAt H) L) (k + 1)) := Lib.hid (by show k = if dpV (hAt H) L (fgI (dpV (hAt H) L) k) < dpV (hAt H) L k then k else fgI (dpV (hAt H) L) k; rw [← hq, ← hy1, ← hy2, if_pos hgt])
        clear hq hy1 hy2
        go_wp2_with (first
          | (go_at_call 72; (with_reducible refine ca'.out.mono ?_); rintro e w2 ⟨rfl, d2⟩)
          | (go_at_call 72; (with_reducible refine (cb.out _ d2).mono ?_); rintro e w3 ⟨rfl, d3⟩))
        go_roundw
        case rel => exact ⟨k + 1, k, by omega, by omega, by go_num, rfl, by omega, hnew, (hd.trans d2).trans d3⟩
        case measure => simp [intOf]; omega
      · have hnew : Hid (x = fgI (dpV (hAt H) L) (k + 1)) := Lib.hid (by show x = if dpV (hAt H) L (fgI (dpV (hAt H) L) k) < dpV (hAt H) L k then k else fgI (dpV (hAt H) L) k; rw [← hq, ← hy1, ← hy2, if_neg hgt]; exact hx.out)
        clear hq hy1 hy2
        go_wp2_with (first
          | (go_at_call 72; (with_reducible refine ca'.out.mono ?_); rintro e w2 ⟨rfl, d2⟩)
          | (go_at_call 72; (with_reducible refine (cb.out _ d2).mono ?_); rintro e w3 ⟨rfl, d3⟩))
        go_roundw
        case rel => exact ⟨k + 1, x, by omega, by omega, by go_num, rfl, by omega, hnew, (hd.trans d2).trans d3⟩
        case measure => simp [intOf]; omega
    · obtain rfl : k = L + 1 := by omega
      have hgt : ¬ ((L + 1 : Nat) : Int) ≤ (L : Int) := by omega
      have cz := Lib.hid (cD.out wr x hd (by omega))
      have hd1 : Hid (rnd (dpV (hAt H) L x) (L : Int) = cmD H) := Lib.hid (by rw [hx.out]; exact hD.out)
      have hxI : Hid (x = cmI H) := Lib.hid (by rw [hx.out]; exact hI.out)
      have hyb : -1600000 ≤ dpV (hAt H) L x ∧ dpV (hAt H) L x ≤ 1600000 := by rw [hx.out]; exact hdb
      obtain ⟨y, hy⟩ : ∃ y, y = dpV (hAt H) L x := ⟨_, rfl⟩
      rw [← hy] at cz hd1 hyb
      have cN := Lib.hid (fun W => l01Div_any y (L : Int) (by omega) (by omega) (by omega) (by omega) (by omega) W)
      clear hx hy hlt hdb hpos
      go_wp2_with (first
        | (go_at_call 72; (with_reducible refine cz.out.mono ?_); rintro e w2 ⟨rfl, d2⟩)
        | (go_at_call 66; (with_reducible refine (cN.out _).mono ?_); rintro e w3 ⟨rfl, rfl⟩))
      go_ret3
      exact ⟨ret_int3 (by rw [hxI.out]; rfl) hd1.out rfl, (hd.trans d2).below⟩
end Go.Proofs.Ytjnpladpegmiiaa
