/-
  Outlines at another place: the program's contract.
-/
import Derived.Test.YtdgkpghecfpgoaaArcR
import Derived.Test.YtdgkpghecfpgoaaArcU
namespace Go.Proofs.Ytdgkpghecfpgoaa
open Go.ChangeShapes Go.WideShapes Go.ChangeAt Go.RowKit Go.Deep
set_option linter.unusedVariables false
set_option linter.unusedSimpArgs false
set_option maxRecDepth 1000000
theorem ptsOf_arc (Z : List Arc) (i : Nat) : ptsOf Z (3 * i) = ((Z.getD i arc0).cx, (Z.getD i arc0).cy) ∧ ptsOf Z (3 * i + 1) = ((Z.getD i arc0).fx, (Z.getD i arc0).fy) ∧ ptsOf Z (3 * i + 2) = ((Z.getD i arc0).tx, (Z.getD i arc0).ty) := by
  unfold ptsOf
  have a0 : 3 * i % 3 = 0 := by omega
  have a1 : (3 * i + 1) % 3 = 1 := by omega
  have a2 : (3 * i + 2) % 3 = 2 := by omega
  have d0 : 3 * i / 3 = i := by omega
  have d1 : (3 * i + 1) / 3 = i := by omega
  have d2 : (3 * i + 2) / 3 = i := by omega
  rw [a0, a1, a2, d0, d1, d2]
  exact ⟨rfl, rfl, rfl⟩
theorem mvV_len (Z : List Arc) (x y : Int) : (mvV Z x y).length ≤ 16 := by
  unfold mvV
  by_cases h : mvC Z x y = 0
  · rw [if_pos h, mvK_len]
    unfold mvC at h
    by_cases h1 : outB Z = true
    · exact (out_len h1).2
    · rw [if_neg h1] at h; exact absurd h (by decide)
  · rw [if_neg h]; simp
theorem arcsF_move (Z : List Arc) (x y : Int) : arcsF Z.length (fun i => ((ptsOf Z i).1 + x, (ptsOf Z i).2 + y)) = mvK x y Z Z.length := by
  unfold arcsF mvK
  refine List.map_congr_left fun i _ => ?_
  obtain ⟨h0, h1, h2⟩ := ptsOf_arc Z i
  simp only [h0, h1, h2]
  rfl
set_option maxHeartbeats 6400000 in
theorem implMoveOutline_any (v : Value) (Z : List Arc) (x y : Int) (w : World) (hn : Z.length ≤ 1048576) (hv : ArcsAt w v Z) : Calls Try.prog 39 #[v, .int .i64 x, .int .i64 y] w (RowA (mvV Z x y) (mvC Z x y) w) := by
  have cO0 : ∀ W, Below w.heap.size w W → Calls Try.prog 21 #[v] W fun e w' => e = .returned (.bool (outB Z)) ∧ Below W.heap.size W w' := fun W h => implValidOutline_any v Z W hn (hv.below h)
  cases hout0 : outB Z
  · have hc1 := Lib.hid (mv_bad (Z := Z) (x := x) (y := y) (c := 1) (by unfold mvC; rw [hout0]; rfl) (by decide))
    rw [hout0] at cO0
    have cO := Lib.hid cO0
    clear cO0
    go_enter Try.func39, Try.ntmps39
    go_wp2_with fail
    obtain ⟨q1, q2, hB0, hsz⟩ := two_boxes w #[.int .i64 x] 2 #[.int .i64 y] 2
    generalize ((w.alloc (.cells #[.int .i64 x] 2)).alloc (.cells #[.int .i64 y] 2)) = W0 at q1 q2 hB0 hsz ⊢
    have hS : ((W0.cell? ⟨w.heap.size, 0, none⟩ = some (.int .i64 x) ∧ W0.cell? ⟨w.heap.size + 1, 0, none⟩ = some (.int .i64 y)) ∧ Below W0.heap.size W0 W0) := ⟨⟨q1 0 _ rfl, q2 0 _ rfl⟩, Below.refl _ _⟩
    have keep : ∀ W1 W2, ((W1.cell? ⟨w.heap.size, 0, none⟩ = some (.int .i64 x) ∧ W1.cell? ⟨w.heap.size + 1, 0, none⟩ = some (.int .i64 y)) ∧ Below W0.heap.size W0 W1) → Below W1.heap.size W1 W2 → ((W2.cell? ⟨w.heap.size, 0, none⟩ = some (.int .i64 x) ∧ W2.cell? ⟨w.heap.size + 1, 0, none⟩ = some (.int .i64 y)) ∧ Below W0.heap.size W0 W2) := fun W1 W2 h1 h2 => by
      have h1s := h1.2.size
      have hq0 : w.heap.size < W1.heap.size := by omega
      have hq1 : w.heap.size + 1 < W1.heap.size := by omega
      exact ⟨⟨(h2.cell (p := ⟨w.heap.size, 0, none⟩) hq0).trans h1.1.1, (h2.cell (p := ⟨w.heap.size + 1, 0, none⟩) hq1).trans h1.1.2⟩, h1.2.trans (h2.mono h1s)⟩
    have keepH := Lib.hid keep
    clear keep q1 q2
    go_wp2_with (first
      | (go_at_call 21; (with_reducible refine (cO.out _ (by first | exact hB0 | exact below2' hB0 hS.2)).mono ?_); rintro e w' ⟨rfl, hbel⟩; replace hS := keepH.out _ _ hS hbel; clear hbel)
      | (go_at_call 66; (with_reducible refine (isCoordinate_any _ _).mono ?_); rintro e w' ⟨rfl, rfl⟩))
    go_ret2
    exact rowA_nil hc1.out.1 hc1.out.2 (below2' hB0 hS.2)
  rw [hout0] at cO0
  have cO := Lib.hid cO0
  clear cO0
  cases hx : cooB x
  · have hc1 := Lib.hid (mv_bad (Z := Z) (x := x) (y := y) (c := 2) (by unfold mvC ptB; rw [hout0, hx]; rfl) (by decide))
    go_enter Try.func39, Try.ntmps39
    go_wp2_with fail
    obtain ⟨q1, q2, hB0, hsz⟩ := two_boxes w #[.int .i64 x] 2 #[.int .i64 y] 2
    generalize ((w.alloc (.cells #[.int .i64 x] 2)).alloc (.cells #[.int .i64 y] 2)) = W0 at q1 q2 hB0 hsz ⊢
    have hS : ((W0.cell? ⟨w.heap.size, 0, none⟩ = some (.int .i64 x) ∧ W0.cell? ⟨w.heap.size + 1, 0, none⟩ = some (.int .i64 y)) ∧ Below W0.heap.size W0 W0) := ⟨⟨q1 0 _ rfl, q2 0 _ rfl⟩, Below.refl _ _⟩
    have keep : ∀ W1 W2, ((W1.cell? ⟨w.heap.size, 0, none⟩ = some (.int .i64 x) ∧ W1.cell? ⟨w.heap.size + 1, 0, none⟩ = some (.int .i64 y)) ∧ Below W0.heap.size W0 W1) → Below W1.heap.size W1 W2 → ((W2.cell? ⟨w.heap.size, 0, none⟩ = some (.int .i64 x) ∧ W2.cell? ⟨w.heap.size + 1, 0, none⟩ = some (.int .i64 y)) ∧ Below W0.heap.size W0 W2) := fun W1 W2 h1 h2 => by
      have h1s := h1.2.size
      have hq0 : w.heap.size < W1.heap.size := by omega
      have hq1 : w.heap.size + 1 < W1.heap.size := by omega
      exact ⟨⟨(h2.cell (p := ⟨w.heap.size, 0, none⟩) hq0).trans h1.1.1, (h2.cell (p := ⟨w.heap.size + 1, 0, none⟩) hq1).trans h1.1.2⟩, h1.2.trans (h2.mono h1s)⟩
    have keepH := Lib.hid keep
    clear keep q1 q2
    go_wp2_with (first
      | (go_at_call 21; (with_reducible refine (cO.out _ (by first | exact hB0 | exact below2' hB0 hS.2)).mono ?_); rintro e w' ⟨rfl, hbel⟩; replace hS := keepH.out _ _ hS hbel; clear hbel)
      | (go_at_call 66; (with_reducible refine (isCoordinate_any _ _).mono ?_); rintro e w' ⟨rfl, rfl⟩))
    go_ret2
    exact rowA_nil hc1.out.1 hc1.out.2 (below2' hB0 hS.2)
  cases hy : cooB y
  · have hc1 := Lib.hid (mv_bad (Z := Z) (x := x) (y := y) (c := 2) (by unfold mvC ptB; rw [hout0, hx, hy]; rfl) (by decide))
    go_enter Try.func39, Try.ntmps39
    go_wp2_with fail
    obtain ⟨q1, q2, hB0, hsz⟩ := two_boxes w #[.int .i64 x] 2 #[.int .i64 y] 2
    generalize ((w.alloc (.cells #[.int .i64 x] 2)).alloc (.cells #[.int .i64 y] 2)) = W0 at q1 q2 hB0 hsz ⊢
    have hS : ((W0.cell? ⟨w.heap.size, 0, none⟩ = some (.int .i64 x) ∧ W0.cell? ⟨w.heap.size + 1, 0, none⟩ = some (.int .i64 y)) ∧ Below W0.heap.size W0 W0) := ⟨⟨q1 0 _ rfl, q2 0 _ rfl⟩, Below.refl _ _⟩
    have keep : ∀ W1 W2, ((W1.cell? ⟨w.heap.size, 0, none⟩ = some (.int .i64 x) ∧ W1.cell? ⟨w.heap.size + 1, 0, none⟩ = some (.int .i64 y)) ∧ Below W0.heap.size W0 W1) → Below W1.heap.size W1 W2 → ((W2.cell? ⟨w.heap.size, 0, none⟩ = some (.int .i64 x) ∧ W2.cell? ⟨w.heap.size + 1, 0, none⟩ = some (.int .i64 y)) ∧ Below W0.heap.size W0 W2) := fun W1 W2 h1 h2 => by
      have h1s := h1.2.size
      have hq0 : w.heap.size < W1.heap.size := by omega
      have hq1 : w.heap.size + 1 < W1.heap.size := by omega
      exact ⟨⟨(h2.cell (p := ⟨w.heap.size, 0, none⟩) hq0).trans h1.1.1, (h2.cell (p := ⟨w.heap.size + 1, 0, none⟩) hq1).trans h1.1.2⟩, h1.2.trans (h2.mono h1s)⟩
    have keepH := Lib.hid keep
    clear keep q1 q2
    go_wp2_with (first
      | (go_at_call 21; (with_reducible refine (cO.out _ (by first | exact hB0 | exact below2' hB0 hS.2)).mono ?_); rintro e w' ⟨rfl, hbel⟩; replace hS := keepH.out _ _ hS hbel; clear hbel)
      | (go_at_call 66; (with_reducible refine (isCoordinate_any _ _).mono ?_); rintro e w' ⟨rfl, rfl⟩))
    go_ret2
    exact rowA_nil hc1.out.1 hc1.out.2 (below2' hB0 hS.2)
  have bx := cooB_bd hx
  have bY := cooB_bd hy
  have hpt : ptB x y = true := by unfold ptB; rw [hx, hy]; rfl
  have hlen := out_len hout0
  have cM0 : ∀ W, Below w.heap.size w W → w.heap.size < W.heap.size → w.heap.size + 1 < W.heap.size → W.cell? ⟨w.heap.size, 0, none⟩ = some (.int .i64 x) → W.cell? ⟨w.heap.size + 1, 0, none⟩ = some (.int .i64 y) → _ := fun W h h1 h2 h3 h4 => changePoints_move v Z x y w.heap.size (w.heap.size + 1) bx bY W h1 h2 h3 h4 hout0 (hv.below h)
  have cM := Lib.hid cM0
  clear cM0
  cases hmb : outB (mvK x y Z Z.length)
  · have hc1 := Lib.hid (mv_bad (Z := Z) (x := x) (y := y) (c := 5) (by unfold mvC mvB; rw [hout0, hpt, hmb]; rfl) (by decide))
    go_enter Try.func39, Try.ntmps39
    go_wp2_with fail
    obtain ⟨q1, q2, hB0, hsz⟩ := two_boxes w #[.int .i64 x] 2 #[.int .i64 y] 2
    generalize ((w.alloc (.cells #[.int .i64 x] 2)).alloc (.cells #[.int .i64 y] 2)) = W0 at q1 q2 hB0 hsz ⊢
    have hS : ((W0.cell? ⟨w.heap.size, 0, none⟩ = some (.int .i64 x) ∧ W0.cell? ⟨w.heap.size + 1, 0, none⟩ = some (.int .i64 y)) ∧ Below W0.heap.size W0 W0) := ⟨⟨q1 0 _ rfl, q2 0 _ rfl⟩, Below.refl _ _⟩
    have keep : ∀ W1 W2, ((W1.cell? ⟨w.heap.size, 0, none⟩ = some (.int .i64 x) ∧ W1.cell? ⟨w.heap.size + 1, 0, none⟩ = some (.int .i64 y)) ∧ Below W0.heap.size W0 W1) → Below W1.heap.size W1 W2 → ((W2.cell? ⟨w.heap.size, 0, none⟩ = some (.int .i64 x) ∧ W2.cell? ⟨w.heap.size + 1, 0, none⟩ = some (.int .i64 y)) ∧ Below W0.heap.size W0 W2) := fun W1 W2 h1 h2 => by
      have h1s := h1.2.size
      have hq0 : w.heap.size < W1.heap.size := by omega
      have hq1 : w.heap.size + 1 < W1.heap.size := by omega
      exact ⟨⟨(h2.cell (p := ⟨w.heap.size, 0, none⟩) hq0).trans h1.1.1, (h2.cell (p := ⟨w.heap.size + 1, 0, none⟩) hq1).trans h1.1.2⟩, h1.2.trans (h2.mono h1s)⟩
    have keepH := Lib.hid keep
    clear keep q1 q2
    go_wp2_with (first
      | (go_at_call 21; (with_reducible refine (cO.out _ (by first | exact hB0 | exact below2' hB0 hS.2)).mono ?_); rintro e w' ⟨rfl, hbel⟩; replace hS := keepH.out _ _ hS hbel; clear hbel)
      | (go_at_call 66; (with_reducible refine (isCoordinate_any _ _).mono ?_); rintro e w' ⟨rfl, rfl⟩))
    refine (cM.out _ (below2' hB0 hS.2) (by have := hS.2.size; omega) (by have := hS.2.size; omega) hS.1.1 hS.1.2).mono ?_
    rintro e w3 ⟨gm, rfl, g1, g2, g3, g4, hbel3⟩
    have hown := ownA_pts (B := w.heap.size) g3 g2 (Nat.le_trans (below2' hB0 hS.2).size g1) g4
    rw [arcsF_move] at hown
    have hb3 := Lib.hid (below2' (below2' hB0 hS.2) hbel3)
    have cQ := Lib.hid (implValidOutline_any _ _ w3 (by rw [mvK_len]; omega) hown.1)
    rw [hmb] at cQ
    have hown' := Lib.hid hown
    clear hS keepH g1 g2 g3 g4 hbel3 hown cM hsz hB0
    go_wp2_with fail
    refine cQ.out.mono ?_
    rintro e w8 ⟨rfl, hbel8⟩
    go_wp2
    go_ret2
    exact rowA_nil hc1.out.1 hc1.out.2 (below2 hb3.out hbel8)
  · have hc1 := Lib.hid (mv_good (Z := Z) (x := x) (y := y) (by unfold mvC mvB; rw [hout0, hpt, hmb]; rfl))
    go_enter Try.func39, Try.ntmps39
    go_wp2_with fail
    obtain ⟨q1, q2, hB0, hsz⟩ := two_boxes w #[.int .i64 x] 2 #[.int .i64 y] 2
    generalize ((w.alloc (.cells #[.int .i64 x] 2)).alloc (.cells #[.int .i64 y] 2)) = W0 at q1 q2 hB0 hsz ⊢
    have hS : ((W0.cell? ⟨w.heap.size, 0, none⟩ = some (.int .i64 x) ∧ W0.cell? ⟨w.heap.size + 1, 0, none⟩ = some (.int .i64 y)) ∧ Below W0.heap.size W0 W0) := ⟨⟨q1 0 _ rfl, q2 0 _ rfl⟩, Below.refl _ _⟩
    have keep : ∀ W1 W2, ((W1.cell? ⟨w.heap.size, 0, none⟩ = some (.int .i64 x) ∧ W1.cell? ⟨w.heap.size + 1, 0, none⟩ = some (.int .i64 y)) ∧ Below W0.heap.size W0 W1) → Below W1.heap.size W1 W2 → ((W2.cell? ⟨w.heap.size, 0, none⟩ = some (.int .i64 x) ∧ W2.cell? ⟨w.heap.size + 1, 0, none⟩ = some (.int .i64 y)) ∧ Below W0.heap.size W0 W2) := fun W1 W2 h1 h2 => by
      have h1s := h1.2.size
      have hq0 : w.heap.size < W1.heap.size := by omega
      have hq1 : w.heap.size + 1 < W1.heap.size := by omega
      exact ⟨⟨(h2.cell (p := ⟨w.heap.size, 0, none⟩) hq0).trans h1.1.1, (h2.cell (p := ⟨w.heap.size + 1, 0, none⟩) hq1).trans h1.1.2⟩, h1.2.trans (h2.mono h1s)⟩
    have keepH := Lib.hid keep
    clear keep q1 q2
    go_wp2_with (first
      | (go_at_call 21; (with_reducible refine (cO.out _ (by first | exact hB0 | exact below2' hB0 hS.2)).mono ?_); rintro e w' ⟨rfl, hbel⟩; replace hS := keepH.out _ _ hS hbel; clear hbel)
      | (go_at_call 66; (with_reducible refine (isCoordinate_any _ _).mono ?_); rintro e w' ⟨rfl, rfl⟩))
    refine (cM.out _ (below2' hB0 hS.2) (by have := hS.2.size; omega) (by have := hS.2.size; omega) hS.1.1 hS.1.2).mono ?_
    rintro e w3 ⟨gm, rfl, g1, g2, g3, g4, hbel3⟩
    have hown := ownA_pts (B := w.heap.size) g3 g2 (Nat.le_trans (below2' hB0 hS.2).size g1) g4
    rw [arcsF_move] at hown
    have hb3 := Lib.hid (below2' (below2' hB0 hS.2) hbel3)
    have cQ := Lib.hid (implValidOutline_any _ _ w3 (by rw [mvK_len]; omega) hown.1)
    rw [hmb] at cQ
    have hown' := Lib.hid hown
    clear hS keepH g1 g2 g3 g4 hbel3 hown cM hsz hB0
    go_wp2_with fail
    refine cQ.out.mono ?_
    rintro e w8 ⟨rfl, hbel8⟩
    go_wp2
    go_ret2
    exact rowA_mk hc1.out.1 hc1.out.2 (Nat.le_refl _) (hown'.out.below hbel8) (below2 hb3.out hbel8)
end Go.Proofs.Ytdgkpghecfpgoaa
