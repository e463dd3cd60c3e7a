/-
  Smooth joints of two arcs by value.
-/
import Derived.Test.YtdgkpghecfpgoaaArcC
namespace Go.Proofs.Ytdgkpghecfpgoaa
open Go.ChangeShapes Go.WideShapes Go.ChangeAt Go.RowKit Go.Deep
set_option linter.unusedVariables false
set_option linter.unusedSimpArgs false
set_option maxRecDepth 1000000
def sjB (x y : Arc) : Bool := arcB x && arcB y && meetB x y && smoB x y
theorem joinB_two (x y : Arc) : joinB [x, y] = (arcB x && (arcB y && meetB x y)) := by
  show ((true && joinS [x, y] 0) && joinS [x, y] 1) = _
  unfold joinS
  simp
theorem meet_no {x y : Arc} (h : meetB x y = false) : (x.tx == y.fx) = false ∨ ((x.tx == y.fx) = true ∧ (x.ty == y.fy) = false) := by
  unfold meetB at h
  cases h1 : x.tx == y.fx <;> cases h2 : x.ty == y.fy <;> simp_all
theorem meet_yes {x y : Arc} (h : meetB x y = true) : (x.tx == y.fx) = true ∧ (x.ty == y.fy) = true := by
  unfold meetB at h
  simpa using h
theorem arcs_two (a : Int) (b : Int) (c : Int) (d : Int) (p : Int) (s : Int) (a' : Int) (b' : Int) (c' : Int) (d' : Int) (p' : Int) (s' : Int) (W : World) : ArcsAt (W.alloc (.cells #[.int .i64 a, .int .i64 b, .int .i64 c, .int .i64 d, .int .i64 p, .int .i64 s, .int .i64 a', .int .i64 b', .int .i64 c', .int .i64 d', .int .i64 p', .int .i64 s'] 29)) (.slice (some ⟨W.heap.size, 0, none⟩) 2 2) [⟨a, b, c, d, p, s⟩, ⟨a', b', c', d', p', s'⟩] := by
  obtain ⟨q1, hB, hs⟩ := one_box W #[.int .i64 a, .int .i64 b, .int .i64 c, .int .i64 d, .int .i64 p, .int .i64 s, .int .i64 a', .int .i64 b', .int .i64 c', .int .i64 d', .int .i64 p', .int .i64 s'] 29
  refine ⟨some ⟨W.heap.size, 0, none⟩, 2, rfl, Nat.le_refl _, fun _ _ => trivial, Or.inr ⟨W.heap.size, 0, rfl, hs, fun i hi j v hv => ?_⟩⟩
  match i, hi with
  | 0, _ =>
    rw [show 0 + 0 * 6 + j = j by omega]
    match j, hv with
    | 0, hv => exact q1 0 v hv
    | 1, hv => exact q1 1 v hv
    | 2, hv => exact q1 2 v hv
    | 3, hv => exact q1 3 v hv
    | 4, hv => exact q1 4 v hv
    | 5, hv => exact q1 5 v hv
    | j + 6, hv => simp [Arc.cells] at hv
  | 1, _ =>
    match j, hv with
    | 0, hv => exact q1 6 v hv
    | 1, hv => exact q1 7 v hv
    | 2, hv => exact q1 8 v hv
    | 3, hv => exact q1 9 v hv
    | 4, hv => exact q1 10 v hv
    | 5, hv => exact q1 11 v hv
    | j + 6, hv => simp [Arc.cells] at hv
set_option maxHeartbeats 3200000 in
theorem specIsSmoothJoint_any (a : Int) (b : Int) (c : Int) (d : Int) (p : Int) (s : Int) (a' : Int) (b' : Int) (c' : Int) (d' : Int) (p' : Int) (s' : Int) (w : World) : Calls Try.prog 25 #[.agg #[.int .i64 a, .int .i64 b, .int .i64 c, .int .i64 d, .int .i64 p, .int .i64 s], .agg #[.int .i64 a', .int .i64 b', .int .i64 c', .int .i64 d', .int .i64 p', .int .i64 s']] w fun e w' => e = .returned (.bool (sjB ⟨a, b, c, d, p, s⟩ ⟨a', b', c', d', p', s'⟩)) ∧ Below w.heap.size w w' := by
  have hx : Hid (sjB ⟨a, b, c, d, p, s⟩ ⟨a', b', c', d', p', s'⟩ = (arcB ⟨a, b, c, d, p, s⟩ && arcB ⟨a', b', c', d', p', s'⟩ && meetB ⟨a, b, c, d, p, s⟩ ⟨a', b', c', d', p', s'⟩ && smoB ⟨a, b, c, d, p, s⟩ ⟨a', b', c', d', p', s'⟩)) := Lib.hid rfl
  cases h1 : arcB ⟨a, b, c, d, p, s⟩
  · go_enter Try.func25, Try.ntmps25
    go_wp2_with fail
    obtain ⟨q1, q2, hB0, hsz⟩ := two_boxes w #[.int .i64 a, .int .i64 b, .int .i64 c, .int .i64 d, .int .i64 p, .int .i64 s] 29 #[.int .i64 a', .int .i64 b', .int .i64 c', .int .i64 d', .int .i64 p', .int .i64 s'] 29
    generalize ((w.alloc (.cells #[.int .i64 a, .int .i64 b, .int .i64 c, .int .i64 d, .int .i64 p, .int .i64 s] 29)).alloc (.cells #[.int .i64 a', .int .i64 b', .int .i64 c', .int .i64 d', .int .i64 p', .int .i64 s'] 29)) = W0 at q1 q2 hB0 hsz ⊢
    have hS0 : (((W0.cell? ⟨w.heap.size, 0, none⟩ = some (.int .i64 a) ∧ W0.cell? ⟨w.heap.size, 1, none⟩ = some (.int .i64 b) ∧ W0.cell? ⟨w.heap.size, 2, none⟩ = some (.int .i64 c) ∧ W0.cell? ⟨w.heap.size, 3, none⟩ = some (.int .i64 d) ∧ W0.cell? ⟨w.heap.size, 4, none⟩ = some (.int .i64 p) ∧ W0.cell? ⟨w.heap.size, 5, none⟩ = some (.int .i64 s)) ∧ (W0.cell? ⟨w.heap.size + 1, 0, none⟩ = some (.int .i64 a') ∧ W0.cell? ⟨w.heap.size + 1, 1, none⟩ = some (.int .i64 b') ∧ W0.cell? ⟨w.heap.size + 1, 2, none⟩ = some (.int .i64 c') ∧ W0.cell? ⟨w.heap.size + 1, 3, none⟩ = some (.int .i64 d') ∧ W0.cell? ⟨w.heap.size + 1, 4, none⟩ = some (.int .i64 p') ∧ W0.cell? ⟨w.heap.size + 1, 5, none⟩ = some (.int .i64 s'))) ∧ Below w.heap.size w W0) := ⟨⟨⟨q1 0 _ rfl, q1 1 _ rfl, q1 2 _ rfl, q1 3 _ rfl, q1 4 _ rfl, q1 5 _ rfl⟩, ⟨q2 0 _ rfl, q2 1 _ rfl, q2 2 _ rfl, q2 3 _ rfl, q2 4 _ rfl, q2 5 _ rfl⟩⟩, hB0⟩
    clear q1 q2
    have hS : (((W0.cell? ⟨w.heap.size, 0, none⟩ = some (.int .i64 a) ∧ W0.cell? ⟨w.heap.size, 1, none⟩ = some (.int .i64 b) ∧ W0.cell? ⟨w.heap.size, 2, none⟩ = some (.int .i64 c) ∧ W0.cell? ⟨w.heap.size, 3, none⟩ = some (.int .i64 d) ∧ W0.cell? ⟨w.heap.size, 4, none⟩ = some (.int .i64 p) ∧ W0.cell? ⟨w.heap.size, 5, none⟩ = some (.int .i64 s)) ∧ (W0.cell? ⟨w.heap.size + 1, 0, none⟩ = some (.int .i64 a') ∧ W0.cell? ⟨w.heap.size + 1, 1, none⟩ = some (.int .i64 b') ∧ W0.cell? ⟨w.heap.size + 1, 2, none⟩ = some (.int .i64 c') ∧ W0.cell? ⟨w.heap.size + 1, 3, none⟩ = some (.int .i64 d') ∧ W0.cell? ⟨w.heap.size + 1, 4, none⟩ = some (.int .i64 p') ∧ W0.cell? ⟨w.heap.size + 1, 5, none⟩ = some (.int .i64 s'))) ∧ Below W0.heap.size W0 W0) := ⟨hS0.1, Below.refl _ _⟩
    clear hS0
    have keep : ∀ W1 W2, (((W1.cell? ⟨w.heap.size, 0, none⟩ = some (.int .i64 a) ∧ W1.cell? ⟨w.heap.size, 1, none⟩ = some (.int .i64 b) ∧ W1.cell? ⟨w.heap.size, 2, none⟩ = some (.int .i64 c) ∧ W1.cell? ⟨w.heap.size, 3, none⟩ = some (.int .i64 d) ∧ W1.cell? ⟨w.heap.size, 4, none⟩ = some (.int .i64 p) ∧ W1.cell? ⟨w.heap.size, 5, none⟩ = some (.int .i64 s)) ∧ (W1.cell? ⟨w.heap.size + 1, 0, none⟩ = some (.int .i64 a') ∧ W1.cell? ⟨w.heap.size + 1, 1, none⟩ = some (.int .i64 b') ∧ W1.cell? ⟨w.heap.size + 1, 2, none⟩ = some (.int .i64 c') ∧ W1.cell? ⟨w.heap.size + 1, 3, none⟩ = some (.int .i64 d') ∧ W1.cell? ⟨w.heap.size + 1, 4, none⟩ = some (.int .i64 p') ∧ W1.cell? ⟨w.heap.size + 1, 5, none⟩ = some (.int .i64 s'))) ∧ Below W0.heap.size W0 W1) → Below W1.heap.size W1 W2 → (((W2.cell? ⟨w.heap.size, 0, none⟩ = some (.int .i64 a) ∧ W2.cell? ⟨w.heap.size, 1, none⟩ = some (.int .i64 b) ∧ W2.cell? ⟨w.heap.size, 2, none⟩ = some (.int .i64 c) ∧ W2.cell? ⟨w.heap.size, 3, none⟩ = some (.int .i64 d) ∧ W2.cell? ⟨w.heap.size, 4, none⟩ = some (.int .i64 p) ∧ W2.cell? ⟨w.heap.size, 5, none⟩ = some (.int .i64 s)) ∧ (W2.cell? ⟨w.heap.size + 1, 0, none⟩ = some (.int .i64 a') ∧ W2.cell? ⟨w.heap.size + 1, 1, none⟩ = some (.int .i64 b') ∧ W2.cell? ⟨w.heap.size + 1, 2, none⟩ = some (.int .i64 c') ∧ W2.cell? ⟨w.heap.size + 1, 3, none⟩ = some (.int .i64 d') ∧ W2.cell? ⟨w.heap.size + 1, 4, none⟩ = some (.int .i64 p') ∧ W2.cell? ⟨w.heap.size + 1, 5, none⟩ = some (.int .i64 s'))) ∧ Below W0.heap.size W0 W2) := fun W1 W2 h1 h2 => by
      have h1s := h1.2.size
      have hsz' : w.heap.size + 1 + 1 ≤ W0.heap.size := hsz
      have hq0 : w.heap.size < W1.heap.size := by omega
      have hq1 : w.heap.size + 1 < W1.heap.size := by omega
      obtain ⟨⟨⟨h00, h01, h02, h03, h04, h05⟩, ⟨h10, h11, h12, h13, h14, h15⟩⟩, h1b⟩ := h1
      exact ⟨⟨⟨(h2.cell (p := ⟨w.heap.size, 0, none⟩) hq0).trans h00, (h2.cell (p := ⟨w.heap.size, 1, none⟩) hq0).trans h01, (h2.cell (p := ⟨w.heap.size, 2, none⟩) hq0).trans h02, (h2.cell (p := ⟨w.heap.size, 3, none⟩) hq0).trans h03, (h2.cell (p := ⟨w.heap.size, 4, none⟩) hq0).trans h04, (h2.cell (p := ⟨w.heap.size, 5, none⟩) hq0).trans h05⟩, ⟨(h2.cell (p := ⟨w.heap.size + 1, 0, none⟩) hq1).trans h10, (h2.cell (p := ⟨w.heap.size + 1, 1, none⟩) hq1).trans h11, (h2.cell (p := ⟨w.heap.size + 1, 2, none⟩) hq1).trans h12, (h2.cell (p := ⟨w.heap.size + 1, 3, none⟩) hq1).trans h13, (h2.cell (p := ⟨w.heap.size + 1, 4, none⟩) hq1).trans h14, (h2.cell (p := ⟨w.heap.size + 1, 5, none⟩) hq1).trans h15⟩⟩, h1b.trans (h2.mono h1s)⟩
    have keepH := Lib.hid keep
    clear keep
    go_wp2_with (first
      | (go_at_call 48; have hat : ArcAt _ w.heap.size 0 ⟨a, b, c, d, p, s⟩ := hS.1.1; (with_reducible refine (l05One_any _ _ _ _ _ _ _ _ _ (Nat.lt_of_lt_of_le (Nat.lt_of_succ_lt hsz) hS.2.size) hat).mono ?_); rintro e w' ⟨rfl, hbel⟩; clear hat; replace hS := keepH.out _ _ hS hbel; clear hbel)
      | (go_at_call 48; have hat : ArcAt _ (w.heap.size + 1) 0 ⟨a', b', c', d', p', s'⟩ := hS.1.2; (with_reducible refine (l05One_any _ _ _ _ _ _ _ _ _ (Nat.lt_of_lt_of_le hsz hS.2.size) hat).mono ?_); rintro e w' ⟨rfl, hbel⟩; clear hat; replace hS := keepH.out _ _ hS hbel; clear hbel)
      | (go_at_call 58; have hat : ArcAt _ w.heap.size 0 ⟨a, b, c, d, p, s⟩ := hS.1.1; have hat2 : ArcAt _ (w.heap.size + 1) 0 ⟨a', b', c', d', p', s'⟩ := hS.1.2; (with_reducible refine (l05Smooth_any _ _ _ _ _ _ _ _ _ _ _ _ k1 k3 j1 _ _ _ _ _ (Nat.lt_of_lt_of_le (Nat.lt_of_succ_lt hsz) hS.2.size) (Nat.lt_of_lt_of_le hsz hS.2.size) hat hat2).mono ?_); rintro e w' ⟨rfl, hbel⟩; clear hat hat2; replace hS := keepH.out _ _ hS hbel; clear hbel))
    go_ret
    exact ⟨ret_bool (by rw [hx.out, h1]; rfl), below2' hB0 hS.2⟩
  cases h2 : arcB ⟨a', b', c', d', p', s'⟩
  · go_enter Try.func25, Try.ntmps25
    go_wp2_with fail
    obtain ⟨q1, q2, hB0, hsz⟩ := two_boxes w #[.int .i64 a, .int .i64 b, .int .i64 c, .int .i64 d, .int .i64 p, .int .i64 s] 29 #[.int .i64 a', .int .i64 b', .int .i64 c', .int .i64 d', .int .i64 p', .int .i64 s'] 29
    generalize ((w.alloc (.cells #[.int .i64 a, .int .i64 b, .int .i64 c, .int .i64 d, .int .i64 p, .int .i64 s] 29)).alloc (.cells #[.int .i64 a', .int .i64 b', .int .i64 c', .int .i64 d', .int .i64 p', .int .i64 s'] 29)) = W0 at q1 q2 hB0 hsz ⊢
    have hS0 : (((W0.cell? ⟨w.heap.size, 0, none⟩ = some (.int .i64 a) ∧ W0.cell? ⟨w.heap.size, 1, none⟩ = some (.int .i64 b) ∧ W0.cell? ⟨w.heap.size, 2, none⟩ = some (.int .i64 c) ∧ W0.cell? ⟨w.heap.size, 3, none⟩ = some (.int .i64 d) ∧ W0.cell? ⟨w.heap.size, 4, none⟩ = some (.int .i64 p) ∧ W0.cell? ⟨w.heap.size, 5, none⟩ = some (.int .i64 s)) ∧ (W0.cell? ⟨w.heap.size + 1, 0, none⟩ = some (.int .i64 a') ∧ W0.cell? ⟨w.heap.size + 1, 1, none⟩ = some (.int .i64 b') ∧ W0.cell? ⟨w.heap.size + 1, 2, none⟩ = some (.int .i64 c') ∧ W0.cell? ⟨w.heap.size + 1, 3, none⟩ = some (.int .i64 d') ∧ W0.cell? ⟨w.heap.size + 1, 4, none⟩ = some (.int .i64 p') ∧ W0.cell? ⟨w.heap.size + 1, 5, none⟩ = some (.int .i64 s'))) ∧ Below w.heap.size w W0) := ⟨⟨⟨q1 0 _ rfl, q1 1 _ rfl, q1 2 _ rfl, q1 3 _ rfl, q1 4 _ rfl, q1 5 _ rfl⟩, ⟨q2 0 _ rfl, q2 1 _ rfl, q2 2 _ rfl, q2 3 _ rfl, q2 4 _ rfl, q2 5 _ rfl⟩⟩, hB0⟩
    clear q1 q2
    have hS : (((W0.cell? ⟨w.heap.size, 0, none⟩ = some (.int .i64 a) ∧ W0.cell? ⟨w.heap.size, 1, none⟩ = some (.int .i64 b) ∧ W0.cell? ⟨w.heap.size, 2, none⟩ = some (.int .i64 c) ∧ W0.cell? ⟨w.heap.size, 3, none⟩ = some (.int .i64 d) ∧ W0.cell? ⟨w.heap.size, 4, none⟩ = some (.int .i64 p) ∧ W0.cell? ⟨w.heap.size, 5, none⟩ = some (.int .i64 s)) ∧ (W0.cell? ⟨w.heap.size + 1, 0, none⟩ = some (.int .i64 a') ∧ W0.cell? ⟨w.heap.size + 1, 1, none⟩ = some (.int .i64 b') ∧ W0.cell? ⟨w.heap.size + 1, 2, none⟩ = some (.int .i64 c') ∧ W0.cell? ⟨w.heap.size + 1, 3, none⟩ = some (.int .i64 d') ∧ W0.cell? ⟨w.heap.size + 1, 4, none⟩ = some (.int .i64 p') ∧ W0.cell? ⟨w.heap.size + 1, 5, none⟩ = some (.int .i64 s'))) ∧ Below W0.heap.size W0 W0) := ⟨hS0.1, Below.refl _ _⟩
    clear hS0
    have keep : ∀ W1 W2, (((W1.cell? ⟨w.heap.size, 0, none⟩ = some (.int .i64 a) ∧ W1.cell? ⟨w.heap.size, 1, none⟩ = some (.int .i64 b) ∧ W1.cell? ⟨w.heap.size, 2, none⟩ = some (.int .i64 c) ∧ W1.cell? ⟨w.heap.size, 3, none⟩ = some (.int .i64 d) ∧ W1.cell? ⟨w.heap.size, 4, none⟩ = some (.int .i64 p) ∧ W1.cell? ⟨w.heap.size, 5, none⟩ = some (.int .i64 s)) ∧ (W1.cell? ⟨w.heap.size + 1, 0, none⟩ = some (.int .i64 a') ∧ W1.cell? ⟨w.heap.size + 1, 1, none⟩ = some (.int .i64 b') ∧ W1.cell? ⟨w.heap.size + 1, 2, none⟩ = some (.int .i64 c') ∧ W1.cell? ⟨w.heap.size + 1, 3, none⟩ = some (.int .i64 d') ∧ W1.cell? ⟨w.heap.size + 1, 4, none⟩ = some (.int .i64 p') ∧ W1.cell? ⟨w.heap.size + 1, 5, none⟩ = some (.int .i64 s'))) ∧ Below W0.heap.size W0 W1) → Below W1.heap.size W1 W2 → (((W2.cell? ⟨w.heap.size, 0, none⟩ = some (.int .i64 a) ∧ W2.cell? ⟨w.heap.size, 1, none⟩ = some (.int .i64 b) ∧ W2.cell? ⟨w.heap.size, 2, none⟩ = some (.int .i64 c) ∧ W2.cell? ⟨w.heap.size, 3, none⟩ = some (.int .i64 d) ∧ W2.cell? ⟨w.heap.size, 4, none⟩ = some (.int .i64 p) ∧ W2.cell? ⟨w.heap.size, 5, none⟩ = some (.int .i64 s)) ∧ (W2.cell? ⟨w.heap.size + 1, 0, none⟩ = some (.int .i64 a') ∧ W2.cell? ⟨w.heap.size + 1, 1, none⟩ = some (.int .i64 b') ∧ W2.cell? ⟨w.heap.size + 1, 2, none⟩ = some (.int .i64 c') ∧ W2.cell? ⟨w.heap.size + 1, 3, none⟩ = some (.int .i64 d') ∧ W2.cell? ⟨w.heap.size + 1, 4, none⟩ = some (.int .i64 p') ∧ W2.cell? ⟨w.heap.size + 1, 5, none⟩ = some (.int .i64 s'))) ∧ Below W0.heap.size W0 W2) := fun W1 W2 h1 h2 => by
      have h1s := h1.2.size
      have hsz' : w.heap.size + 1 + 1 ≤ W0.heap.size := hsz
      have hq0 : w.heap.size < W1.heap.size := by omega
      have hq1 : w.heap.size + 1 < W1.heap.size := by omega
      obtain ⟨⟨⟨h00, h01, h02, h03, h04, h05⟩, ⟨h10, h11, h12, h13, h14, h15⟩⟩, h1b⟩ := h1
      exact ⟨⟨⟨(h2.cell (p := ⟨w.heap.size, 0, none⟩) hq0).trans h00, (h2.cell (p := ⟨w.heap.size, 1, none⟩) hq0).trans h01, (h2.cell (p := ⟨w.heap.size, 2, none⟩) hq0).trans h02, (h2.cell (p := ⟨w.heap.size, 3, none⟩) hq0).trans h03, (h2.cell (p := ⟨w.heap.size, 4, none⟩) hq0).trans h04, (h2.cell (p := ⟨w.heap.size, 5, none⟩) hq0).trans h05⟩, ⟨(h2.cell (p := ⟨w.heap.size + 1, 0, none⟩) hq1).trans h10, (h2.cell (p := ⟨w.heap.size + 1, 1, none⟩) hq1).trans h11, (h2.cell (p := ⟨w.heap.size + 1, 2, none⟩) hq1).trans h12, (h2.cell (p := ⟨w.heap.size + 1, 3, none⟩) hq1).trans h13, (h2.cell (p := ⟨w.heap.size + 1, 4, none⟩) hq1).trans h14, (h2.cell (p := ⟨w.heap.size + 1, 5, none⟩) hq1).trans h15⟩⟩, h1b.trans (h2.mono h1s)⟩
    have keepH := Lib.hid keep
    clear keep
    go_wp2_with (first
      | (go_at_call 48; have hat : ArcAt _ w.heap.size 0 ⟨a, b, c, d, p, s⟩ := hS.1.1; (with_reducible refine (l05One_any _ _ _ _ _ _ _ _ _ (Nat.lt_of_lt_of_le (Nat.lt_of_succ_lt hsz) hS.2.size) hat).mono ?_); rintro e w' ⟨rfl, hbel⟩; clear hat; replace hS := keepH.out _ _ hS hbel; clear hbel)
      | (go_at_call 48; have hat : ArcAt _ (w.heap.size + 1) 0 ⟨a', b', c', d', p', s'⟩ := hS.1.2; (with_reducible refine (l05One_any _ _ _ _ _ _ _ _ _ (Nat.lt_of_lt_of_le hsz hS.2.size) hat).mono ?_); rintro e w' ⟨rfl, hbel⟩; clear hat; replace hS := keepH.out _ _ hS hbel; clear hbel)
      | (go_at_call 58; have hat : ArcAt _ w.heap.size 0 ⟨a, b, c, d, p, s⟩ := hS.1.1; have hat2 : ArcAt _ (w.heap.size + 1) 0 ⟨a', b', c', d', p', s'⟩ := hS.1.2; (with_reducible refine (l05Smooth_any _ _ _ _ _ _ _ _ _ _ _ _ k1 k3 j1 _ _ _ _ _ (Nat.lt_of_lt_of_le (Nat.lt_of_succ_lt hsz) hS.2.size) (Nat.lt_of_lt_of_le hsz hS.2.size) hat hat2).mono ?_); rintro e w' ⟨rfl, hbel⟩; clear hat hat2; replace hS := keepH.out _ _ hS hbel; clear hbel))
    go_ret
    exact ⟨ret_bool (by rw [hx.out, h1, h2]; rfl), below2' hB0 hS.2⟩
  cases h3 : meetB ⟨a, b, c, d, p, s⟩ ⟨a', b', c', d', p', s'⟩
  · rcases meet_no h3 with h4 | ⟨h4, h5⟩
    · simp only at h4
      go_enter Try.func25, Try.ntmps25
      go_wp2_with fail
      obtain ⟨q1, q2, hB0, hsz⟩ := two_boxes w #[.int .i64 a, .int .i64 b, .int .i64 c, .int .i64 d, .int .i64 p, .int .i64 s] 29 #[.int .i64 a', .int .i64 b', .int .i64 c', .int .i64 d', .int .i64 p', .int .i64 s'] 29
      generalize ((w.alloc (.cells #[.int .i64 a, .int .i64 b, .int .i64 c, .int .i64 d, .int .i64 p, .int .i64 s] 29)).alloc (.cells #[.int .i64 a', .int .i64 b', .int .i64 c', .int .i64 d', .int .i64 p', .int .i64 s'] 29)) = W0 at q1 q2 hB0 hsz ⊢
      have hS0 : (((W0.cell? ⟨w.heap.size, 0, none⟩ = some (.int .i64 a) ∧ W0.cell? ⟨w.heap.size, 1, none⟩ = some (.int .i64 b) ∧ W0.cell? ⟨w.heap.size, 2, none⟩ = some (.int .i64 c) ∧ W0.cell? ⟨w.heap.size, 3, none⟩ = some (.int .i64 d) ∧ W0.cell? ⟨w.heap.size, 4, none⟩ = some (.int .i64 p) ∧ W0.cell? ⟨w.heap.size, 5, none⟩ = some (.int .i64 s)) ∧ (W0.cell? ⟨w.heap.size + 1, 0, none⟩ = some (.int .i64 a') ∧ W0.cell? ⟨w.heap.size + 1, 1, none⟩ = some (.int .i64 b') ∧ W0.cell? ⟨w.heap.size + 1, 2, none⟩ = some (.int .i64 c') ∧ W0.cell? ⟨w.heap.size + 1, 3, none⟩ = some (.int .i64 d') ∧ W0.cell? ⟨w.heap.size + 1, 4, none⟩ = some (.int .i64 p') ∧ W0.cell? ⟨w.heap.size + 1, 5, none⟩ = some (.int .i64 s'))) ∧ Below w.heap.size w W0) := ⟨⟨⟨q1 0 _ rfl, q1 1 _ rfl, q1 2 _ rfl, q1 3 _ rfl, q1 4 _ rfl, q1 5 _ rfl⟩, ⟨q2 0 _ rfl, q2 1 _ rfl, q2 2 _ rfl, q2 3 _ rfl, q2 4 _ rfl, q2 5 _ rfl⟩⟩, hB0⟩
      clear q1 q2
      have hS : (((W0.cell? ⟨w.heap.size, 0, none⟩ = some (.int .i64 a) ∧ W0.cell? ⟨w.heap.size, 1, none⟩ = some (.int .i64 b) ∧ W0.cell? ⟨w.heap.size, 2, none⟩ = some (.int .i64 c) ∧ W0.cell? ⟨w.heap.size, 3, none⟩ = some (.int .i64 d) ∧ W0.cell? ⟨w.heap.size, 4, none⟩ = some (.int .i64 p) ∧ W0.cell? ⟨w.heap.size, 5, none⟩ = some (.int .i64 s)) ∧ (W0.cell? ⟨w.heap.size + 1, 0, none⟩ = some (.int .i64 a') ∧ W0.cell? ⟨w.heap.size + 1, 1, none⟩ = some (.int .i64 b') ∧ W0.cell? ⟨w.heap.size + 1, 2, none⟩ = some (.int .i64 c') ∧ W0.cell? ⟨w.heap.size + 1, 3, none⟩ = some (.int .i64 d') ∧ W0.cell? ⟨w.heap.size + 1, 4, none⟩ = some (.int .i64 p') ∧ W0.cell? ⟨w.heap.size + 1, 5, none⟩ = some (.int .i64 s'))) ∧ Below W0.heap.size W0 W0) := ⟨hS0.1, Below.refl _ _⟩
      clear hS0
      have keep : ∀ W1 W2, (((W1.cell? ⟨w.heap.size, 0, none⟩ = some (.int .i64 a) ∧ W1.cell? ⟨w.heap.size, 1, none⟩ = some (.int .i64 b) ∧ W1.cell? ⟨w.heap.size, 2, none⟩ = some (.int .i64 c) ∧ W1.cell? ⟨w.heap.size, 3, none⟩ = some (.int .i64 d) ∧ W1.cell? ⟨w.heap.size, 4, none⟩ = some (.int .i64 p) ∧ W1.cell? ⟨w.heap.size, 5, none⟩ = some (.int .i64 s)) ∧ (W1.cell? ⟨w.heap.size + 1, 0, none⟩ = some (.int .i64 a') ∧ W1.cell? ⟨w.heap.size + 1, 1, none⟩ = some (.int .i64 b') ∧ W1.cell? ⟨w.heap.size + 1, 2, none⟩ = some (.int .i64 c') ∧ W1.cell? ⟨w.heap.size + 1, 3, none⟩ = some (.int .i64 d') ∧ W1.cell? ⟨w.heap.size + 1, 4, none⟩ = some (.int .i64 p') ∧ W1.cell? ⟨w.heap.size + 1, 5, none⟩ = some (.int .i64 s'))) ∧ Below W0.heap.size W0 W1) → Below W1.heap.size W1 W2 → (((W2.cell? ⟨w.heap.size, 0, none⟩ = some (.int .i64 a) ∧ W2.cell? ⟨w.heap.size, 1, none⟩ = some (.int .i64 b) ∧ W2.cell? ⟨w.heap.size, 2, none⟩ = some (.int .i64 c) ∧ W2.cell? ⟨w.heap.size, 3, none⟩ = some (.int .i64 d) ∧ W2.cell? ⟨w.heap.size, 4, none⟩ = some (.int .i64 p) ∧ W2.cell? ⟨w.heap.size, 5, none⟩ = some (.int .i64 s)) ∧ (W2.cell? ⟨w.heap.size + 1, 0, none⟩ = some (.int .i64 a') ∧ W2.cell? ⟨w.heap.size + 1, 1, none⟩ = some (.int .i64 b') ∧ W2.cell? ⟨w.heap.size + 1, 2, none⟩ = some (.int .i64 c') ∧ W2.cell? ⟨w.heap.size + 1, 3, none⟩ = some (.int .i64 d') ∧ W2.cell? ⟨w.heap.size + 1, 4, none⟩ = some (.int .i64 p') ∧ W2.cell? ⟨w.heap.size + 1, 5, none⟩ = some (.int .i64 s'))) ∧ Below W0.heap.size W0 W2) := fun W1 W2 h1 h2 => by
        have h1s := h1.2.size
        have hsz' : w.heap.size + 1 + 1 ≤ W0.heap.size := hsz
        have hq0 : w.heap.size < W1.heap.size := by omega
        have hq1 : w.heap.size + 1 < W1.heap.size := by omega
        obtain ⟨⟨⟨h00, h01, h02, h03, h04, h05⟩, ⟨h10, h11, h12, h13, h14, h15⟩⟩, h1b⟩ := h1
        exact ⟨⟨⟨(h2.cell (p := ⟨w.heap.size, 0, none⟩) hq0).trans h00, (h2.cell (p := ⟨w.heap.size, 1, none⟩) hq0).trans h01, (h2.cell (p := ⟨w.heap.size, 2, none⟩) hq0).trans h02, (h2.cell (p := ⟨w.heap.size, 3, none⟩) hq0).trans h03, (h2.cell (p := ⟨w.heap.size, 4, none⟩) hq0).trans h04, (h2.cell (p := ⟨w.heap.size, 5, none⟩) hq0).trans h05⟩, ⟨(h2.cell (p := ⟨w.heap.size + 1, 0, none⟩) hq1).trans h10, (h2.cell (p := ⟨w.heap.size + 1, 1, none⟩) hq1).trans h11, (h2.cell (p := ⟨w.heap.size + 1, 2, none⟩) hq1).trans h12, (h2.cell (p := ⟨w.heap.size + 1, 3, none⟩) hq1).trans h13, (h2.cell (p := ⟨w.heap.size + 1, 4, none⟩) hq1).trans h14, (h2.cell (p := ⟨w.heap.size + 1, 5, none⟩) hq1).trans h15⟩⟩, h1b.trans (h2.mono h1s)⟩
      have keepH := Lib.hid keep
      clear keep
      go_wp2_with (first
        | (go_at_call 48; have hat : ArcAt _ w.heap.size 0 ⟨a, b, c, d, p, s⟩ := hS.1.1; (with_reducible refine (l05One_any _ _ _ _ _ _ _ _ _ (Nat.lt_of_lt_of_le (Nat.lt_of_succ_lt hsz) hS.2.size) hat).mono ?_); rintro e w' ⟨rfl, hbel⟩; clear hat; replace hS := keepH.out _ _ hS hbel; clear hbel)
        | (go_at_call 48; have hat : ArcAt _ (w.heap.size + 1) 0 ⟨a', b', c', d', p', s'⟩ := hS.1.2; (with_reducible refine (l05One_any _ _ _ _ _ _ _ _ _ (Nat.lt_of_lt_of_le hsz hS.2.size) hat).mono ?_); rintro e w' ⟨rfl, hbel⟩; clear hat; replace hS := keepH.out _ _ hS hbel; clear hbel)
        | (go_at_call 58; have hat : ArcAt _ w.heap.size 0 ⟨a, b, c, d, p, s⟩ := hS.1.1; have hat2 : ArcAt _ (w.heap.size + 1) 0 ⟨a', b', c', d', p', s'⟩ := hS.1.2; (with_reducible refine (l05Smooth_any _ _ _ _ _ _ _ _ _ _ _ _ k1 k3 j1 _ _ _ _ _ (Nat.lt_of_lt_of_le (Nat.lt_of_succ_lt hsz) hS.2.size) (Nat.lt_of_lt_of_le hsz hS.2.size) hat hat2).mono ?_); rintro e w' ⟨rfl, hbel⟩; clear hat hat2; replace hS := keepH.out _ _ hS hbel; clear hbel))
      go_ret
      exact ⟨ret_bool (by rw [hx.out, h1, h2, h3]; rfl), below2' hB0 hS.2⟩
    · simp only at h4 h5
      go_enter Try.func25, Try.ntmps25
      go_wp2_with fail
      obtain ⟨q1, q2, hB0, hsz⟩ := two_boxes w #[.int .i64 a, .int .i64 b, .int .i64 c, .int .i64 d, .int .i64 p, .int .i64 s] 29 #[.int .i64 a', .int .i64 b', .int .i64 c', .int .i64 d', .int .i64 p', .int .i64 s'] 29
      generalize ((w.alloc (.cells #[.int .i64 a, .int .i64 b, .int .i64 c, .int .i64 d, .int .i64 p, .int .i64 s] 29)).alloc (.cells #[.int .i64 a', .int .i64 b', .int .i64 c', .int .i64 d', .int .i64 p', .int .i64 s'] 29)) = W0 at q1 q2 hB0 hsz ⊢
      have hS0 : (((W0.cell? ⟨w.heap.size, 0, none⟩ = some (.int .i64 a) ∧ W0.cell? ⟨w.heap.size, 1, none⟩ = some (.int .i64 b) ∧ W0.cell? ⟨w.heap.size, 2, none⟩ = some (.int .i64 c) ∧ W0.cell? ⟨w.heap.size, 3, none⟩ = some (.int .i64 d) ∧ W0.cell? ⟨w.heap.size, 4, none⟩ = some (.int .i64 p) ∧ W0.cell? ⟨w.heap.size, 5, none⟩ = some (.int .i64 s)) ∧ (W0.cell? ⟨w.heap.size + 1, 0, none⟩ = some (.int .i64 a') ∧ W0.cell? ⟨w.heap.size + 1, 1, none⟩ = some (.int .i64 b') ∧ W0.cell? ⟨w.heap.size + 1, 2, none⟩ = some (.int .i64 c') ∧ W0.cell? ⟨w.heap.size + 1, 3, none⟩ = some (.int .i64 d') ∧ W0.cell? ⟨w.heap.size + 1, 4, none⟩ = some (.int .i64 p') ∧ W0.cell? ⟨w.heap.size + 1, 5, none⟩ = some (.int .i64 s'))) ∧ Below w.heap.size w W0) := ⟨⟨⟨q1 0 _ rfl, q1 1 _ rfl, q1 2 _ rfl, q1 3 _ rfl, q1 4 _ rfl, q1 5 _ rfl⟩, ⟨q2 0 _ rfl, q2 1 _ rfl, q2 2 _ rfl, q2 3 _ rfl, q2 4 _ rfl, q2 5 _ rfl⟩⟩, hB0⟩
      clear q1 q2
      have hS : (((W0.cell? ⟨w.heap.size, 0, none⟩ = some (.int .i64 a) ∧ W0.cell? ⟨w.heap.size, 1, none⟩ = some (.int .i64 b) ∧ W0.cell? ⟨w.heap.size, 2, none⟩ = some (.int .i64 c) ∧ W0.cell? ⟨w.heap.size, 3, none⟩ = some (.int .i64 d) ∧ W0.cell? ⟨w.heap.size, 4, none⟩ = some (.int .i64 p) ∧ W0.cell? ⟨w.heap.size, 5, none⟩ = some (.int .i64 s)) ∧ (W0.cell? ⟨w.heap.size + 1, 0, none⟩ = some (.int .i64 a') ∧ W0.cell? ⟨w.heap.size + 1, 1, none⟩ = some (.int .i64 b') ∧ W0.cell? ⟨w.heap.size + 1, 2, none⟩ = some (.int .i64 c') ∧ W0.cell? ⟨w.heap.size + 1, 3, none⟩ = some (.int .i64 d') ∧ W0.cell? ⟨w.heap.size + 1, 4, none⟩ = some (.int .i64 p') ∧ W0.cell? ⟨w.heap.size + 1, 5, none⟩ = some (.int .i64 s'))) ∧ Below W0.heap.size W0 W0) := ⟨hS0.1, Below.refl _ _⟩
      clear hS0
      have keep : ∀ W1 W2, (((W1.cell? ⟨w.heap.size, 0, none⟩ = some (.int .i64 a) ∧ W1.cell? ⟨w.heap.size, 1, none⟩ = some (.int .i64 b) ∧ W1.cell? ⟨w.heap.size, 2, none⟩ = some (.int .i64 c) ∧ W1.cell? ⟨w.heap.size, 3, none⟩ = some (.int .i64 d) ∧ W1.cell? ⟨w.heap.size, 4, none⟩ = some (.int .i64 p) ∧ W1.cell? ⟨w.heap.size, 5, none⟩ = some (.int .i64 s)) ∧ (W1.cell? ⟨w.heap.size + 1, 0, none⟩ = some (.int .i64 a') ∧ W1.cell? ⟨w.heap.size + 1, 1, none⟩ = some (.int .i64 b') ∧ W1.cell? ⟨w.heap.size + 1, 2, none⟩ = some (.int .i64 c') ∧ W1.cell? ⟨w.heap.size + 1, 3, none⟩ = some (.int .i64 d') ∧ W1.cell? ⟨w.heap.size + 1, 4, none⟩ = some (.int .i64 p') ∧ W1.cell? ⟨w.heap.size + 1, 5, none⟩ = some (.int .i64 s'))) ∧ Below W0.heap.size W0 W1) → Below W1.heap.size W1 W2 → (((W2.cell? ⟨w.heap.size, 0, none⟩ = some (.int .i64 a) ∧ W2.cell? ⟨w.heap.size, 1, none⟩ = some (.int .i64 b) ∧ W2.cell? ⟨w.heap.size, 2, none⟩ = some (.int .i64 c) ∧ W2.cell? ⟨w.heap.size, 3, none⟩ = some (.int .i64 d) ∧ W2.cell? ⟨w.heap.size, 4, none⟩ = some (.int .i64 p) ∧ W2.cell? ⟨w.heap.size, 5, none⟩ = some (.int .i64 s)) ∧ (W2.cell? ⟨w.heap.size + 1, 0, none⟩ = some (.int .i64 a') ∧ W2.cell? ⟨w.heap.size + 1, 1, none⟩ = some (.int .i64 b') ∧ W2.cell? ⟨w.heap.size + 1, 2, none⟩ = some (.int .i64 c') ∧ W2.cell? ⟨w.heap.size + 1, 3, none⟩ = some (.int .i64 d') ∧ W2.cell? ⟨w.heap.size + 1, 4, none⟩ = some (.int .i64 p') ∧ W2.cell? ⟨w.heap.size + 1, 5, none⟩ = some (.int .i64 s'))) ∧ Below W0.heap.size W0 W2) := fun W1 W2 h1 h2 => by
        have h1s := h1.2.size
        have hsz' : w.heap.size + 1 + 1 ≤ W0.heap.size := hsz
        have hq0 : w.heap.size < W1.heap.size := by omega
        have hq1 : w.heap.size + 1 < W1.heap.size := by omega
        obtain ⟨⟨⟨h00, h01, h02, h03, h04, h05⟩, ⟨h10, h11, h12, h13, h14, h15⟩⟩, h1b⟩ := h1
        exact ⟨⟨⟨(h2.cell (p := ⟨w.heap.size, 0, none⟩) hq0).trans h00, (h2.cell (p := ⟨w.heap.size, 1, none⟩) hq0).trans h01, (h2.cell (p := ⟨w.heap.size, 2, none⟩) hq0).trans h02, (h2.cell (p := ⟨w.heap.size, 3, none⟩) hq0).trans h03, (h2.cell (p := ⟨w.heap.size, 4, none⟩) hq0).trans h04, (h2.cell (p := ⟨w.heap.size, 5, none⟩) hq0).trans h05⟩, ⟨(h2.cell (p := ⟨w.heap.size + 1, 0, none⟩) hq1).trans h10, (h2.cell (p := ⟨w.heap.size + 1, 1, none⟩) hq1).trans h11, (h2.cell (p := ⟨w.heap.size + 1, 2, none⟩) hq1).trans h12, (h2.cell (p := ⟨w.heap.size + 1, 3, none⟩) hq1).trans h13, (h2.cell (p := ⟨w.heap.size + 1, 4, none⟩) hq1).trans h14, (h2.cell (p := ⟨w.heap.size + 1, 5, none⟩) hq1).trans h15⟩⟩, h1b.trans (h2.mono h1s)⟩
      have keepH := Lib.hid keep
      clear keep
      go_wp2_with (first
        | (go_at_call 48; have hat : ArcAt _ w.heap.size 0 ⟨a, b, c, d, p, s⟩ := hS.1.1; (with_reducible refine (l05One_any _ _ _ _ _ _ _ _ _ (Nat.lt_of_lt_of_le (Nat.lt_of_succ_lt hsz) hS.2.size) hat).mono ?_); rintro e w' ⟨rfl, hbel⟩; clear hat; replace hS := keepH.out _ _ hS hbel; clear hbel)
        | (go_at_call 48; have hat : ArcAt _ (w.heap.size + 1) 0 ⟨a', b', c', d', p', s'⟩ := hS.1.2; (with_reducible refine (l05One_any _ _ _ _ _ _ _ _ _ (Nat.lt_of_lt_of_le hsz hS.2.size) hat).mono ?_); rintro e w' ⟨rfl, hbel⟩; clear hat; replace hS := keepH.out _ _ hS hbel; clear hbel)
        | (go_at_call 58; have hat : ArcAt _ w.heap.size 0 ⟨a, b, c, d, p, s⟩ := hS.1.1; have hat2 : ArcAt _ (w.heap.size + 1) 0 ⟨a', b', c', d', p', s'⟩ := hS.1.2; (with_reducible refine (l05Smooth_any _ _ _ _ _ _ _ _ _ _ _ _ k1 k3 j1 _ _ _ _ _ (Nat.lt_of_lt_of_le (Nat.lt_of_succ_lt hsz) hS.2.size) (Nat.lt_of_lt_of_le hsz hS.2.size) hat hat2).mono ?_); rintro e w' ⟨rfl, hbel⟩; clear hat hat2; replace hS := keepH.out _ _ hS hbel; clear hbel))
      go_ret
      exact ⟨ret_bool (by rw [hx.out, h1, h2, h3]; rfl), below2' hB0 hS.2⟩
  obtain ⟨h4, h5⟩ := meet_yes h3
  simp only at h4 h5
  obtain ⟨k1, k2, k3⟩ := arc_bd h1
  obtain ⟨j1, j2, j3⟩ := arc_bd h2
  simp only at k1 k2 k3 j1 j2 j3
  go_enter Try.func25, Try.ntmps25
  go_wp2_with fail
  obtain ⟨q1, q2, hB0, hsz⟩ := two_boxes w #[.int .i64 a, .int .i64 b, .int .i64 c, .int .i64 d, .int .i64 p, .int .i64 s] 29 #[.int .i64 a', .int .i64 b', .int .i64 c', .int .i64 d', .int .i64 p', .int .i64 s'] 29
  generalize ((w.alloc (.cells #[.int .i64 a, .int .i64 b, .int .i64 c, .int .i64 d, .int .i64 p, .int .i64 s] 29)).alloc (.cells #[.int .i64 a', .int .i64 b', .int .i64 c', .int .i64 d', .int .i64 p', .int .i64 s'] 29)) = W0 at q1 q2 hB0 hsz ⊢
  have hS0 : (((W0.cell? ⟨w.heap.size, 0, none⟩ = some (.int .i64 a) ∧ W0.cell? ⟨w.heap.size, 1, none⟩ = some (.int .i64 b) ∧ W0.cell? ⟨w.heap.size, 2, none⟩ = some (.int .i64 c) ∧ W0.cell? ⟨w.heap.size, 3, none⟩ = some (.int .i64 d) ∧ W0.cell? ⟨w.heap.size, 4, none⟩ = some (.int .i64 p) ∧ W0.cell? ⟨w.heap.size, 5, none⟩ = some (.int .i64 s)) ∧ (W0.cell? ⟨w.heap.size + 1, 0, none⟩ = some (.int .i64 a') ∧ W0.cell? ⟨w.heap.size + 1, 1, none⟩ = some (.int .i64 b') ∧ W0.cell? ⟨w.heap.size + 1, 2, none⟩ = some (.int .i64 c') ∧ W0.cell? ⟨w.heap.size + 1, 3, none⟩ = some (.int .i64 d') ∧ W0.cell? ⟨w.heap.size + 1, 4, none⟩ = some (.int .i64 p') ∧ W0.cell? ⟨w.heap.size + 1, 5, none⟩ = some (.int .i64 s'))) ∧ Below w.heap.size w W0) := ⟨⟨⟨q1 0 _ rfl, q1 1 _ rfl, q1 2 _ rfl, q1 3 _ rfl, q1 4 _ rfl, q1 5 _ rfl⟩, ⟨q2 0 _ rfl, q2 1 _ rfl, q2 2 _ rfl, q2 3 _ rfl, q2 4 _ rfl, q2 5 _ rfl⟩⟩, hB0⟩
  clear q1 q2
  have hS : (((W0.cell? ⟨w.heap.size, 0, none⟩ = some (.int .i64 a) ∧ W0.cell? ⟨w.heap.size, 1, none⟩ = some (.int .i64 b) ∧ W0.cell? ⟨w.heap.size, 2, none⟩ = some (.int .i64 c) ∧ W0.cell? ⟨w.heap.size, 3, none⟩ = some (.int .i64 d) ∧ W0.cell? ⟨w.heap.size, 4, none⟩ = some (.int .i64 p) ∧ W0.cell? ⟨w.heap.size, 5, none⟩ = some (.int .i64 s)) ∧ (W0.cell? ⟨w.heap.size + 1, 0, none⟩ = some (.int .i64 a') ∧ W0.cell? ⟨w.heap.size + 1, 1, none⟩ = some (.int .i64 b') ∧ W0.cell? ⟨w.heap.size + 1, 2, none⟩ = some (.int .i64 c') ∧ W0.cell? ⟨w.heap.size + 1, 3, none⟩ = some (.int .i64 d') ∧ W0.cell? ⟨w.heap.size + 1, 4, none⟩ = some (.int .i64 p') ∧ W0.cell? ⟨w.heap.size + 1, 5, none⟩ = some (.int .i64 s'))) ∧ Below W0.heap.size W0 W0) := ⟨hS0.1, Below.refl _ _⟩
  clear hS0
  have keep : ∀ W1 W2, (((W1.cell? ⟨w.heap.size, 0, none⟩ = some (.int .i64 a) ∧ W1.cell? ⟨w.heap.size, 1, none⟩ = some (.int .i64 b) ∧ W1.cell? ⟨w.heap.size, 2, none⟩ = some (.int .i64 c) ∧ W1.cell? ⟨w.heap.size, 3, none⟩ = some (.int .i64 d) ∧ W1.cell? ⟨w.heap.size, 4, none⟩ = some (.int .i64 p) ∧ W1.cell? ⟨w.heap.size, 5, none⟩ = some (.int .i64 s)) ∧ (W1.cell? ⟨w.heap.size + 1, 0, none⟩ = some (.int .i64 a') ∧ W1.cell? ⟨w.heap.size + 1, 1, none⟩ = some (.int .i64 b') ∧ W1.cell? ⟨w.heap.size + 1, 2, none⟩ = some (.int .i64 c') ∧ W1.cell? ⟨w.heap.size + 1, 3, none⟩ = some (.int .i64 d') ∧ W1.cell? ⟨w.heap.size + 1, 4, none⟩ = some (.int .i64 p') ∧ W1.cell? ⟨w.heap.size + 1, 5, none⟩ = some (.int .i64 s'))) ∧ Below W0.heap.size W0 W1) → Below W1.heap.size W1 W2 → (((W2.cell? ⟨w.heap.size, 0, none⟩ = some (.int .i64 a) ∧ W2.cell? ⟨w.heap.size, 1, none⟩ = some (.int .i64 b) ∧ W2.cell? ⟨w.heap.size, 2, none⟩ = some (.int .i64 c) ∧ W2.cell? ⟨w.heap.size, 3, none⟩ = some (.int .i64 d) ∧ W2.cell? ⟨w.heap.size, 4, none⟩ = some (.int .i64 p) ∧ W2.cell? ⟨w.heap.size, 5, none⟩ = some (.int .i64 s)) ∧ (W2.cell? ⟨w.heap.size + 1, 0, none⟩ = some (.int .i64 a') ∧ W2.cell? ⟨w.heap.size + 1, 1, none⟩ = some (.int .i64 b') ∧ W2.cell? ⟨w.heap.size + 1, 2, none⟩ = some (.int .i64 c') ∧ W2.cell? ⟨w.heap.size + 1, 3, none⟩ = some (.int .i64 d') ∧ W2.cell? ⟨w.heap.size + 1, 4, none⟩ = some (.int .i64 p') ∧ W2.cell? ⟨w.heap.size + 1, 5, none⟩ = some (.int .i64 s'))) ∧ Below W0.heap.size W0 W2) := fun W1 W2 h1 h2 => by
    have h1s := h1.2.size
    have hsz' : w.heap.size + 1 + 1 ≤ W0.heap.size := hsz
    have hq0 : w.heap.size < W1.heap.size := by omega
    have hq1 : w.heap.size + 1 < W1.heap.size := by omega
    obtain ⟨⟨⟨h00, h01, h02, h03, h04, h05⟩, ⟨h10, h11, h12, h13, h14, h15⟩⟩, h1b⟩ := h1
    exact ⟨⟨⟨(h2.cell (p := ⟨w.heap.size, 0, none⟩) hq0).trans h00, (h2.cell (p := ⟨w.heap.size, 1, none⟩) hq0).trans h01, (h2.cell (p := ⟨w.heap.size, 2, none⟩) hq0).trans h02, (h2.cell (p := ⟨w.heap.size, 3, none⟩) hq0).trans h03, (h2.cell (p := ⟨w.heap.size, 4, none⟩) hq0).trans h04, (h2.cell (p := ⟨w.heap.size, 5, none⟩) hq0).trans h05⟩, ⟨(h2.cell (p := ⟨w.heap.size + 1, 0, none⟩) hq1).trans h10, (h2.cell (p := ⟨w.heap.size + 1, 1, none⟩) hq1).trans h11, (h2.cell (p := ⟨w.heap.size + 1, 2, none⟩) hq1).trans h12, (h2.cell (p := ⟨w.heap.size + 1, 3, none⟩) hq1).trans h13, (h2.cell (p := ⟨w.heap.size + 1, 4, none⟩) hq1).trans h14, (h2.cell (p := ⟨w.heap.size + 1, 5, none⟩) hq1).trans h15⟩⟩, h1b.trans (h2.mono h1s)⟩
  have keepH := Lib.hid keep
  clear keep
  go_wp2_with (first
    | (go_at_call 48; have hat : ArcAt _ w.heap.size 0 ⟨a, b, c, d, p, s⟩ := hS.1.1; (with_reducible refine (l05One_any _ _ _ _ _ _ _ _ _ (Nat.lt_of_lt_of_le (Nat.lt_of_succ_lt hsz) hS.2.size) hat).mono ?_); rintro e w' ⟨rfl, hbel⟩; clear hat; replace hS := keepH.out _ _ hS hbel; clear hbel)
    | (go_at_call 48; have hat : ArcAt _ (w.heap.size + 1) 0 ⟨a', b', c', d', p', s'⟩ := hS.1.2; (with_reducible refine (l05One_any _ _ _ _ _ _ _ _ _ (Nat.lt_of_lt_of_le hsz hS.2.size) hat).mono ?_); rintro e w' ⟨rfl, hbel⟩; clear hat; replace hS := keepH.out _ _ hS hbel; clear hbel)
    | (go_at_call 58; have hat : ArcAt _ w.heap.size 0 ⟨a, b, c, d, p, s⟩ := hS.1.1; have hat2 : ArcAt _ (w.heap.size + 1) 0 ⟨a', b', c', d', p', s'⟩ := hS.1.2; (with_reducible refine (l05Smooth_any _ _ _ _ _ _ _ _ _ _ _ _ k1 k3 j1 _ _ _ _ _ (Nat.lt_of_lt_of_le (Nat.lt_of_succ_lt hsz) hS.2.size) (Nat.lt_of_lt_of_le hsz hS.2.size) hat hat2).mono ?_); rintro e w' ⟨rfl, hbel⟩; clear hat hat2; replace hS := keepH.out _ _ hS hbel; clear hbel))
  go_ret
  exact ⟨ret_bool (by rw [hx.out, h1, h2, h3]; rfl), below2' hB0 hS.2⟩
set_option maxHeartbeats 3200000 in
theorem implIsSmoothJoint_any (a : Int) (b : Int) (c : Int) (d : Int) (p : Int) (s : Int) (a' : Int) (b' : Int) (c' : Int) (d' : Int) (p' : Int) (s' : Int) (w : World) : Calls Try.prog 26 #[.agg #[.int .i64 a, .int .i64 b, .int .i64 c, .int .i64 d, .int .i64 p, .int .i64 s], .agg #[.int .i64 a', .int .i64 b', .int .i64 c', .int .i64 d', .int .i64 p', .int .i64 s']] w fun e w' => e = .returned (.bool (sjB ⟨a, b, c, d, p, s⟩ ⟨a', b', c', d', p', s'⟩)) ∧ Below w.heap.size w w' := by
  have hx : Hid (sjB ⟨a, b, c, d, p, s⟩ ⟨a', b', c', d', p', s'⟩ = (joinB [⟨a, b, c, d, p, s⟩, ⟨a', b', c', d', p', s'⟩] && smoB ⟨a, b, c, d, p, s⟩ ⟨a', b', c', d', p', s'⟩)) := Lib.hid (by rw [joinB_two]; unfold sjB; simp only [Bool.and_assoc])
  cases h0 : joinB [⟨a, b, c, d, p, s⟩, ⟨a', b', c', d', p', s'⟩]
  · have cJ0 := fun W => areJoined_any _ [⟨a, b, c, d, p, s⟩, ⟨a', b', c', d', p', s'⟩] _ (by simp) (arcs_two a b c d p s a' b' c' d' p' s' W)
    rw [h0] at cJ0
    have cJ := Lib.hid cJ0
    clear cJ0
    go_enter Try.func26, Try.ntmps26
    go_wp2_with fail
    rw [← show ((w.alloc (.cells #[.int .i64 a, .int .i64 b, .int .i64 c, .int .i64 d, .int .i64 p, .int .i64 s] 29)).alloc (.cells #[.int .i64 a', .int .i64 b', .int .i64 c', .int .i64 d', .int .i64 p', .int .i64 s'] 29)).heap.size = w.heap.size + 1 + 1 by simp]
    obtain ⟨q1, q2, hB0, hsz⟩ := two_boxes w #[.int .i64 a, .int .i64 b, .int .i64 c, .int .i64 d, .int .i64 p, .int .i64 s] 29 #[.int .i64 a', .int .i64 b', .int .i64 c', .int .i64 d', .int .i64 p', .int .i64 s'] 29
    generalize ((w.alloc (.cells #[.int .i64 a, .int .i64 b, .int .i64 c, .int .i64 d, .int .i64 p, .int .i64 s] 29)).alloc (.cells #[.int .i64 a', .int .i64 b', .int .i64 c', .int .i64 d', .int .i64 p', .int .i64 s'] 29)) = W0 at q1 q2 hB0 hsz ⊢
    have hS0 : (((W0.cell? ⟨w.heap.size, 0, none⟩ = some (.int .i64 a) ∧ W0.cell? ⟨w.heap.size, 1, none⟩ = some (.int .i64 b) ∧ W0.cell? ⟨w.heap.size, 2, none⟩ = some (.int .i64 c) ∧ W0.cell? ⟨w.heap.size, 3, none⟩ = some (.int .i64 d) ∧ W0.cell? ⟨w.heap.size, 4, none⟩ = some (.int .i64 p) ∧ W0.cell? ⟨w.heap.size, 5, none⟩ = some (.int .i64 s)) ∧ (W0.cell? ⟨w.heap.size + 1, 0, none⟩ = some (.int .i64 a') ∧ W0.cell? ⟨w.heap.size + 1, 1, none⟩ = some (.int .i64 b') ∧ W0.cell? ⟨w.heap.size + 1, 2, none⟩ = some (.int .i64 c') ∧ W0.cell? ⟨w.heap.size + 1, 3, none⟩ = some (.int .i64 d') ∧ W0.cell? ⟨w.heap.size + 1, 4, none⟩ = some (.int .i64 p') ∧ W0.cell? ⟨w.heap.size + 1, 5, none⟩ = some (.int .i64 s'))) ∧ Below w.heap.size w W0) := ⟨⟨⟨q1 0 _ rfl, q1 1 _ rfl, q1 2 _ rfl, q1 3 _ rfl, q1 4 _ rfl, q1 5 _ rfl⟩, ⟨q2 0 _ rfl, q2 1 _ rfl, q2 2 _ rfl, q2 3 _ rfl, q2 4 _ rfl, q2 5 _ rfl⟩⟩, hB0⟩
    clear q1 q2
    have hS : (((W0.cell? ⟨w.heap.size, 0, none⟩ = some (.int .i64 a) ∧ W0.cell? ⟨w.heap.size, 1, none⟩ = some (.int .i64 b) ∧ W0.cell? ⟨w.heap.size, 2, none⟩ = some (.int .i64 c) ∧ W0.cell? ⟨w.heap.size, 3, none⟩ = some (.int .i64 d) ∧ W0.cell? ⟨w.heap.size, 4, none⟩ = some (.int .i64 p) ∧ W0.cell? ⟨w.heap.size, 5, none⟩ = some (.int .i64 s)) ∧ (W0.cell? ⟨w.heap.size + 1, 0, none⟩ = some (.int .i64 a') ∧ W0.cell? ⟨w.heap.size + 1, 1, none⟩ = some (.int .i64 b') ∧ W0.cell? ⟨w.heap.size + 1, 2, none⟩ = some (.int .i64 c') ∧ W0.cell? ⟨w.heap.size + 1, 3, none⟩ = some (.int .i64 d') ∧ W0.cell? ⟨w.heap.size + 1, 4, none⟩ = some (.int .i64 p') ∧ W0.cell? ⟨w.heap.size + 1, 5, none⟩ = some (.int .i64 s'))) ∧ Below W0.heap.size W0 W0) := ⟨hS0.1, Below.refl _ _⟩
    clear hS0
    have keep : ∀ W1 W2, (((W1.cell? ⟨w.heap.size, 0, none⟩ = some (.int .i64 a) ∧ W1.cell? ⟨w.heap.size, 1, none⟩ = some (.int .i64 b) ∧ W1.cell? ⟨w.heap.size, 2, none⟩ = some (.int .i64 c) ∧ W1.cell? ⟨w.heap.size, 3, none⟩ = some (.int .i64 d) ∧ W1.cell? ⟨w.heap.size, 4, none⟩ = some (.int .i64 p) ∧ W1.cell? ⟨w.heap.size, 5, none⟩ = some (.int .i64 s)) ∧ (W1.cell? ⟨w.heap.size + 1, 0, none⟩ = some (.int .i64 a') ∧ W1.cell? ⟨w.heap.size + 1, 1, none⟩ = some (.int .i64 b') ∧ W1.cell? ⟨w.heap.size + 1, 2, none⟩ = some (.int .i64 c') ∧ W1.cell? ⟨w.heap.size + 1, 3, none⟩ = some (.int .i64 d') ∧ W1.cell? ⟨w.heap.size + 1, 4, none⟩ = some (.int .i64 p') ∧ W1.cell? ⟨w.heap.size + 1, 5, none⟩ = some (.int .i64 s'))) ∧ Below W0.heap.size W0 W1) → Below W1.heap.size W1 W2 → (((W2.cell? ⟨w.heap.size, 0, none⟩ = some (.int .i64 a) ∧ W2.cell? ⟨w.heap.size, 1, none⟩ = some (.int .i64 b) ∧ W2.cell? ⟨w.heap.size, 2, none⟩ = some (.int .i64 c) ∧ W2.cell? ⟨w.heap.size, 3, none⟩ = some (.int .i64 d) ∧ W2.cell? ⟨w.heap.size, 4, none⟩ = some (.int .i64 p) ∧ W2.cell? ⟨w.heap.size, 5, none⟩ = some (.int .i64 s)) ∧ (W2.cell? ⟨w.heap.size + 1, 0, none⟩ = some (.int .i64 a') ∧ W2.cell? ⟨w.heap.size + 1, 1, none⟩ = some (.int .i64 b') ∧ W2.cell? ⟨w.heap.size + 1, 2, none⟩ = some (.int .i64 c') ∧ W2.cell? ⟨w.heap.size + 1, 3, none⟩ = some (.int .i64 d') ∧ W2.cell? ⟨w.heap.size + 1, 4, none⟩ = some (.int .i64 p') ∧ W2.cell? ⟨w.heap.size + 1, 5, none⟩ = some (.int .i64 s'))) ∧ Below W0.heap.size W0 W2) := fun W1 W2 h1 h2 => by
      have h1s := h1.2.size
      have hsz' : w.heap.size + 1 + 1 ≤ W0.heap.size := hsz
      have hq0 : w.heap.size < W1.heap.size := by omega
      have hq1 : w.heap.size + 1 < W1.heap.size := by omega
      obtain ⟨⟨⟨h00, h01, h02, h03, h04, h05⟩, ⟨h10, h11, h12, h13, h14, h15⟩⟩, h1b⟩ := h1
      exact ⟨⟨⟨(h2.cell (p := ⟨w.heap.size, 0, none⟩) hq0).trans h00, (h2.cell (p := ⟨w.heap.size, 1, none⟩) hq0).trans h01, (h2.cell (p := ⟨w.heap.size, 2, none⟩) hq0).trans h02, (h2.cell (p := ⟨w.heap.size, 3, none⟩) hq0).trans h03, (h2.cell (p := ⟨w.heap.size, 4, none⟩) hq0).trans h04, (h2.cell (p := ⟨w.heap.size, 5, none⟩) hq0).trans h05⟩, ⟨(h2.cell (p := ⟨w.heap.size + 1, 0, none⟩) hq1).trans h10, (h2.cell (p := ⟨w.heap.size + 1, 1, none⟩) hq1).trans h11, (h2.cell (p := ⟨w.heap.size + 1, 2, none⟩) hq1).trans h12, (h2.cell (p := ⟨w.heap.size + 1, 3, none⟩) hq1).trans h13, (h2.cell (p := ⟨w.heap.size + 1, 4, none⟩) hq1).trans h14, (h2.cell (p := ⟨w.heap.size + 1, 5, none⟩) hq1).trans h15⟩⟩, h1b.trans (h2.mono h1s)⟩
    have keepH := Lib.hid keep
    clear keep
    go_wp2_with (first
      | (go_at_call 54; (with_reducible refine (cJ.out _).mono ?_); rintro e w' ⟨rfl, hbel⟩; replace hS := keepH.out _ _ hS ((Below.refl _ W0).alloc (Nat.le_refl _) (.cells #[.int .i64 a, .int .i64 b, .int .i64 c, .int .i64 d, .int .i64 p, .int .i64 s, .int .i64 a', .int .i64 b', .int .i64 c', .int .i64 d', .int .i64 p', .int .i64 s'] 29)); replace hS := keepH.out _ _ hS hbel; clear hbel)
      | (go_at_call 59; (with_reducible refine (goesSmoothly_any _ _ _ _ _ _ _ _ _ _ _ _ k1 k3 j1 _).mono ?_); rintro e w' ⟨rfl, hbel⟩; replace hS := keepH.out _ _ hS hbel; clear hbel))
    go_ret
    exact ⟨ret_bool (by rw [hx.out, h0]; rfl), below2' hB0 hS.2⟩
  have h123 : arcB ⟨a, b, c, d, p, s⟩ = true ∧ arcB ⟨a', b', c', d', p', s'⟩ = true := by
    rw [joinB_two] at h0
    simp only [Bool.and_eq_true] at h0
    exact ⟨h0.1, h0.2.1⟩
  obtain ⟨h1, h2⟩ := h123
  have cJ0 := fun W => areJoined_any _ [⟨a, b, c, d, p, s⟩, ⟨a', b', c', d', p', s'⟩] _ (by simp) (arcs_two a b c d p s a' b' c' d' p' s' W)
  rw [h0] at cJ0
  have cJ := Lib.hid cJ0
  clear cJ0
  obtain ⟨k1, k2, k3⟩ := arc_bd h1
  obtain ⟨j1, j2, j3⟩ := arc_bd h2
  simp only at k1 k2 k3 j1 j2 j3
  clear h1 h2
  go_enter Try.func26, Try.ntmps26
  go_wp2_with fail
  rw [← show ((w.alloc (.cells #[.int .i64 a, .int .i64 b, .int .i64 c, .int .i64 d, .int .i64 p, .int .i64 s] 29)).alloc (.cells #[.int .i64 a', .int .i64 b', .int .i64 c', .int .i64 d', .int .i64 p', .int .i64 s'] 29)).heap.size = w.heap.size + 1 + 1 by simp]
  obtain ⟨q1, q2, hB0, hsz⟩ := two_boxes w #[.int .i64 a, .int .i64 b, .int .i64 c, .int .i64 d, .int .i64 p, .int .i64 s] 29 #[.int .i64 a', .int .i64 b', .int .i64 c', .int .i64 d', .int .i64 p', .int .i64 s'] 29
  generalize ((w.alloc (.cells #[.int .i64 a, .int .i64 b, .int .i64 c, .int .i64 d, .int .i64 p, .int .i64 s] 29)).alloc (.cells #[.int .i64 a', .int .i64 b', .int .i64 c', .int .i64 d', .int .i64 p', .int .i64 s'] 29)) = W0 at q1 q2 hB0 hsz ⊢
  have hS0 : (((W0.cell? ⟨w.heap.size, 0, none⟩ = some (.int .i64 a) ∧ W0.cell? ⟨w.heap.size, 1, none⟩ = some (.int .i64 b) ∧ W0.cell? ⟨w.heap.size, 2, none⟩ = some (.int .i64 c) ∧ W0.cell? ⟨w.heap.size, 3, none⟩ = some (.int .i64 d) ∧ W0.cell? ⟨w.heap.size, 4, none⟩ = some (.int .i64 p) ∧ W0.cell? ⟨w.heap.size, 5, none⟩ = some (.int .i64 s)) ∧ (W0.cell? ⟨w.heap.size + 1, 0, none⟩ = some (.int .i64 a') ∧ W0.cell? ⟨w.heap.size + 1, 1, none⟩ = some (.int .i64 b') ∧ W0.cell? ⟨w.heap.size + 1, 2, none⟩ = some (.int .i64 c') ∧ W0.cell? ⟨w.heap.size + 1, 3, none⟩ = some (.int .i64 d') ∧ W0.cell? ⟨w.heap.size + 1, 4, none⟩ = some (.int .i64 p') ∧ W0.cell? ⟨w.heap.size + 1, 5, none⟩ = some (.int .i64 s'))) ∧ Below w.heap.size w W0) := ⟨⟨⟨q1 0 _ rfl, q1 1 _ rfl, q1 2 _ rfl, q1 3 _ rfl, q1 4 _ rfl, q1 5 _ rfl⟩, ⟨q2 0 _ rfl, q2 1 _ rfl, q2 2 _ rfl, q2 3 _ rfl, q2 4 _ rfl, q2 5 _ rfl⟩⟩, hB0⟩
  clear q1 q2
  have hS : (((W0.cell? ⟨w.heap.size, 0, none⟩ = some (.int .i64 a) ∧ W0.cell? ⟨w.heap.size, 1, none⟩ = some (.int .i64 b) ∧ W0.cell? ⟨w.heap.size, 2, none⟩ = some (.int .i64 c) ∧ W0.cell? ⟨w.heap.size, 3, none⟩ = some (.int .i64 d) ∧ W0.cell? ⟨w.heap.size, 4, none⟩ = some (.int .i64 p) ∧ W0.cell? ⟨w.heap.size, 5, none⟩ = some (.int .i64 s)) ∧ (W0.cell? ⟨w.heap.size + 1, 0, none⟩ = some (.int .i64 a') ∧ W0.cell? ⟨w.heap.size + 1, 1, none⟩ = some (.int .i64 b') ∧ W0.cell? ⟨w.heap.size + 1, 2, none⟩ = some (.int .i64 c') ∧ W0.cell? ⟨w.heap.size + 1, 3, none⟩ = some (.int .i64 d') ∧ W0.cell? ⟨w.heap.size + 1, 4, none⟩ = some (.int .i64 p') ∧ W0.cell? ⟨w.heap.size + 1, 5, none⟩ = some (.int .i64 s'))) ∧ Below W0.heap.size W0 W0) := ⟨hS0.1, Below.refl _ _⟩
  clear hS0
  have keep : ∀ W1 W2, (((W1.cell? ⟨w.heap.size, 0, none⟩ = some (.int .i64 a) ∧ W1.cell? ⟨w.heap.size, 1, none⟩ = some (.int .i64 b) ∧ W1.cell? ⟨w.heap.size, 2, none⟩ = some (.int .i64 c) ∧ W1.cell? ⟨w.heap.size, 3, none⟩ = some (.int .i64 d) ∧ W1.cell? ⟨w.heap.size, 4, none⟩ = some (.int .i64 p) ∧ W1.cell? ⟨w.heap.size, 5, none⟩ = some (.int .i64 s)) ∧ (W1.cell? ⟨w.heap.size + 1, 0, none⟩ = some (.int .i64 a') ∧ W1.cell? ⟨w.heap.size + 1, 1, none⟩ = some (.int .i64 b') ∧ W1.cell? ⟨w.heap.size + 1, 2, none⟩ = some (.int .i64 c') ∧ W1.cell? ⟨w.heap.size + 1, 3, none⟩ = some (.int .i64 d') ∧ W1.cell? ⟨w.heap.size + 1, 4, none⟩ = some (.int .i64 p') ∧ W1.cell? ⟨w.heap.size + 1, 5, none⟩ = some (.int .i64 s'))) ∧ Below W0.heap.size W0 W1) → Below W1.heap.size W1 W2 → (((W2.cell? ⟨w.heap.size, 0, none⟩ = some (.int .i64 a) ∧ W2.cell? ⟨w.heap.size, 1, none⟩ = some (.int .i64 b) ∧ W2.cell? ⟨w.heap.size, 2, none⟩ = some (.int .i64 c) ∧ W2.cell? ⟨w.heap.size, 3, none⟩ = some (.int .i64 d) ∧ W2.cell? ⟨w.heap.size, 4, none⟩ = some (.int .i64 p) ∧ W2.cell? ⟨w.heap.size, 5, none⟩ = some (.int .i64 s)) ∧ (W2.cell? ⟨w.heap.size + 1, 0, none⟩ = some (.int .i64 a') ∧ W2.cell? ⟨w.heap.size + 1, 1, none⟩ = some (.int .i64 b') ∧ W2.cell? ⟨w.heap.size + 1, 2, none⟩ = some (.int .i64 c') ∧ W2.cell? ⟨w.heap.size + 1, 3, none⟩ = some (.int .i64 d') ∧ W2.cell? ⟨w.heap.size + 1, 4, none⟩ = some (.int .i64 p') ∧ W2.cell? ⟨w.heap.size + 1, 5, none⟩ = some (.int .i64 s'))) ∧ Below W0.heap.size W0 W2) := fun W1 W2 h1 h2 => by
    have h1s := h1.2.size
    have hsz' : w.heap.size + 1 + 1 ≤ W0.heap.size := hsz
    have hq0 : w.heap.size < W1.heap.size := by omega
    have hq1 : w.heap.size + 1 < W1.heap.size := by omega
    obtain ⟨⟨⟨h00, h01, h02, h03, h04, h05⟩, ⟨h10, h11, h12, h13, h14, h15⟩⟩, h1b⟩ := h1
    exact ⟨⟨⟨(h2.cell (p := ⟨w.heap.size, 0, none⟩) hq0).trans h00, (h2.cell (p := ⟨w.heap.size, 1, none⟩) hq0).trans h01, (h2.cell (p := ⟨w.heap.size, 2, none⟩) hq0).trans h02, (h2.cell (p := ⟨w.heap.size, 3, none⟩) hq0).trans h03, (h2.cell (p := ⟨w.heap.size, 4, none⟩) hq0).trans h04, (h2.cell (p := ⟨w.heap.size, 5, none⟩) hq0).trans h05⟩, ⟨(h2.cell (p := ⟨w.heap.size + 1, 0, none⟩) hq1).trans h10, (h2.cell (p := ⟨w.heap.size + 1, 1, none⟩) hq1).trans h11, (h2.cell (p := ⟨w.heap.size + 1, 2, none⟩) hq1).trans h12, (h2.cell (p := ⟨w.heap.size + 1, 3, none⟩) hq1).trans h13, (h2.cell (p := ⟨w.heap.size + 1, 4, none⟩) hq1).trans h14, (h2.cell (p := ⟨w.heap.size + 1, 5, none⟩) hq1).trans h15⟩⟩, h1b.trans (h2.mono h1s)⟩
  have keepH := Lib.hid keep
  clear keep
  go_wp2_with (first
    | (go_at_call 54; (with_reducible refine (cJ.out _).mono ?_); rintro e w' ⟨rfl, hbel⟩; replace hS := keepH.out _ _ hS ((Below.refl _ W0).alloc (Nat.le_refl _) (.cells #[.int .i64 a, .int .i64 b, .int .i64 c, .int .i64 d, .int .i64 p, .int .i64 s, .int .i64 a', .int .i64 b', .int .i64 c', .int .i64 d', .int .i64 p', .int .i64 s'] 29)); replace hS := keepH.out _ _ hS hbel; clear hbel)
    | (go_at_call 59; (with_reducible refine (goesSmoothly_any _ _ _ _ _ _ _ _ _ _ _ _ k1 k3 j1 _).mono ?_); rintro e w' ⟨rfl, hbel⟩; replace hS := keepH.out _ _ hS hbel; clear hbel))
  go_ret
  exact ⟨ret_bool (by rw [hx.out, h0]; rfl), below2' hB0 hS.2⟩
end Go.Proofs.Ytdgkpghecfpgoaa
