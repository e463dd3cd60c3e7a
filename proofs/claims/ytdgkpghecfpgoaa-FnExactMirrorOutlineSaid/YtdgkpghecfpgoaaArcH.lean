/-
  Arcs: the contracts of the functions on arcs by value, the model's and the program's.
-/
import Derived.Test.YtdgkpghecfpgoaaArcG
import Derived.Test.YtdgkpghecfpgoaaUnits
namespace Go.Proofs.Ytdgkpghecfpgoaa
open Go.ChangeShapes Go.WideShapes Go.ChangeAt Go.RowKit Go.Deep
set_option linter.unusedVariables false
set_option linter.unusedSimpArgs false
set_option maxRecDepth 1000000
set_option maxHeartbeats 3200000 in
theorem radiusSquared_any (a : Int) (b : Int) (c : Int) (d : Int) (p : Int) (s : Int) (h1 : ptB a b = true) (h2 : ptB c d = true) (w : World) : Calls Try.prog 57 #[.agg #[.int .i64 a, .int .i64 b, .int .i64 c, .int .i64 d, .int .i64 p, .int .i64 s]] w fun e w' => e = .returned (.int .i64 (radV ⟨a, b, c, d, p, s⟩)) ∧ Below w.heap.size w w' := by
  go_enter Try.func57, Try.ntmps57
  go_wp2_with fail
  obtain ⟨q1, hB0, hsz⟩ := one_box w #[.int .i64 a, .int .i64 b, .int .i64 c, .int .i64 d, .int .i64 p, .int .i64 s] 29
  generalize (w.alloc (.cells #[.int .i64 a, .int .i64 b, .int .i64 c, .int .i64 d, .int .i64 p, .int .i64 s] 29)) = W0 at q1 hB0 hsz ⊢
  have hS0 : ((W0.cell? ⟨w.heap.size, 0, none⟩ = some (.int .i64 a) ∧ W0.cell? ⟨w.heap.size, 1, none⟩ = some (.int .i64 b) ∧ W0.cell? ⟨w.heap.size, 2, none⟩ = some (.int .i64 c) ∧ W0.cell? ⟨w.heap.size, 3, none⟩ = some (.int .i64 d) ∧ W0.cell? ⟨w.heap.size, 4, none⟩ = some (.int .i64 p) ∧ W0.cell? ⟨w.heap.size, 5, none⟩ = some (.int .i64 s)) ∧ Below w.heap.size w W0) := ⟨⟨q1 0 _ rfl, q1 1 _ rfl, q1 2 _ rfl, q1 3 _ rfl, q1 4 _ rfl, q1 5 _ rfl⟩, hB0⟩
  clear q1
  have hS : ((W0.cell? ⟨w.heap.size, 0, none⟩ = some (.int .i64 a) ∧ W0.cell? ⟨w.heap.size, 1, none⟩ = some (.int .i64 b) ∧ W0.cell? ⟨w.heap.size, 2, none⟩ = some (.int .i64 c) ∧ W0.cell? ⟨w.heap.size, 3, none⟩ = some (.int .i64 d) ∧ W0.cell? ⟨w.heap.size, 4, none⟩ = some (.int .i64 p) ∧ W0.cell? ⟨w.heap.size, 5, none⟩ = some (.int .i64 s)) ∧ Below W0.heap.size W0 W0) := ⟨hS0.1, Below.refl _ _⟩
  clear hS0
  have keep : ∀ W1 W2, ((W1.cell? ⟨w.heap.size, 0, none⟩ = some (.int .i64 a) ∧ W1.cell? ⟨w.heap.size, 1, none⟩ = some (.int .i64 b) ∧ W1.cell? ⟨w.heap.size, 2, none⟩ = some (.int .i64 c) ∧ W1.cell? ⟨w.heap.size, 3, none⟩ = some (.int .i64 d) ∧ W1.cell? ⟨w.heap.size, 4, none⟩ = some (.int .i64 p) ∧ W1.cell? ⟨w.heap.size, 5, none⟩ = some (.int .i64 s)) ∧ Below W0.heap.size W0 W1) → Below W1.heap.size W1 W2 → ((W2.cell? ⟨w.heap.size, 0, none⟩ = some (.int .i64 a) ∧ W2.cell? ⟨w.heap.size, 1, none⟩ = some (.int .i64 b) ∧ W2.cell? ⟨w.heap.size, 2, none⟩ = some (.int .i64 c) ∧ W2.cell? ⟨w.heap.size, 3, none⟩ = some (.int .i64 d) ∧ W2.cell? ⟨w.heap.size, 4, none⟩ = some (.int .i64 p) ∧ W2.cell? ⟨w.heap.size, 5, none⟩ = some (.int .i64 s)) ∧ Below W0.heap.size W0 W2) := fun W1 W2 h1 h2 => by
    have h1s := h1.2.size
    have hsz' : w.heap.size + 0 + 1 ≤ W0.heap.size := hsz
    have hq0 : w.heap.size < W1.heap.size := by omega
    have hq1 : w.heap.size + 0 < W1.heap.size := by omega
    obtain ⟨⟨h00, h01, h02, h03, h04, h05⟩, h1b⟩ := h1
    exact ⟨⟨(h2.cell (p := ⟨w.heap.size, 0, none⟩) hq0).trans h00, (h2.cell (p := ⟨w.heap.size, 1, none⟩) hq0).trans h01, (h2.cell (p := ⟨w.heap.size, 2, none⟩) hq0).trans h02, (h2.cell (p := ⟨w.heap.size, 3, none⟩) hq0).trans h03, (h2.cell (p := ⟨w.heap.size, 4, none⟩) hq0).trans h04, (h2.cell (p := ⟨w.heap.size, 5, none⟩) hq0).trans h05⟩, h1b.trans (h2.mono h1s)⟩
  have keepH := Lib.hid keep
  clear keep
  go_wp2_with (go_at_call 51; (with_reducible refine (squareTo_any _ _ _ _ _ _ _ _ h1 h2 _).mono ?_); rintro e w' ⟨rfl, hbel⟩; replace hS := keepH.out _ _ hS hbel; clear hbel)
  go_ret
  exact ⟨rfl, below2' hB0 hS.2⟩
set_option maxHeartbeats 3200000 in
theorem goesSmoothly_any (a : Int) (b : Int) (c : Int) (d : Int) (p : Int) (s : Int) (a' : Int) (b' : Int) (c' : Int) (d' : Int) (p' : Int) (s' : Int) (h1 : ptB a b = true) (h2 : ptB p s = true) (h3 : ptB a' b' = true) (w : World) : Calls Try.prog 59 #[.agg #[.int .i64 a, .int .i64 b, .int .i64 c, .int .i64 d, .int .i64 p, .int .i64 s], .agg #[.int .i64 a', .int .i64 b', .int .i64 c', .int .i64 d', .int .i64 p', .int .i64 s']] w fun e w' => e = .returned (.bool (smoB ⟨a, b, c, d, p, s⟩ ⟨a', b', c', d', p', s'⟩)) ∧ Below w.heap.size w w' := by
  have p1 := ptB_bd h1
  have p2 := ptB_bd h2
  have p3 := ptB_bd h3
  obtain ⟨re, im, hsub, f1, f2⟩ := cx_sub a b p s p1.1 p1.2 p2.1 p2.2
  obtain ⟨re', im', hsub', f1', f2'⟩ := cx_sub a' b' p s p3.1 p3.2 p2.1 p2.2
  have hC : ∀ w, _ := fun w => crossProduct_any re im re' im' _ _ _ _ f1 f2 f1' f2' (by omega) (by omega) (by omega) (by omega) w
  have hC' := Lib.hid hC
  have hx : Hid (smoB ⟨a, b, c, d, p, s⟩ ⟨a', b', c', d', p', s'⟩ = (((a - p) * (b' - s) - (b - s) * (a' - p)) == 0)) := Lib.hid rfl
  clear hC f1 f2 f1' f2' p1 p2 p3
  go_enter Try.func59, Try.ntmps59
  go_wp2_with fail
  obtain ⟨q1, q2, hB0, hsz⟩ := two_boxes w #[.int .i64 a, .int .i64 b, .int .i64 c, .int .i64 d, .int .i64 p, .int .i64 s] 29 #[.int .i64 a', .int .i64 b', .int .i64 c', .int .i64 d', .int .i64 p', .int .i64 s'] 29
  generalize ((w.alloc (.cells #[.int .i64 a, .int .i64 b, .int .i64 c, .int .i64 d, .int .i64 p, .int .i64 s] 29)).alloc (.cells #[.int .i64 a', .int .i64 b', .int .i64 c', .int .i64 d', .int .i64 p', .int .i64 s'] 29)) = W0 at q1 q2 hB0 hsz ⊢
  have hS0 : (((W0.cell? ⟨w.heap.size, 0, none⟩ = some (.int .i64 a) ∧ W0.cell? ⟨w.heap.size, 1, none⟩ = some (.int .i64 b) ∧ W0.cell? ⟨w.heap.size, 2, none⟩ = some (.int .i64 c) ∧ W0.cell? ⟨w.heap.size, 3, none⟩ = some (.int .i64 d) ∧ W0.cell? ⟨w.heap.size, 4, none⟩ = some (.int .i64 p) ∧ W0.cell? ⟨w.heap.size, 5, none⟩ = some (.int .i64 s)) ∧ (W0.cell? ⟨w.heap.size + 1, 0, none⟩ = some (.int .i64 a') ∧ W0.cell? ⟨w.heap.size + 1, 1, none⟩ = some (.int .i64 b') ∧ W0.cell? ⟨w.heap.size + 1, 2, none⟩ = some (.int .i64 c') ∧ W0.cell? ⟨w.heap.size + 1, 3, none⟩ = some (.int .i64 d') ∧ W0.cell? ⟨w.heap.size + 1, 4, none⟩ = some (.int .i64 p') ∧ W0.cell? ⟨w.heap.size + 1, 5, none⟩ = some (.int .i64 s'))) ∧ Below w.heap.size w W0) := ⟨⟨⟨q1 0 _ rfl, q1 1 _ rfl, q1 2 _ rfl, q1 3 _ rfl, q1 4 _ rfl, q1 5 _ rfl⟩, ⟨q2 0 _ rfl, q2 1 _ rfl, q2 2 _ rfl, q2 3 _ rfl, q2 4 _ rfl, q2 5 _ rfl⟩⟩, hB0⟩
  clear q1 q2
  have hS : (((W0.cell? ⟨w.heap.size, 0, none⟩ = some (.int .i64 a) ∧ W0.cell? ⟨w.heap.size, 1, none⟩ = some (.int .i64 b) ∧ W0.cell? ⟨w.heap.size, 2, none⟩ = some (.int .i64 c) ∧ W0.cell? ⟨w.heap.size, 3, none⟩ = some (.int .i64 d) ∧ W0.cell? ⟨w.heap.size, 4, none⟩ = some (.int .i64 p) ∧ W0.cell? ⟨w.heap.size, 5, none⟩ = some (.int .i64 s)) ∧ (W0.cell? ⟨w.heap.size + 1, 0, none⟩ = some (.int .i64 a') ∧ W0.cell? ⟨w.heap.size + 1, 1, none⟩ = some (.int .i64 b') ∧ W0.cell? ⟨w.heap.size + 1, 2, none⟩ = some (.int .i64 c') ∧ W0.cell? ⟨w.heap.size + 1, 3, none⟩ = some (.int .i64 d') ∧ W0.cell? ⟨w.heap.size + 1, 4, none⟩ = some (.int .i64 p') ∧ W0.cell? ⟨w.heap.size + 1, 5, none⟩ = some (.int .i64 s'))) ∧ Below W0.heap.size W0 W0) := ⟨hS0.1, Below.refl _ _⟩
  clear hS0
  have keep : ∀ W1 W2, (((W1.cell? ⟨w.heap.size, 0, none⟩ = some (.int .i64 a) ∧ W1.cell? ⟨w.heap.size, 1, none⟩ = some (.int .i64 b) ∧ W1.cell? ⟨w.heap.size, 2, none⟩ = some (.int .i64 c) ∧ W1.cell? ⟨w.heap.size, 3, none⟩ = some (.int .i64 d) ∧ W1.cell? ⟨w.heap.size, 4, none⟩ = some (.int .i64 p) ∧ W1.cell? ⟨w.heap.size, 5, none⟩ = some (.int .i64 s)) ∧ (W1.cell? ⟨w.heap.size + 1, 0, none⟩ = some (.int .i64 a') ∧ W1.cell? ⟨w.heap.size + 1, 1, none⟩ = some (.int .i64 b') ∧ W1.cell? ⟨w.heap.size + 1, 2, none⟩ = some (.int .i64 c') ∧ W1.cell? ⟨w.heap.size + 1, 3, none⟩ = some (.int .i64 d') ∧ W1.cell? ⟨w.heap.size + 1, 4, none⟩ = some (.int .i64 p') ∧ W1.cell? ⟨w.heap.size + 1, 5, none⟩ = some (.int .i64 s'))) ∧ Below W0.heap.size W0 W1) → Below W1.heap.size W1 W2 → (((W2.cell? ⟨w.heap.size, 0, none⟩ = some (.int .i64 a) ∧ W2.cell? ⟨w.heap.size, 1, none⟩ = some (.int .i64 b) ∧ W2.cell? ⟨w.heap.size, 2, none⟩ = some (.int .i64 c) ∧ W2.cell? ⟨w.heap.size, 3, none⟩ = some (.int .i64 d) ∧ W2.cell? ⟨w.heap.size, 4, none⟩ = some (.int .i64 p) ∧ W2.cell? ⟨w.heap.size, 5, none⟩ = some (.int .i64 s)) ∧ (W2.cell? ⟨w.heap.size + 1, 0, none⟩ = some (.int .i64 a') ∧ W2.cell? ⟨w.heap.size + 1, 1, none⟩ = some (.int .i64 b') ∧ W2.cell? ⟨w.heap.size + 1, 2, none⟩ = some (.int .i64 c') ∧ W2.cell? ⟨w.heap.size + 1, 3, none⟩ = some (.int .i64 d') ∧ W2.cell? ⟨w.heap.size + 1, 4, none⟩ = some (.int .i64 p') ∧ W2.cell? ⟨w.heap.size + 1, 5, none⟩ = some (.int .i64 s'))) ∧ Below W0.heap.size W0 W2) := fun W1 W2 h1 h2 => by
    have h1s := h1.2.size
    have hsz' : w.heap.size + 1 + 1 ≤ W0.heap.size := hsz
    have hq0 : w.heap.size < W1.heap.size := by omega
    have hq1 : w.heap.size + 1 < W1.heap.size := by omega
    obtain ⟨⟨⟨h00, h01, h02, h03, h04, h05⟩, ⟨h10, h11, h12, h13, h14, h15⟩⟩, h1b⟩ := h1
    exact ⟨⟨⟨(h2.cell (p := ⟨w.heap.size, 0, none⟩) hq0).trans h00, (h2.cell (p := ⟨w.heap.size, 1, none⟩) hq0).trans h01, (h2.cell (p := ⟨w.heap.size, 2, none⟩) hq0).trans h02, (h2.cell (p := ⟨w.heap.size, 3, none⟩) hq0).trans h03, (h2.cell (p := ⟨w.heap.size, 4, none⟩) hq0).trans h04, (h2.cell (p := ⟨w.heap.size, 5, none⟩) hq0).trans h05⟩, ⟨(h2.cell (p := ⟨w.heap.size + 1, 0, none⟩) hq1).trans h10, (h2.cell (p := ⟨w.heap.size + 1, 1, none⟩) hq1).trans h11, (h2.cell (p := ⟨w.heap.size + 1, 2, none⟩) hq1).trans h12, (h2.cell (p := ⟨w.heap.size + 1, 3, none⟩) hq1).trans h13, (h2.cell (p := ⟨w.heap.size + 1, 4, none⟩) hq1).trans h14, (h2.cell (p := ⟨w.heap.size + 1, 5, none⟩) hq1).trans h15⟩⟩, h1b.trans (h2.mono h1s)⟩
  have keepH := Lib.hid keep
  clear keep
  go_wp2_with (go_at_call 74; (with_reducible refine (number_any _ _ _).mono ?_); rintro e w' ⟨rfl, hbel⟩; replace hS := keepH.out _ _ hS hbel; clear hbel)
  go_region_held3 (fun w' => (((w'.cell? ⟨w.heap.size, 0, none⟩ = some (.int .i64 a) ∧ w'.cell? ⟨w.heap.size, 1, none⟩ = some (.int .i64 b) ∧ w'.cell? ⟨w.heap.size, 2, none⟩ = some (.int .i64 c) ∧ w'.cell? ⟨w.heap.size, 3, none⟩ = some (.int .i64 d) ∧ w'.cell? ⟨w.heap.size, 4, none⟩ = some (.int .i64 p) ∧ w'.cell? ⟨w.heap.size, 5, none⟩ = some (.int .i64 s)) ∧ (w'.cell? ⟨w.heap.size + 1, 0, none⟩ = some (.int .i64 a') ∧ w'.cell? ⟨w.heap.size + 1, 1, none⟩ = some (.int .i64 b') ∧ w'.cell? ⟨w.heap.size + 1, 2, none⟩ = some (.int .i64 c') ∧ w'.cell? ⟨w.heap.size + 1, 3, none⟩ = some (.int .i64 d') ∧ w'.cell? ⟨w.heap.size + 1, 4, none⟩ = some (.int .i64 p') ∧ w'.cell? ⟨w.heap.size + 1, 5, none⟩ = some (.int .i64 s'))) ∧ Below W0.heap.size W0 w'))
    (first | exact ⟨hS.1, belowN hS.2 1⟩ | exact keepH.out _ _ (by assumption) (by assumption) | assumption)
    (first | (go_at_call 74; (with_reducible refine (number_any _ _ _).mono ?_); rintro e w' ⟨rfl, hbel⟩) | (go_at_call 73; (with_reducible refine (hC'.out _).mono ?_); rintro e w' ⟨rfl, rfl⟩))
  rename_i hHeld
  clear hS keepH
  go_wp2
  go_ret
  exact ⟨ret_bool (by rw [hx.out]), below2' hB0 hHeld.2⟩
set_option maxHeartbeats 3200000 in
theorem implValidArc_any (a : Int) (b : Int) (c : Int) (d : Int) (p : Int) (s : Int) (w : World) : Calls Try.prog 17 #[.agg #[.int .i64 a, .int .i64 b, .int .i64 c, .int .i64 d, .int .i64 p, .int .i64 s]] w fun e w' => e = .returned (.bool (arcB ⟨a, b, c, d, p, s⟩)) ∧ Below w.heap.size w w' := by
  have hx : Hid (arcB ⟨a, b, c, d, p, s⟩ = (arc3B ⟨a, b, c, d, p, s⟩ && !((c == p) && (d == s)) && (sqd a b c d == sqd a b p s))) := Lib.hid rfl
  cases h0 : arc3B ⟨a, b, c, d, p, s⟩
  · go_enter Try.func17, Try.ntmps17
    go_wp2
    obtain ⟨q1, hB0, hsz⟩ := one_box w #[.int .i64 a, .int .i64 b, .int .i64 c, .int .i64 d, .int .i64 p, .int .i64 s] 29
    generalize (w.alloc (.cells #[.int .i64 a, .int .i64 b, .int .i64 c, .int .i64 d, .int .i64 p, .int .i64 s] 29)) = W0 at q1 hB0 hsz ⊢
    have hS0 : ((W0.cell? ⟨w.heap.size, 0, none⟩ = some (.int .i64 a) ∧ W0.cell? ⟨w.heap.size, 1, none⟩ = some (.int .i64 b) ∧ W0.cell? ⟨w.heap.size, 2, none⟩ = some (.int .i64 c) ∧ W0.cell? ⟨w.heap.size, 3, none⟩ = some (.int .i64 d) ∧ W0.cell? ⟨w.heap.size, 4, none⟩ = some (.int .i64 p) ∧ W0.cell? ⟨w.heap.size, 5, none⟩ = some (.int .i64 s)) ∧ Below w.heap.size w W0) := ⟨⟨q1 0 _ rfl, q1 1 _ rfl, q1 2 _ rfl, q1 3 _ rfl, q1 4 _ rfl, q1 5 _ rfl⟩, hB0⟩
    clear q1
    have hS : ((W0.cell? ⟨w.heap.size, 0, none⟩ = some (.int .i64 a) ∧ W0.cell? ⟨w.heap.size, 1, none⟩ = some (.int .i64 b) ∧ W0.cell? ⟨w.heap.size, 2, none⟩ = some (.int .i64 c) ∧ W0.cell? ⟨w.heap.size, 3, none⟩ = some (.int .i64 d) ∧ W0.cell? ⟨w.heap.size, 4, none⟩ = some (.int .i64 p) ∧ W0.cell? ⟨w.heap.size, 5, none⟩ = some (.int .i64 s)) ∧ Below W0.heap.size W0 W0) := ⟨hS0.1, Below.refl _ _⟩
    clear hS0
    have keep : ∀ W1 W2, ((W1.cell? ⟨w.heap.size, 0, none⟩ = some (.int .i64 a) ∧ W1.cell? ⟨w.heap.size, 1, none⟩ = some (.int .i64 b) ∧ W1.cell? ⟨w.heap.size, 2, none⟩ = some (.int .i64 c) ∧ W1.cell? ⟨w.heap.size, 3, none⟩ = some (.int .i64 d) ∧ W1.cell? ⟨w.heap.size, 4, none⟩ = some (.int .i64 p) ∧ W1.cell? ⟨w.heap.size, 5, none⟩ = some (.int .i64 s)) ∧ Below W0.heap.size W0 W1) → Below W1.heap.size W1 W2 → ((W2.cell? ⟨w.heap.size, 0, none⟩ = some (.int .i64 a) ∧ W2.cell? ⟨w.heap.size, 1, none⟩ = some (.int .i64 b) ∧ W2.cell? ⟨w.heap.size, 2, none⟩ = some (.int .i64 c) ∧ W2.cell? ⟨w.heap.size, 3, none⟩ = some (.int .i64 d) ∧ W2.cell? ⟨w.heap.size, 4, none⟩ = some (.int .i64 p) ∧ W2.cell? ⟨w.heap.size, 5, none⟩ = some (.int .i64 s)) ∧ Below W0.heap.size W0 W2) := fun W1 W2 h1 h2 => by
      have h1s := h1.2.size
      have hsz' : w.heap.size + 0 + 1 ≤ W0.heap.size := hsz
      have hq0 : w.heap.size < W1.heap.size := by omega
      have hq1 : w.heap.size + 0 < W1.heap.size := by omega
      obtain ⟨⟨h00, h01, h02, h03, h04, h05⟩, h1b⟩ := h1
      exact ⟨⟨(h2.cell (p := ⟨w.heap.size, 0, none⟩) hq0).trans h00, (h2.cell (p := ⟨w.heap.size, 1, none⟩) hq0).trans h01, (h2.cell (p := ⟨w.heap.size, 2, none⟩) hq0).trans h02, (h2.cell (p := ⟨w.heap.size, 3, none⟩) hq0).trans h03, (h2.cell (p := ⟨w.heap.size, 4, none⟩) hq0).trans h04, (h2.cell (p := ⟨w.heap.size, 5, none⟩) hq0).trans h05⟩, h1b.trans (h2.mono h1s)⟩
    have keepH := Lib.hid keep
    clear keep
    refine wp_region_noPanic ?_
    refine wp_region_held_drew (S := (fun w' => ((w'.cell? ⟨w.heap.size, 0, none⟩ = some (.int .i64 a) ∧ w'.cell? ⟨w.heap.size, 1, none⟩ = some (.int .i64 b) ∧ w'.cell? ⟨w.heap.size, 2, none⟩ = some (.int .i64 c) ∧ w'.cell? ⟨w.heap.size, 3, none⟩ = some (.int .i64 d) ∧ w'.cell? ⟨w.heap.size, 4, none⟩ = some (.int .i64 p) ∧ w'.cell? ⟨w.heap.size, 5, none⟩ = some (.int .i64 s)) ∧ Below W0.heap.size W0 w'))) (by kernel_rfl) ?_ (fun hHeld => ?_)
    · exact ⟨hS.1, belowN hS.2 1⟩
    refine wpAnyH_take (i := 0) (oi := ⟨some 3, _, _, _, _, _⟩) (v := ?vvz139) rfl (by kernel_rfl) (by kernel_rfl) (by kernel_rfl) (fun _ _ _ h => h) (Or.inl ⟨by rfl, ?hyz139⟩) (by assumption) ?restz139
    case hyz139 => (intro w hSw; (try dsimp only at hSw); go_simp; try with_reducible rfl)
    try simp only [Act.put, List.setIfInBounds_toArray, List.set_cons_zero, List.set_cons_succ]
    refine wpAnyH_ready (rs := [1]) (by kernel_rfl) (by simp) ?_
    refine AllReadyH.cons (o := ⟨some 4, _, _, _, _, _⟩) rfl (fun K hK => ?_) AllReadyH.nil
    go_simp
    (go_at_call 50; (with_reducible refine (hasPoints_any _ _ _ _ _ _ _).mono ?_); rintro e w' ⟨rfl, hbel⟩)
    try go_wp2_with fail
    refine hK.out _ _ ?_ (fun hHeld2 => ?_)
    · exact keepH.out _ _ (by assumption) (by assumption)
    clear hK K hHeld
    have hHeld := hHeld2
    clear hHeld2
    try simp only [Act.put, List.setIfInBounds_toArray, List.set_cons_zero, List.set_cons_succ]
    refine wpAnyH_take (i := 2) (oi := ⟨some 5, _, _, _, _, _⟩) (v := ?vvz140) rfl (by kernel_rfl) (by kernel_rfl) (by kernel_rfl) (fun _ _ _ h => h) (Or.inl ⟨by rfl, ?hyz140⟩) (by assumption) ?restz140
    case hyz140 => (intro w hSw; (try dsimp only at hSw); go_simp; try with_reducible rfl)
    try simp only [Act.put, List.setIfInBounds_toArray, List.set_cons_zero, List.set_cons_succ]
    refine wpAnyH_take (i := 3) (oi := ⟨some 6, _, _, _, _, _⟩) (v := undef) rfl (by kernel_rfl) (by kernel_rfl) (by kernel_rfl) (fun _ _ _ h => h) (Or.inr ⟨by rfl, rfl⟩) (by assumption) ?_
    try simp only [Act.put, List.setIfInBounds_toArray, List.set_cons_zero, List.set_cons_succ]
    refine wpAnyH_take (i := 4) (oi := ⟨some 7, _, _, _, _, _⟩) (v := undef) rfl (by kernel_rfl) (by kernel_rfl) (by kernel_rfl) (fun _ _ _ h => h) (Or.inr ⟨by rfl, rfl⟩) (by assumption) ?_
    try simp only [Act.put, List.setIfInBounds_toArray, List.set_cons_zero, List.set_cons_succ]
    refine wpAnyH_take (i := 5) (oi := ⟨some 8, _, _, _, _, _⟩) (v := undef) rfl (by kernel_rfl) (by kernel_rfl) (by kernel_rfl) (fun _ _ _ h => h) (Or.inr ⟨by rfl, rfl⟩) (by assumption) ?_
    try simp only [Act.put, List.setIfInBounds_toArray, List.set_cons_zero, List.set_cons_succ]
    refine wpAnyH_take (i := 6) (oi := ⟨some 9, _, _, _, _, _⟩) (v := undef) rfl (by kernel_rfl) (by kernel_rfl) (by kernel_rfl) (fun _ _ _ h => h) (Or.inr ⟨by rfl, rfl⟩) (by assumption) ?_
    try simp only [Act.put, List.setIfInBounds_toArray, List.set_cons_zero, List.set_cons_succ]
    refine wpAnyH_take (i := 7) (oi := ⟨some 10, _, _, _, _, _⟩) (v := undef) rfl (by kernel_rfl) (by kernel_rfl) (by kernel_rfl) (fun _ _ _ h => h) (Or.inr ⟨by rfl, rfl⟩) (by assumption) ?_
    try simp only [Act.put, List.setIfInBounds_toArray, List.set_cons_zero, List.set_cons_succ]
    refine wpAnyH_take (i := 8) (oi := ⟨some 11, _, _, _, _, _⟩) (v := ?vvz141) rfl (by kernel_rfl) (by kernel_rfl) (by kernel_rfl) (fun _ _ _ h => h) (Or.inl ⟨by rfl, ?hyz141⟩) (by assumption) ?restz141
    case hyz141 => (intro w hSw; (try dsimp only at hSw); go_simp; try with_reducible rfl)
    try simp only [Act.put, List.setIfInBounds_toArray, List.set_cons_zero, List.set_cons_succ]
    refine wpAnyH_take (i := 9) (oi := ⟨some 12, _, _, _, _, _⟩) (v := ?vvz142) rfl (by kernel_rfl) (by kernel_rfl) (by kernel_rfl) (fun _ _ _ h => h) (Or.inl ⟨by rfl, ?hyz142⟩) (by assumption) ?restz142
    case hyz142 => (intro w hSw; (try dsimp only at hSw); go_simp; try with_reducible rfl)
    try simp only [Act.put, List.setIfInBounds_toArray, List.set_cons_zero, List.set_cons_succ]
    refine wpAnyH_take (i := 10) (oi := ⟨some 13, _, _, _, _, _⟩) (v := undef) rfl (by kernel_rfl) (by kernel_rfl) (by kernel_rfl) (fun _ _ _ h => h) (Or.inr ⟨by rfl, rfl⟩) (by assumption) ?_
    try simp only [Act.put, List.setIfInBounds_toArray, List.set_cons_zero, List.set_cons_succ]
    refine wpAnyH_take (i := 11) (oi := ⟨some 14, _, _, _, _, _⟩) (v := undef) rfl (by kernel_rfl) (by kernel_rfl) (by kernel_rfl) (fun _ _ _ h => h) (Or.inr ⟨by rfl, rfl⟩) (by assumption) ?_
    try simp only [Act.put, List.setIfInBounds_toArray, List.set_cons_zero, List.set_cons_succ]
    refine wpAnyH_take (i := 12) (oi := ⟨some 15, _, _, _, _, _⟩) (v := undef) rfl (by kernel_rfl) (by kernel_rfl) (by kernel_rfl) (fun _ _ _ h => h) (Or.inr ⟨by rfl, rfl⟩) (by assumption) ?_
    try simp only [Act.put, List.setIfInBounds_toArray, List.set_cons_zero, List.set_cons_succ]
    refine wpAnyH_take (i := 13) (oi := ⟨some 16, _, _, _, _, _⟩) (v := undef) rfl (by kernel_rfl) (by kernel_rfl) (by kernel_rfl) (fun _ _ _ h => h) (Or.inr ⟨by rfl, rfl⟩) (by assumption) ?_
    try simp only [Act.put, List.setIfInBounds_toArray, List.set_cons_zero, List.set_cons_succ]
    refine wpAnyH_take (i := 14) (oi := ⟨some 17, _, _, _, _, _⟩) (v := undef) rfl (by kernel_rfl) (by kernel_rfl) (by kernel_rfl) (fun _ _ _ h => h) (Or.inr ⟨by rfl, rfl⟩) (by assumption) ?_
    try simp only [Act.put, List.setIfInBounds_toArray, List.set_cons_zero, List.set_cons_succ]
    refine wpAnyH_take (i := 15) (oi := ⟨some 18, _, _, _, _, _⟩) (v := undef) rfl (by kernel_rfl) (by kernel_rfl) (by kernel_rfl) (fun _ _ _ h => h) (Or.inr ⟨by rfl, rfl⟩) (by assumption) ?_
    try simp only [Act.put, List.setIfInBounds_toArray, List.set_cons_zero, List.set_cons_succ]
    refine wpAnyH_take (i := 16) (oi := ⟨some 19, _, _, _, _, _⟩) (v := undef) rfl (by kernel_rfl) (by kernel_rfl) (by kernel_rfl) (fun _ _ _ h => h) (Or.inr ⟨by rfl, rfl⟩) (by assumption) ?_
    try simp only [Act.put, List.setIfInBounds_toArray, List.set_cons_zero, List.set_cons_succ]
    refine wpAnyH_take (i := 17) (oi := ⟨some 20, _, _, _, _, _⟩) (v := undef) rfl (by kernel_rfl) (by kernel_rfl) (by kernel_rfl) (fun _ _ _ h => h) (Or.inr ⟨by rfl, rfl⟩) (by assumption) ?_
    try simp only [Act.put, List.setIfInBounds_toArray, List.set_cons_zero, List.set_cons_succ]
    refine wpAnyH_take (i := 18) (oi := ⟨some 21, _, _, _, _, _⟩) (v := undef) rfl (by kernel_rfl) (by kernel_rfl) (by kernel_rfl) (fun _ _ _ h => h) (Or.inr ⟨by rfl, rfl⟩) (by assumption) ?_
    try simp only [Act.put, List.setIfInBounds_toArray, List.set_cons_zero, List.set_cons_succ]
    refine wpAnyH_take (i := 19) (oi := ⟨some 22, _, _, _, _, _⟩) (v := ?vvz143) rfl (by kernel_rfl) (by kernel_rfl) (by kernel_rfl) (fun _ _ _ h => h) (Or.inl ⟨by rfl, ?hyz143⟩) (by assumption) ?restz143
    case hyz143 => (intro w hSw; (try dsimp only at hSw); go_simp; try with_reducible rfl)
    try simp only [Act.put, List.setIfInBounds_toArray, List.set_cons_zero, List.set_cons_succ]
    refine wpAnyH_take (i := 20) (oi := ⟨some 2, _, _, _, _, _⟩) (v := ?vvz144) rfl (by kernel_rfl) (by kernel_rfl) (by kernel_rfl) (fun _ _ _ h => h) (Or.inl ⟨by rfl, ?hyz144⟩) (by assumption) ?restz144
    case hyz144 => (intro w hSw; (try dsimp only at hSw); go_simp; try with_reducible rfl)
    try simp only [Act.put, List.setIfInBounds_toArray, List.set_cons_zero, List.set_cons_succ]
    refine wpAnyH_done (by kernel_rfl) ?_ _
    refine NoPanic.normal ?_
    clear hS
    go_wp2
    go_ret
    exact ⟨ret_bool (by rw [hx.out, h0]; rfl), below2' hB0 hHeld.2⟩
  have h123 : ptB a b = true ∧ ptB c d = true ∧ ptB p s = true := by
    have := h0
    unfold arc3B at this
    simp only [Bool.and_eq_true] at this
    exact ⟨this.1.1, this.1.2, this.2⟩
  obtain ⟨h1, h2, h3⟩ := h123
  cases h4 : !((c == p) && (d == s))
  · have h5 : (c == p) = true ∧ (d == s) = true := by simpa using h4
    obtain ⟨h5, h6⟩ := h5
    go_enter Try.func17, Try.ntmps17
    go_wp2
    obtain ⟨q1, hB0, hsz⟩ := one_box w #[.int .i64 a, .int .i64 b, .int .i64 c, .int .i64 d, .int .i64 p, .int .i64 s] 29
    generalize (w.alloc (.cells #[.int .i64 a, .int .i64 b, .int .i64 c, .int .i64 d, .int .i64 p, .int .i64 s] 29)) = W0 at q1 hB0 hsz ⊢
    have hS0 : ((W0.cell? ⟨w.heap.size, 0, none⟩ = some (.int .i64 a) ∧ W0.cell? ⟨w.heap.size, 1, none⟩ = some (.int .i64 b) ∧ W0.cell? ⟨w.heap.size, 2, none⟩ = some (.int .i64 c) ∧ W0.cell? ⟨w.heap.size, 3, none⟩ = some (.int .i64 d) ∧ W0.cell? ⟨w.heap.size, 4, none⟩ = some (.int .i64 p) ∧ W0.cell? ⟨w.heap.size, 5, none⟩ = some (.int .i64 s)) ∧ Below w.heap.size w W0) := ⟨⟨q1 0 _ rfl, q1 1 _ rfl, q1 2 _ rfl, q1 3 _ rfl, q1 4 _ rfl, q1 5 _ rfl⟩, hB0⟩
    clear q1
    have hS : ((W0.cell? ⟨w.heap.size, 0, none⟩ = some (.int .i64 a) ∧ W0.cell? ⟨w.heap.size, 1, none⟩ = some (.int .i64 b) ∧ W0.cell? ⟨w.heap.size, 2, none⟩ = some (.int .i64 c) ∧ W0.cell? ⟨w.heap.size, 3, none⟩ = some (.int .i64 d) ∧ W0.cell? ⟨w.heap.size, 4, none⟩ = some (.int .i64 p) ∧ W0.cell? ⟨w.heap.size, 5, none⟩ = some (.int .i64 s)) ∧ Below W0.heap.size W0 W0) := ⟨hS0.1, Below.refl _ _⟩
    clear hS0
    have keep : ∀ W1 W2, ((W1.cell? ⟨w.heap.size, 0, none⟩ = some (.int .i64 a) ∧ W1.cell? ⟨w.heap.size, 1, none⟩ = some (.int .i64 b) ∧ W1.cell? ⟨w.heap.size, 2, none⟩ = some (.int .i64 c) ∧ W1.cell? ⟨w.heap.size, 3, none⟩ = some (.int .i64 d) ∧ W1.cell? ⟨w.heap.size, 4, none⟩ = some (.int .i64 p) ∧ W1.cell? ⟨w.heap.size, 5, none⟩ = some (.int .i64 s)) ∧ Below W0.heap.size W0 W1) → Below W1.heap.size W1 W2 → ((W2.cell? ⟨w.heap.size, 0, none⟩ = some (.int .i64 a) ∧ W2.cell? ⟨w.heap.size, 1, none⟩ = some (.int .i64 b) ∧ W2.cell? ⟨w.heap.size, 2, none⟩ = some (.int .i64 c) ∧ W2.cell? ⟨w.heap.size, 3, none⟩ = some (.int .i64 d) ∧ W2.cell? ⟨w.heap.size, 4, none⟩ = some (.int .i64 p) ∧ W2.cell? ⟨w.heap.size, 5, none⟩ = some (.int .i64 s)) ∧ Below W0.heap.size W0 W2) := fun W1 W2 h1 h2 => by
      have h1s := h1.2.size
      have hsz' : w.heap.size + 0 + 1 ≤ W0.heap.size := hsz
      have hq0 : w.heap.size < W1.heap.size := by omega
      have hq1 : w.heap.size + 0 < W1.heap.size := by omega
      obtain ⟨⟨h00, h01, h02, h03, h04, h05⟩, h1b⟩ := h1
      exact ⟨⟨(h2.cell (p := ⟨w.heap.size, 0, none⟩) hq0).trans h00, (h2.cell (p := ⟨w.heap.size, 1, none⟩) hq0).trans h01, (h2.cell (p := ⟨w.heap.size, 2, none⟩) hq0).trans h02, (h2.cell (p := ⟨w.heap.size, 3, none⟩) hq0).trans h03, (h2.cell (p := ⟨w.heap.size, 4, none⟩) hq0).trans h04, (h2.cell (p := ⟨w.heap.size, 5, none⟩) hq0).trans h05⟩, h1b.trans (h2.mono h1s)⟩
    have keepH := Lib.hid keep
    clear keep
    refine wp_region_noPanic ?_
    refine wp_region_held_drew (S := (fun w' => ((w'.cell? ⟨w.heap.size, 0, none⟩ = some (.int .i64 a) ∧ w'.cell? ⟨w.heap.size, 1, none⟩ = some (.int .i64 b) ∧ w'.cell? ⟨w.heap.size, 2, none⟩ = some (.int .i64 c) ∧ w'.cell? ⟨w.heap.size, 3, none⟩ = some (.int .i64 d) ∧ w'.cell? ⟨w.heap.size, 4, none⟩ = some (.int .i64 p) ∧ w'.cell? ⟨w.heap.size, 5, none⟩ = some (.int .i64 s)) ∧ Below W0.heap.size W0 w'))) (by kernel_rfl) ?_ (fun hHeld => ?_)
    · exact ⟨hS.1, belowN hS.2 1⟩
    refine wpAnyH_take (i := 0) (oi := ⟨some 3, _, _, _, _, _⟩) (v := ?vvz145) rfl (by kernel_rfl) (by kernel_rfl) (by kernel_rfl) (fun _ _ _ h => h) (Or.inl ⟨by rfl, ?hyz145⟩) (by assumption) ?restz145
    case hyz145 => (intro w hSw; (try dsimp only at hSw); go_simp; try with_reducible rfl)
    try simp only [Act.put, List.setIfInBounds_toArray, List.set_cons_zero, List.set_cons_succ]
    refine wpAnyH_ready (rs := [1]) (by kernel_rfl) (by simp) ?_
    refine AllReadyH.cons (o := ⟨some 4, _, _, _, _, _⟩) rfl (fun K hK => ?_) AllReadyH.nil
    go_simp
    (go_at_call 50; (with_reducible refine (hasPoints_any _ _ _ _ _ _ _).mono ?_); rintro e w' ⟨rfl, hbel⟩)
    try go_wp2_with fail
    refine hK.out _ _ ?_ (fun hHeld2 => ?_)
    · exact keepH.out _ _ (by assumption) (by assumption)
    clear hK K hHeld
    have hHeld := hHeld2
    clear hHeld2
    try simp only [Act.put, List.setIfInBounds_toArray, List.set_cons_zero, List.set_cons_succ]
    refine wpAnyH_take (i := 2) (oi := ⟨some 5, _, _, _, _, _⟩) (v := ?vvz146) rfl (by kernel_rfl) (by kernel_rfl) (by kernel_rfl) (fun _ _ _ h => h) (Or.inl ⟨by rfl, ?hyz146⟩) (by assumption) ?restz146
    case hyz146 => (intro w hSw; (try dsimp only at hSw); go_simp; try with_reducible rfl)
    try simp only [Act.put, List.setIfInBounds_toArray, List.set_cons_zero, List.set_cons_succ]
    refine wpAnyH_take (i := 3) (oi := ⟨some 6, _, _, _, _, _⟩) (v := ?vvz147) rfl (by kernel_rfl) (by kernel_rfl) (by kernel_rfl) (fun _ _ _ h => h) (Or.inl ⟨by rfl, ?hyz147⟩) (by assumption) ?restz147
    case hyz147 => (intro w hSw; (try dsimp only at hSw); go_simp; try with_reducible rfl)
    try simp only [Act.put, List.setIfInBounds_toArray, List.set_cons_zero, List.set_cons_succ]
    refine wpAnyH_take (i := 4) (oi := ⟨some 7, _, _, _, _, _⟩) (v := ?vvz148) rfl (by kernel_rfl) (by kernel_rfl) (by kernel_rfl) (fun _ _ _ h => h) (Or.inl ⟨by rfl, ?hyz148⟩) (by assumption) ?restz148
    case hyz148 => (intro w hSw; (try dsimp only at hSw); go_simp; try with_reducible rfl)
    try simp only [Act.put, List.setIfInBounds_toArray, List.set_cons_zero, List.set_cons_succ]
    refine wpAnyH_take (i := 5) (oi := ⟨some 8, _, _, _, _, _⟩) (v := ?vvz149) rfl (by kernel_rfl) (by kernel_rfl) (by kernel_rfl) (fun _ _ _ h => h) (Or.inl ⟨by rfl, ?hyz149⟩) (by assumption) ?restz149
    case hyz149 => (intro w hSw; (try dsimp only at hSw); go_simp; try with_reducible rfl)
    try simp only [Act.put, List.setIfInBounds_toArray, List.set_cons_zero, List.set_cons_succ]
    refine wpAnyH_take (i := 6) (oi := ⟨some 9, _, _, _, _, _⟩) (v := ?vvz150) rfl (by kernel_rfl) (by kernel_rfl) (by kernel_rfl) (fun _ _ _ h => h) (Or.inl ⟨by rfl, ?hyz150⟩) (by assumption) ?restz150
    case hyz150 => (intro w hSw; (try dsimp only at hSw); go_simp; try with_reducible rfl)
    try simp only [Act.put, List.setIfInBounds_toArray, List.set_cons_zero, List.set_cons_succ]
    refine wpAnyH_take (i := 7) (oi := ⟨some 10, _, _, _, _, _⟩) (v := ?vvz151) rfl (by kernel_rfl) (by kernel_rfl) (by kernel_rfl) (fun _ _ _ h => h) (Or.inl ⟨by rfl, ?hyz151⟩) (by assumption) ?restz151
    case hyz151 => (intro w hSw; (try dsimp only at hSw); go_simp; try with_reducible rfl)
    try simp only [Act.put, List.setIfInBounds_toArray, List.set_cons_zero, List.set_cons_succ]
    refine wpAnyH_take (i := 8) (oi := ⟨some 11, _, _, _, _, _⟩) (v := ?vvz152) rfl (by kernel_rfl) (by kernel_rfl) (by kernel_rfl) (fun _ _ _ h => h) (Or.inl ⟨by rfl, ?hyz152⟩) (by assumption) ?restz152
    case hyz152 => (intro w hSw; (try dsimp only at hSw); go_simp; try with_reducible rfl)
    try simp only [Act.put, List.setIfInBounds_toArray, List.set_cons_zero, List.set_cons_succ]
    refine wpAnyH_take (i := 9) (oi := ⟨some 12, _, _, _, _, _⟩) (v := ?vvz153) rfl (by kernel_rfl) (by kernel_rfl) (by kernel_rfl) (fun _ _ _ h => h) (Or.inl ⟨by rfl, ?hyz153⟩) (by assumption) ?restz153
    case hyz153 => (intro w hSw; (try dsimp only at hSw); go_simp; try with_reducible rfl)
    try simp only [Act.put, List.setIfInBounds_toArray, List.set_cons_zero, List.set_cons_succ]
    refine wpAnyH_take (i := 10) (oi := ⟨some 13, _, _, _, _, _⟩) (v := undef) rfl (by kernel_rfl) (by kernel_rfl) (by kernel_rfl) (fun _ _ _ h => h) (Or.inr ⟨by rfl, rfl⟩) (by assumption) ?_
    try simp only [Act.put, List.setIfInBounds_toArray, List.set_cons_zero, List.set_cons_succ]
    refine wpAnyH_take (i := 11) (oi := ⟨some 14, _, _, _, _, _⟩) (v := undef) rfl (by kernel_rfl) (by kernel_rfl) (by kernel_rfl) (fun _ _ _ h => h) (Or.inr ⟨by rfl, rfl⟩) (by assumption) ?_
    try simp only [Act.put, List.setIfInBounds_toArray, List.set_cons_zero, List.set_cons_succ]
    refine wpAnyH_take (i := 12) (oi := ⟨some 15, _, _, _, _, _⟩) (v := undef) rfl (by kernel_rfl) (by kernel_rfl) (by kernel_rfl) (fun _ _ _ h => h) (Or.inr ⟨by rfl, rfl⟩) (by assumption) ?_
    try simp only [Act.put, List.setIfInBounds_toArray, List.set_cons_zero, List.set_cons_succ]
    refine wpAnyH_take (i := 13) (oi := ⟨some 16, _, _, _, _, _⟩) (v := undef) rfl (by kernel_rfl) (by kernel_rfl) (by kernel_rfl) (fun _ _ _ h => h) (Or.inr ⟨by rfl, rfl⟩) (by assumption) ?_
    try simp only [Act.put, List.setIfInBounds_toArray, List.set_cons_zero, List.set_cons_succ]
    refine wpAnyH_take (i := 14) (oi := ⟨some 17, _, _, _, _, _⟩) (v := undef) rfl (by kernel_rfl) (by kernel_rfl) (by kernel_rfl) (fun _ _ _ h => h) (Or.inr ⟨by rfl, rfl⟩) (by assumption) ?_
    try simp only [Act.put, List.setIfInBounds_toArray, List.set_cons_zero, List.set_cons_succ]
    refine wpAnyH_take (i := 15) (oi := ⟨some 18, _, _, _, _, _⟩) (v := undef) rfl (by kernel_rfl) (by kernel_rfl) (by kernel_rfl) (fun _ _ _ h => h) (Or.inr ⟨by rfl, rfl⟩) (by assumption) ?_
    try simp only [Act.put, List.setIfInBounds_toArray, List.set_cons_zero, List.set_cons_succ]
    refine wpAnyH_take (i := 16) (oi := ⟨some 19, _, _, _, _, _⟩) (v := undef) rfl (by kernel_rfl) (by kernel_rfl) (by kernel_rfl) (fun _ _ _ h => h) (Or.inr ⟨by rfl, rfl⟩) (by assumption) ?_
    try simp only [Act.put, List.setIfInBounds_toArray, List.set_cons_zero, List.set_cons_succ]
    refine wpAnyH_take (i := 17) (oi := ⟨some 20, _, _, _, _, _⟩) (v := undef) rfl (by kernel_rfl) (by kernel_rfl) (by kernel_rfl) (fun _ _ _ h => h) (Or.inr ⟨by rfl, rfl⟩) (by assumption) ?_
    try simp only [Act.put, List.setIfInBounds_toArray, List.set_cons_zero, List.set_cons_succ]
    refine wpAnyH_take (i := 18) (oi := ⟨some 21, _, _, _, _, _⟩) (v := undef) rfl (by kernel_rfl) (by kernel_rfl) (by kernel_rfl) (fun _ _ _ h => h) (Or.inr ⟨by rfl, rfl⟩) (by assumption) ?_
    try simp only [Act.put, List.setIfInBounds_toArray, List.set_cons_zero, List.set_cons_succ]
    refine wpAnyH_take (i := 19) (oi := ⟨some 22, _, _, _, _, _⟩) (v := ?vvz154) rfl (by kernel_rfl) (by kernel_rfl) (by kernel_rfl) (fun _ _ _ h => h) (Or.inl ⟨by rfl, ?hyz154⟩) (by assumption) ?restz154
    case hyz154 => (intro w hSw; (try dsimp only at hSw); go_simp; try with_reducible rfl)
    try simp only [Act.put, List.setIfInBounds_toArray, List.set_cons_zero, List.set_cons_succ]
    refine wpAnyH_take (i := 20) (oi := ⟨some 2, _, _, _, _, _⟩) (v := ?vvz155) rfl (by kernel_rfl) (by kernel_rfl) (by kernel_rfl) (fun _ _ _ h => h) (Or.inl ⟨by rfl, ?hyz155⟩) (by assumption) ?restz155
    case hyz155 => (intro w hSw; (try dsimp only at hSw); go_simp; try with_reducible rfl)
    try simp only [Act.put, List.setIfInBounds_toArray, List.set_cons_zero, List.set_cons_succ]
    refine wpAnyH_done (by kernel_rfl) ?_ _
    refine NoPanic.normal ?_
    clear hS
    go_wp2
    go_ret
    exact ⟨ret_bool (by rw [hx.out, h0, h4]; rfl), below2' hB0 hHeld.2⟩
  rcases pt_differ h4 with h5 | ⟨h5, h6⟩
  · go_enter Try.func17, Try.ntmps17
    go_wp2
    obtain ⟨q1, hB0, hsz⟩ := one_box w #[.int .i64 a, .int .i64 b, .int .i64 c, .int .i64 d, .int .i64 p, .int .i64 s] 29
    generalize (w.alloc (.cells #[.int .i64 a, .int .i64 b, .int .i64 c, .int .i64 d, .int .i64 p, .int .i64 s] 29)) = W0 at q1 hB0 hsz ⊢
    have hS0 : ((W0.cell? ⟨w.heap.size, 0, none⟩ = some (.int .i64 a) ∧ W0.cell? ⟨w.heap.size, 1, none⟩ = some (.int .i64 b) ∧ W0.cell? ⟨w.heap.size, 2, none⟩ = some (.int .i64 c) ∧ W0.cell? ⟨w.heap.size, 3, none⟩ = some (.int .i64 d) ∧ W0.cell? ⟨w.heap.size, 4, none⟩ = some (.int .i64 p) ∧ W0.cell? ⟨w.heap.size, 5, none⟩ = some (.int .i64 s)) ∧ Below w.heap.size w W0) := ⟨⟨q1 0 _ rfl, q1 1 _ rfl, q1 2 _ rfl, q1 3 _ rfl, q1 4 _ rfl, q1 5 _ rfl⟩, hB0⟩
    clear q1
    have hS : ((W0.cell? ⟨w.heap.size, 0, none⟩ = some (.int .i64 a) ∧ W0.cell? ⟨w.heap.size, 1, none⟩ = some (.int .i64 b) ∧ W0.cell? ⟨w.heap.size, 2, none⟩ = some (.int .i64 c) ∧ W0.cell? ⟨w.heap.size, 3, none⟩ = some (.int .i64 d) ∧ W0.cell? ⟨w.heap.size, 4, none⟩ = some (.int .i64 p) ∧ W0.cell? ⟨w.heap.size, 5, none⟩ = some (.int .i64 s)) ∧ Below W0.heap.size W0 W0) := ⟨hS0.1, Below.refl _ _⟩
    clear hS0
    have keep : ∀ W1 W2, ((W1.cell? ⟨w.heap.size, 0, none⟩ = some (.int .i64 a) ∧ W1.cell? ⟨w.heap.size, 1, none⟩ = some (.int .i64 b) ∧ W1.cell? ⟨w.heap.size, 2, none⟩ = some (.int .i64 c) ∧ W1.cell? ⟨w.heap.size, 3, none⟩ = some (.int .i64 d) ∧ W1.cell? ⟨w.heap.size, 4, none⟩ = some (.int .i64 p) ∧ W1.cell? ⟨w.heap.size, 5, none⟩ = some (.int .i64 s)) ∧ Below W0.heap.size W0 W1) → Below W1.heap.size W1 W2 → ((W2.cell? ⟨w.heap.size, 0, none⟩ = some (.int .i64 a) ∧ W2.cell? ⟨w.heap.size, 1, none⟩ = some (.int .i64 b) ∧ W2.cell? ⟨w.heap.size, 2, none⟩ = some (.int .i64 c) ∧ W2.cell? ⟨w.heap.size, 3, none⟩ = some (.int .i64 d) ∧ W2.cell? ⟨w.heap.size, 4, none⟩ = some (.int .i64 p) ∧ W2.cell? ⟨w.heap.size, 5, none⟩ = some (.int .i64 s)) ∧ Below W0.heap.size W0 W2) := fun W1 W2 h1 h2 => by
      have h1s := h1.2.size
      have hsz' : w.heap.size + 0 + 1 ≤ W0.heap.size := hsz
      have hq0 : w.heap.size < W1.heap.size := by omega
      have hq1 : w.heap.size + 0 < W1.heap.size := by omega
      obtain ⟨⟨h00, h01, h02, h03, h04, h05⟩, h1b⟩ := h1
      exact ⟨⟨(h2.cell (p := ⟨w.heap.size, 0, none⟩) hq0).trans h00, (h2.cell (p := ⟨w.heap.size, 1, none⟩) hq0).trans h01, (h2.cell (p := ⟨w.heap.size, 2, none⟩) hq0).trans h02, (h2.cell (p := ⟨w.heap.size, 3, none⟩) hq0).trans h03, (h2.cell (p := ⟨w.heap.size, 4, none⟩) hq0).trans h04, (h2.cell (p := ⟨w.heap.size, 5, none⟩) hq0).trans h05⟩, h1b.trans (h2.mono h1s)⟩
    have keepH := Lib.hid keep
    clear keep
    go_region_held3 (fun w' => ((w'.cell? ⟨w.heap.size, 0, none⟩ = some (.int .i64 a) ∧ w'.cell? ⟨w.heap.size, 1, none⟩ = some (.int .i64 b) ∧ w'.cell? ⟨w.heap.size, 2, none⟩ = some (.int .i64 c) ∧ w'.cell? ⟨w.heap.size, 3, none⟩ = some (.int .i64 d) ∧ w'.cell? ⟨w.heap.size, 4, none⟩ = some (.int .i64 p) ∧ w'.cell? ⟨w.heap.size, 5, none⟩ = some (.int .i64 s)) ∧ Below W0.heap.size W0 w'))
      (first | exact ⟨hS.1, belowN hS.2 1⟩ | exact keepH.out _ _ (by assumption) (by assumption) | assumption)
      (first | (go_at_call 51; (with_reducible refine (squareTo_any _ _ _ _ _ _ _ _ h1 h2 _).mono ?_); rintro e w' ⟨rfl, hbel⟩) | (go_at_call 51; (with_reducible refine (squareTo_any _ _ _ _ _ _ _ _ h1 h3 _).mono ?_); rintro e w' ⟨rfl, hbel⟩) | (go_at_call 50; (with_reducible refine (hasPoints_any _ _ _ _ _ _ _).mono ?_); rintro e w' ⟨rfl, hbel⟩))
    rename_i hHeld
    clear hS
    go_wp2
    go_ret
    exact ⟨ret_bool (by rw [hx.out, h0, h4]; rfl), below2' hB0 hHeld.2⟩
  · go_enter Try.func17, Try.ntmps17
    go_wp2
    obtain ⟨q1, hB0, hsz⟩ := one_box w #[.int .i64 a, .int .i64 b, .int .i64 c, .int .i64 d, .int .i64 p, .int .i64 s] 29
    generalize (w.alloc (.cells #[.int .i64 a, .int .i64 b, .int .i64 c, .int .i64 d, .int .i64 p, .int .i64 s] 29)) = W0 at q1 hB0 hsz ⊢
    have hS0 : ((W0.cell? ⟨w.heap.size, 0, none⟩ = some (.int .i64 a) ∧ W0.cell? ⟨w.heap.size, 1, none⟩ = some (.int .i64 b) ∧ W0.cell? ⟨w.heap.size, 2, none⟩ = some (.int .i64 c) ∧ W0.cell? ⟨w.heap.size, 3, none⟩ = some (.int .i64 d) ∧ W0.cell? ⟨w.heap.size, 4, none⟩ = some (.int .i64 p) ∧ W0.cell? ⟨w.heap.size, 5, none⟩ = some (.int .i64 s)) ∧ Below w.heap.size w W0) := ⟨⟨q1 0 _ rfl, q1 1 _ rfl, q1 2 _ rfl, q1 3 _ rfl, q1 4 _ rfl, q1 5 _ rfl⟩, hB0⟩
    clear q1
    have hS : ((W0.cell? ⟨w.heap.size, 0, none⟩ = some (.int .i64 a) ∧ W0.cell? ⟨w.heap.size, 1, none⟩ = some (.int .i64 b) ∧ W0.cell? ⟨w.heap.size, 2, none⟩ = some (.int .i64 c) ∧ W0.cell? ⟨w.heap.size, 3, none⟩ = some (.int .i64 d) ∧ W0.cell? ⟨w.heap.size, 4, none⟩ = some (.int .i64 p) ∧ W0.cell? ⟨w.heap.size, 5, none⟩ = some (.int .i64 s)) ∧ Below W0.heap.size W0 W0) := ⟨hS0.1, Below.refl _ _⟩
    clear hS0
    have keep : ∀ W1 W2, ((W1.cell? ⟨w.heap.size, 0, none⟩ = some (.int .i64 a) ∧ W1.cell? ⟨w.heap.size, 1, none⟩ = some (.int .i64 b) ∧ W1.cell? ⟨w.heap.size, 2, none⟩ = some (.int .i64 c) ∧ W1.cell? ⟨w.heap.size, 3, none⟩ = some (.int .i64 d) ∧ W1.cell? ⟨w.heap.size, 4, none⟩ = some (.int .i64 p) ∧ W1.cell? ⟨w.heap.size, 5, none⟩ = some (.int .i64 s)) ∧ Below W0.heap.size W0 W1) → Below W1.heap.size W1 W2 → ((W2.cell? ⟨w.heap.size, 0, none⟩ = some (.int .i64 a) ∧ W2.cell? ⟨w.heap.size, 1, none⟩ = some (.int .i64 b) ∧ W2.cell? ⟨w.heap.size, 2, none⟩ = some (.int .i64 c) ∧ W2.cell? ⟨w.heap.size, 3, none⟩ = some (.int .i64 d) ∧ W2.cell? ⟨w.heap.size, 4, none⟩ = some (.int .i64 p) ∧ W2.cell? ⟨w.heap.size, 5, none⟩ = some (.int .i64 s)) ∧ Below W0.heap.size W0 W2) := fun W1 W2 h1 h2 => by
      have h1s := h1.2.size
      have hsz' : w.heap.size + 0 + 1 ≤ W0.heap.size := hsz
      have hq0 : w.heap.size < W1.heap.size := by omega
      have hq1 : w.heap.size + 0 < W1.heap.size := by omega
      obtain ⟨⟨h00, h01, h02, h03, h04, h05⟩, h1b⟩ := h1
      exact ⟨⟨(h2.cell (p := ⟨w.heap.size, 0, none⟩) hq0).trans h00, (h2.cell (p := ⟨w.heap.size, 1, none⟩) hq0).trans h01, (h2.cell (p := ⟨w.heap.size, 2, none⟩) hq0).trans h02, (h2.cell (p := ⟨w.heap.size, 3, none⟩) hq0).trans h03, (h2.cell (p := ⟨w.heap.size, 4, none⟩) hq0).trans h04, (h2.cell (p := ⟨w.heap.size, 5, none⟩) hq0).trans h05⟩, h1b.trans (h2.mono h1s)⟩
    have keepH := Lib.hid keep
    clear keep
    go_region_held3 (fun w' => ((w'.cell? ⟨w.heap.size, 0, none⟩ = some (.int .i64 a) ∧ w'.cell? ⟨w.heap.size, 1, none⟩ = some (.int .i64 b) ∧ w'.cell? ⟨w.heap.size, 2, none⟩ = some (.int .i64 c) ∧ w'.cell? ⟨w.heap.size, 3, none⟩ = some (.int .i64 d) ∧ w'.cell? ⟨w.heap.size, 4, none⟩ = some (.int .i64 p) ∧ w'.cell? ⟨w.heap.size, 5, none⟩ = some (.int .i64 s)) ∧ Below W0.heap.size W0 w'))
      (first | exact ⟨hS.1, belowN hS.2 1⟩ | exact keepH.out _ _ (by assumption) (by assumption) | assumption)
      (first | (go_at_call 51; (with_reducible refine (squareTo_any _ _ _ _ _ _ _ _ h1 h2 _).mono ?_); rintro e w' ⟨rfl, hbel⟩) | (go_at_call 51; (with_reducible refine (squareTo_any _ _ _ _ _ _ _ _ h1 h3 _).mono ?_); rintro e w' ⟨rfl, hbel⟩) | (go_at_call 50; (with_reducible refine (hasPoints_any _ _ _ _ _ _ _).mono ?_); rintro e w' ⟨rfl, hbel⟩))
    rename_i hHeld
    clear hS
    go_wp2
    go_ret
    exact ⟨ret_bool (by rw [hx.out, h0, h4]; rfl), below2' hB0 hHeld.2⟩
theorem specValidArc_any (a : Int) (b : Int) (c : Int) (d : Int) (p : Int) (s : Int) (w : World) : Calls Try.prog 15 #[.agg #[.int .i64 a, .int .i64 b, .int .i64 c, .int .i64 d, .int .i64 p, .int .i64 s]] w fun e w' => e = .returned (.bool (arcB ⟨a, b, c, d, p, s⟩)) ∧ Below w.heap.size w w' := by
  go_enter Try.func15, Try.ntmps15
  go_wp2_with fail
  obtain ⟨q1, hB0, hsz⟩ := one_box w #[.int .i64 a, .int .i64 b, .int .i64 c, .int .i64 d, .int .i64 p, .int .i64 s] 29
  generalize (w.alloc (.cells #[.int .i64 a, .int .i64 b, .int .i64 c, .int .i64 d, .int .i64 p, .int .i64 s] 29)) = W0 at q1 hB0 hsz ⊢
  have hat : ArcAt W0 w.heap.size 0 ⟨a, b, c, d, p, s⟩ := ⟨q1 0 _ rfl, q1 1 _ rfl, q1 2 _ rfl, q1 3 _ rfl, q1 4 _ rfl, q1 5 _ rfl⟩
  go_wp2_with (go_at_call 48; refine (l05One_any _ _ _ _ _ _ W0 w.heap.size 0 hsz hat).mono ?_; rintro e w' ⟨rfl, hbel⟩)
  go_ret
  exact ⟨rfl, below2' hB0 hbel⟩
end Go.Proofs.Ytdgkpghecfpgoaa
