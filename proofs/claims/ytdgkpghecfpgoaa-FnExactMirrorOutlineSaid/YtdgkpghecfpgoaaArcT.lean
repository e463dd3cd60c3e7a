/-
  Arcs: the law's own copy of one and its comparison; radius.
-/
import Derived.Test.YtdgkpghecfpgoaaArcH
namespace Go.Proofs.Ytdgkpghecfpgoaa
open Go.ChangeShapes Go.WideShapes Go.ChangeAt Go.RowKit Go.Deep
set_option linter.unusedVariables false
set_option linter.unusedSimpArgs false
set_option maxRecDepth 1000000
set_option maxHeartbeats 1600000 in
theorem toArc_any (a : Int) (b : Int) (c : Int) (d : Int) (p : Int) (s : Int) (w : World) : Calls Try.prog 16 #[.agg #[.int .i64 a, .int .i64 b, .int .i64 c, .int .i64 d, .int .i64 p, .int .i64 s]] w fun e w' => e = .returned (.agg #[.int .i64 a, .int .i64 b, .int .i64 c, .int .i64 d, .int .i64 p, .int .i64 s]) ∧ Below w.heap.size w w' := by
  go_enter Try.func16, Try.ntmps16
  go_wp2
  refine bodyPost_ret (v := .agg #[.int .i64 a, .int .i64 b]) (by simp [results, Try.results49, go_sem]) rfl ?_
  go_wp2
  refine bodyPost_ret (v := .agg #[.int .i64 c, .int .i64 d]) (by simp [results, Try.results49, go_sem]) rfl ?_
  go_wp2
  refine bodyPost_ret (v := .agg #[.int .i64 p, .int .i64 s]) (by simp [results, Try.results49, go_sem]) rfl ?_
  go_wp2
  refine bodyPost_ret (v := .agg #[.int .i64 a, .int .i64 b, .int .i64 c, .int .i64 d, .int .i64 p, .int .i64 s]) (by simp [results, Try.results16, go_sem]) rfl ⟨rfl, ?_⟩
  repeat (refine Below.alloc ?_ (by simp <;> omega) _)
  exact Below.refl _ _
set_option maxHeartbeats 1600000 in
theorem eqArc_any (a : Int) (b : Int) (c : Int) (d : Int) (p : Int) (s : Int) (w : World) : Calls Try.prog 55 #[.agg #[.int .i64 a, .int .i64 b, .int .i64 c, .int .i64 d, .int .i64 p, .int .i64 s], .agg #[.int .i64 a, .int .i64 b, .int .i64 c, .int .i64 d, .int .i64 p, .int .i64 s]] w fun e w' => e = .returned (.bool true) ∧ Below w.heap.size w w' := by
  go_enter Try.func55, Try.ntmps55
  go_wp2
  go_ret
  refine ⟨rfl, ?_⟩
  repeat (refine Below.alloc ?_ (by simp <;> omega) _)
  exact Below.refl _ _
set_option maxHeartbeats 1600000 in
theorem implRadiusSquared_any (a : Int) (b : Int) (c : Int) (d : Int) (p : Int) (s : Int) (w : World) : Calls Try.prog 24 #[.agg #[.int .i64 a, .int .i64 b, .int .i64 c, .int .i64 d, .int .i64 p, .int .i64 s]] w fun e w' => e = .returned (.tuple #[.int .i64 (pick (arcB ⟨a, b, c, d, p, s⟩) (radV ⟨a, b, c, d, p, s⟩)), .int .i64 (code (arcB ⟨a, b, c, d, p, s⟩) 1)]) ∧ Below w.heap.size w w' := by
  cases h : arcB ⟨a, b, c, d, p, s⟩
  · go_enter Try.func24, Try.ntmps24
    go_wp2_with fail
    obtain ⟨q1, hB0, hsz⟩ := one_box w #[.int .i64 a, .int .i64 b, .int .i64 c, .int .i64 d, .int .i64 p, .int .i64 s] 29
    generalize (w.alloc (.cells #[.int .i64 a, .int .i64 b, .int .i64 c, .int .i64 d, .int .i64 p, .int .i64 s] 29)) = W0 at q1 hB0 hsz ⊢
    have hS0 : ((W0.cell? ⟨w.heap.size, 0, none⟩ = some (.int .i64 a) ∧ W0.cell? ⟨w.heap.size, 1, none⟩ = some (.int .i64 b) ∧ W0.cell? ⟨w.heap.size, 2, none⟩ = some (.int .i64 c) ∧ W0.cell? ⟨w.heap.size, 3, none⟩ = some (.int .i64 d) ∧ W0.cell? ⟨w.heap.size, 4, none⟩ = some (.int .i64 p) ∧ W0.cell? ⟨w.heap.size, 5, none⟩ = some (.int .i64 s)) ∧ Below w.heap.size w W0) := ⟨⟨q1 0 _ rfl, q1 1 _ rfl, q1 2 _ rfl, q1 3 _ rfl, q1 4 _ rfl, q1 5 _ rfl⟩, hB0⟩
    clear q1
    have hS : ((W0.cell? ⟨w.heap.size, 0, none⟩ = some (.int .i64 a) ∧ W0.cell? ⟨w.heap.size, 1, none⟩ = some (.int .i64 b) ∧ W0.cell? ⟨w.heap.size, 2, none⟩ = some (.int .i64 c) ∧ W0.cell? ⟨w.heap.size, 3, none⟩ = some (.int .i64 d) ∧ W0.cell? ⟨w.heap.size, 4, none⟩ = some (.int .i64 p) ∧ W0.cell? ⟨w.heap.size, 5, none⟩ = some (.int .i64 s)) ∧ Below W0.heap.size W0 W0) := ⟨hS0.1, Below.refl _ _⟩
    clear hS0
    have keep : ∀ W1 W2, ((W1.cell? ⟨w.heap.size, 0, none⟩ = some (.int .i64 a) ∧ W1.cell? ⟨w.heap.size, 1, none⟩ = some (.int .i64 b) ∧ W1.cell? ⟨w.heap.size, 2, none⟩ = some (.int .i64 c) ∧ W1.cell? ⟨w.heap.size, 3, none⟩ = some (.int .i64 d) ∧ W1.cell? ⟨w.heap.size, 4, none⟩ = some (.int .i64 p) ∧ W1.cell? ⟨w.heap.size, 5, none⟩ = some (.int .i64 s)) ∧ Below W0.heap.size W0 W1) → Below W1.heap.size W1 W2 → ((W2.cell? ⟨w.heap.size, 0, none⟩ = some (.int .i64 a) ∧ W2.cell? ⟨w.heap.size, 1, none⟩ = some (.int .i64 b) ∧ W2.cell? ⟨w.heap.size, 2, none⟩ = some (.int .i64 c) ∧ W2.cell? ⟨w.heap.size, 3, none⟩ = some (.int .i64 d) ∧ W2.cell? ⟨w.heap.size, 4, none⟩ = some (.int .i64 p) ∧ W2.cell? ⟨w.heap.size, 5, none⟩ = some (.int .i64 s)) ∧ Below W0.heap.size W0 W2) := fun W1 W2 h1 h2 => by
      have h1s := h1.2.size
      have hsz' : w.heap.size + 0 + 1 ≤ W0.heap.size := hsz
      have hq0 : w.heap.size < W1.heap.size := by omega
      have hq1 : w.heap.size + 0 < W1.heap.size := by omega
      obtain ⟨⟨h00, h01, h02, h03, h04, h05⟩, h1b⟩ := h1
      exact ⟨⟨(h2.cell (p := ⟨w.heap.size, 0, none⟩) hq0).trans h00, (h2.cell (p := ⟨w.heap.size, 1, none⟩) hq0).trans h01, (h2.cell (p := ⟨w.heap.size, 2, none⟩) hq0).trans h02, (h2.cell (p := ⟨w.heap.size, 3, none⟩) hq0).trans h03, (h2.cell (p := ⟨w.heap.size, 4, none⟩) hq0).trans h04, (h2.cell (p := ⟨w.heap.size, 5, none⟩) hq0).trans h05⟩, h1b.trans (h2.mono h1s)⟩
    have keepH := Lib.hid keep
    clear keep
    go_wp2_with (first
      | (go_at_call 17; (with_reducible refine (implValidArc_any _ _ _ _ _ _ _).mono ?_); rintro e w' ⟨rfl, hbel⟩; replace hS := keepH.out _ _ hS hbel; clear hbel)
      | (go_at_call 57; (with_reducible refine (radiusSquared_any _ _ _ _ _ _ h1 h2 _).mono ?_); rintro e w' ⟨rfl, hbel⟩; replace hS := keepH.out _ _ hS hbel; clear hbel))
    go_ret2
    exact ⟨rfl, below2' hB0 hS.2⟩
  · obtain ⟨h1, h2, h3⟩ := arc_bd h
    simp only at h1 h2 h3
    go_enter Try.func24, Try.ntmps24
    go_wp2_with fail
    obtain ⟨q1, hB0, hsz⟩ := one_box w #[.int .i64 a, .int .i64 b, .int .i64 c, .int .i64 d, .int .i64 p, .int .i64 s] 29
    generalize (w.alloc (.cells #[.int .i64 a, .int .i64 b, .int .i64 c, .int .i64 d, .int .i64 p, .int .i64 s] 29)) = W0 at q1 hB0 hsz ⊢
    have hS0 : ((W0.cell? ⟨w.heap.size, 0, none⟩ = some (.int .i64 a) ∧ W0.cell? ⟨w.heap.size, 1, none⟩ = some (.int .i64 b) ∧ W0.cell? ⟨w.heap.size, 2, none⟩ = some (.int .i64 c) ∧ W0.cell? ⟨w.heap.size, 3, none⟩ = some (.int .i64 d) ∧ W0.cell? ⟨w.heap.size, 4, none⟩ = some (.int .i64 p) ∧ W0.cell? ⟨w.heap.size, 5, none⟩ = some (.int .i64 s)) ∧ Below w.heap.size w W0) := ⟨⟨q1 0 _ rfl, q1 1 _ rfl, q1 2 _ rfl, q1 3 _ rfl, q1 4 _ rfl, q1 5 _ rfl⟩, hB0⟩
    clear q1
    have hS : ((W0.cell? ⟨w.heap.size, 0, none⟩ = some (.int .i64 a) ∧ W0.cell? ⟨w.heap.size, 1, none⟩ = some (.int .i64 b) ∧ W0.cell? ⟨w.heap.size, 2, none⟩ = some (.int .i64 c) ∧ W0.cell? ⟨w.heap.size, 3, none⟩ = some (.int .i64 d) ∧ W0.cell? ⟨w.heap.size, 4, none⟩ = some (.int .i64 p) ∧ W0.cell? ⟨w.heap.size, 5, none⟩ = some (.int .i64 s)) ∧ Below W0.heap.size W0 W0) := ⟨hS0.1, Below.refl _ _⟩
    clear hS0
    have keep : ∀ W1 W2, ((W1.cell? ⟨w.heap.size, 0, none⟩ = some (.int .i64 a) ∧ W1.cell? ⟨w.heap.size, 1, none⟩ = some (.int .i64 b) ∧ W1.cell? ⟨w.heap.size, 2, none⟩ = some (.int .i64 c) ∧ W1.cell? ⟨w.heap.size, 3, none⟩ = some (.int .i64 d) ∧ W1.cell? ⟨w.heap.size, 4, none⟩ = some (.int .i64 p) ∧ W1.cell? ⟨w.heap.size, 5, none⟩ = some (.int .i64 s)) ∧ Below W0.heap.size W0 W1) → Below W1.heap.size W1 W2 → ((W2.cell? ⟨w.heap.size, 0, none⟩ = some (.int .i64 a) ∧ W2.cell? ⟨w.heap.size, 1, none⟩ = some (.int .i64 b) ∧ W2.cell? ⟨w.heap.size, 2, none⟩ = some (.int .i64 c) ∧ W2.cell? ⟨w.heap.size, 3, none⟩ = some (.int .i64 d) ∧ W2.cell? ⟨w.heap.size, 4, none⟩ = some (.int .i64 p) ∧ W2.cell? ⟨w.heap.size, 5, none⟩ = some (.int .i64 s)) ∧ Below W0.heap.size W0 W2) := fun W1 W2 h1 h2 => by
      have h1s := h1.2.size
      have hsz' : w.heap.size + 0 + 1 ≤ W0.heap.size := hsz
      have hq0 : w.heap.size < W1.heap.size := by omega
      have hq1 : w.heap.size + 0 < W1.heap.size := by omega
      obtain ⟨⟨h00, h01, h02, h03, h04, h05⟩, h1b⟩ := h1
      exact ⟨⟨(h2.cell (p := ⟨w.heap.size, 0, none⟩) hq0).trans h00, (h2.cell (p := ⟨w.heap.size, 1, none⟩) hq0).trans h01, (h2.cell (p := ⟨w.heap.size, 2, none⟩) hq0).trans h02, (h2.cell (p := ⟨w.heap.size, 3, none⟩) hq0).trans h03, (h2.cell (p := ⟨w.heap.size, 4, none⟩) hq0).trans h04, (h2.cell (p := ⟨w.heap.size, 5, none⟩) hq0).trans h05⟩, h1b.trans (h2.mono h1s)⟩
    have keepH := Lib.hid keep
    clear keep
    go_wp2_with (first
      | (go_at_call 17; (with_reducible refine (implValidArc_any _ _ _ _ _ _ _).mono ?_); rintro e w' ⟨rfl, hbel⟩; replace hS := keepH.out _ _ hS hbel; clear hbel)
      | (go_at_call 57; (with_reducible refine (radiusSquared_any _ _ _ _ _ _ h1 h2 _).mono ?_); rintro e w' ⟨rfl, hbel⟩; replace hS := keepH.out _ _ hS hbel; clear hbel))
    go_ret2
    exact ⟨rfl, below2' hB0 hS.2⟩
set_option maxHeartbeats 1600000 in
theorem specRadiusSquared_any (a : Int) (b : Int) (c : Int) (d : Int) (p : Int) (s : Int) (w : World) : Calls Try.prog 23 #[.agg #[.int .i64 a, .int .i64 b, .int .i64 c, .int .i64 d, .int .i64 p, .int .i64 s]] w fun e w' => e = .returned (.tuple #[.int .i64 (pick (arcB ⟨a, b, c, d, p, s⟩) (radV ⟨a, b, c, d, p, s⟩)), .int .i64 (code (arcB ⟨a, b, c, d, p, s⟩) 1)]) ∧ Below w.heap.size w w' := by
  cases h : arcB ⟨a, b, c, d, p, s⟩
  · go_enter Try.func23, Try.ntmps23
    go_wp2_with fail
    obtain ⟨q1, hB0, hsz⟩ := one_box w #[.int .i64 a, .int .i64 b, .int .i64 c, .int .i64 d, .int .i64 p, .int .i64 s] 29
    generalize (w.alloc (.cells #[.int .i64 a, .int .i64 b, .int .i64 c, .int .i64 d, .int .i64 p, .int .i64 s] 29)) = W0 at q1 hB0 hsz ⊢
    have hS0 : ((W0.cell? ⟨w.heap.size, 0, none⟩ = some (.int .i64 a) ∧ W0.cell? ⟨w.heap.size, 1, none⟩ = some (.int .i64 b) ∧ W0.cell? ⟨w.heap.size, 2, none⟩ = some (.int .i64 c) ∧ W0.cell? ⟨w.heap.size, 3, none⟩ = some (.int .i64 d) ∧ W0.cell? ⟨w.heap.size, 4, none⟩ = some (.int .i64 p) ∧ W0.cell? ⟨w.heap.size, 5, none⟩ = some (.int .i64 s)) ∧ Below w.heap.size w W0) := ⟨⟨q1 0 _ rfl, q1 1 _ rfl, q1 2 _ rfl, q1 3 _ rfl, q1 4 _ rfl, q1 5 _ rfl⟩, hB0⟩
    clear q1
    have hS : ((W0.cell? ⟨w.heap.size, 0, none⟩ = some (.int .i64 a) ∧ W0.cell? ⟨w.heap.size, 1, none⟩ = some (.int .i64 b) ∧ W0.cell? ⟨w.heap.size, 2, none⟩ = some (.int .i64 c) ∧ W0.cell? ⟨w.heap.size, 3, none⟩ = some (.int .i64 d) ∧ W0.cell? ⟨w.heap.size, 4, none⟩ = some (.int .i64 p) ∧ W0.cell? ⟨w.heap.size, 5, none⟩ = some (.int .i64 s)) ∧ Below W0.heap.size W0 W0) := ⟨hS0.1, Below.refl _ _⟩
    clear hS0
    have keep : ∀ W1 W2, ((W1.cell? ⟨w.heap.size, 0, none⟩ = some (.int .i64 a) ∧ W1.cell? ⟨w.heap.size, 1, none⟩ = some (.int .i64 b) ∧ W1.cell? ⟨w.heap.size, 2, none⟩ = some (.int .i64 c) ∧ W1.cell? ⟨w.heap.size, 3, none⟩ = some (.int .i64 d) ∧ W1.cell? ⟨w.heap.size, 4, none⟩ = some (.int .i64 p) ∧ W1.cell? ⟨w.heap.size, 5, none⟩ = some (.int .i64 s)) ∧ Below W0.heap.size W0 W1) → Below W1.heap.size W1 W2 → ((W2.cell? ⟨w.heap.size, 0, none⟩ = some (.int .i64 a) ∧ W2.cell? ⟨w.heap.size, 1, none⟩ = some (.int .i64 b) ∧ W2.cell? ⟨w.heap.size, 2, none⟩ = some (.int .i64 c) ∧ W2.cell? ⟨w.heap.size, 3, none⟩ = some (.int .i64 d) ∧ W2.cell? ⟨w.heap.size, 4, none⟩ = some (.int .i64 p) ∧ W2.cell? ⟨w.heap.size, 5, none⟩ = some (.int .i64 s)) ∧ Below W0.heap.size W0 W2) := fun W1 W2 h1 h2 => by
      have h1s := h1.2.size
      have hsz' : w.heap.size + 0 + 1 ≤ W0.heap.size := hsz
      have hq0 : w.heap.size < W1.heap.size := by omega
      have hq1 : w.heap.size + 0 < W1.heap.size := by omega
      obtain ⟨⟨h00, h01, h02, h03, h04, h05⟩, h1b⟩ := h1
      exact ⟨⟨(h2.cell (p := ⟨w.heap.size, 0, none⟩) hq0).trans h00, (h2.cell (p := ⟨w.heap.size, 1, none⟩) hq0).trans h01, (h2.cell (p := ⟨w.heap.size, 2, none⟩) hq0).trans h02, (h2.cell (p := ⟨w.heap.size, 3, none⟩) hq0).trans h03, (h2.cell (p := ⟨w.heap.size, 4, none⟩) hq0).trans h04, (h2.cell (p := ⟨w.heap.size, 5, none⟩) hq0).trans h05⟩, h1b.trans (h2.mono h1s)⟩
    have keepH := Lib.hid keep
    clear keep
    go_wp2_with (first
      | (go_at_call 48; have hat : ArcAt _ w.heap.size 0 ⟨a, b, c, d, p, s⟩ := hS.1; (with_reducible refine (l05One_any _ _ _ _ _ _ _ _ _ (Nat.lt_of_lt_of_le hsz hS.2.size) hat).mono ?_); rintro e w' ⟨rfl, hbel⟩; clear hat; replace hS := keepH.out _ _ hS hbel; clear hbel)
      | (go_at_call 56; (with_reducible refine (l05Square_any _ _ _ _ h1 h2 _).mono ?_); rintro e w' ⟨rfl, hbel⟩; replace hS := keepH.out _ _ hS hbel; clear hbel))
    go_ret2
    exact ⟨rfl, below2' hB0 hS.2⟩
  · obtain ⟨h1, h2, h3⟩ := arc_bd h
    simp only at h1 h2 h3
    go_enter Try.func23, Try.ntmps23
    go_wp2_with fail
    obtain ⟨q1, hB0, hsz⟩ := one_box w #[.int .i64 a, .int .i64 b, .int .i64 c, .int .i64 d, .int .i64 p, .int .i64 s] 29
    generalize (w.alloc (.cells #[.int .i64 a, .int .i64 b, .int .i64 c, .int .i64 d, .int .i64 p, .int .i64 s] 29)) = W0 at q1 hB0 hsz ⊢
    have hS0 : ((W0.cell? ⟨w.heap.size, 0, none⟩ = some (.int .i64 a) ∧ W0.cell? ⟨w.heap.size, 1, none⟩ = some (.int .i64 b) ∧ W0.cell? ⟨w.heap.size, 2, none⟩ = some (.int .i64 c) ∧ W0.cell? ⟨w.heap.size, 3, none⟩ = some (.int .i64 d) ∧ W0.cell? ⟨w.heap.size, 4, none⟩ = some (.int .i64 p) ∧ W0.cell? ⟨w.heap.size, 5, none⟩ = some (.int .i64 s)) ∧ Below w.heap.size w W0) := ⟨⟨q1 0 _ rfl, q1 1 _ rfl, q1 2 _ rfl, q1 3 _ rfl, q1 4 _ rfl, q1 5 _ rfl⟩, hB0⟩
    clear q1
    have hS : ((W0.cell? ⟨w.heap.size, 0, none⟩ = some (.int .i64 a) ∧ W0.cell? ⟨w.heap.size, 1, none⟩ = some (.int .i64 b) ∧ W0.cell? ⟨w.heap.size, 2, none⟩ = some (.int .i64 c) ∧ W0.cell? ⟨w.heap.size, 3, none⟩ = some (.int .i64 d) ∧ W0.cell? ⟨w.heap.size, 4, none⟩ = some (.int .i64 p) ∧ W0.cell? ⟨w.heap.size, 5, none⟩ = some (.int .i64 s)) ∧ Below W0.heap.size W0 W0) := ⟨hS0.1, Below.refl _ _⟩
    clear hS0
    have keep : ∀ W1 W2, ((W1.cell? ⟨w.heap.size, 0, none⟩ = some (.int .i64 a) ∧ W1.cell? ⟨w.heap.size, 1, none⟩ = some (.int .i64 b) ∧ W1.cell? ⟨w.heap.size, 2, none⟩ = some (.int .i64 c) ∧ W1.cell? ⟨w.heap.size, 3, none⟩ = some (.int .i64 d) ∧ W1.cell? ⟨w.heap.size, 4, none⟩ = some (.int .i64 p) ∧ W1.cell? ⟨w.heap.size, 5, none⟩ = some (.int .i64 s)) ∧ Below W0.heap.size W0 W1) → Below W1.heap.size W1 W2 → ((W2.cell? ⟨w.heap.size, 0, none⟩ = some (.int .i64 a) ∧ W2.cell? ⟨w.heap.size, 1, none⟩ = some (.int .i64 b) ∧ W2.cell? ⟨w.heap.size, 2, none⟩ = some (.int .i64 c) ∧ W2.cell? ⟨w.heap.size, 3, none⟩ = some (.int .i64 d) ∧ W2.cell? ⟨w.heap.size, 4, none⟩ = some (.int .i64 p) ∧ W2.cell? ⟨w.heap.size, 5, none⟩ = some (.int .i64 s)) ∧ Below W0.heap.size W0 W2) := fun W1 W2 h1 h2 => by
      have h1s := h1.2.size
      have hsz' : w.heap.size + 0 + 1 ≤ W0.heap.size := hsz
      have hq0 : w.heap.size < W1.heap.size := by omega
      have hq1 : w.heap.size + 0 < W1.heap.size := by omega
      obtain ⟨⟨h00, h01, h02, h03, h04, h05⟩, h1b⟩ := h1
      exact ⟨⟨(h2.cell (p := ⟨w.heap.size, 0, none⟩) hq0).trans h00, (h2.cell (p := ⟨w.heap.size, 1, none⟩) hq0).trans h01, (h2.cell (p := ⟨w.heap.size, 2, none⟩) hq0).trans h02, (h2.cell (p := ⟨w.heap.size, 3, none⟩) hq0).trans h03, (h2.cell (p := ⟨w.heap.size, 4, none⟩) hq0).trans h04, (h2.cell (p := ⟨w.heap.size, 5, none⟩) hq0).trans h05⟩, h1b.trans (h2.mono h1s)⟩
    have keepH := Lib.hid keep
    clear keep
    go_wp2_with (first
      | (go_at_call 48; have hat : ArcAt _ w.heap.size 0 ⟨a, b, c, d, p, s⟩ := hS.1; (with_reducible refine (l05One_any _ _ _ _ _ _ _ _ _ (Nat.lt_of_lt_of_le hsz hS.2.size) hat).mono ?_); rintro e w' ⟨rfl, hbel⟩; clear hat; replace hS := keepH.out _ _ hS hbel; clear hbel)
      | (go_at_call 56; (with_reducible refine (l05Square_any _ _ _ _ h1 h2 _).mono ?_); rintro e w' ⟨rfl, hbel⟩; replace hS := keepH.out _ _ hS hbel; clear hbel))
    go_ret2
    exact ⟨rfl, below2' hB0 hS.2⟩
end Go.Proofs.Ytdgkpghecfpgoaa
