/-
  Arcs: the program's validity, radius and joints.
-/
import Derived.Test.YtdgkpghecfpgoaaArcF
namespace Go.Proofs.Ytdgkpghecfpgoaa
open Go.ChangeShapes Go.WideShapes Go.ChangeAt Go.RowKit Go.Deep
set_option linter.unusedVariables false
set_option linter.unusedSimpArgs false
set_option maxRecDepth 1000000
theorem below2' {w a b : World} (h1 : Below w.heap.size w a) (h2 : Below a.heap.size a b) : Below w.heap.size w b := h1.trans (h2.mono h1.size)
theorem one_box (w : World) (cs : Array Value) (T : TypeId) : (∀ i v, cs[i]? = some v → (w.alloc (.cells cs T)).cell? ⟨w.heap.size, i, none⟩ = some v) ∧ Below w.heap.size w (w.alloc (.cells cs T)) ∧ w.heap.size < (w.alloc (.cells cs T)).heap.size :=
  ⟨fun i v h => cellB (heap_alloc_new _ _) i v h, (Below.refl _ _).alloc (Nat.le_refl _) _, by simp⟩
theorem two_boxes (w : World) (cs : Array Value) (T : TypeId) (cs' : Array Value) (T' : TypeId) : (∀ i v, cs[i]? = some v → ((w.alloc (.cells cs T)).alloc (.cells cs' T')).cell? ⟨w.heap.size, i, none⟩ = some v) ∧ (∀ i v, cs'[i]? = some v → ((w.alloc (.cells cs T)).alloc (.cells cs' T')).cell? ⟨w.heap.size + 1, i, none⟩ = some v) ∧ Below w.heap.size w ((w.alloc (.cells cs T)).alloc (.cells cs' T')) ∧ w.heap.size + 1 < ((w.alloc (.cells cs T)).alloc (.cells cs' T')).heap.size := by
  have e : (w.alloc (.cells cs T)).heap.size = w.heap.size + 1 := by simp
  have h1 := fun i v h => ((Below.refl (w.alloc (.cells cs T)).heap.size (w.alloc (.cells cs T))).alloc (Nat.le_refl _) (.cells cs' T')).cell (p := ⟨w.heap.size, i, none⟩) (by simp) |>.trans (cellB (heap_alloc_new w (.cells cs T)) i v h)
  have h2 := fun i v h => cellB (heap_alloc_new (w.alloc (.cells cs T)) (.cells cs' T')) i v h
  rw [e] at h2
  exact ⟨h1, h2, ((Below.refl _ _).alloc (Nat.le_refl _) _).alloc (by simp) _, by simp⟩
/-- the three points of an arc -/
def arc3B (x : Arc) : Bool := ptB x.cx x.cy && ptB x.fx x.fy && ptB x.tx x.ty
set_option maxHeartbeats 3200000 in
theorem hasPoints_any (a : Int) (b : Int) (c : Int) (d : Int) (p : Int) (s : Int) (w : World) : Calls Try.prog 50 #[.agg #[.int .i64 a, .int .i64 b, .int .i64 c, .int .i64 d, .int .i64 p, .int .i64 s]] w fun e w' => e = .returned (.bool (arc3B ⟨a, b, c, d, p, s⟩)) ∧ Below w.heap.size w w' := by
  have hx : Hid (arc3B ⟨a, b, c, d, p, s⟩ = (ptB a b && ptB c d && ptB p s)) := Lib.hid rfl
  cases h1 : ptB a b
  · go_enter Try.func50, Try.ntmps50
    go_wp2_with fail
    obtain ⟨q1, hB0, hsz⟩ := one_box w #[.int .i64 a, .int .i64 b, .int .i64 c, .int .i64 d, .int .i64 p, .int .i64 s] 29
    generalize (w.alloc (.cells #[.int .i64 a, .int .i64 b, .int .i64 c, .int .i64 d, .int .i64 p, .int .i64 s] 29)) = W0 at q1 hB0 hsz ⊢
    have hS0 : ((W0.cell? ⟨w.heap.size, 0, none⟩ = some (.int .i64 a) ∧ W0.cell? ⟨w.heap.size, 1, none⟩ = some (.int .i64 b) ∧ W0.cell? ⟨w.heap.size, 2, none⟩ = some (.int .i64 c) ∧ W0.cell? ⟨w.heap.size, 3, none⟩ = some (.int .i64 d) ∧ W0.cell? ⟨w.heap.size, 4, none⟩ = some (.int .i64 p) ∧ W0.cell? ⟨w.heap.size, 5, none⟩ = some (.int .i64 s)) ∧ Below w.heap.size w W0) := ⟨⟨q1 0 _ rfl, q1 1 _ rfl, q1 2 _ rfl, q1 3 _ rfl, q1 4 _ rfl, q1 5 _ rfl⟩, hB0⟩
    clear q1
    have hS : ((W0.cell? ⟨w.heap.size, 0, none⟩ = some (.int .i64 a) ∧ W0.cell? ⟨w.heap.size, 1, none⟩ = some (.int .i64 b) ∧ W0.cell? ⟨w.heap.size, 2, none⟩ = some (.int .i64 c) ∧ W0.cell? ⟨w.heap.size, 3, none⟩ = some (.int .i64 d) ∧ W0.cell? ⟨w.heap.size, 4, none⟩ = some (.int .i64 p) ∧ W0.cell? ⟨w.heap.size, 5, none⟩ = some (.int .i64 s)) ∧ Below W0.heap.size W0 W0) := ⟨hS0.1, Below.refl _ _⟩
    clear hS0
    have keep : ∀ W1 W2, ((W1.cell? ⟨w.heap.size, 0, none⟩ = some (.int .i64 a) ∧ W1.cell? ⟨w.heap.size, 1, none⟩ = some (.int .i64 b) ∧ W1.cell? ⟨w.heap.size, 2, none⟩ = some (.int .i64 c) ∧ W1.cell? ⟨w.heap.size, 3, none⟩ = some (.int .i64 d) ∧ W1.cell? ⟨w.heap.size, 4, none⟩ = some (.int .i64 p) ∧ W1.cell? ⟨w.heap.size, 5, none⟩ = some (.int .i64 s)) ∧ Below W0.heap.size W0 W1) → Below W1.heap.size W1 W2 → ((W2.cell? ⟨w.heap.size, 0, none⟩ = some (.int .i64 a) ∧ W2.cell? ⟨w.heap.size, 1, none⟩ = some (.int .i64 b) ∧ W2.cell? ⟨w.heap.size, 2, none⟩ = some (.int .i64 c) ∧ W2.cell? ⟨w.heap.size, 3, none⟩ = some (.int .i64 d) ∧ W2.cell? ⟨w.heap.size, 4, none⟩ = some (.int .i64 p) ∧ W2.cell? ⟨w.heap.size, 5, none⟩ = some (.int .i64 s)) ∧ Below W0.heap.size W0 W2) := fun W1 W2 h1 h2 => by
      have h1s := h1.2.size
      have hsz' : w.heap.size + 0 + 1 ≤ W0.heap.size := hsz
      have hq0 : w.heap.size < W1.heap.size := by omega
      have hq1 : w.heap.size + 0 < W1.heap.size := by omega
      obtain ⟨⟨h00, h01, h02, h03, h04, h05⟩, h1b⟩ := h1
      exact ⟨⟨(h2.cell (p := ⟨w.heap.size, 0, none⟩) hq0).trans h00, (h2.cell (p := ⟨w.heap.size, 1, none⟩) hq0).trans h01, (h2.cell (p := ⟨w.heap.size, 2, none⟩) hq0).trans h02, (h2.cell (p := ⟨w.heap.size, 3, none⟩) hq0).trans h03, (h2.cell (p := ⟨w.heap.size, 4, none⟩) hq0).trans h04, (h2.cell (p := ⟨w.heap.size, 5, none⟩) hq0).trans h05⟩, h1b.trans (h2.mono h1s)⟩
    have keepH := Lib.hid keep
    clear keep
    go_wp2_with (go_at_call 77; (with_reducible refine (isPoint_any _ _ _).mono ?_); rintro e w' ⟨rfl, hbel⟩; replace hS := keepH.out _ _ hS hbel; clear hbel)
    go_ret
    exact ⟨ret_bool (by rw [hx.out, h1]; rfl), below2' hB0 hS.2⟩
  cases h2 : ptB c d
  · go_enter Try.func50, Try.ntmps50
    go_wp2_with fail
    obtain ⟨q1, hB0, hsz⟩ := one_box w #[.int .i64 a, .int .i64 b, .int .i64 c, .int .i64 d, .int .i64 p, .int .i64 s] 29
    generalize (w.alloc (.cells #[.int .i64 a, .int .i64 b, .int .i64 c, .int .i64 d, .int .i64 p, .int .i64 s] 29)) = W0 at q1 hB0 hsz ⊢
    have hS0 : ((W0.cell? ⟨w.heap.size, 0, none⟩ = some (.int .i64 a) ∧ W0.cell? ⟨w.heap.size, 1, none⟩ = some (.int .i64 b) ∧ W0.cell? ⟨w.heap.size, 2, none⟩ = some (.int .i64 c) ∧ W0.cell? ⟨w.heap.size, 3, none⟩ = some (.int .i64 d) ∧ W0.cell? ⟨w.heap.size, 4, none⟩ = some (.int .i64 p) ∧ W0.cell? ⟨w.heap.size, 5, none⟩ = some (.int .i64 s)) ∧ Below w.heap.size w W0) := ⟨⟨q1 0 _ rfl, q1 1 _ rfl, q1 2 _ rfl, q1 3 _ rfl, q1 4 _ rfl, q1 5 _ rfl⟩, hB0⟩
    clear q1
    have hS : ((W0.cell? ⟨w.heap.size, 0, none⟩ = some (.int .i64 a) ∧ W0.cell? ⟨w.heap.size, 1, none⟩ = some (.int .i64 b) ∧ W0.cell? ⟨w.heap.size, 2, none⟩ = some (.int .i64 c) ∧ W0.cell? ⟨w.heap.size, 3, none⟩ = some (.int .i64 d) ∧ W0.cell? ⟨w.heap.size, 4, none⟩ = some (.int .i64 p) ∧ W0.cell? ⟨w.heap.size, 5, none⟩ = some (.int .i64 s)) ∧ Below W0.heap.size W0 W0) := ⟨hS0.1, Below.refl _ _⟩
    clear hS0
    have keep : ∀ W1 W2, ((W1.cell? ⟨w.heap.size, 0, none⟩ = some (.int .i64 a) ∧ W1.cell? ⟨w.heap.size, 1, none⟩ = some (.int .i64 b) ∧ W1.cell? ⟨w.heap.size, 2, none⟩ = some (.int .i64 c) ∧ W1.cell? ⟨w.heap.size, 3, none⟩ = some (.int .i64 d) ∧ W1.cell? ⟨w.heap.size, 4, none⟩ = some (.int .i64 p) ∧ W1.cell? ⟨w.heap.size, 5, none⟩ = some (.int .i64 s)) ∧ Below W0.heap.size W0 W1) → Below W1.heap.size W1 W2 → ((W2.cell? ⟨w.heap.size, 0, none⟩ = some (.int .i64 a) ∧ W2.cell? ⟨w.heap.size, 1, none⟩ = some (.int .i64 b) ∧ W2.cell? ⟨w.heap.size, 2, none⟩ = some (.int .i64 c) ∧ W2.cell? ⟨w.heap.size, 3, none⟩ = some (.int .i64 d) ∧ W2.cell? ⟨w.heap.size, 4, none⟩ = some (.int .i64 p) ∧ W2.cell? ⟨w.heap.size, 5, none⟩ = some (.int .i64 s)) ∧ Below W0.heap.size W0 W2) := fun W1 W2 h1 h2 => by
      have h1s := h1.2.size
      have hsz' : w.heap.size + 0 + 1 ≤ W0.heap.size := hsz
      have hq0 : w.heap.size < W1.heap.size := by omega
      have hq1 : w.heap.size + 0 < W1.heap.size := by omega
      obtain ⟨⟨h00, h01, h02, h03, h04, h05⟩, h1b⟩ := h1
      exact ⟨⟨(h2.cell (p := ⟨w.heap.size, 0, none⟩) hq0).trans h00, (h2.cell (p := ⟨w.heap.size, 1, none⟩) hq0).trans h01, (h2.cell (p := ⟨w.heap.size, 2, none⟩) hq0).trans h02, (h2.cell (p := ⟨w.heap.size, 3, none⟩) hq0).trans h03, (h2.cell (p := ⟨w.heap.size, 4, none⟩) hq0).trans h04, (h2.cell (p := ⟨w.heap.size, 5, none⟩) hq0).trans h05⟩, h1b.trans (h2.mono h1s)⟩
    have keepH := Lib.hid keep
    clear keep
    go_wp2_with (go_at_call 77; (with_reducible refine (isPoint_any _ _ _).mono ?_); rintro e w' ⟨rfl, hbel⟩; replace hS := keepH.out _ _ hS hbel; clear hbel)
    go_ret
    exact ⟨ret_bool (by rw [hx.out, h1, h2]; rfl), below2' hB0 hS.2⟩
  go_enter Try.func50, Try.ntmps50
  go_wp2_with fail
  obtain ⟨q1, hB0, hsz⟩ := one_box w #[.int .i64 a, .int .i64 b, .int .i64 c, .int .i64 d, .int .i64 p, .int .i64 s] 29
  generalize (w.alloc (.cells #[.int .i64 a, .int .i64 b, .int .i64 c, .int .i64 d, .int .i64 p, .int .i64 s] 29)) = W0 at q1 hB0 hsz ⊢
  have hS0 : ((W0.cell? ⟨w.heap.size, 0, none⟩ = some (.int .i64 a) ∧ W0.cell? ⟨w.heap.size, 1, none⟩ = some (.int .i64 b) ∧ W0.cell? ⟨w.heap.size, 2, none⟩ = some (.int .i64 c) ∧ W0.cell? ⟨w.heap.size, 3, none⟩ = some (.int .i64 d) ∧ W0.cell? ⟨w.heap.size, 4, none⟩ = some (.int .i64 p) ∧ W0.cell? ⟨w.heap.size, 5, none⟩ = some (.int .i64 s)) ∧ Below w.heap.size w W0) := ⟨⟨q1 0 _ rfl, q1 1 _ rfl, q1 2 _ rfl, q1 3 _ rfl, q1 4 _ rfl, q1 5 _ rfl⟩, hB0⟩
  clear q1
  have hS : ((W0.cell? ⟨w.heap.size, 0, none⟩ = some (.int .i64 a) ∧ W0.cell? ⟨w.heap.size, 1, none⟩ = some (.int .i64 b) ∧ W0.cell? ⟨w.heap.size, 2, none⟩ = some (.int .i64 c) ∧ W0.cell? ⟨w.heap.size, 3, none⟩ = some (.int .i64 d) ∧ W0.cell? ⟨w.heap.size, 4, none⟩ = some (.int .i64 p) ∧ W0.cell? ⟨w.heap.size, 5, none⟩ = some (.int .i64 s)) ∧ Below W0.heap.size W0 W0) := ⟨hS0.1, Below.refl _ _⟩
  clear hS0
  have keep : ∀ W1 W2, ((W1.cell? ⟨w.heap.size, 0, none⟩ = some (.int .i64 a) ∧ W1.cell? ⟨w.heap.size, 1, none⟩ = some (.int .i64 b) ∧ W1.cell? ⟨w.heap.size, 2, none⟩ = some (.int .i64 c) ∧ W1.cell? ⟨w.heap.size, 3, none⟩ = some (.int .i64 d) ∧ W1.cell? ⟨w.heap.size, 4, none⟩ = some (.int .i64 p) ∧ W1.cell? ⟨w.heap.size, 5, none⟩ = some (.int .i64 s)) ∧ Below W0.heap.size W0 W1) → Below W1.heap.size W1 W2 → ((W2.cell? ⟨w.heap.size, 0, none⟩ = some (.int .i64 a) ∧ W2.cell? ⟨w.heap.size, 1, none⟩ = some (.int .i64 b) ∧ W2.cell? ⟨w.heap.size, 2, none⟩ = some (.int .i64 c) ∧ W2.cell? ⟨w.heap.size, 3, none⟩ = some (.int .i64 d) ∧ W2.cell? ⟨w.heap.size, 4, none⟩ = some (.int .i64 p) ∧ W2.cell? ⟨w.heap.size, 5, none⟩ = some (.int .i64 s)) ∧ Below W0.heap.size W0 W2) := fun W1 W2 h1 h2 => by
    have h1s := h1.2.size
    have hsz' : w.heap.size + 0 + 1 ≤ W0.heap.size := hsz
    have hq0 : w.heap.size < W1.heap.size := by omega
    have hq1 : w.heap.size + 0 < W1.heap.size := by omega
    obtain ⟨⟨h00, h01, h02, h03, h04, h05⟩, h1b⟩ := h1
    exact ⟨⟨(h2.cell (p := ⟨w.heap.size, 0, none⟩) hq0).trans h00, (h2.cell (p := ⟨w.heap.size, 1, none⟩) hq0).trans h01, (h2.cell (p := ⟨w.heap.size, 2, none⟩) hq0).trans h02, (h2.cell (p := ⟨w.heap.size, 3, none⟩) hq0).trans h03, (h2.cell (p := ⟨w.heap.size, 4, none⟩) hq0).trans h04, (h2.cell (p := ⟨w.heap.size, 5, none⟩) hq0).trans h05⟩, h1b.trans (h2.mono h1s)⟩
  have keepH := Lib.hid keep
  clear keep
  go_wp2_with (go_at_call 77; (with_reducible refine (isPoint_any _ _ _).mono ?_); rintro e w' ⟨rfl, hbel⟩; replace hS := keepH.out _ _ hS hbel; clear hbel)
  go_ret
  exact ⟨ret_bool (by rw [hx.out, h1, h2]; rfl), below2' hB0 hS.2⟩
set_option maxHeartbeats 3200000 in
theorem squareTo_any (a : Int) (b : Int) (c : Int) (d : Int) (p : Int) (s : Int) (x y : Int) (h1 : ptB a b = true) (h2 : ptB x y = true) (w : World) : Calls Try.prog 51 #[.agg #[.int .i64 a, .int .i64 b, .int .i64 c, .int .i64 d, .int .i64 p, .int .i64 s], .agg #[.int .i64 x, .int .i64 y]] w fun e w' => e = .returned (.int .i64 (sqd a b x y)) ∧ Below w.heap.size w w' := by
  have p1 := ptB_bd h1
  have p2 := ptB_bd h2
  obtain ⟨re, im, hsub, f1, f2⟩ := cx_sub x y a b p2.1 p2.2 p1.1 p1.2
  have hC : ∀ w, _ := fun w => dotProduct_any re im re im _ _ _ _ f1 f2 f1 f2 (by omega) (by omega) (by omega) (by omega) w
  have hC' := Lib.hid hC
  have hv : Hid ((x - a) * (x - a) + (y - b) * (y - b) = sqd a b x y) := Lib.hid (by
    unfold sqd
    rw [← Int.neg_sub a x, ← Int.neg_sub b y, Int.neg_mul_neg, Int.neg_mul_neg])
  clear hC f1 f2 p1 p2
  go_enter Try.func51, Try.ntmps51
  go_wp2
  obtain ⟨q1, q2, hB0, hsz⟩ := two_boxes w #[.int .i64 a, .int .i64 b, .int .i64 c, .int .i64 d, .int .i64 p, .int .i64 s] 29 #[.int .i64 x, .int .i64 y] 27
  generalize ((w.alloc (.cells #[.int .i64 a, .int .i64 b, .int .i64 c, .int .i64 d, .int .i64 p, .int .i64 s] 29)).alloc (.cells #[.int .i64 x, .int .i64 y] 27)) = W0 at q1 q2 hB0 hsz ⊢
  have hS0 : (((W0.cell? ⟨w.heap.size, 0, none⟩ = some (.int .i64 a) ∧ W0.cell? ⟨w.heap.size, 1, none⟩ = some (.int .i64 b) ∧ W0.cell? ⟨w.heap.size, 2, none⟩ = some (.int .i64 c) ∧ W0.cell? ⟨w.heap.size, 3, none⟩ = some (.int .i64 d) ∧ W0.cell? ⟨w.heap.size, 4, none⟩ = some (.int .i64 p) ∧ W0.cell? ⟨w.heap.size, 5, none⟩ = some (.int .i64 s)) ∧ (W0.cell? ⟨w.heap.size + 1, 0, none⟩ = some (.int .i64 x) ∧ W0.cell? ⟨w.heap.size + 1, 1, none⟩ = some (.int .i64 y))) ∧ Below w.heap.size w W0) := ⟨⟨⟨q1 0 _ rfl, q1 1 _ rfl, q1 2 _ rfl, q1 3 _ rfl, q1 4 _ rfl, q1 5 _ rfl⟩, ⟨q2 0 _ rfl, q2 1 _ rfl⟩⟩, hB0⟩
  clear q1 q2
  have hS : (((W0.cell? ⟨w.heap.size, 0, none⟩ = some (.int .i64 a) ∧ W0.cell? ⟨w.heap.size, 1, none⟩ = some (.int .i64 b) ∧ W0.cell? ⟨w.heap.size, 2, none⟩ = some (.int .i64 c) ∧ W0.cell? ⟨w.heap.size, 3, none⟩ = some (.int .i64 d) ∧ W0.cell? ⟨w.heap.size, 4, none⟩ = some (.int .i64 p) ∧ W0.cell? ⟨w.heap.size, 5, none⟩ = some (.int .i64 s)) ∧ (W0.cell? ⟨w.heap.size + 1, 0, none⟩ = some (.int .i64 x) ∧ W0.cell? ⟨w.heap.size + 1, 1, none⟩ = some (.int .i64 y))) ∧ Below W0.heap.size W0 W0) := ⟨hS0.1, Below.refl _ _⟩
  clear hS0
  have keep : ∀ W1 W2, (((W1.cell? ⟨w.heap.size, 0, none⟩ = some (.int .i64 a) ∧ W1.cell? ⟨w.heap.size, 1, none⟩ = some (.int .i64 b) ∧ W1.cell? ⟨w.heap.size, 2, none⟩ = some (.int .i64 c) ∧ W1.cell? ⟨w.heap.size, 3, none⟩ = some (.int .i64 d) ∧ W1.cell? ⟨w.heap.size, 4, none⟩ = some (.int .i64 p) ∧ W1.cell? ⟨w.heap.size, 5, none⟩ = some (.int .i64 s)) ∧ (W1.cell? ⟨w.heap.size + 1, 0, none⟩ = some (.int .i64 x) ∧ W1.cell? ⟨w.heap.size + 1, 1, none⟩ = some (.int .i64 y))) ∧ Below W0.heap.size W0 W1) → Below W1.heap.size W1 W2 → (((W2.cell? ⟨w.heap.size, 0, none⟩ = some (.int .i64 a) ∧ W2.cell? ⟨w.heap.size, 1, none⟩ = some (.int .i64 b) ∧ W2.cell? ⟨w.heap.size, 2, none⟩ = some (.int .i64 c) ∧ W2.cell? ⟨w.heap.size, 3, none⟩ = some (.int .i64 d) ∧ W2.cell? ⟨w.heap.size, 4, none⟩ = some (.int .i64 p) ∧ W2.cell? ⟨w.heap.size, 5, none⟩ = some (.int .i64 s)) ∧ (W2.cell? ⟨w.heap.size + 1, 0, none⟩ = some (.int .i64 x) ∧ W2.cell? ⟨w.heap.size + 1, 1, none⟩ = some (.int .i64 y))) ∧ Below W0.heap.size W0 W2) := fun W1 W2 h1 h2 => by
    have h1s := h1.2.size
    have hsz' : w.heap.size + 1 + 1 ≤ W0.heap.size := hsz
    have hq0 : w.heap.size < W1.heap.size := by omega
    have hq1 : w.heap.size + 1 < W1.heap.size := by omega
    obtain ⟨⟨⟨h00, h01, h02, h03, h04, h05⟩, ⟨h10, h11⟩⟩, h1b⟩ := h1
    exact ⟨⟨⟨(h2.cell (p := ⟨w.heap.size, 0, none⟩) hq0).trans h00, (h2.cell (p := ⟨w.heap.size, 1, none⟩) hq0).trans h01, (h2.cell (p := ⟨w.heap.size, 2, none⟩) hq0).trans h02, (h2.cell (p := ⟨w.heap.size, 3, none⟩) hq0).trans h03, (h2.cell (p := ⟨w.heap.size, 4, none⟩) hq0).trans h04, (h2.cell (p := ⟨w.heap.size, 5, none⟩) hq0).trans h05⟩, ⟨(h2.cell (p := ⟨w.heap.size + 1, 0, none⟩) hq1).trans h10, (h2.cell (p := ⟨w.heap.size + 1, 1, none⟩) hq1).trans h11⟩⟩, h1b.trans (h2.mono h1s)⟩
  have keepH := Lib.hid keep
  clear keep
  go_region_held3 (fun w' => (((w'.cell? ⟨w.heap.size, 0, none⟩ = some (.int .i64 a) ∧ w'.cell? ⟨w.heap.size, 1, none⟩ = some (.int .i64 b) ∧ w'.cell? ⟨w.heap.size, 2, none⟩ = some (.int .i64 c) ∧ w'.cell? ⟨w.heap.size, 3, none⟩ = some (.int .i64 d) ∧ w'.cell? ⟨w.heap.size, 4, none⟩ = some (.int .i64 p) ∧ w'.cell? ⟨w.heap.size, 5, none⟩ = some (.int .i64 s)) ∧ (w'.cell? ⟨w.heap.size + 1, 0, none⟩ = some (.int .i64 x) ∧ w'.cell? ⟨w.heap.size + 1, 1, none⟩ = some (.int .i64 y))) ∧ Below W0.heap.size W0 w'))
    (first | exact ⟨hS.1, belowN hS.2 1⟩ | exact keepH.out _ _ (by assumption) (by assumption) | assumption)
    (first | (go_at_call 74; (with_reducible refine (number_any _ _ _).mono ?_); rintro e w' ⟨rfl, hbel⟩))
  rename_i hHeld
  clear hS keepH
  go_wp2_with (go_at_call 78; refine (hC'.out _).mono ?_; rintro e w' ⟨rfl, rfl⟩)
  go_ret
  exact ⟨ret_int hv.out, below2' hB0 hHeld.2⟩
end Go.Proofs.Ytdgkpghecfpgoaa
