/-
  Necks: scale, ratio, projection, on both sides.
-/
import Derived.Test.YtjkgdgohnkcemaaNckT
namespace Go.Proofs.Ytjkgdgohnkcemaa
open Go.ChangeShapes Go.WideShapes Go.ChangeAt Go.RowKit Go.Deep
set_option linter.unusedVariables false
set_option linter.unusedSimpArgs false
set_option maxRecDepth 1000000
set_option maxHeartbeats 1600000 in
theorem implScaleOf_any (a : Int) (b : Int) (c : Int) (d : Int) (w : World) : Calls Try.prog 19 #[.agg #[.int .i64 a, .int .i64 b, .int .i64 c, .int .i64 d]] w fun e w' => e = .returned (.tuple #[.int .i64 (pick (nckB ⟨a, b, c, d⟩) (a + b)), .int .i64 (code (nckB ⟨a, b, c, d⟩) 1)]) ∧ Below w.heap.size w w' := by
  have cV := Lib.hid (fun W => implValidNeck_any a b c d W)
  cases h : nckB ⟨a, b, c, d⟩ <;> rw [h] at cV
  · go_enter Try.func19, Try.ntmps19
    go_wp2_with fail
    obtain ⟨q1, hB0, hsz⟩ := one_box w #[.int .i64 a, .int .i64 b, .int .i64 c, .int .i64 d] 25
    generalize (w.alloc (.cells #[.int .i64 a, .int .i64 b, .int .i64 c, .int .i64 d] 25)) = W0 at q1 hB0 hsz ⊢
    have hS : ((W0.cell? ⟨w.heap.size, 0, none⟩ = some (.int .i64 a) ∧ W0.cell? ⟨w.heap.size, 1, none⟩ = some (.int .i64 b) ∧ W0.cell? ⟨w.heap.size, 2, none⟩ = some (.int .i64 c) ∧ W0.cell? ⟨w.heap.size, 3, none⟩ = some (.int .i64 d)) ∧ Below W0.heap.size W0 W0) := ⟨⟨q1 0 _ rfl, q1 1 _ rfl, q1 2 _ rfl, q1 3 _ rfl⟩, Below.refl _ _⟩
    have keep : ∀ W1 W2, ((W1.cell? ⟨w.heap.size, 0, none⟩ = some (.int .i64 a) ∧ W1.cell? ⟨w.heap.size, 1, none⟩ = some (.int .i64 b) ∧ W1.cell? ⟨w.heap.size, 2, none⟩ = some (.int .i64 c) ∧ W1.cell? ⟨w.heap.size, 3, none⟩ = some (.int .i64 d)) ∧ Below W0.heap.size W0 W1) → Below W1.heap.size W1 W2 → ((W2.cell? ⟨w.heap.size, 0, none⟩ = some (.int .i64 a) ∧ W2.cell? ⟨w.heap.size, 1, none⟩ = some (.int .i64 b) ∧ W2.cell? ⟨w.heap.size, 2, none⟩ = some (.int .i64 c) ∧ W2.cell? ⟨w.heap.size, 3, none⟩ = some (.int .i64 d)) ∧ Below W0.heap.size W0 W2) := fun W1 W2 h1 h2 => by
      obtain ⟨p0, hb⟩ := h1
      exact ⟨NckAt.below (x := ⟨a, b, c, d⟩) (o := 0) p0 (Nat.lt_of_lt_of_le hsz hb.size) h2, hb.trans (h2.mono hb.size)⟩
    have keepH := Lib.hid keep
    clear keep
    clear q1
    go_wp2_with (first
      | (go_at_call 17; (with_reducible refine (cV.out _).mono ?_); rintro e w' ⟨rfl, hbel⟩; replace hS := keepH.out _ _ hS hbel; clear hbel))
    go_ret2
    exact ⟨ret_int2 rfl rfl, below2 hB0 hS.2⟩

  obtain ⟨ha, hb, hc, hd⟩ := nck_bd h
  have e1 : IntKind.i64.wrap (a + b) = a + b := IntWalk.i64_in _ (by omega)
  have cT := Lib.hid (fun W => scale_any a b c d ha hb W)
  clear h
  go_enter Try.func19, Try.ntmps19
  go_wp2_with fail
  obtain ⟨q1, hB0, hsz⟩ := one_box w #[.int .i64 a, .int .i64 b, .int .i64 c, .int .i64 d] 25
  generalize (w.alloc (.cells #[.int .i64 a, .int .i64 b, .int .i64 c, .int .i64 d] 25)) = W0 at q1 hB0 hsz ⊢
  have hS : ((W0.cell? ⟨w.heap.size, 0, none⟩ = some (.int .i64 a) ∧ W0.cell? ⟨w.heap.size, 1, none⟩ = some (.int .i64 b) ∧ W0.cell? ⟨w.heap.size, 2, none⟩ = some (.int .i64 c) ∧ W0.cell? ⟨w.heap.size, 3, none⟩ = some (.int .i64 d)) ∧ Below W0.heap.size W0 W0) := ⟨⟨q1 0 _ rfl, q1 1 _ rfl, q1 2 _ rfl, q1 3 _ rfl⟩, Below.refl _ _⟩
  have keep : ∀ W1 W2, ((W1.cell? ⟨w.heap.size, 0, none⟩ = some (.int .i64 a) ∧ W1.cell? ⟨w.heap.size, 1, none⟩ = some (.int .i64 b) ∧ W1.cell? ⟨w.heap.size, 2, none⟩ = some (.int .i64 c) ∧ W1.cell? ⟨w.heap.size, 3, none⟩ = some (.int .i64 d)) ∧ Below W0.heap.size W0 W1) → Below W1.heap.size W1 W2 → ((W2.cell? ⟨w.heap.size, 0, none⟩ = some (.int .i64 a) ∧ W2.cell? ⟨w.heap.size, 1, none⟩ = some (.int .i64 b) ∧ W2.cell? ⟨w.heap.size, 2, none⟩ = some (.int .i64 c) ∧ W2.cell? ⟨w.heap.size, 3, none⟩ = some (.int .i64 d)) ∧ Below W0.heap.size W0 W2) := fun W1 W2 h1 h2 => by
    obtain ⟨p0, hb⟩ := h1
    exact ⟨NckAt.below (x := ⟨a, b, c, d⟩) (o := 0) p0 (Nat.lt_of_lt_of_le hsz hb.size) h2, hb.trans (h2.mono hb.size)⟩
  have keepH := Lib.hid keep
  clear keep
  clear q1
  go_wp2_with (first
    | (go_at_call 17; (with_reducible refine (cV.out _).mono ?_); rintro e w' ⟨rfl, hbel⟩; replace hS := keepH.out _ _ hS hbel; clear hbel)
    | (go_at_call 50; (with_reducible refine (cT.out _).mono ?_); rintro e w' ⟨rfl, hbel⟩; replace hS := keepH.out _ _ hS hbel; clear hbel))
  go_ret2
  exact ⟨ret_int2 rfl rfl, below2 hB0 hS.2⟩
set_option maxHeartbeats 1600000 in
theorem specScaleOf_any (a : Int) (b : Int) (c : Int) (d : Int) (w : World) : Calls Try.prog 18 #[.agg #[.int .i64 a, .int .i64 b, .int .i64 c, .int .i64 d]] w fun e w' => e = .returned (.tuple #[.int .i64 (pick (nckB ⟨a, b, c, d⟩) (a + b)), .int .i64 (code (nckB ⟨a, b, c, d⟩) 1)]) ∧ Below w.heap.size w w' := by
  have hat := nck_box a b c d w
  have c1 := fun W g o (hat : NckAt W g o ⟨a, b, c, d⟩) => l10Ok_any a b c d W g o hat
  cases h : nckB ⟨a, b, c, d⟩ <;> rw [h] at c1
  · go_enter Try.func18, Try.ntmps18
    go_wp2_with (go_at_call 47; (with_reducible refine (c1 _ _ 0 hat).mono ?_); rintro e w' ⟨rfl, rfl⟩)
    go_ret2
    exact ⟨ret_int2 rfl rfl, (Below.refl _ _).alloc (Nat.le_refl _) _⟩
  obtain ⟨ha, hb, hc, hd⟩ := nck_bd h
  have e1 : IntKind.i64.wrap (a + b) = a + b := IntWalk.i64_in _ (by omega)
  have cT := Lib.hid (fun W => scale_any a b c d ha hb W)
  go_enter Try.func18, Try.ntmps18
  go_wp2_with (first
    | (go_at_call 47; (with_reducible refine (c1 _ _ 0 hat).mono ?_); rintro e w' ⟨rfl, rfl⟩))
  go_ret2
  exact ⟨ret_int2 rfl rfl, belowN ((Below.refl _ _).alloc (Nat.le_refl _) _) 0⟩
set_option maxHeartbeats 1600000 in
theorem implStopRatio_any (a : Int) (b : Int) (c : Int) (d : Int) (w : World) : Calls Try.prog 21 #[.agg #[.int .i64 a, .int .i64 b, .int .i64 c, .int .i64 d]] w fun e w' => e = .returned (.tuple #[.int .i64 (pick (nckB ⟨a, b, c, d⟩) (rnd (1000 * a) b)), .int .i64 (code (nckB ⟨a, b, c, d⟩) 1)]) ∧ Below w.heap.size w w' := by
  have cV := Lib.hid (fun W => implValidNeck_any a b c d W)
  cases h : nckB ⟨a, b, c, d⟩ <;> rw [h] at cV
  · go_enter Try.func21, Try.ntmps21
    go_wp2_with fail
    obtain ⟨q1, hB0, hsz⟩ := one_box w #[.int .i64 a, .int .i64 b, .int .i64 c, .int .i64 d] 25
    generalize (w.alloc (.cells #[.int .i64 a, .int .i64 b, .int .i64 c, .int .i64 d] 25)) = W0 at q1 hB0 hsz ⊢
    have hS : ((W0.cell? ⟨w.heap.size, 0, none⟩ = some (.int .i64 a) ∧ W0.cell? ⟨w.heap.size, 1, none⟩ = some (.int .i64 b) ∧ W0.cell? ⟨w.heap.size, 2, none⟩ = some (.int .i64 c) ∧ W0.cell? ⟨w.heap.size, 3, none⟩ = some (.int .i64 d)) ∧ Below W0.heap.size W0 W0) := ⟨⟨q1 0 _ rfl, q1 1 _ rfl, q1 2 _ rfl, q1 3 _ rfl⟩, Below.refl _ _⟩
    have keep : ∀ W1 W2, ((W1.cell? ⟨w.heap.size, 0, none⟩ = some (.int .i64 a) ∧ W1.cell? ⟨w.heap.size, 1, none⟩ = some (.int .i64 b) ∧ W1.cell? ⟨w.heap.size, 2, none⟩ = some (.int .i64 c) ∧ W1.cell? ⟨w.heap.size, 3, none⟩ = some (.int .i64 d)) ∧ Below W0.heap.size W0 W1) → Below W1.heap.size W1 W2 → ((W2.cell? ⟨w.heap.size, 0, none⟩ = some (.int .i64 a) ∧ W2.cell? ⟨w.heap.size, 1, none⟩ = some (.int .i64 b) ∧ W2.cell? ⟨w.heap.size, 2, none⟩ = some (.int .i64 c) ∧ W2.cell? ⟨w.heap.size, 3, none⟩ = some (.int .i64 d)) ∧ Below W0.heap.size W0 W2) := fun W1 W2 h1 h2 => by
      obtain ⟨p0, hb⟩ := h1
      exact ⟨NckAt.below (x := ⟨a, b, c, d⟩) (o := 0) p0 (Nat.lt_of_lt_of_le hsz hb.size) h2, hb.trans (h2.mono hb.size)⟩
    have keepH := Lib.hid keep
    clear keep
    clear q1
    go_wp2_with (first
      | (go_at_call 17; (with_reducible refine (cV.out _).mono ?_); rintro e w' ⟨rfl, hbel⟩; replace hS := keepH.out _ _ hS hbel; clear hbel))
    go_ret2
    exact ⟨ret_int2 rfl rfl, below2 hB0 hS.2⟩

  obtain ⟨ha, hb, hc, hd⟩ := nck_bd h
  have e1 : IntKind.i64.wrap (1000 * a) = 1000 * a := IntWalk.i64_in _ (by omega)
  have cT := Lib.hid (fun W => nearB_any (1000 * a) b (by omega) (by omega) (by omega) (by omega) (by omega) W)
  have cD := Lib.hid (fun W => l01Div_any (1000 * a) b (by omega) (by omega) (by omega) (by omega) (by omega) W)
  clear h
  go_enter Try.func21, Try.ntmps21
  go_wp2_with fail
  obtain ⟨q1, hB0, hsz⟩ := one_box w #[.int .i64 a, .int .i64 b, .int .i64 c, .int .i64 d] 25
  generalize (w.alloc (.cells #[.int .i64 a, .int .i64 b, .int .i64 c, .int .i64 d] 25)) = W0 at q1 hB0 hsz ⊢
  have hS : ((W0.cell? ⟨w.heap.size, 0, none⟩ = some (.int .i64 a) ∧ W0.cell? ⟨w.heap.size, 1, none⟩ = some (.int .i64 b) ∧ W0.cell? ⟨w.heap.size, 2, none⟩ = some (.int .i64 c) ∧ W0.cell? ⟨w.heap.size, 3, none⟩ = some (.int .i64 d)) ∧ Below W0.heap.size W0 W0) := ⟨⟨q1 0 _ rfl, q1 1 _ rfl, q1 2 _ rfl, q1 3 _ rfl⟩, Below.refl _ _⟩
  have keep : ∀ W1 W2, ((W1.cell? ⟨w.heap.size, 0, none⟩ = some (.int .i64 a) ∧ W1.cell? ⟨w.heap.size, 1, none⟩ = some (.int .i64 b) ∧ W1.cell? ⟨w.heap.size, 2, none⟩ = some (.int .i64 c) ∧ W1.cell? ⟨w.heap.size, 3, none⟩ = some (.int .i64 d)) ∧ Below W0.heap.size W0 W1) → Below W1.heap.size W1 W2 → ((W2.cell? ⟨w.heap.size, 0, none⟩ = some (.int .i64 a) ∧ W2.cell? ⟨w.heap.size, 1, none⟩ = some (.int .i64 b) ∧ W2.cell? ⟨w.heap.size, 2, none⟩ = some (.int .i64 c) ∧ W2.cell? ⟨w.heap.size, 3, none⟩ = some (.int .i64 d)) ∧ Below W0.heap.size W0 W2) := fun W1 W2 h1 h2 => by
    obtain ⟨p0, hb⟩ := h1
    exact ⟨NckAt.below (x := ⟨a, b, c, d⟩) (o := 0) p0 (Nat.lt_of_lt_of_le hsz hb.size) h2, hb.trans (h2.mono hb.size)⟩
  have keepH := Lib.hid keep
  clear keep
  clear q1
  go_wp2_with (first
    | (go_at_call 17; (with_reducible refine (cV.out _).mono ?_); rintro e w' ⟨rfl, hbel⟩; replace hS := keepH.out _ _ hS hbel; clear hbel)
    | (go_at_call 52; (with_reducible refine (cT.out _).mono ?_); rintro e w' ⟨rfl, hbel⟩; replace hS := keepH.out _ _ hS hbel; clear hbel))
  go_ret2
  exact ⟨ret_int2 rfl rfl, below2 hB0 hS.2⟩
set_option maxHeartbeats 1600000 in
theorem specStopRatio_any (a : Int) (b : Int) (c : Int) (d : Int) (w : World) : Calls Try.prog 20 #[.agg #[.int .i64 a, .int .i64 b, .int .i64 c, .int .i64 d]] w fun e w' => e = .returned (.tuple #[.int .i64 (pick (nckB ⟨a, b, c, d⟩) (rnd (1000 * a) b)), .int .i64 (code (nckB ⟨a, b, c, d⟩) 1)]) ∧ Below w.heap.size w w' := by
  have hat := nck_box a b c d w
  have c1 := fun W g o (hat : NckAt W g o ⟨a, b, c, d⟩) => l10Ok_any a b c d W g o hat
  cases h : nckB ⟨a, b, c, d⟩ <;> rw [h] at c1
  · go_enter Try.func20, Try.ntmps20
    go_wp2_with (go_at_call 47; (with_reducible refine (c1 _ _ 0 hat).mono ?_); rintro e w' ⟨rfl, rfl⟩)
    go_ret2
    exact ⟨ret_int2 rfl rfl, (Below.refl _ _).alloc (Nat.le_refl _) _⟩
  obtain ⟨ha, hb, hc, hd⟩ := nck_bd h
  have e1 : IntKind.i64.wrap (1000 * a) = 1000 * a := IntWalk.i64_in _ (by omega)
  have cT := Lib.hid (fun W => nearB_any (1000 * a) b (by omega) (by omega) (by omega) (by omega) (by omega) W)
  have cD := Lib.hid (fun W => l01Div_any (1000 * a) b (by omega) (by omega) (by omega) (by omega) (by omega) W)
  go_enter Try.func20, Try.ntmps20
  go_wp2_with (first
    | (go_at_call 47; (with_reducible refine (c1 _ _ 0 hat).mono ?_); rintro e w' ⟨rfl, rfl⟩)
    | (go_at_call 51; (with_reducible refine (cD.out _).mono ?_); rintro e w' ⟨rfl, rfl⟩))
  go_ret2
  exact ⟨ret_int2 rfl rfl, belowN ((Below.refl _ _).alloc (Nat.le_refl _) _) 0⟩
set_option maxHeartbeats 1600000 in
theorem implProjectionOf_any (a : Int) (b : Int) (c : Int) (d : Int) (w : World) : Calls Try.prog 25 #[.agg #[.int .i64 a, .int .i64 b, .int .i64 c, .int .i64 d]] w fun e w' => e = .returned (.tuple #[.int .i64 (pick (nckB ⟨a, b, c, d⟩) (prjV b c d)), .int .i64 (code (nckB ⟨a, b, c, d⟩) 1)]) ∧ Below w.heap.size w w' := by
  have cV := Lib.hid (fun W => implValidNeck_any a b c d W)
  cases h : nckB ⟨a, b, c, d⟩ <;> rw [h] at cV
  · go_enter Try.func25, Try.ntmps25
    go_wp2_with fail
    obtain ⟨q1, hB0, hsz⟩ := one_box w #[.int .i64 a, .int .i64 b, .int .i64 c, .int .i64 d] 25
    generalize (w.alloc (.cells #[.int .i64 a, .int .i64 b, .int .i64 c, .int .i64 d] 25)) = W0 at q1 hB0 hsz ⊢
    have hS : ((W0.cell? ⟨w.heap.size, 0, none⟩ = some (.int .i64 a) ∧ W0.cell? ⟨w.heap.size, 1, none⟩ = some (.int .i64 b) ∧ W0.cell? ⟨w.heap.size, 2, none⟩ = some (.int .i64 c) ∧ W0.cell? ⟨w.heap.size, 3, none⟩ = some (.int .i64 d)) ∧ Below W0.heap.size W0 W0) := ⟨⟨q1 0 _ rfl, q1 1 _ rfl, q1 2 _ rfl, q1 3 _ rfl⟩, Below.refl _ _⟩
    have keep : ∀ W1 W2, ((W1.cell? ⟨w.heap.size, 0, none⟩ = some (.int .i64 a) ∧ W1.cell? ⟨w.heap.size, 1, none⟩ = some (.int .i64 b) ∧ W1.cell? ⟨w.heap.size, 2, none⟩ = some (.int .i64 c) ∧ W1.cell? ⟨w.heap.size, 3, none⟩ = some (.int .i64 d)) ∧ Below W0.heap.size W0 W1) → Below W1.heap.size W1 W2 → ((W2.cell? ⟨w.heap.size, 0, none⟩ = some (.int .i64 a) ∧ W2.cell? ⟨w.heap.size, 1, none⟩ = some (.int .i64 b) ∧ W2.cell? ⟨w.heap.size, 2, none⟩ = some (.int .i64 c) ∧ W2.cell? ⟨w.heap.size, 3, none⟩ = some (.int .i64 d)) ∧ Below W0.heap.size W0 W2) := fun W1 W2 h1 h2 => by
      obtain ⟨p0, hb⟩ := h1
      exact ⟨NckAt.below (x := ⟨a, b, c, d⟩) (o := 0) p0 (Nat.lt_of_lt_of_le hsz hb.size) h2, hb.trans (h2.mono hb.size)⟩
    have keepH := Lib.hid keep
    clear keep
    clear q1
    go_wp2_with (first
      | (go_at_call 17; (with_reducible refine (cV.out _).mono ?_); rintro e w' ⟨rfl, hbel⟩; replace hS := keepH.out _ _ hS hbel; clear hbel))
    go_ret2
    exact ⟨ret_int2 rfl rfl, below2 hB0 hS.2⟩

  obtain ⟨ha, hb, hc, hd⟩ := nck_bd h
  have cT := Lib.hid (fun W => projection_any a b c d hb hc ⟨hd.1, by omega⟩ W)
  have cD := Lib.hid (fun W g o (hat : NckAt W g o ⟨a, b, c, d⟩) => l10High_any a b c d d hb hc ⟨hd.1, by omega⟩ W g o hat)
  clear h
  go_enter Try.func25, Try.ntmps25
  go_wp2_with fail
  obtain ⟨q1, hB0, hsz⟩ := one_box w #[.int .i64 a, .int .i64 b, .int .i64 c, .int .i64 d] 25
  generalize (w.alloc (.cells #[.int .i64 a, .int .i64 b, .int .i64 c, .int .i64 d] 25)) = W0 at q1 hB0 hsz ⊢
  have hS : ((W0.cell? ⟨w.heap.size, 0, none⟩ = some (.int .i64 a) ∧ W0.cell? ⟨w.heap.size, 1, none⟩ = some (.int .i64 b) ∧ W0.cell? ⟨w.heap.size, 2, none⟩ = some (.int .i64 c) ∧ W0.cell? ⟨w.heap.size, 3, none⟩ = some (.int .i64 d)) ∧ Below W0.heap.size W0 W0) := ⟨⟨q1 0 _ rfl, q1 1 _ rfl, q1 2 _ rfl, q1 3 _ rfl⟩, Below.refl _ _⟩
  have keep : ∀ W1 W2, ((W1.cell? ⟨w.heap.size, 0, none⟩ = some (.int .i64 a) ∧ W1.cell? ⟨w.heap.size, 1, none⟩ = some (.int .i64 b) ∧ W1.cell? ⟨w.heap.size, 2, none⟩ = some (.int .i64 c) ∧ W1.cell? ⟨w.heap.size, 3, none⟩ = some (.int .i64 d)) ∧ Below W0.heap.size W0 W1) → Below W1.heap.size W1 W2 → ((W2.cell? ⟨w.heap.size, 0, none⟩ = some (.int .i64 a) ∧ W2.cell? ⟨w.heap.size, 1, none⟩ = some (.int .i64 b) ∧ W2.cell? ⟨w.heap.size, 2, none⟩ = some (.int .i64 c) ∧ W2.cell? ⟨w.heap.size, 3, none⟩ = some (.int .i64 d)) ∧ Below W0.heap.size W0 W2) := fun W1 W2 h1 h2 => by
    obtain ⟨p0, hb⟩ := h1
    exact ⟨NckAt.below (x := ⟨a, b, c, d⟩) (o := 0) p0 (Nat.lt_of_lt_of_le hsz hb.size) h2, hb.trans (h2.mono hb.size)⟩
  have keepH := Lib.hid keep
  clear keep
  clear q1
  go_wp2_with (first
    | (go_at_call 17; (with_reducible refine (cV.out _).mono ?_); rintro e w' ⟨rfl, hbel⟩; replace hS := keepH.out _ _ hS hbel; clear hbel)
    | (go_at_call 56; (with_reducible refine (cT.out _).mono ?_); rintro e w' ⟨rfl, hbel⟩; replace hS := keepH.out _ _ hS hbel; clear hbel))
  go_ret2
  exact ⟨ret_int2 rfl rfl, below2 hB0 hS.2⟩
set_option maxHeartbeats 1600000 in
theorem specProjectionOf_any (a : Int) (b : Int) (c : Int) (d : Int) (w : World) : Calls Try.prog 24 #[.agg #[.int .i64 a, .int .i64 b, .int .i64 c, .int .i64 d]] w fun e w' => e = .returned (.tuple #[.int .i64 (pick (nckB ⟨a, b, c, d⟩) (prjV b c d)), .int .i64 (code (nckB ⟨a, b, c, d⟩) 1)]) ∧ Below w.heap.size w w' := by
  have hat := nck_box a b c d w
  have c1 := fun W g o (hat : NckAt W g o ⟨a, b, c, d⟩) => l10Ok_any a b c d W g o hat
  cases h : nckB ⟨a, b, c, d⟩ <;> rw [h] at c1
  · go_enter Try.func24, Try.ntmps24
    go_wp2_with (go_at_call 47; (with_reducible refine (c1 _ _ 0 hat).mono ?_); rintro e w' ⟨rfl, rfl⟩)
    go_ret2
    exact ⟨ret_int2 rfl rfl, (Below.refl _ _).alloc (Nat.le_refl _) _⟩
  obtain ⟨ha, hb, hc, hd⟩ := nck_bd h
  have cT := Lib.hid (fun W => projection_any a b c d hb hc ⟨hd.1, by omega⟩ W)
  have cD := Lib.hid (fun W g o (hat : NckAt W g o ⟨a, b, c, d⟩) => l10High_any a b c d d hb hc ⟨hd.1, by omega⟩ W g o hat)
  go_enter Try.func24, Try.ntmps24
  go_wp2_with (first
    | (go_at_call 47; (with_reducible refine (c1 _ _ 0 hat).mono ?_); rintro e w' ⟨rfl, rfl⟩)
    | (go_at_call 55; (with_reducible refine (cD.out _ _ 0 hat).mono ?_); rintro e w' ⟨rfl, m, rfl⟩))
  go_ret2
  exact ⟨ret_int2 rfl rfl, belowN ((Below.refl _ _).alloc (Nat.le_refl _) _) m⟩
set_option maxHeartbeats 1600000 in
theorem implStopFor_any (p q : Int) (w : World) : Calls Try.prog 23 #[.int .i64 p, .int .i64 q] w fun e w' => e = .returned (.tuple #[.int .i64 (pick (inB p 100 10000 && inB q 1 2000) (rnd (p * q) 1000)), .int .i64 (code (inB p 100 10000 && inB q 1 2000) 2)]) ∧ Below w.heap.size w w' := by
  cases h1 : inB p 100 10000
  · go_enter Try.func23, Try.ntmps23
    go_wp2_with (go_at_call 48; refine (isNeckLength_any p _).mono ?_; rw [h1]; rintro e w' ⟨rfl, rfl⟩)
    go_ret2
    exact ⟨ret_int2 rfl rfl, Below.refl _ _⟩
  cases h2 : inB q 1 2000
  · go_enter Try.func23, Try.ntmps23
    go_wp2_with (first | (go_at_call 48; refine (isNeckLength_any p _).mono ?_; rw [h1]; rintro e w' ⟨rfl, rfl⟩) | (go_at_call 49; refine (within64_any q 1 2000 _).mono ?_; rw [h2]; rintro e w' ⟨rfl, rfl⟩))
    go_ret2
    exact ⟨ret_int2 rfl rfl, Below.refl _ _⟩
  have hp := inB_iff.1 h1
  have hq := inB_iff.1 h2
  have hm := mulP_bd (a := p) (b := q) (A := 10000) (B := 2000) (by omega) (by omega)
  have e1 : IntKind.i64.wrap (p * q) = p * q := IntWalk.i64_in _ (by omega)
  have cN := Lib.hid (fun W => nearB_any (p * q) 1000 (by decide) (by omega) (by omega) (by decide) (by decide) W)
  go_enter Try.func23, Try.ntmps23
  go_wp2_with (first | (go_at_call 48; refine (isNeckLength_any p _).mono ?_; rw [h1]; rintro e w' ⟨rfl, rfl⟩) | (go_at_call 49; refine (within64_any q 1 2000 _).mono ?_; rw [h2]; rintro e w' ⟨rfl, rfl⟩) | (go_at_call 52; (with_reducible refine (cN.out _).mono ?_); rintro e w' ⟨rfl, b1⟩))
  go_ret2
  exact ⟨ret_int2 rfl rfl, b1⟩
set_option maxHeartbeats 1600000 in
theorem specStopFor_any (p q : Int) (w : World) : Calls Try.prog 22 #[.int .i64 p, .int .i64 q] w fun e w' => e = .returned (.tuple #[.int .i64 (pick (inB p 100 10000 && inB q 1 2000) (rnd (p * q) 1000)), .int .i64 (code (inB p 100 10000 && inB q 1 2000) 2)]) ∧ Below w.heap.size w w' := by
  cases h1 : inB p 100 10000
  · go_enter Try.func22, Try.ntmps22
    go_wp2_with (go_at_call 53; refine (l10Size_any p _).mono ?_; rw [h1]; rintro e w' ⟨rfl, rfl⟩)
    go_ret2
    exact ⟨ret_int2 rfl rfl, Below.refl _ _⟩
  cases h2 : inB q 1 2000
  · go_enter Try.func22, Try.ntmps22
    go_wp2_with (first | (go_at_call 53; refine (l10Size_any p _).mono ?_; rw [h1]; rintro e w' ⟨rfl, rfl⟩) | (go_at_call 54; refine (l00In_any q 1 2000 _).mono ?_; rw [h2]; rintro e w' ⟨rfl, rfl⟩))
    go_ret2
    exact ⟨ret_int2 rfl rfl, Below.refl _ _⟩
  have hp := inB_iff.1 h1
  have hq := inB_iff.1 h2
  have hm := mulP_bd (a := p) (b := q) (A := 10000) (B := 2000) (by omega) (by omega)
  have e1 : IntKind.i64.wrap (p * q) = p * q := IntWalk.i64_in _ (by omega)
  have cN := Lib.hid (fun W => l01Div_any (p * q) 1000 (by decide) (by omega) (by omega) (by decide) (by decide) W)
  go_enter Try.func22, Try.ntmps22
  go_wp2_with (first | (go_at_call 53; refine (l10Size_any p _).mono ?_; rw [h1]; rintro e w' ⟨rfl, rfl⟩) | (go_at_call 54; refine (l00In_any q 1 2000 _).mono ?_; rw [h2]; rintro e w' ⟨rfl, rfl⟩) | (go_at_call 51; (with_reducible refine (cN.out _).mono ?_); rintro e w' ⟨rfl, rfl⟩))
  go_ret2
  exact ⟨ret_int2 rfl rfl, Below.refl _ _⟩
end Go.Proofs.Ytjkgdgohnkcemaa
