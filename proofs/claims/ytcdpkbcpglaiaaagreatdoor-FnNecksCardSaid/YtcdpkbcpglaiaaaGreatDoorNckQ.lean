/-
  Necks: AngleFor, BridgeFor, StringAngle, ShimFor, by the program.
-/
import Derived.Test.YtcdpkbcpglaiaaaGreatDoorNckP
namespace Go.Proofs.YtcdpkbcpglaiaaaGreatDoor
open Go.ChangeShapes Go.WideShapes Go.ChangeAt Go.RowKit Go.Deep
set_option linter.unusedVariables false
set_option linter.unusedSimpArgs false
set_option maxRecDepth 1000000
def saV (a b c d z : Int) : Int := rnd (1000 * (z - prjV b c d)) (a + b)
theorem codeOf1d_any (a : Int) (b : Int) (c : Int) (d : Int) (ok : Bool) (W : World) : Calls Tryz.prog 22 #[.bool ok, .slice (some ⟨W.heap.size, 0, none⟩) 1 1] (W.alloc (.cells #[.int .i64 a, .int .i64 b, .int .i64 c, .int .i64 d] 25)).drew fun e w' => e = .returned (.int .i64 (nk1 (nckB ⟨a, b, c, d⟩) ok)) ∧ Below (W.alloc (.cells #[.int .i64 a, .int .i64 b, .int .i64 c, .int .i64 d] 25)).drew.heap.size (W.alloc (.cells #[.int .i64 a, .int .i64 b, .int .i64 c, .int .i64 d] 25)).drew w' := by
  have := codeOfNecks_any ok _ [⟨a, b, c, d⟩] (W.alloc (.cells #[.int .i64 a, .int .i64 b, .int .i64 c, .int .i64 d] 25)).drew (by simp) ((ncks_single a b c d W).below (belowN (Below.refl _ _) 1))
  rwa [nkC_one] at this
set_option maxHeartbeats 3200000 in
theorem implAngleFor_any (a : Int) (b : Int) (c : Int) (d : Int) (z : Int) (w : World) : Calls Tryz.prog 6 #[.agg #[.int .i64 a, .int .i64 b, .int .i64 c, .int .i64 d], .int .i64 z] w fun e w' => e = .returned (.tuple #[.int .i64 (pick (nckB ⟨a, b, c, d⟩ && inB z 0 2000) (agV b c z)), .int .i64 (cd3 (nckB ⟨a, b, c, d⟩) (inB z 0 2000) (agC b c z))]) ∧ Below w.heap.size w w' := by
  have c2 := Lib.hid (fun W => isNeckHeight_any z W)
  cases h1 : nckB ⟨a, b, c, d⟩ <;> cases h2 : inB z 0 2000 <;> rw [h2] at c2
  · have cC : Hid (∀ W : World, Calls Tryz.prog 22 #[.bool false, .slice (some ⟨W.heap.size, 0, none⟩) 1 1] (W.alloc (.cells #[.int .i64 a, .int .i64 b, .int .i64 c, .int .i64 d] 25)).drew fun e w' => e = .returned (.int .i64 1) ∧ Below (W.alloc (.cells #[.int .i64 a, .int .i64 b, .int .i64 c, .int .i64 d] 25)).drew.heap.size (W.alloc (.cells #[.int .i64 a, .int .i64 b, .int .i64 c, .int .i64 d] 25)).drew w') := Lib.hid (fun W => by have h9 := codeOf1d_any a b c d false W; rw [h1] at h9; exact h9)
    clear h1 h2
    go_enter Tryz.func6, Tryz.ntmps6
    go_wp2_with fail
    obtain ⟨hS0, hB0, hsz⟩ := nk_box2 a b c d z w
    generalize ((w.alloc (.cells #[.int .i64 a, .int .i64 b, .int .i64 c, .int .i64 d] 25)).alloc (.cells #[.int .i64 z] 2)) = W0 at hS0 hB0 hsz ⊢
    have keep : ∀ W1 W2, (((W1.cell? ⟨w.heap.size, 0, none⟩ = some (.int .i64 a) ∧ W1.cell? ⟨w.heap.size, 1, none⟩ = some (.int .i64 b) ∧ W1.cell? ⟨w.heap.size, 2, none⟩ = some (.int .i64 c) ∧ W1.cell? ⟨w.heap.size, 3, none⟩ = some (.int .i64 d)) ∧ W1.cell? ⟨(w.heap.size + 1), 0, none⟩ = some (.int .i64 z)) ∧ Below W0.heap.size W0 W1) → Below W1.heap.size W1 W2 → (((W2.cell? ⟨w.heap.size, 0, none⟩ = some (.int .i64 a) ∧ W2.cell? ⟨w.heap.size, 1, none⟩ = some (.int .i64 b) ∧ W2.cell? ⟨w.heap.size, 2, none⟩ = some (.int .i64 c) ∧ W2.cell? ⟨w.heap.size, 3, none⟩ = some (.int .i64 d)) ∧ W2.cell? ⟨(w.heap.size + 1), 0, none⟩ = some (.int .i64 z)) ∧ Below W0.heap.size W0 W2) := fun W1 W2 h1 h2 => by
      obtain ⟨⟨p0, p1⟩, hb⟩ := h1
      have q0 := NckAt.below (x := ⟨a, b, c, d⟩) (o := 0) p0 (Nat.lt_of_lt_of_le (show w.heap.size < W0.heap.size by omega) hb.size) h2
      have q1 := (h2.cell (p := ⟨(w.heap.size + 1), 0, none⟩) (Nat.lt_of_lt_of_le (show w.heap.size + 1 < W0.heap.size by omega) hb.size)).trans p1
      exact ⟨⟨q0, q1⟩, hb.trans (h2.mono hb.size)⟩
    have keepH := Lib.hid keep
    clear keep
    have hS : (((W0.cell? ⟨w.heap.size, 0, none⟩ = some (.int .i64 a) ∧ W0.cell? ⟨w.heap.size, 1, none⟩ = some (.int .i64 b) ∧ W0.cell? ⟨w.heap.size, 2, none⟩ = some (.int .i64 c) ∧ W0.cell? ⟨w.heap.size, 3, none⟩ = some (.int .i64 d)) ∧ W0.cell? ⟨(w.heap.size + 1), 0, none⟩ = some (.int .i64 z)) ∧ Below W0.heap.size W0 W0) := ⟨hS0, Below.refl _ _⟩
    clear hS0
    go_wp2
    go_region_held3 (fun w' => (((w'.cell? ⟨w.heap.size, 0, none⟩ = some (.int .i64 a) ∧ w'.cell? ⟨w.heap.size, 1, none⟩ = some (.int .i64 b) ∧ w'.cell? ⟨w.heap.size, 2, none⟩ = some (.int .i64 c) ∧ w'.cell? ⟨w.heap.size, 3, none⟩ = some (.int .i64 d)) ∧ w'.cell? ⟨(w.heap.size + 1), 0, none⟩ = some (.int .i64 z)) ∧ Below W0.heap.size W0 w'))
      (first | exact ⟨hS.1, belowN hS.2 1⟩ | exact keepH.out _ _ (by assumption) (fresh_k _ _) | exact keepH.out _ _ (by assumption) (belowN (fresh_k _ _) 1) | exact keepH.out _ _ hS (belowN (fresh_k _ _) 1) | exact keepH.out _ _ (by assumption) (by assumption) | assumption)
      (first | (go_at_call 23; (with_reducible refine (c2.out _).mono ?_); rintro e w' ⟨rfl, rfl⟩) | (go_at_call 22; (with_reducible refine (cC.out _).mono ?_); rintro e w' ⟨rfl, hbel⟩))
    all_goals
      rename_i hHeld
      go_wp2
      go_ret2
      exact ⟨ret_int2 rfl rfl, below2 hB0 hHeld.2⟩
  · have cC : Hid (∀ W : World, Calls Tryz.prog 22 #[.bool true, .slice (some ⟨W.heap.size, 0, none⟩) 1 1] (W.alloc (.cells #[.int .i64 a, .int .i64 b, .int .i64 c, .int .i64 d] 25)).drew fun e w' => e = .returned (.int .i64 1) ∧ Below (W.alloc (.cells #[.int .i64 a, .int .i64 b, .int .i64 c, .int .i64 d] 25)).drew.heap.size (W.alloc (.cells #[.int .i64 a, .int .i64 b, .int .i64 c, .int .i64 d] 25)).drew w') := Lib.hid (fun W => by have h9 := codeOf1d_any a b c d true W; rw [h1] at h9; exact h9)
    clear h1 h2
    go_enter Tryz.func6, Tryz.ntmps6
    go_wp2_with fail
    obtain ⟨hS0, hB0, hsz⟩ := nk_box2 a b c d z w
    generalize ((w.alloc (.cells #[.int .i64 a, .int .i64 b, .int .i64 c, .int .i64 d] 25)).alloc (.cells #[.int .i64 z] 2)) = W0 at hS0 hB0 hsz ⊢
    have keep : ∀ W1 W2, (((W1.cell? ⟨w.heap.size, 0, none⟩ = some (.int .i64 a) ∧ W1.cell? ⟨w.heap.size, 1, none⟩ = some (.int .i64 b) ∧ W1.cell? ⟨w.heap.size, 2, none⟩ = some (.int .i64 c) ∧ W1.cell? ⟨w.heap.size, 3, none⟩ = some (.int .i64 d)) ∧ W1.cell? ⟨(w.heap.size + 1), 0, none⟩ = some (.int .i64 z)) ∧ Below W0.heap.size W0 W1) → Below W1.heap.size W1 W2 → (((W2.cell? ⟨w.heap.size, 0, none⟩ = some (.int .i64 a) ∧ W2.cell? ⟨w.heap.size, 1, none⟩ = some (.int .i64 b) ∧ W2.cell? ⟨w.heap.size, 2, none⟩ = some (.int .i64 c) ∧ W2.cell? ⟨w.heap.size, 3, none⟩ = some (.int .i64 d)) ∧ W2.cell? ⟨(w.heap.size + 1), 0, none⟩ = some (.int .i64 z)) ∧ Below W0.heap.size W0 W2) := fun W1 W2 h1 h2 => by
      obtain ⟨⟨p0, p1⟩, hb⟩ := h1
      have q0 := NckAt.below (x := ⟨a, b, c, d⟩) (o := 0) p0 (Nat.lt_of_lt_of_le (show w.heap.size < W0.heap.size by omega) hb.size) h2
      have q1 := (h2.cell (p := ⟨(w.heap.size + 1), 0, none⟩) (Nat.lt_of_lt_of_le (show w.heap.size + 1 < W0.heap.size by omega) hb.size)).trans p1
      exact ⟨⟨q0, q1⟩, hb.trans (h2.mono hb.size)⟩
    have keepH := Lib.hid keep
    clear keep
    have hS : (((W0.cell? ⟨w.heap.size, 0, none⟩ = some (.int .i64 a) ∧ W0.cell? ⟨w.heap.size, 1, none⟩ = some (.int .i64 b) ∧ W0.cell? ⟨w.heap.size, 2, none⟩ = some (.int .i64 c) ∧ W0.cell? ⟨w.heap.size, 3, none⟩ = some (.int .i64 d)) ∧ W0.cell? ⟨(w.heap.size + 1), 0, none⟩ = some (.int .i64 z)) ∧ Below W0.heap.size W0 W0) := ⟨hS0, Below.refl _ _⟩
    clear hS0
    go_wp2
    go_region_held3 (fun w' => (((w'.cell? ⟨w.heap.size, 0, none⟩ = some (.int .i64 a) ∧ w'.cell? ⟨w.heap.size, 1, none⟩ = some (.int .i64 b) ∧ w'.cell? ⟨w.heap.size, 2, none⟩ = some (.int .i64 c) ∧ w'.cell? ⟨w.heap.size, 3, none⟩ = some (.int .i64 d)) ∧ w'.cell? ⟨(w.heap.size + 1), 0, none⟩ = some (.int .i64 z)) ∧ Below W0.heap.size W0 w'))
      (first | exact ⟨hS.1, belowN hS.2 1⟩ | exact keepH.out _ _ (by assumption) (fresh_k _ _) | exact keepH.out _ _ (by assumption) (belowN (fresh_k _ _) 1) | exact keepH.out _ _ hS (belowN (fresh_k _ _) 1) | exact keepH.out _ _ (by assumption) (by assumption) | assumption)
      (first | (go_at_call 23; (with_reducible refine (c2.out _).mono ?_); rintro e w' ⟨rfl, rfl⟩) | (go_at_call 22; (with_reducible refine (cC.out _).mono ?_); rintro e w' ⟨rfl, hbel⟩))
    all_goals
      rename_i hHeld
      go_wp2
      go_ret2
      exact ⟨ret_int2 rfl rfl, below2 hB0 hHeld.2⟩
  · have cC : Hid (∀ W : World, Calls Tryz.prog 22 #[.bool false, .slice (some ⟨W.heap.size, 0, none⟩) 1 1] (W.alloc (.cells #[.int .i64 a, .int .i64 b, .int .i64 c, .int .i64 d] 25)).drew fun e w' => e = .returned (.int .i64 2) ∧ Below (W.alloc (.cells #[.int .i64 a, .int .i64 b, .int .i64 c, .int .i64 d] 25)).drew.heap.size (W.alloc (.cells #[.int .i64 a, .int .i64 b, .int .i64 c, .int .i64 d] 25)).drew w') := Lib.hid (fun W => by have h9 := codeOf1d_any a b c d false W; rw [h1] at h9; exact h9)
    clear h1 h2
    go_enter Tryz.func6, Tryz.ntmps6
    go_wp2_with fail
    obtain ⟨hS0, hB0, hsz⟩ := nk_box2 a b c d z w
    generalize ((w.alloc (.cells #[.int .i64 a, .int .i64 b, .int .i64 c, .int .i64 d] 25)).alloc (.cells #[.int .i64 z] 2)) = W0 at hS0 hB0 hsz ⊢
    have keep : ∀ W1 W2, (((W1.cell? ⟨w.heap.size, 0, none⟩ = some (.int .i64 a) ∧ W1.cell? ⟨w.heap.size, 1, none⟩ = some (.int .i64 b) ∧ W1.cell? ⟨w.heap.size, 2, none⟩ = some (.int .i64 c) ∧ W1.cell? ⟨w.heap.size, 3, none⟩ = some (.int .i64 d)) ∧ W1.cell? ⟨(w.heap.size + 1), 0, none⟩ = some (.int .i64 z)) ∧ Below W0.heap.size W0 W1) → Below W1.heap.size W1 W2 → (((W2.cell? ⟨w.heap.size, 0, none⟩ = some (.int .i64 a) ∧ W2.cell? ⟨w.heap.size, 1, none⟩ = some (.int .i64 b) ∧ W2.cell? ⟨w.heap.size, 2, none⟩ = some (.int .i64 c) ∧ W2.cell? ⟨w.heap.size, 3, none⟩ = some (.int .i64 d)) ∧ W2.cell? ⟨(w.heap.size + 1), 0, none⟩ = some (.int .i64 z)) ∧ Below W0.heap.size W0 W2) := fun W1 W2 h1 h2 => by
      obtain ⟨⟨p0, p1⟩, hb⟩ := h1
      have q0 := NckAt.below (x := ⟨a, b, c, d⟩) (o := 0) p0 (Nat.lt_of_lt_of_le (show w.heap.size < W0.heap.size by omega) hb.size) h2
      have q1 := (h2.cell (p := ⟨(w.heap.size + 1), 0, none⟩) (Nat.lt_of_lt_of_le (show w.heap.size + 1 < W0.heap.size by omega) hb.size)).trans p1
      exact ⟨⟨q0, q1⟩, hb.trans (h2.mono hb.size)⟩
    have keepH := Lib.hid keep
    clear keep
    have hS : (((W0.cell? ⟨w.heap.size, 0, none⟩ = some (.int .i64 a) ∧ W0.cell? ⟨w.heap.size, 1, none⟩ = some (.int .i64 b) ∧ W0.cell? ⟨w.heap.size, 2, none⟩ = some (.int .i64 c) ∧ W0.cell? ⟨w.heap.size, 3, none⟩ = some (.int .i64 d)) ∧ W0.cell? ⟨(w.heap.size + 1), 0, none⟩ = some (.int .i64 z)) ∧ Below W0.heap.size W0 W0) := ⟨hS0, Below.refl _ _⟩
    clear hS0
    go_wp2
    go_region_held3 (fun w' => (((w'.cell? ⟨w.heap.size, 0, none⟩ = some (.int .i64 a) ∧ w'.cell? ⟨w.heap.size, 1, none⟩ = some (.int .i64 b) ∧ w'.cell? ⟨w.heap.size, 2, none⟩ = some (.int .i64 c) ∧ w'.cell? ⟨w.heap.size, 3, none⟩ = some (.int .i64 d)) ∧ w'.cell? ⟨(w.heap.size + 1), 0, none⟩ = some (.int .i64 z)) ∧ Below W0.heap.size W0 w'))
      (first | exact ⟨hS.1, belowN hS.2 1⟩ | exact keepH.out _ _ (by assumption) (fresh_k _ _) | exact keepH.out _ _ (by assumption) (belowN (fresh_k _ _) 1) | exact keepH.out _ _ hS (belowN (fresh_k _ _) 1) | exact keepH.out _ _ (by assumption) (by assumption) | assumption)
      (first | (go_at_call 23; (with_reducible refine (c2.out _).mono ?_); rintro e w' ⟨rfl, rfl⟩) | (go_at_call 22; (with_reducible refine (cC.out _).mono ?_); rintro e w' ⟨rfl, hbel⟩))
    all_goals
      rename_i hHeld
      go_wp2
      go_ret2
      exact ⟨ret_int2 rfl rfl, below2 hB0 hHeld.2⟩
  have cC : Hid (∀ W : World, Calls Tryz.prog 22 #[.bool true, .slice (some ⟨W.heap.size, 0, none⟩) 1 1] (W.alloc (.cells #[.int .i64 a, .int .i64 b, .int .i64 c, .int .i64 d] 25)).drew fun e w' => e = .returned (.int .i64 0) ∧ Below (W.alloc (.cells #[.int .i64 a, .int .i64 b, .int .i64 c, .int .i64 d] 25)).drew.heap.size (W.alloc (.cells #[.int .i64 a, .int .i64 b, .int .i64 c, .int .i64 d] 25)).drew w') := Lib.hid (fun W => by have h9 := codeOf1d_any a b c d true W; rw [h1] at h9; exact h9)
  obtain ⟨ha, hb, hc, hd⟩ := nck_bd h1
  have hz := inB_iff.1 h2
  clear h1 h2
  go_enter Tryz.func6, Tryz.ntmps6
  go_wp2_with fail
  obtain ⟨hS0, hB0, hsz⟩ := nk_box2 a b c d z w
  generalize ((w.alloc (.cells #[.int .i64 a, .int .i64 b, .int .i64 c, .int .i64 d] 25)).alloc (.cells #[.int .i64 z] 2)) = W0 at hS0 hB0 hsz ⊢
  have keep : ∀ W1 W2, (((W1.cell? ⟨w.heap.size, 0, none⟩ = some (.int .i64 a) ∧ W1.cell? ⟨w.heap.size, 1, none⟩ = some (.int .i64 b) ∧ W1.cell? ⟨w.heap.size, 2, none⟩ = some (.int .i64 c) ∧ W1.cell? ⟨w.heap.size, 3, none⟩ = some (.int .i64 d)) ∧ W1.cell? ⟨(w.heap.size + 1), 0, none⟩ = some (.int .i64 z)) ∧ Below W0.heap.size W0 W1) → Below W1.heap.size W1 W2 → (((W2.cell? ⟨w.heap.size, 0, none⟩ = some (.int .i64 a) ∧ W2.cell? ⟨w.heap.size, 1, none⟩ = some (.int .i64 b) ∧ W2.cell? ⟨w.heap.size, 2, none⟩ = some (.int .i64 c) ∧ W2.cell? ⟨w.heap.size, 3, none⟩ = some (.int .i64 d)) ∧ W2.cell? ⟨(w.heap.size + 1), 0, none⟩ = some (.int .i64 z)) ∧ Below W0.heap.size W0 W2) := fun W1 W2 h1 h2 => by
    obtain ⟨⟨p0, p1⟩, hb⟩ := h1
    have q0 := NckAt.below (x := ⟨a, b, c, d⟩) (o := 0) p0 (Nat.lt_of_lt_of_le (show w.heap.size < W0.heap.size by omega) hb.size) h2
    have q1 := (h2.cell (p := ⟨(w.heap.size + 1), 0, none⟩) (Nat.lt_of_lt_of_le (show w.heap.size + 1 < W0.heap.size by omega) hb.size)).trans p1
    exact ⟨⟨q0, q1⟩, hb.trans (h2.mono hb.size)⟩
  have keepH := Lib.hid keep
  clear keep
  have hS : (((W0.cell? ⟨w.heap.size, 0, none⟩ = some (.int .i64 a) ∧ W0.cell? ⟨w.heap.size, 1, none⟩ = some (.int .i64 b) ∧ W0.cell? ⟨w.heap.size, 2, none⟩ = some (.int .i64 c) ∧ W0.cell? ⟨w.heap.size, 3, none⟩ = some (.int .i64 d)) ∧ W0.cell? ⟨(w.heap.size + 1), 0, none⟩ = some (.int .i64 z)) ∧ Below W0.heap.size W0 W0) := ⟨hS0, Below.refl _ _⟩
  clear hS0
  go_wp2
  have cF : Hid (∀ W, (((W.cell? ⟨w.heap.size, 0, none⟩ = some (.int .i64 a) ∧ W.cell? ⟨w.heap.size, 1, none⟩ = some (.int .i64 b) ∧ W.cell? ⟨w.heap.size, 2, none⟩ = some (.int .i64 c) ∧ W.cell? ⟨w.heap.size, 3, none⟩ = some (.int .i64 d)) ∧ W.cell? ⟨(w.heap.size + 1), 0, none⟩ = some (.int .i64 z)) ∧ Below W0.heap.size W0 W) → Calls Tryz.prog 24 #[.int .i64 0, .int .i64 300, .func (.func 25) #[] #[.pointer (some ⟨w.heap.size, 0, none⟩), .pointer (some ⟨w.heap.size + 1, 0, none⟩)]] W fun e w' => e = .returned (.tuple #[.int .i64 (agV b c z), .int .i64 (agC b c z)]) ∧ Below W.heap.size W w') := Lib.hid (fun W hSW => by
    obtain ⟨⟨p0, p1⟩, hbW⟩ := hSW
    have h9 := leastFrom_any 25 #[.pointer (some ⟨w.heap.size, 0, none⟩), .pointer (some ⟨w.heap.size + 1, 0, none⟩)] 0 300 301 (agP b c z) W (enters_of Tryz.func25 (by kernel_rfl) rfl) (by omega) (by omega) (by omega) (by omega) (fun W2 i hW hi' => by
      rw [Int.zero_add]
      exact ag1_any a b c d z (i : Int) hb hc (by omega) w.heap.size (w.heap.size + 1) W2 (NckAt.below (x := ⟨a, b, c, d⟩) (o := 0) p0 (Nat.lt_of_lt_of_le (show w.heap.size < W0.heap.size by omega) hbW.size) hW) ((hW.cell (p := ⟨w.heap.size + 1, 0, none⟩) (show w.heap.size + 1 < _ from Nat.lt_of_lt_of_le (show w.heap.size + 1 < W0.heap.size by omega) hbW.size)).trans p1)) (fun i j hij _ h => ag_mono (by omega) i j hij h)
    exact h9)
  go_region_held3 (fun w' => (((w'.cell? ⟨w.heap.size, 0, none⟩ = some (.int .i64 a) ∧ w'.cell? ⟨w.heap.size, 1, none⟩ = some (.int .i64 b) ∧ w'.cell? ⟨w.heap.size, 2, none⟩ = some (.int .i64 c) ∧ w'.cell? ⟨w.heap.size, 3, none⟩ = some (.int .i64 d)) ∧ w'.cell? ⟨(w.heap.size + 1), 0, none⟩ = some (.int .i64 z)) ∧ Below W0.heap.size W0 w'))
    (first | exact ⟨hS.1, belowN hS.2 1⟩ | exact keepH.out _ _ (by assumption) (fresh_k _ _) | exact keepH.out _ _ (by assumption) (belowN (fresh_k _ _) 1) | exact keepH.out _ _ hS (belowN (fresh_k _ _) 1) | exact keepH.out _ _ (by assumption) (by assumption) | assumption)
    (first | (go_at_call 23; (with_reducible refine (c2.out _).mono ?_); rintro e w' ⟨rfl, rfl⟩) | (go_at_call 22; (with_reducible refine (cC.out _).mono ?_); rintro e w' ⟨rfl, hbel⟩))
  all_goals
    rename_i hHeld
    go_wp2_with (go_at_call 24; (with_reducible refine (cF.out _ (by first | exact hHeld | exact ⟨hHeld.1, belowN hHeld.2 1⟩)).mono ?_); rintro e w' ⟨rfl, b5⟩)
    go_ret2
    exact ⟨ret_int2 rfl rfl, below2 hB0 (below2 hHeld.2 b5)⟩
set_option maxHeartbeats 3200000 in
theorem implBridgeFor_any (a : Int) (b : Int) (c : Int) (d : Int) (z : Int) (w : World) : Calls Tryz.prog 12 #[.agg #[.int .i64 a, .int .i64 b, .int .i64 c, .int .i64 d], .int .i64 z] w fun e w' => e = .returned (.tuple #[.int .i64 (pick (nckB ⟨a, b, c, d⟩ && inB z 0 1000) (brV b c d z)), .int .i64 (cd3 (nckB ⟨a, b, c, d⟩) (inB z 0 1000) (brC b c d z))]) ∧ Below w.heap.size w w' := by
  have c2 := Lib.hid (fun W => within64_any z 0 1000 W)
  cases h1 : nckB ⟨a, b, c, d⟩ <;> cases h2 : inB z 0 1000 <;> rw [h2] at c2
  · have cC : Hid (∀ W : World, Calls Tryz.prog 22 #[.bool false, .slice (some ⟨W.heap.size, 0, none⟩) 1 1] (W.alloc (.cells #[.int .i64 a, .int .i64 b, .int .i64 c, .int .i64 d] 25)).drew fun e w' => e = .returned (.int .i64 1) ∧ Below (W.alloc (.cells #[.int .i64 a, .int .i64 b, .int .i64 c, .int .i64 d] 25)).drew.heap.size (W.alloc (.cells #[.int .i64 a, .int .i64 b, .int .i64 c, .int .i64 d] 25)).drew w') := Lib.hid (fun W => by have h9 := codeOf1d_any a b c d false W; rw [h1] at h9; exact h9)
    clear h1 h2
    go_enter Tryz.func12, Tryz.ntmps12
    go_wp2_with fail
    obtain ⟨hS0, hB0, hsz⟩ := nk_box2 a b c d z w
    generalize ((w.alloc (.cells #[.int .i64 a, .int .i64 b, .int .i64 c, .int .i64 d] 25)).alloc (.cells #[.int .i64 z] 2)) = W0 at hS0 hB0 hsz ⊢
    have keep : ∀ W1 W2, (((W1.cell? ⟨w.heap.size, 0, none⟩ = some (.int .i64 a) ∧ W1.cell? ⟨w.heap.size, 1, none⟩ = some (.int .i64 b) ∧ W1.cell? ⟨w.heap.size, 2, none⟩ = some (.int .i64 c) ∧ W1.cell? ⟨w.heap.size, 3, none⟩ = some (.int .i64 d)) ∧ W1.cell? ⟨(w.heap.size + 1), 0, none⟩ = some (.int .i64 z)) ∧ Below W0.heap.size W0 W1) → Below W1.heap.size W1 W2 → (((W2.cell? ⟨w.heap.size, 0, none⟩ = some (.int .i64 a) ∧ W2.cell? ⟨w.heap.size, 1, none⟩ = some (.int .i64 b) ∧ W2.cell? ⟨w.heap.size, 2, none⟩ = some (.int .i64 c) ∧ W2.cell? ⟨w.heap.size, 3, none⟩ = some (.int .i64 d)) ∧ W2.cell? ⟨(w.heap.size + 1), 0, none⟩ = some (.int .i64 z)) ∧ Below W0.heap.size W0 W2) := fun W1 W2 h1 h2 => by
      obtain ⟨⟨p0, p1⟩, hb⟩ := h1
      have q0 := NckAt.below (x := ⟨a, b, c, d⟩) (o := 0) p0 (Nat.lt_of_lt_of_le (show w.heap.size < W0.heap.size by omega) hb.size) h2
      have q1 := (h2.cell (p := ⟨(w.heap.size + 1), 0, none⟩) (Nat.lt_of_lt_of_le (show w.heap.size + 1 < W0.heap.size by omega) hb.size)).trans p1
      exact ⟨⟨q0, q1⟩, hb.trans (h2.mono hb.size)⟩
    have keepH := Lib.hid keep
    clear keep
    have hS : (((W0.cell? ⟨w.heap.size, 0, none⟩ = some (.int .i64 a) ∧ W0.cell? ⟨w.heap.size, 1, none⟩ = some (.int .i64 b) ∧ W0.cell? ⟨w.heap.size, 2, none⟩ = some (.int .i64 c) ∧ W0.cell? ⟨w.heap.size, 3, none⟩ = some (.int .i64 d)) ∧ W0.cell? ⟨(w.heap.size + 1), 0, none⟩ = some (.int .i64 z)) ∧ Below W0.heap.size W0 W0) := ⟨hS0, Below.refl _ _⟩
    clear hS0
    go_wp2
    go_region_held3 (fun w' => (((w'.cell? ⟨w.heap.size, 0, none⟩ = some (.int .i64 a) ∧ w'.cell? ⟨w.heap.size, 1, none⟩ = some (.int .i64 b) ∧ w'.cell? ⟨w.heap.size, 2, none⟩ = some (.int .i64 c) ∧ w'.cell? ⟨w.heap.size, 3, none⟩ = some (.int .i64 d)) ∧ w'.cell? ⟨(w.heap.size + 1), 0, none⟩ = some (.int .i64 z)) ∧ Below W0.heap.size W0 w'))
      (first | exact ⟨hS.1, belowN hS.2 1⟩ | exact keepH.out _ _ (by assumption) (fresh_k _ _) | exact keepH.out _ _ (by assumption) (belowN (fresh_k _ _) 1) | exact keepH.out _ _ hS (belowN (fresh_k _ _) 1) | exact keepH.out _ _ (by assumption) (by assumption) | assumption)
      (first | (go_at_call 30; (with_reducible refine (c2.out _).mono ?_); rintro e w' ⟨rfl, rfl⟩) | (go_at_call 22; (with_reducible refine (cC.out _).mono ?_); rintro e w' ⟨rfl, hbel⟩))
    all_goals
      rename_i hHeld
      go_wp2
      go_ret2
      exact ⟨ret_int2 rfl rfl, below2 hB0 hHeld.2⟩
  · have cC : Hid (∀ W : World, Calls Tryz.prog 22 #[.bool true, .slice (some ⟨W.heap.size, 0, none⟩) 1 1] (W.alloc (.cells #[.int .i64 a, .int .i64 b, .int .i64 c, .int .i64 d] 25)).drew fun e w' => e = .returned (.int .i64 1) ∧ Below (W.alloc (.cells #[.int .i64 a, .int .i64 b, .int .i64 c, .int .i64 d] 25)).drew.heap.size (W.alloc (.cells #[.int .i64 a, .int .i64 b, .int .i64 c, .int .i64 d] 25)).drew w') := Lib.hid (fun W => by have h9 := codeOf1d_any a b c d true W; rw [h1] at h9; exact h9)
    clear h1 h2
    go_enter Tryz.func12, Tryz.ntmps12
    go_wp2_with fail
    obtain ⟨hS0, hB0, hsz⟩ := nk_box2 a b c d z w
    generalize ((w.alloc (.cells #[.int .i64 a, .int .i64 b, .int .i64 c, .int .i64 d] 25)).alloc (.cells #[.int .i64 z] 2)) = W0 at hS0 hB0 hsz ⊢
    have keep : ∀ W1 W2, (((W1.cell? ⟨w.heap.size, 0, none⟩ = some (.int .i64 a) ∧ W1.cell? ⟨w.heap.size, 1, none⟩ = some (.int .i64 b) ∧ W1.cell? ⟨w.heap.size, 2, none⟩ = some (.int .i64 c) ∧ W1.cell? ⟨w.heap.size, 3, none⟩ = some (.int .i64 d)) ∧ W1.cell? ⟨(w.heap.size + 1), 0, none⟩ = some (.int .i64 z)) ∧ Below W0.heap.size W0 W1) → Below W1.heap.size W1 W2 → (((W2.cell? ⟨w.heap.size, 0, none⟩ = some (.int .i64 a) ∧ W2.cell? ⟨w.heap.size, 1, none⟩ = some (.int .i64 b) ∧ W2.cell? ⟨w.heap.size, 2, none⟩ = some (.int .i64 c) ∧ W2.cell? ⟨w.heap.size, 3, none⟩ = some (.int .i64 d)) ∧ W2.cell? ⟨(w.heap.size + 1), 0, none⟩ = some (.int .i64 z)) ∧ Below W0.heap.size W0 W2) := fun W1 W2 h1 h2 => by
      obtain ⟨⟨p0, p1⟩, hb⟩ := h1
      have q0 := NckAt.below (x := ⟨a, b, c, d⟩) (o := 0) p0 (Nat.lt_of_lt_of_le (show w.heap.size < W0.heap.size by omega) hb.size) h2
      have q1 := (h2.cell (p := ⟨(w.heap.size + 1), 0, none⟩) (Nat.lt_of_lt_of_le (show w.heap.size + 1 < W0.heap.size by omega) hb.size)).trans p1
      exact ⟨⟨q0, q1⟩, hb.trans (h2.mono hb.size)⟩
    have keepH := Lib.hid keep
    clear keep
    have hS : (((W0.cell? ⟨w.heap.size, 0, none⟩ = some (.int .i64 a) ∧ W0.cell? ⟨w.heap.size, 1, none⟩ = some (.int .i64 b) ∧ W0.cell? ⟨w.heap.size, 2, none⟩ = some (.int .i64 c) ∧ W0.cell? ⟨w.heap.size, 3, none⟩ = some (.int .i64 d)) ∧ W0.cell? ⟨(w.heap.size + 1), 0, none⟩ = some (.int .i64 z)) ∧ Below W0.heap.size W0 W0) := ⟨hS0, Below.refl _ _⟩
    clear hS0
    go_wp2
    go_region_held3 (fun w' => (((w'.cell? ⟨w.heap.size, 0, none⟩ = some (.int .i64 a) ∧ w'.cell? ⟨w.heap.size, 1, none⟩ = some (.int .i64 b) ∧ w'.cell? ⟨w.heap.size, 2, none⟩ = some (.int .i64 c) ∧ w'.cell? ⟨w.heap.size, 3, none⟩ = some (.int .i64 d)) ∧ w'.cell? ⟨(w.heap.size + 1), 0, none⟩ = some (.int .i64 z)) ∧ Below W0.heap.size W0 w'))
      (first | exact ⟨hS.1, belowN hS.2 1⟩ | exact keepH.out _ _ (by assumption) (fresh_k _ _) | exact keepH.out _ _ (by assumption) (belowN (fresh_k _ _) 1) | exact keepH.out _ _ hS (belowN (fresh_k _ _) 1) | exact keepH.out _ _ (by assumption) (by assumption) | assumption)
      (first | (go_at_call 30; (with_reducible refine (c2.out _).mono ?_); rintro e w' ⟨rfl, rfl⟩) | (go_at_call 22; (with_reducible refine (cC.out _).mono ?_); rintro e w' ⟨rfl, hbel⟩))
    all_goals
      rename_i hHeld
      go_wp2
      go_ret2
      exact ⟨ret_int2 rfl rfl, below2 hB0 hHeld.2⟩
  · have cC : Hid (∀ W : World, Calls Tryz.prog 22 #[.bool false, .slice (some ⟨W.heap.size, 0, none⟩) 1 1] (W.alloc (.cells #[.int .i64 a, .int .i64 b, .int .i64 c, .int .i64 d] 25)).drew fun e w' => e = .returned (.int .i64 2) ∧ Below (W.alloc (.cells #[.int .i64 a, .int .i64 b, .int .i64 c, .int .i64 d] 25)).drew.heap.size (W.alloc (.cells #[.int .i64 a, .int .i64 b, .int .i64 c, .int .i64 d] 25)).drew w') := Lib.hid (fun W => by have h9 := codeOf1d_any a b c d false W; rw [h1] at h9; exact h9)
    clear h1 h2
    go_enter Tryz.func12, Tryz.ntmps12
    go_wp2_with fail
    obtain ⟨hS0, hB0, hsz⟩ := nk_box2 a b c d z w
    generalize ((w.alloc (.cells #[.int .i64 a, .int .i64 b, .int .i64 c, .int .i64 d] 25)).alloc (.cells #[.int .i64 z] 2)) = W0 at hS0 hB0 hsz ⊢
    have keep : ∀ W1 W2, (((W1.cell? ⟨w.heap.size, 0, none⟩ = some (.int .i64 a) ∧ W1.cell? ⟨w.heap.size, 1, none⟩ = some (.int .i64 b) ∧ W1.cell? ⟨w.heap.size, 2, none⟩ = some (.int .i64 c) ∧ W1.cell? ⟨w.heap.size, 3, none⟩ = some (.int .i64 d)) ∧ W1.cell? ⟨(w.heap.size + 1), 0, none⟩ = some (.int .i64 z)) ∧ Below W0.heap.size W0 W1) → Below W1.heap.size W1 W2 → (((W2.cell? ⟨w.heap.size, 0, none⟩ = some (.int .i64 a) ∧ W2.cell? ⟨w.heap.size, 1, none⟩ = some (.int .i64 b) ∧ W2.cell? ⟨w.heap.size, 2, none⟩ = some (.int .i64 c) ∧ W2.cell? ⟨w.heap.size, 3, none⟩ = some (.int .i64 d)) ∧ W2.cell? ⟨(w.heap.size + 1), 0, none⟩ = some (.int .i64 z)) ∧ Below W0.heap.size W0 W2) := fun W1 W2 h1 h2 => by
      obtain ⟨⟨p0, p1⟩, hb⟩ := h1
      have q0 := NckAt.below (x := ⟨a, b, c, d⟩) (o := 0) p0 (Nat.lt_of_lt_of_le (show w.heap.size < W0.heap.size by omega) hb.size) h2
      have q1 := (h2.cell (p := ⟨(w.heap.size + 1), 0, none⟩) (Nat.lt_of_lt_of_le (show w.heap.size + 1 < W0.heap.size by omega) hb.size)).trans p1
      exact ⟨⟨q0, q1⟩, hb.trans (h2.mono hb.size)⟩
    have keepH := Lib.hid keep
    clear keep
    have hS : (((W0.cell? ⟨w.heap.size, 0, none⟩ = some (.int .i64 a) ∧ W0.cell? ⟨w.heap.size, 1, none⟩ = some (.int .i64 b) ∧ W0.cell? ⟨w.heap.size, 2, none⟩ = some (.int .i64 c) ∧ W0.cell? ⟨w.heap.size, 3, none⟩ = some (.int .i64 d)) ∧ W0.cell? ⟨(w.heap.size + 1), 0, none⟩ = some (.int .i64 z)) ∧ Below W0.heap.size W0 W0) := ⟨hS0, Below.refl _ _⟩
    clear hS0
    go_wp2
    go_region_held3 (fun w' => (((w'.cell? ⟨w.heap.size, 0, none⟩ = some (.int .i64 a) ∧ w'.cell? ⟨w.heap.size, 1, none⟩ = some (.int .i64 b) ∧ w'.cell? ⟨w.heap.size, 2, none⟩ = some (.int .i64 c) ∧ w'.cell? ⟨w.heap.size, 3, none⟩ = some (.int .i64 d)) ∧ w'.cell? ⟨(w.heap.size + 1), 0, none⟩ = some (.int .i64 z)) ∧ Below W0.heap.size W0 w'))
      (first | exact ⟨hS.1, belowN hS.2 1⟩ | exact keepH.out _ _ (by assumption) (fresh_k _ _) | exact keepH.out _ _ (by assumption) (belowN (fresh_k _ _) 1) | exact keepH.out _ _ hS (belowN (fresh_k _ _) 1) | exact keepH.out _ _ (by assumption) (by assumption) | assumption)
      (first | (go_at_call 30; (with_reducible refine (c2.out _).mono ?_); rintro e w' ⟨rfl, rfl⟩) | (go_at_call 22; (with_reducible refine (cC.out _).mono ?_); rintro e w' ⟨rfl, hbel⟩))
    all_goals
      rename_i hHeld
      go_wp2
      go_ret2
      exact ⟨ret_int2 rfl rfl, below2 hB0 hHeld.2⟩
  have cC : Hid (∀ W : World, Calls Tryz.prog 22 #[.bool true, .slice (some ⟨W.heap.size, 0, none⟩) 1 1] (W.alloc (.cells #[.int .i64 a, .int .i64 b, .int .i64 c, .int .i64 d] 25)).drew fun e w' => e = .returned (.int .i64 0) ∧ Below (W.alloc (.cells #[.int .i64 a, .int .i64 b, .int .i64 c, .int .i64 d] 25)).drew.heap.size (W.alloc (.cells #[.int .i64 a, .int .i64 b, .int .i64 c, .int .i64 d] 25)).drew w') := Lib.hid (fun W => by have h9 := codeOf1d_any a b c d true W; rw [h1] at h9; exact h9)
  obtain ⟨ha, hb, hc, hd⟩ := nck_bd h1
  have hz := inB_iff.1 h2
  clear h1 h2
  go_enter Tryz.func12, Tryz.ntmps12
  go_wp2_with fail
  obtain ⟨hS0, hB0, hsz⟩ := nk_box2 a b c d z w
  generalize ((w.alloc (.cells #[.int .i64 a, .int .i64 b, .int .i64 c, .int .i64 d] 25)).alloc (.cells #[.int .i64 z] 2)) = W0 at hS0 hB0 hsz ⊢
  have keep : ∀ W1 W2, (((W1.cell? ⟨w.heap.size, 0, none⟩ = some (.int .i64 a) ∧ W1.cell? ⟨w.heap.size, 1, none⟩ = some (.int .i64 b) ∧ W1.cell? ⟨w.heap.size, 2, none⟩ = some (.int .i64 c) ∧ W1.cell? ⟨w.heap.size, 3, none⟩ = some (.int .i64 d)) ∧ W1.cell? ⟨(w.heap.size + 1), 0, none⟩ = some (.int .i64 z)) ∧ Below W0.heap.size W0 W1) → Below W1.heap.size W1 W2 → (((W2.cell? ⟨w.heap.size, 0, none⟩ = some (.int .i64 a) ∧ W2.cell? ⟨w.heap.size, 1, none⟩ = some (.int .i64 b) ∧ W2.cell? ⟨w.heap.size, 2, none⟩ = some (.int .i64 c) ∧ W2.cell? ⟨w.heap.size, 3, none⟩ = some (.int .i64 d)) ∧ W2.cell? ⟨(w.heap.size + 1), 0, none⟩ = some (.int .i64 z)) ∧ Below W0.heap.size W0 W2) := fun W1 W2 h1 h2 => by
    obtain ⟨⟨p0, p1⟩, hb⟩ := h1
    have q0 := NckAt.below (x := ⟨a, b, c, d⟩) (o := 0) p0 (Nat.lt_of_lt_of_le (show w.heap.size < W0.heap.size by omega) hb.size) h2
    have q1 := (h2.cell (p := ⟨(w.heap.size + 1), 0, none⟩) (Nat.lt_of_lt_of_le (show w.heap.size + 1 < W0.heap.size by omega) hb.size)).trans p1
    exact ⟨⟨q0, q1⟩, hb.trans (h2.mono hb.size)⟩
  have keepH := Lib.hid keep
  clear keep
  have hS : (((W0.cell? ⟨w.heap.size, 0, none⟩ = some (.int .i64 a) ∧ W0.cell? ⟨w.heap.size, 1, none⟩ = some (.int .i64 b) ∧ W0.cell? ⟨w.heap.size, 2, none⟩ = some (.int .i64 c) ∧ W0.cell? ⟨w.heap.size, 3, none⟩ = some (.int .i64 d)) ∧ W0.cell? ⟨(w.heap.size + 1), 0, none⟩ = some (.int .i64 z)) ∧ Below W0.heap.size W0 W0) := ⟨hS0, Below.refl _ _⟩
  clear hS0
  go_wp2
  have cF : Hid (∀ W, (((W.cell? ⟨w.heap.size, 0, none⟩ = some (.int .i64 a) ∧ W.cell? ⟨w.heap.size, 1, none⟩ = some (.int .i64 b) ∧ W.cell? ⟨w.heap.size, 2, none⟩ = some (.int .i64 c) ∧ W.cell? ⟨w.heap.size, 3, none⟩ = some (.int .i64 d)) ∧ W.cell? ⟨(w.heap.size + 1), 0, none⟩ = some (.int .i64 z)) ∧ Below W0.heap.size W0 W) → Calls Tryz.prog 24 #[.int .i64 0, .int .i64 2000, .func (.func 33) #[] #[.pointer (some ⟨w.heap.size, 0, none⟩), .pointer (some ⟨w.heap.size + 1, 0, none⟩)]] W fun e w' => e = .returned (.tuple #[.int .i64 (brV b c d z), .int .i64 (brC b c d z)]) ∧ Below W.heap.size W w') := Lib.hid (fun W hSW => by
    obtain ⟨⟨p0, p1⟩, hbW⟩ := hSW
    have h9 := leastFrom_any 33 #[.pointer (some ⟨w.heap.size, 0, none⟩), .pointer (some ⟨w.heap.size + 1, 0, none⟩)] 0 2000 2001 (brP b c d z) W (enters_of Tryz.func33 (by kernel_rfl) rfl) (by omega) (by omega) (by omega) (by omega) (fun W2 i hW hi' => by
      rw [Int.zero_add]
      exact br1_any a b c d z (i : Int) hb hc hd (by omega) w.heap.size (w.heap.size + 1) W2 (NckAt.below (x := ⟨a, b, c, d⟩) (o := 0) p0 (Nat.lt_of_lt_of_le (show w.heap.size < W0.heap.size by omega) hbW.size) hW) ((hW.cell (p := ⟨w.heap.size + 1, 0, none⟩) (show w.heap.size + 1 < _ from Nat.lt_of_lt_of_le (show w.heap.size + 1 < W0.heap.size by omega) hbW.size)).trans p1)) (fun i j hij _ h => br_mono i j hij h)
    rw [(br_lst (prj_bd hb hc ⟨hd.1, by omega⟩).1 hz.1).1, (br_lst (prj_bd hb hc ⟨hd.1, by omega⟩).1 hz.1).2] at h9
    exact h9)
  go_region_held3 (fun w' => (((w'.cell? ⟨w.heap.size, 0, none⟩ = some (.int .i64 a) ∧ w'.cell? ⟨w.heap.size, 1, none⟩ = some (.int .i64 b) ∧ w'.cell? ⟨w.heap.size, 2, none⟩ = some (.int .i64 c) ∧ w'.cell? ⟨w.heap.size, 3, none⟩ = some (.int .i64 d)) ∧ w'.cell? ⟨(w.heap.size + 1), 0, none⟩ = some (.int .i64 z)) ∧ Below W0.heap.size W0 w'))
    (first | exact ⟨hS.1, belowN hS.2 1⟩ | exact keepH.out _ _ (by assumption) (fresh_k _ _) | exact keepH.out _ _ (by assumption) (belowN (fresh_k _ _) 1) | exact keepH.out _ _ hS (belowN (fresh_k _ _) 1) | exact keepH.out _ _ (by assumption) (by assumption) | assumption)
    (first | (go_at_call 30; (with_reducible refine (c2.out _).mono ?_); rintro e w' ⟨rfl, rfl⟩) | (go_at_call 22; (with_reducible refine (cC.out _).mono ?_); rintro e w' ⟨rfl, hbel⟩))
  all_goals
    rename_i hHeld
    go_wp2_with (go_at_call 24; (with_reducible refine (cF.out _ (by first | exact hHeld | exact ⟨hHeld.1, belowN hHeld.2 1⟩)).mono ?_); rintro e w' ⟨rfl, b5⟩)
    go_ret2
    exact ⟨ret_int2 rfl rfl, below2 hB0 (below2 hHeld.2 b5)⟩
set_option maxHeartbeats 3200000 in
theorem implStringAngle_any (a : Int) (b : Int) (c : Int) (d : Int) (z : Int) (w : World) : Calls Tryz.prog 14 #[.agg #[.int .i64 a, .int .i64 b, .int .i64 c, .int .i64 d], .int .i64 z] w fun e w' => e = .returned (.tuple #[.int .i64 (pick (nckB ⟨a, b, c, d⟩ && inB z 0 2000) (saV a b c d z)), .int .i64 (cd3 (nckB ⟨a, b, c, d⟩) (inB z 0 2000) (0))]) ∧ Below w.heap.size w w' := by
  have c2 := Lib.hid (fun W => isNeckHeight_any z W)
  cases h1 : nckB ⟨a, b, c, d⟩ <;> cases h2 : inB z 0 2000 <;> rw [h2] at c2
  · have cC : Hid (∀ W : World, Calls Tryz.prog 22 #[.bool false, .slice (some ⟨W.heap.size, 0, none⟩) 1 1] (W.alloc (.cells #[.int .i64 a, .int .i64 b, .int .i64 c, .int .i64 d] 25)).drew fun e w' => e = .returned (.int .i64 1) ∧ Below (W.alloc (.cells #[.int .i64 a, .int .i64 b, .int .i64 c, .int .i64 d] 25)).drew.heap.size (W.alloc (.cells #[.int .i64 a, .int .i64 b, .int .i64 c, .int .i64 d] 25)).drew w') := Lib.hid (fun W => by have h9 := codeOf1d_any a b c d false W; rw [h1] at h9; exact h9)
    clear h1 h2
    go_enter Tryz.func14, Tryz.ntmps14
    go_wp2_with fail
    obtain ⟨hS0, hB0, hsz⟩ := nk_box1 a b c d  w
    generalize (w.alloc (.cells #[.int .i64 a, .int .i64 b, .int .i64 c, .int .i64 d] 25)) = W0 at hS0 hB0 hsz ⊢
    have keep : ∀ W1 W2, (((W1.cell? ⟨w.heap.size, 0, none⟩ = some (.int .i64 a) ∧ W1.cell? ⟨w.heap.size, 1, none⟩ = some (.int .i64 b) ∧ W1.cell? ⟨w.heap.size, 2, none⟩ = some (.int .i64 c) ∧ W1.cell? ⟨w.heap.size, 3, none⟩ = some (.int .i64 d))) ∧ Below W0.heap.size W0 W1) → Below W1.heap.size W1 W2 → (((W2.cell? ⟨w.heap.size, 0, none⟩ = some (.int .i64 a) ∧ W2.cell? ⟨w.heap.size, 1, none⟩ = some (.int .i64 b) ∧ W2.cell? ⟨w.heap.size, 2, none⟩ = some (.int .i64 c) ∧ W2.cell? ⟨w.heap.size, 3, none⟩ = some (.int .i64 d))) ∧ Below W0.heap.size W0 W2) := fun W1 W2 h1 h2 => by
      obtain ⟨p0, hb⟩ := h1
      have q0 := NckAt.below (x := ⟨a, b, c, d⟩) (o := 0) p0 (Nat.lt_of_lt_of_le (show w.heap.size < W0.heap.size by omega) hb.size) h2
      exact ⟨q0, hb.trans (h2.mono hb.size)⟩
    have keepH := Lib.hid keep
    clear keep
    have hS : (((W0.cell? ⟨w.heap.size, 0, none⟩ = some (.int .i64 a) ∧ W0.cell? ⟨w.heap.size, 1, none⟩ = some (.int .i64 b) ∧ W0.cell? ⟨w.heap.size, 2, none⟩ = some (.int .i64 c) ∧ W0.cell? ⟨w.heap.size, 3, none⟩ = some (.int .i64 d))) ∧ Below W0.heap.size W0 W0) := ⟨hS0, Below.refl _ _⟩
    clear hS0
    go_wp2
    go_region_held3 (fun w' => (((w'.cell? ⟨w.heap.size, 0, none⟩ = some (.int .i64 a) ∧ w'.cell? ⟨w.heap.size, 1, none⟩ = some (.int .i64 b) ∧ w'.cell? ⟨w.heap.size, 2, none⟩ = some (.int .i64 c) ∧ w'.cell? ⟨w.heap.size, 3, none⟩ = some (.int .i64 d))) ∧ Below W0.heap.size W0 w'))
      (first | exact ⟨hS.1, belowN hS.2 1⟩ | exact keepH.out _ _ (by assumption) (fresh_k _ _) | exact keepH.out _ _ (by assumption) (belowN (fresh_k _ _) 1) | exact keepH.out _ _ hS (belowN (fresh_k _ _) 1) | exact keepH.out _ _ (by assumption) (by assumption) | assumption)
      (first | (go_at_call 23; (with_reducible refine (c2.out _).mono ?_); rintro e w' ⟨rfl, rfl⟩) | (go_at_call 22; (with_reducible refine (cC.out _).mono ?_); rintro e w' ⟨rfl, hbel⟩))
    all_goals
      rename_i hHeld
      go_wp2
      go_ret2
      exact ⟨ret_int2 rfl rfl, below2 hB0 hHeld.2⟩
  · have cC : Hid (∀ W : World, Calls Tryz.prog 22 #[.bool true, .slice (some ⟨W.heap.size, 0, none⟩) 1 1] (W.alloc (.cells #[.int .i64 a, .int .i64 b, .int .i64 c, .int .i64 d] 25)).drew fun e w' => e = .returned (.int .i64 1) ∧ Below (W.alloc (.cells #[.int .i64 a, .int .i64 b, .int .i64 c, .int .i64 d] 25)).drew.heap.size (W.alloc (.cells #[.int .i64 a, .int .i64 b, .int .i64 c, .int .i64 d] 25)).drew w') := Lib.hid (fun W => by have h9 := codeOf1d_any a b c d true W; rw [h1] at h9; exact h9)
    clear h1 h2
    go_enter Tryz.func14, Tryz.ntmps14
    go_wp2_with fail
    obtain ⟨hS0, hB0, hsz⟩ := nk_box1 a b c d  w
    generalize (w.alloc (.cells #[.int .i64 a, .int .i64 b, .int .i64 c, .int .i64 d] 25)) = W0 at hS0 hB0 hsz ⊢
    have keep : ∀ W1 W2, (((W1.cell? ⟨w.heap.size, 0, none⟩ = some (.int .i64 a) ∧ W1.cell? ⟨w.heap.size, 1, none⟩ = some (.int .i64 b) ∧ W1.cell? ⟨w.heap.size, 2, none⟩ = some (.int .i64 c) ∧ W1.cell? ⟨w.heap.size, 3, none⟩ = some (.int .i64 d))) ∧ Below W0.heap.size W0 W1) → Below W1.heap.size W1 W2 → (((W2.cell? ⟨w.heap.size, 0, none⟩ = some (.int .i64 a) ∧ W2.cell? ⟨w.heap.size, 1, none⟩ = some (.int .i64 b) ∧ W2.cell? ⟨w.heap.size, 2, none⟩ = some (.int .i64 c) ∧ W2.cell? ⟨w.heap.size, 3, none⟩ = some (.int .i64 d))) ∧ Below W0.heap.size W0 W2) := fun W1 W2 h1 h2 => by
      obtain ⟨p0, hb⟩ := h1
      have q0 := NckAt.below (x := ⟨a, b, c, d⟩) (o := 0) p0 (Nat.lt_of_lt_of_le (show w.heap.size < W0.heap.size by omega) hb.size) h2
      exact ⟨q0, hb.trans (h2.mono hb.size)⟩
    have keepH := Lib.hid keep
    clear keep
    have hS : (((W0.cell? ⟨w.heap.size, 0, none⟩ = some (.int .i64 a) ∧ W0.cell? ⟨w.heap.size, 1, none⟩ = some (.int .i64 b) ∧ W0.cell? ⟨w.heap.size, 2, none⟩ = some (.int .i64 c) ∧ W0.cell? ⟨w.heap.size, 3, none⟩ = some (.int .i64 d))) ∧ Below W0.heap.size W0 W0) := ⟨hS0, Below.refl _ _⟩
    clear hS0
    go_wp2
    go_region_held3 (fun w' => (((w'.cell? ⟨w.heap.size, 0, none⟩ = some (.int .i64 a) ∧ w'.cell? ⟨w.heap.size, 1, none⟩ = some (.int .i64 b) ∧ w'.cell? ⟨w.heap.size, 2, none⟩ = some (.int .i64 c) ∧ w'.cell? ⟨w.heap.size, 3, none⟩ = some (.int .i64 d))) ∧ Below W0.heap.size W0 w'))
      (first | exact ⟨hS.1, belowN hS.2 1⟩ | exact keepH.out _ _ (by assumption) (fresh_k _ _) | exact keepH.out _ _ (by assumption) (belowN (fresh_k _ _) 1) | exact keepH.out _ _ hS (belowN (fresh_k _ _) 1) | exact keepH.out _ _ (by assumption) (by assumption) | assumption)
      (first | (go_at_call 23; (with_reducible refine (c2.out _).mono ?_); rintro e w' ⟨rfl, rfl⟩) | (go_at_call 22; (with_reducible refine (cC.out _).mono ?_); rintro e w' ⟨rfl, hbel⟩))
    all_goals
      rename_i hHeld
      go_wp2
      go_ret2
      exact ⟨ret_int2 rfl rfl, below2 hB0 hHeld.2⟩
  · have cC : Hid (∀ W : World, Calls Tryz.prog 22 #[.bool false, .slice (some ⟨W.heap.size, 0, none⟩) 1 1] (W.alloc (.cells #[.int .i64 a, .int .i64 b, .int .i64 c, .int .i64 d] 25)).drew fun e w' => e = .returned (.int .i64 2) ∧ Below (W.alloc (.cells #[.int .i64 a, .int .i64 b, .int .i64 c, .int .i64 d] 25)).drew.heap.size (W.alloc (.cells #[.int .i64 a, .int .i64 b, .int .i64 c, .int .i64 d] 25)).drew w') := Lib.hid (fun W => by have h9 := codeOf1d_any a b c d false W; rw [h1] at h9; exact h9)
    clear h1 h2
    go_enter Tryz.func14, Tryz.ntmps14
    go_wp2_with fail
    obtain ⟨hS0, hB0, hsz⟩ := nk_box1 a b c d  w
    generalize (w.alloc (.cells #[.int .i64 a, .int .i64 b, .int .i64 c, .int .i64 d] 25)) = W0 at hS0 hB0 hsz ⊢
    have keep : ∀ W1 W2, (((W1.cell? ⟨w.heap.size, 0, none⟩ = some (.int .i64 a) ∧ W1.cell? ⟨w.heap.size, 1, none⟩ = some (.int .i64 b) ∧ W1.cell? ⟨w.heap.size, 2, none⟩ = some (.int .i64 c) ∧ W1.cell? ⟨w.heap.size, 3, none⟩ = some (.int .i64 d))) ∧ Below W0.heap.size W0 W1) → Below W1.heap.size W1 W2 → (((W2.cell? ⟨w.heap.size, 0, none⟩ = some (.int .i64 a) ∧ W2.cell? ⟨w.heap.size, 1, none⟩ = some (.int .i64 b) ∧ W2.cell? ⟨w.heap.size, 2, none⟩ = some (.int .i64 c) ∧ W2.cell? ⟨w.heap.size, 3, none⟩ = some (.int .i64 d))) ∧ Below W0.heap.size W0 W2) := fun W1 W2 h1 h2 => by
      obtain ⟨p0, hb⟩ := h1
      have q0 := NckAt.below (x := ⟨a, b, c, d⟩) (o := 0) p0 (Nat.lt_of_lt_of_le (show w.heap.size < W0.heap.size by omega) hb.size) h2
      exact ⟨q0, hb.trans (h2.mono hb.size)⟩
    have keepH := Lib.hid keep
    clear keep
    have hS : (((W0.cell? ⟨w.heap.size, 0, none⟩ = some (.int .i64 a) ∧ W0.cell? ⟨w.heap.size, 1, none⟩ = some (.int .i64 b) ∧ W0.cell? ⟨w.heap.size, 2, none⟩ = some (.int .i64 c) ∧ W0.cell? ⟨w.heap.size, 3, none⟩ = some (.int .i64 d))) ∧ Below W0.heap.size W0 W0) := ⟨hS0, Below.refl _ _⟩
    clear hS0
    go_wp2
    go_region_held3 (fun w' => (((w'.cell? ⟨w.heap.size, 0, none⟩ = some (.int .i64 a) ∧ w'.cell? ⟨w.heap.size, 1, none⟩ = some (.int .i64 b) ∧ w'.cell? ⟨w.heap.size, 2, none⟩ = some (.int .i64 c) ∧ w'.cell? ⟨w.heap.size, 3, none⟩ = some (.int .i64 d))) ∧ Below W0.heap.size W0 w'))
      (first | exact ⟨hS.1, belowN hS.2 1⟩ | exact keepH.out _ _ (by assumption) (fresh_k _ _) | exact keepH.out _ _ (by assumption) (belowN (fresh_k _ _) 1) | exact keepH.out _ _ hS (belowN (fresh_k _ _) 1) | exact keepH.out _ _ (by assumption) (by assumption) | assumption)
      (first | (go_at_call 23; (with_reducible refine (c2.out _).mono ?_); rintro e w' ⟨rfl, rfl⟩) | (go_at_call 22; (with_reducible refine (cC.out _).mono ?_); rintro e w' ⟨rfl, hbel⟩))
    all_goals
      rename_i hHeld
      go_wp2
      go_ret2
      exact ⟨ret_int2 rfl rfl, below2 hB0 hHeld.2⟩
  have cC : Hid (∀ W : World, Calls Tryz.prog 22 #[.bool true, .slice (some ⟨W.heap.size, 0, none⟩) 1 1] (W.alloc (.cells #[.int .i64 a, .int .i64 b, .int .i64 c, .int .i64 d] 25)).drew fun e w' => e = .returned (.int .i64 0) ∧ Below (W.alloc (.cells #[.int .i64 a, .int .i64 b, .int .i64 c, .int .i64 d] 25)).drew.heap.size (W.alloc (.cells #[.int .i64 a, .int .i64 b, .int .i64 c, .int .i64 d] 25)).drew w') := Lib.hid (fun W => by have h9 := codeOf1d_any a b c d true W; rw [h1] at h9; exact h9)
  obtain ⟨ha, hb, hc, hd⟩ := nck_bd h1
  have hz := inB_iff.1 h2
  clear h1 h2
  have cP := Lib.hid (fun W => projection_any a b c d hb hc ⟨hd.1, by omega⟩ W)
  have cS := Lib.hid (fun W => scale_any a b c d ha hb W)
  have hqb := prj_bd hb hc (d := d) ⟨hd.1, by omega⟩
  have hV : Hid (rnd (1000 * (z - prjV b c d)) (a + b) = saV a b c d z) := Lib.hid rfl
  obtain ⟨q, hq⟩ : ∃ q, q = prjV b c d := ⟨_, rfl⟩
  rw [← hq] at cP hqb hV
  have e1 : IntKind.i64.wrap (z - q) = z - q := IntWalk.i64_in _ (by omega)
  have e2 : IntKind.i64.wrap (1000 * (z - q)) = 1000 * (z - q) := IntWalk.i64_in _ (by omega)
  have cN := Lib.hid (fun W => nearB_any (1000 * (z - q)) (a + b) (by omega) (by omega) (by omega) (by omega) (by omega) W)
  clear hq hqb
  go_enter Tryz.func14, Tryz.ntmps14
  go_wp2_with fail
  obtain ⟨hS0, hB0, hsz⟩ := nk_box1 a b c d  w
  generalize (w.alloc (.cells #[.int .i64 a, .int .i64 b, .int .i64 c, .int .i64 d] 25)) = W0 at hS0 hB0 hsz ⊢
  have keep : ∀ W1 W2, (((W1.cell? ⟨w.heap.size, 0, none⟩ = some (.int .i64 a) ∧ W1.cell? ⟨w.heap.size, 1, none⟩ = some (.int .i64 b) ∧ W1.cell? ⟨w.heap.size, 2, none⟩ = some (.int .i64 c) ∧ W1.cell? ⟨w.heap.size, 3, none⟩ = some (.int .i64 d))) ∧ Below W0.heap.size W0 W1) → Below W1.heap.size W1 W2 → (((W2.cell? ⟨w.heap.size, 0, none⟩ = some (.int .i64 a) ∧ W2.cell? ⟨w.heap.size, 1, none⟩ = some (.int .i64 b) ∧ W2.cell? ⟨w.heap.size, 2, none⟩ = some (.int .i64 c) ∧ W2.cell? ⟨w.heap.size, 3, none⟩ = some (.int .i64 d))) ∧ Below W0.heap.size W0 W2) := fun W1 W2 h1 h2 => by
    obtain ⟨p0, hb⟩ := h1
    have q0 := NckAt.below (x := ⟨a, b, c, d⟩) (o := 0) p0 (Nat.lt_of_lt_of_le (show w.heap.size < W0.heap.size by omega) hb.size) h2
    exact ⟨q0, hb.trans (h2.mono hb.size)⟩
  have keepH := Lib.hid keep
  clear keep
  have hS : (((W0.cell? ⟨w.heap.size, 0, none⟩ = some (.int .i64 a) ∧ W0.cell? ⟨w.heap.size, 1, none⟩ = some (.int .i64 b) ∧ W0.cell? ⟨w.heap.size, 2, none⟩ = some (.int .i64 c) ∧ W0.cell? ⟨w.heap.size, 3, none⟩ = some (.int .i64 d))) ∧ Below W0.heap.size W0 W0) := ⟨hS0, Below.refl _ _⟩
  clear hS0
  go_wp2
  go_region_held3 (fun w' => (((w'.cell? ⟨w.heap.size, 0, none⟩ = some (.int .i64 a) ∧ w'.cell? ⟨w.heap.size, 1, none⟩ = some (.int .i64 b) ∧ w'.cell? ⟨w.heap.size, 2, none⟩ = some (.int .i64 c) ∧ w'.cell? ⟨w.heap.size, 3, none⟩ = some (.int .i64 d))) ∧ Below W0.heap.size W0 w'))
    (first | exact ⟨hS.1, belowN hS.2 1⟩ | exact keepH.out _ _ (by assumption) (fresh_k _ _) | exact keepH.out _ _ (by assumption) (belowN (fresh_k _ _) 1) | exact keepH.out _ _ hS (belowN (fresh_k _ _) 1) | exact keepH.out _ _ (by assumption) (by assumption) | assumption)
    (first | (go_at_call 23; (with_reducible refine (c2.out _).mono ?_); rintro e w' ⟨rfl, rfl⟩) | (go_at_call 22; (with_reducible refine (cC.out _).mono ?_); rintro e w' ⟨rfl, hbel⟩))
  all_goals
    rename_i hHeld
    replace hS := hHeld
    clear hHeld
    go_wp2
    go_region_held3 (fun w' => (((w'.cell? ⟨w.heap.size, 0, none⟩ = some (.int .i64 a) ∧ w'.cell? ⟨w.heap.size, 1, none⟩ = some (.int .i64 b) ∧ w'.cell? ⟨w.heap.size, 2, none⟩ = some (.int .i64 c) ∧ w'.cell? ⟨w.heap.size, 3, none⟩ = some (.int .i64 d))) ∧ Below W0.heap.size W0 w'))
      (first | exact ⟨hS.1, belowN hS.2 1⟩ | exact keepH.out _ _ (by assumption) (fresh_k _ _) | exact keepH.out _ _ (by assumption) (belowN (fresh_k _ _) 1) | exact keepH.out _ _ hS (belowN (fresh_k _ _) 1) | exact keepH.out _ _ (by assumption) (by assumption) | assumption)
      (first | (go_at_call 27; (with_reducible refine (cP.out _).mono ?_); rintro e w' ⟨rfl, hbel⟩) | (go_at_call 34; (with_reducible refine (cS.out _).mono ?_); rintro e w' ⟨rfl, hbel⟩) | (go_at_call 35; (with_reducible refine (cN.out _).mono ?_); rintro e w' ⟨rfl, hbel⟩))
    rename_i hHeld
    go_wp2
    go_ret2
    exact ⟨ret_int2 hV.out rfl, below2 hB0 hHeld.2⟩
end Go.Proofs.YtcdpkbcpglaiaaaGreatDoor
