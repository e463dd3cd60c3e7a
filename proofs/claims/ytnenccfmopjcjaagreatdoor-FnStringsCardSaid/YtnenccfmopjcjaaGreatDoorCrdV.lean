/-
  Strings of an instrument: TensionOf, SafetyOf, StopPlace on both sides.
-/
import Derived.Test.YtnenccfmopjcjaaGreatDoorCrdT
namespace Go.Proofs.YtnenccfmopjcjaaGreatDoor
open Go.ChangeShapes Go.WideShapes Go.ChangeAt Go.RowKit Go.Deep
set_option linter.unusedVariables false
set_option linter.unusedSimpArgs false
set_option maxRecDepth 1000000
/-- what SafetyOf hands back, and its code -/
def sfC (ok : Bool) (T : Int) : Int := if ok = true then (if T = 0 then 3 else 0) else 1
def sfV (ok : Bool) (T d : Int) : Int := if ok = true then (if T = 0 then 0 else 1000 * d / T) else 0
/-- a code of two tests -/
def cod2 (b1 b2 : Bool) : Int := if b1 = true then (if b2 = true then 0 else 2) else 1
def stV (a b p : Int) : Int := rnd (10 * b * (p - a)) p
set_option maxHeartbeats 1600000 in
theorem implTensionOf_any (a : Int) (b : Int) (c : Int) (d : Int) (w : World) : Calls Tryz.prog 6 #[.agg #[.int .i64 a, .int .i64 b, .int .i64 c, .int .i64 d]] w fun e w' => e = .returned (.tuple #[.int .i64 (pick (crdB ⟨a, b, c, d⟩) (tenV a b c)), .int .i64 (code (crdB ⟨a, b, c, d⟩) 1)]) ∧ Below w.heap.size w w' := by
  have cV := Lib.hid (fun W => implValidString_any a b c d W)
  cases h : crdB ⟨a, b, c, d⟩ <;> rw [h] at cV
  · go_enter Tryz.func6, Tryz.ntmps6
    go_wp2_with fail
    obtain ⟨q1, hB0, hsz⟩ := one_box w #[.int .i64 a, .int .i64 b, .int .i64 c, .int .i64 d] 25
    generalize (w.alloc (.cells #[.int .i64 a, .int .i64 b, .int .i64 c, .int .i64 d] 25)) = W0 at q1 hB0 hsz ⊢
    have hS : ((W0.cell? ⟨w.heap.size, 0, none⟩ = some (.int .i64 a) ∧ W0.cell? ⟨w.heap.size, 1, none⟩ = some (.int .i64 b) ∧ W0.cell? ⟨w.heap.size, 2, none⟩ = some (.int .i64 c) ∧ W0.cell? ⟨w.heap.size, 3, none⟩ = some (.int .i64 d)) ∧ Below W0.heap.size W0 W0) := ⟨⟨q1 0 _ rfl, q1 1 _ rfl, q1 2 _ rfl, q1 3 _ rfl⟩, Below.refl _ _⟩
    have keep : ∀ W1 W2, ((W1.cell? ⟨w.heap.size, 0, none⟩ = some (.int .i64 a) ∧ W1.cell? ⟨w.heap.size, 1, none⟩ = some (.int .i64 b) ∧ W1.cell? ⟨w.heap.size, 2, none⟩ = some (.int .i64 c) ∧ W1.cell? ⟨w.heap.size, 3, none⟩ = some (.int .i64 d)) ∧ Below W0.heap.size W0 W1) → Below W1.heap.size W1 W2 → ((W2.cell? ⟨w.heap.size, 0, none⟩ = some (.int .i64 a) ∧ W2.cell? ⟨w.heap.size, 1, none⟩ = some (.int .i64 b) ∧ W2.cell? ⟨w.heap.size, 2, none⟩ = some (.int .i64 c) ∧ W2.cell? ⟨w.heap.size, 3, none⟩ = some (.int .i64 d)) ∧ Below W0.heap.size W0 W2) := fun W1 W2 h1 h2 => by
      obtain ⟨p0, hb⟩ := h1
      exact ⟨CrdAt.below (x := ⟨a, b, c, d⟩) (o := 0) p0 (Nat.lt_of_lt_of_le hsz hb.size) h2, hb.trans (h2.mono hb.size)⟩
    have keepH := Lib.hid keep
    clear keep
    clear q1
    go_wp2_with (first
      | (go_at_call 10; (with_reducible refine (cV.out _).mono ?_); rintro e w' ⟨rfl, hbel⟩; replace hS := keepH.out _ _ hS hbel; clear hbel))
    go_ret2
    exact ⟨ret_int2 rfl rfl, below2 hB0 hS.2⟩

  have hbd := crd_bd h
  obtain ⟨ha, hb, hc, hd⟩ := hbd
  clear h
  have hT := ten_bd ha hb hc
  have cT := Lib.hid (fun W => tension_any a b c d ha hb hc W)
  obtain ⟨T, hTe⟩ : ∃ T, T = tenV a b c := ⟨_, rfl⟩
  rw [← hTe] at hT cT ⊢
  clear hTe
  go_enter Tryz.func6, Tryz.ntmps6
  go_wp2_with fail
  obtain ⟨q1, hB0, hsz⟩ := one_box w #[.int .i64 a, .int .i64 b, .int .i64 c, .int .i64 d] 25
  generalize (w.alloc (.cells #[.int .i64 a, .int .i64 b, .int .i64 c, .int .i64 d] 25)) = W0 at q1 hB0 hsz ⊢
  have hS : ((W0.cell? ⟨w.heap.size, 0, none⟩ = some (.int .i64 a) ∧ W0.cell? ⟨w.heap.size, 1, none⟩ = some (.int .i64 b) ∧ W0.cell? ⟨w.heap.size, 2, none⟩ = some (.int .i64 c) ∧ W0.cell? ⟨w.heap.size, 3, none⟩ = some (.int .i64 d)) ∧ Below W0.heap.size W0 W0) := ⟨⟨q1 0 _ rfl, q1 1 _ rfl, q1 2 _ rfl, q1 3 _ rfl⟩, Below.refl _ _⟩
  have keep : ∀ W1 W2, ((W1.cell? ⟨w.heap.size, 0, none⟩ = some (.int .i64 a) ∧ W1.cell? ⟨w.heap.size, 1, none⟩ = some (.int .i64 b) ∧ W1.cell? ⟨w.heap.size, 2, none⟩ = some (.int .i64 c) ∧ W1.cell? ⟨w.heap.size, 3, none⟩ = some (.int .i64 d)) ∧ Below W0.heap.size W0 W1) → Below W1.heap.size W1 W2 → ((W2.cell? ⟨w.heap.size, 0, none⟩ = some (.int .i64 a) ∧ W2.cell? ⟨w.heap.size, 1, none⟩ = some (.int .i64 b) ∧ W2.cell? ⟨w.heap.size, 2, none⟩ = some (.int .i64 c) ∧ W2.cell? ⟨w.heap.size, 3, none⟩ = some (.int .i64 d)) ∧ Below W0.heap.size W0 W2) := fun W1 W2 h1 h2 => by
    obtain ⟨p0, hb⟩ := h1
    exact ⟨CrdAt.below (x := ⟨a, b, c, d⟩) (o := 0) p0 (Nat.lt_of_lt_of_le hsz hb.size) h2, hb.trans (h2.mono hb.size)⟩
  have keepH := Lib.hid keep
  clear keep
  clear q1
  go_wp2_with (first
    | (go_at_call 10; (with_reducible refine (cV.out _).mono ?_); rintro e w' ⟨rfl, hbel⟩; replace hS := keepH.out _ _ hS hbel; clear hbel)
    | (go_at_call 20; (with_reducible refine (cT.out _).mono ?_); rintro e w' ⟨rfl, hbel⟩; replace hS := keepH.out _ _ hS hbel; clear hbel))
  go_ret2
  exact ⟨ret_int2 rfl rfl, below2 hB0 hS.2⟩
set_option maxHeartbeats 1600000 in
theorem specTensionOf_any (a : Int) (b : Int) (c : Int) (d : Int) (w : World) : Calls Tryz.prog 13 #[.agg #[.int .i64 a, .int .i64 b, .int .i64 c, .int .i64 d]] w fun e w' => e = .returned (.tuple #[.int .i64 (pick (crdB ⟨a, b, c, d⟩) (tenV a b c)), .int .i64 (code (crdB ⟨a, b, c, d⟩) 1)]) ∧ Below w.heap.size w w' := by
  have hat := crd_box a b c d w
  have c1 := fun W g o (hat : CrdAt W g o ⟨a, b, c, d⟩) => l09One_any a b c d W g o hat
  cases h : crdB ⟨a, b, c, d⟩ <;> rw [h] at c1
  · go_enter Tryz.func13, Tryz.ntmps13
    go_wp2_with (go_at_call 30; (with_reducible refine (c1 _ _ 0 hat).mono ?_); rintro e w' ⟨rfl, rfl⟩)
    go_ret2
    exact ⟨ret_int2 rfl rfl, (Below.refl _ _).alloc (Nat.le_refl _) _⟩
  have hbd := crd_bd h
  obtain ⟨ha, hb, hc, hd⟩ := hbd
  go_enter Tryz.func13, Tryz.ntmps13
  go_wp2_with (first
    | (go_at_call 30; (with_reducible refine (c1 _ _ 0 hat).mono ?_); rintro e w' ⟨rfl, rfl⟩)
    | (go_at_call 31; (with_reducible refine (l09Tension_any a b c d ha hb hc _ _ 0 hat).mono ?_); rintro e w' ⟨rfl, m, rfl⟩))
  go_ret2
  exact ⟨ret_int2 rfl rfl, belowN ((Below.refl _ _).alloc (Nat.le_refl _) _) m⟩
set_option maxHeartbeats 1600000 in
theorem implStopPlace_any (a : Int) (b : Int) (c : Int) (d : Int) (p : Int) (w : World) : Calls Tryz.prog 16 #[.agg #[.int .i64 a, .int .i64 b, .int .i64 c, .int .i64 d], .int .i64 p] w fun e w' => e = .returned (.tuple #[.int .i64 (pick (crdB ⟨a, b, c, d⟩ && inB p a 10000) (stV a b p)), .int .i64 (cod2 (crdB ⟨a, b, c, d⟩) (inB p a 10000))]) ∧ Below w.heap.size w w' := by
  have cV := Lib.hid (fun W => implValidString_any a b c d W)
  have c2 := Lib.hid (fun W => within64_any p a 10000 W)
  cases h : crdB ⟨a, b, c, d⟩ <;> rw [h] at cV
  · go_enter Tryz.func16, Tryz.ntmps16
    go_wp2_with fail
    obtain ⟨q1, hB0, hsz⟩ := one_box w #[.int .i64 a, .int .i64 b, .int .i64 c, .int .i64 d] 25
    generalize (w.alloc (.cells #[.int .i64 a, .int .i64 b, .int .i64 c, .int .i64 d] 25)) = W0 at q1 hB0 hsz ⊢
    have hS : ((W0.cell? ⟨w.heap.size, 0, none⟩ = some (.int .i64 a) ∧ W0.cell? ⟨w.heap.size, 1, none⟩ = some (.int .i64 b) ∧ W0.cell? ⟨w.heap.size, 2, none⟩ = some (.int .i64 c) ∧ W0.cell? ⟨w.heap.size, 3, none⟩ = some (.int .i64 d)) ∧ Below W0.heap.size W0 W0) := ⟨⟨q1 0 _ rfl, q1 1 _ rfl, q1 2 _ rfl, q1 3 _ rfl⟩, Below.refl _ _⟩
    have keep : ∀ W1 W2, ((W1.cell? ⟨w.heap.size, 0, none⟩ = some (.int .i64 a) ∧ W1.cell? ⟨w.heap.size, 1, none⟩ = some (.int .i64 b) ∧ W1.cell? ⟨w.heap.size, 2, none⟩ = some (.int .i64 c) ∧ W1.cell? ⟨w.heap.size, 3, none⟩ = some (.int .i64 d)) ∧ Below W0.heap.size W0 W1) → Below W1.heap.size W1 W2 → ((W2.cell? ⟨w.heap.size, 0, none⟩ = some (.int .i64 a) ∧ W2.cell? ⟨w.heap.size, 1, none⟩ = some (.int .i64 b) ∧ W2.cell? ⟨w.heap.size, 2, none⟩ = some (.int .i64 c) ∧ W2.cell? ⟨w.heap.size, 3, none⟩ = some (.int .i64 d)) ∧ Below W0.heap.size W0 W2) := fun W1 W2 h1 h2 => by
      obtain ⟨p0, hb⟩ := h1
      exact ⟨CrdAt.below (x := ⟨a, b, c, d⟩) (o := 0) p0 (Nat.lt_of_lt_of_le hsz hb.size) h2, hb.trans (h2.mono hb.size)⟩
    have keepH := Lib.hid keep
    clear keep
    clear q1
    go_wp2_with (first
      | (go_at_call 10; (with_reducible refine (cV.out _).mono ?_); rintro e w' ⟨rfl, hbel⟩; replace hS := keepH.out _ _ hS hbel; clear hbel))
    go_ret2
    exact ⟨ret_int2 rfl rfl, below2 hB0 hS.2⟩

  have hbd := crd_bd h
  obtain ⟨ha, hb, hc, hd⟩ := hbd
  cases h2 : inB p a 10000 <;> rw [h2] at c2
  · go_enter Tryz.func16, Tryz.ntmps16
    go_wp2_with fail
    obtain ⟨q1, hB0, hsz⟩ := one_box w #[.int .i64 a, .int .i64 b, .int .i64 c, .int .i64 d] 25
    generalize (w.alloc (.cells #[.int .i64 a, .int .i64 b, .int .i64 c, .int .i64 d] 25)) = W0 at q1 hB0 hsz ⊢
    have hS : ((W0.cell? ⟨w.heap.size, 0, none⟩ = some (.int .i64 a) ∧ W0.cell? ⟨w.heap.size, 1, none⟩ = some (.int .i64 b) ∧ W0.cell? ⟨w.heap.size, 2, none⟩ = some (.int .i64 c) ∧ W0.cell? ⟨w.heap.size, 3, none⟩ = some (.int .i64 d)) ∧ Below W0.heap.size W0 W0) := ⟨⟨q1 0 _ rfl, q1 1 _ rfl, q1 2 _ rfl, q1 3 _ rfl⟩, Below.refl _ _⟩
    have keep : ∀ W1 W2, ((W1.cell? ⟨w.heap.size, 0, none⟩ = some (.int .i64 a) ∧ W1.cell? ⟨w.heap.size, 1, none⟩ = some (.int .i64 b) ∧ W1.cell? ⟨w.heap.size, 2, none⟩ = some (.int .i64 c) ∧ W1.cell? ⟨w.heap.size, 3, none⟩ = some (.int .i64 d)) ∧ Below W0.heap.size W0 W1) → Below W1.heap.size W1 W2 → ((W2.cell? ⟨w.heap.size, 0, none⟩ = some (.int .i64 a) ∧ W2.cell? ⟨w.heap.size, 1, none⟩ = some (.int .i64 b) ∧ W2.cell? ⟨w.heap.size, 2, none⟩ = some (.int .i64 c) ∧ W2.cell? ⟨w.heap.size, 3, none⟩ = some (.int .i64 d)) ∧ Below W0.heap.size W0 W2) := fun W1 W2 h1 h2 => by
      obtain ⟨p0, hb⟩ := h1
      exact ⟨CrdAt.below (x := ⟨a, b, c, d⟩) (o := 0) p0 (Nat.lt_of_lt_of_le hsz hb.size) h2, hb.trans (h2.mono hb.size)⟩
    have keepH := Lib.hid keep
    clear keep
    clear q1
    go_wp2_with (first
      | (go_at_call 10; (with_reducible refine (cV.out _).mono ?_); rintro e w' ⟨rfl, hbel⟩; replace hS := keepH.out _ _ hS hbel; clear hbel)
      | (go_at_call 23; (with_reducible refine (c2.out _).mono ?_); rintro e w' ⟨rfl, rfl⟩))
    go_ret2
    exact ⟨ret_int2 rfl rfl, below2 hB0 hS.2⟩

  have hp := inB_iff.1 h2
  have hm := mulP_bd (a := 10 * b) (b := p - a) (A := 5000) (B := 10000) (by omega) (by omega)
  have e1 : IntKind.i64.wrap (10 * b) = 10 * b := IntWalk.i64_in _ (by omega)
  have e2 : IntKind.i64.wrap (p - a) = p - a := IntWalk.i64_in _ (by omega)
  have e3 : IntKind.i64.wrap (10 * b * (p - a)) = 10 * b * (p - a) := IntWalk.i64_in _ (by omega)
  have c3 := Lib.hid (fun W => nearest_any (10 * b * (p - a)) p (by omega) (by omega) (by omega) (by omega) (by omega) W)
  go_enter Tryz.func16, Tryz.ntmps16
  go_wp2_with fail
  obtain ⟨q1, hB0, hsz⟩ := one_box w #[.int .i64 a, .int .i64 b, .int .i64 c, .int .i64 d] 25
  generalize (w.alloc (.cells #[.int .i64 a, .int .i64 b, .int .i64 c, .int .i64 d] 25)) = W0 at q1 hB0 hsz ⊢
  have hS : ((W0.cell? ⟨w.heap.size, 0, none⟩ = some (.int .i64 a) ∧ W0.cell? ⟨w.heap.size, 1, none⟩ = some (.int .i64 b) ∧ W0.cell? ⟨w.heap.size, 2, none⟩ = some (.int .i64 c) ∧ W0.cell? ⟨w.heap.size, 3, none⟩ = some (.int .i64 d)) ∧ Below W0.heap.size W0 W0) := ⟨⟨q1 0 _ rfl, q1 1 _ rfl, q1 2 _ rfl, q1 3 _ rfl⟩, Below.refl _ _⟩
  have keep : ∀ W1 W2, ((W1.cell? ⟨w.heap.size, 0, none⟩ = some (.int .i64 a) ∧ W1.cell? ⟨w.heap.size, 1, none⟩ = some (.int .i64 b) ∧ W1.cell? ⟨w.heap.size, 2, none⟩ = some (.int .i64 c) ∧ W1.cell? ⟨w.heap.size, 3, none⟩ = some (.int .i64 d)) ∧ Below W0.heap.size W0 W1) → Below W1.heap.size W1 W2 → ((W2.cell? ⟨w.heap.size, 0, none⟩ = some (.int .i64 a) ∧ W2.cell? ⟨w.heap.size, 1, none⟩ = some (.int .i64 b) ∧ W2.cell? ⟨w.heap.size, 2, none⟩ = some (.int .i64 c) ∧ W2.cell? ⟨w.heap.size, 3, none⟩ = some (.int .i64 d)) ∧ Below W0.heap.size W0 W2) := fun W1 W2 h1 h2 => by
    obtain ⟨p0, hb⟩ := h1
    exact ⟨CrdAt.below (x := ⟨a, b, c, d⟩) (o := 0) p0 (Nat.lt_of_lt_of_le hsz hb.size) h2, hb.trans (h2.mono hb.size)⟩
  have keepH := Lib.hid keep
  clear keep
  clear q1
  go_wp2_with (first
    | (go_at_call 10; (with_reducible refine (cV.out _).mono ?_); rintro e w' ⟨rfl, hbel⟩; replace hS := keepH.out _ _ hS hbel; clear hbel)
    | (go_at_call 23; (with_reducible refine (c2.out _).mono ?_); rintro e w' ⟨rfl, rfl⟩)
    | (go_at_call 35; (with_reducible refine (c3.out _).mono ?_); rintro e w' ⟨rfl, n, rfl⟩; replace hS := keepH.out _ _ hS (belowN (Below.refl _ _) n)))
  go_ret2
  exact ⟨ret_int2 rfl rfl, below2 hB0 hS.2⟩
end Go.Proofs.YtnenccfmopjcjaaGreatDoor
