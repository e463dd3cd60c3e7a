/-
  Contracts of DivRound and Blend, of the model and of the program.
-/
import Derived.Test.YtmknafkngggfjaaDoorCore
namespace Go.Proofs.YtmknafkngggfjaaDoor
open Go.ChangeShapes Go.WideShapes Go.ChangeAt Go.RowKit
set_option linter.unusedVariables false
set_option linter.unusedSimpArgs false

theorem Grown.drewN {W w' : World} (h : Grown W w') (n : Nat) : Grown W (w'.drewN n) := h


def divR (a b : Int) : Int := if b = 0 then 0 else if inB a (-1000000000000) 1000000000000 = false then 0 else if inB b (-1000000000000) 1000000000000 = false then 0 else rnd a b

theorem implDivRound_any (a b : Int) (w : World) : Calls Tryd.prog 7 #[.int .i64 a, .int .i64 b] w fun e w' => e = .returned (.int .i64 (divR a b)) ∧ ∃ n, w' = w.drewN n := by
  cases h1 : inB a (-1000000000000) 1000000000000
  · have hr : Hid (divR a b = 0) := Lib.hid (by unfold divR; simp [h1])
    go_enter Tryd.func7, Tryd.ntmps7
    go_wp2_with (go_at_call 19; refine (isValue_any _ _).mono ?_; rintro e w' ⟨rfl, rfl⟩)
    go_ret
    exact ⟨ret_int hr.out.symm, 0, rfl⟩
  cases h2 : inB b (-1000000000000) 1000000000000
  · have hr : Hid (divR a b = 0) := Lib.hid (by unfold divR; simp [h1, h2])
    go_enter Tryd.func7, Tryd.ntmps7
    go_wp2_with (go_at_call 19; refine (isValue_any _ _).mono ?_; rintro e w' ⟨rfl, rfl⟩)
    go_ret
    exact ⟨ret_int hr.out.symm, 0, rfl⟩
  have g1 := inB_iff.1 h1
  have g2 := inB_iff.1 h2
  by_cases hb : b = 0
  · subst hb
    have hr : Hid (divR a 0 = 0) := Lib.hid (by unfold divR; rw [if_pos rfl])
    go_enter Tryd.func7, Tryd.ntmps7
    go_wp2_with (first
      | (go_at_call 19; refine (isValue_any _ _).mono ?_; rintro e w' ⟨rfl, rfl⟩)
      | (go_at_call 20; refine (nearest_zero _ _).mono ?_; rintro e w' ⟨rfl, rfl⟩))
    go_ret
    exact ⟨ret_int hr.out.symm, 0, rfl⟩
  have hr : Hid (divR a b = rnd a b) := Lib.hid (by unfold divR; rw [if_neg hb, if_neg (by simp [h1]), if_neg (by simp [h2])])
  go_enter Tryd.func7, Tryd.ntmps7
  go_wp2_with (first
    | (go_at_call 19; refine (isValue_any _ _).mono ?_; rintro e w' ⟨rfl, rfl⟩)
    | (go_at_call 20; refine (nearest_any a b hb (by omega) (by omega) (by omega) (by omega) _).mono ?_; rintro e w' ⟨rfl, n, rfl⟩))
  go_ret
  exact ⟨ret_int hr.out.symm, _, rfl⟩

/-- the value at x of the line through two points -/
def lineR (x0 y0 x1 y1 x : Int) : Int := if x ≤ x0 then y0 else if x1 ≤ x0 then y0 else if x1 ≤ x then y1 else y0 + rnd ((y1 - y0) * (x - x0)) (x1 - x0)

theorem mul_bd {a b B C : Int} (ha0 : -B ≤ a) (ha1 : a ≤ B) (hb0 : 0 ≤ b) (hb1 : b ≤ C) (hB : 0 ≤ B) : -(B * C) ≤ a * b ∧ a * b ≤ B * C := by
  have h1 : a * b ≤ B * b := Int.mul_le_mul_of_nonneg_right ha1 hb0
  have h2 : B * b ≤ B * C := Int.mul_le_mul_of_nonneg_left hb1 hB
  have h3 : (-B) * b ≤ a * b := Int.mul_le_mul_of_nonneg_right ha0 hb0
  have h4 : (-B) * b = -(B * b) := Int.neg_mul _ _
  omega
theorem rnd_bd (a b : Int) (hb : 0 < b) : (rnd a b).natAbs ≤ a.natAbs + 1 := by
  rw [rnd_prog a b (by omega)]
  have := Int.natAbs_tdiv_le_natAbs a b
  split
  · omega
  · split <;> omega

theorem onLine_any (x0 y0 x1 y1 x : Int) (a1 : -1000000 ≤ x0) (a2 : x0 ≤ 1000000) (b1 : -1000000 ≤ y0) (b2 : y0 ≤ 1000000) (c1 : -1000000 ≤ x1) (c2 : x1 ≤ 1000000) (d1 : -1000000 ≤ y1) (d2 : y1 ≤ 1000000) (w : World) :
    Calls Tryd.prog 23 #[.int .i64 x0, .int .i64 y0, .int .i64 x1, .int .i64 y1, .int .i64 x] w fun e w' => e = .returned (.int .i64 (lineR x0 y0 x1 y1 x)) ∧ ∃ n, w' = w.drewN n := by
  by_cases h1 : x ≤ x0
  · have hr : Hid (lineR x0 y0 x1 y1 x = y0) := Lib.hid (by unfold lineR; rw [if_pos h1])
    go_enter Tryd.func23, Tryd.ntmps23
    go_wp2
    go_ret
    exact ⟨ret_int hr.out.symm, 0, rfl⟩
  by_cases h2 : x1 ≤ x0
  · have hr : Hid (lineR x0 y0 x1 y1 x = y0) := Lib.hid (by unfold lineR; rw [if_neg h1, if_pos h2])
    go_enter Tryd.func23, Tryd.ntmps23
    go_wp2
    go_ret
    exact ⟨ret_int hr.out.symm, 0, rfl⟩
  by_cases h3 : x1 ≤ x
  · have hr : Hid (lineR x0 y0 x1 y1 x = y1) := Lib.hid (by unfold lineR; rw [if_neg h1, if_neg h2, if_pos h3])
    go_enter Tryd.func23, Tryd.ntmps23
    go_wp2
    go_ret
    exact ⟨ret_int hr.out.symm, 0, rfl⟩
  have hr : Hid (lineR x0 y0 x1 y1 x = y0 + rnd ((y1 - y0) * (x - x0)) (x1 - x0)) := Lib.hid (by unfold lineR; rw [if_neg h1, if_neg h2, if_neg h3])
  have hm := mul_bd (a := y1 - y0) (b := x - x0) (B := 2000000) (C := 2000000) (by omega) (by omega) (by omega) (by omega) (by omega)
  have hn := rnd_bd ((y1 - y0) * (x - x0)) (x1 - x0) (by omega)
  go_enter Tryd.func23, Tryd.ntmps23
  go_wp2_with (go_at_call 20; refine (nearest_any _ _ (by omega) (by omega) (by omega) (by omega) (by omega) _).mono ?_; rintro e w' ⟨rfl, n, rfl⟩)
  go_ret
  exact ⟨ret_int hr.out.symm, _, rfl⟩

def in6 (n : Int) : Bool := inB n (-1000000) 1000000
theorem within6 (n : Int) (w : World) : Calls Tryd.prog 22 #[.int .i64 n, .int .i64 (-1000000), .int .i64 1000000] w fun e w' => e = .returned (.bool (in6 n)) ∧ w = w' := within64_any _ _ _ _
theorem in6_iff {n : Int} (h : in6 n = true) : -1000000 ≤ n ∧ n ≤ 1000000 := inB_iff.1 h
def blendR (x0 y0 x1 y1 x : Int) : Int := if in6 x0 && in6 x1 && in6 y0 && in6 y1 then lineR x0 y0 x1 y1 x else 0

def upTo4 (k : Nat) (a b c d : Int) : Prop := (1 ≤ k → in6 a = true) ∧ (2 ≤ k → in6 b = true) ∧ (3 ≤ k → in6 c = true) ∧ (4 ≤ k → in6 d = true)

set_option maxHeartbeats 1000000 in
theorem implBlend_any (x0 y0 x1 y1 x : Int) (w : World) :
    Calls Tryd.prog 10 #[.int .i64 x0, .int .i64 y0, .int .i64 x1, .int .i64 y1, .int .i64 x] w fun e w' => e = .returned (.int .i64 (blendR x0 y0 x1 y1 x)) ∧ ∃ n, w' = w.drewN n := by
  have hr0 : Hid (blendR x0 y0 x1 y1 x = if in6 x0 && in6 x1 && in6 y0 && in6 y1 then lineR x0 y0 x1 y1 x else 0) := Lib.hid rfl
  have i0 : ∀ w, (Instr.index 43 (.agg #[.int .i64 x0, .int .i64 y0, .int .i64 x1, .int .i64 y1]) (.int .i64 0)).run Tryd.prog w = .ok (.int .i64 x0) w := fun _ => by kernel_rfl
  have i1 : ∀ w, (Instr.index 43 (.agg #[.int .i64 x0, .int .i64 y0, .int .i64 x1, .int .i64 y1]) (.int .i64 1)).run Tryd.prog w = .ok (.int .i64 y0) w := fun _ => by kernel_rfl
  have i2 : ∀ w, (Instr.index 43 (.agg #[.int .i64 x0, .int .i64 y0, .int .i64 x1, .int .i64 y1]) (.int .i64 2)).run Tryd.prog w = .ok (.int .i64 x1) w := fun _ => by kernel_rfl
  have i3 : ∀ w, (Instr.index 43 (.agg #[.int .i64 x0, .int .i64 y0, .int .i64 x1, .int .i64 y1]) (.int .i64 3)).run Tryd.prog w = .ok (.int .i64 y1) w := fun _ => by kernel_rfl
  go_enter Tryd.func10, Tryd.ntmps10
  go_wp2
  go_loop [18] (fun i => ∃ k : Nat, k ≤ 4 ∧ i = .int .i64 k ∧ upTo4 k x0 y0 x1 y1) (fun i => 4 - (intOf i).toNat)
  case atStart => exact ⟨0, by omega, rfl, by simp [upTo4]⟩
  case round =>
    obtain ⟨k, hk, rfl, hu⟩ := hrel
    have hu' : Hid _ := Lib.hid hu
    clear hu
    rcases (show k = 0 ∨ k = 1 ∨ k = 2 ∨ k = 3 ∨ k = 4 by omega) with rfl | rfl | rfl | rfl | rfl
    · cases h : in6 x0
      · go_wp2_with (go_at_call 22; refine (within6 _ _).mono ?_; rintro e w' ⟨rfl, rfl⟩)
        go_ret
        exact ⟨ret_int (by rw [hr0.out]; simp [h]), 0, rfl⟩
      · go_wp2_with (go_at_call 22; refine (within6 _ _).mono ?_; rintro e w' ⟨rfl, rfl⟩)
        go_round
        case rel => exact ⟨1, by omega, by go_num, fun _ => h, by omega, by omega, by omega⟩
        case measure => simp [intOf]
    · cases h : in6 y0
      · go_wp2_with (go_at_call 22; refine (within6 _ _).mono ?_; rintro e w' ⟨rfl, rfl⟩)
        go_ret
        exact ⟨ret_int (by rw [hr0.out]; simp [h]), 0, rfl⟩
      · go_wp2_with (go_at_call 22; refine (within6 _ _).mono ?_; rintro e w' ⟨rfl, rfl⟩)
        go_round
        case rel => exact ⟨2, by omega, by go_num, fun _ => hu'.out.1 (by omega), fun _ => h, by omega, by omega⟩
        case measure => simp [intOf]
    · cases h : in6 x1
      · go_wp2_with (go_at_call 22; refine (within6 _ _).mono ?_; rintro e w' ⟨rfl, rfl⟩)
        go_ret
        exact ⟨ret_int (by rw [hr0.out]; simp [h]), 0, rfl⟩
      · go_wp2_with (go_at_call 22; refine (within6 _ _).mono ?_; rintro e w' ⟨rfl, rfl⟩)
        go_round
        case rel => exact ⟨3, by omega, by go_num, fun _ => hu'.out.1 (by omega), fun _ => hu'.out.2.1 (by omega), fun _ => h, by omega⟩
        case measure => simp [intOf]
    · cases h : in6 y1
      · go_wp2_with (go_at_call 22; refine (within6 _ _).mono ?_; rintro e w' ⟨rfl, rfl⟩)
        go_ret
        exact ⟨ret_int (by rw [hr0.out]; simp [h]), 0, rfl⟩
      · go_wp2_with (go_at_call 22; refine (within6 _ _).mono ?_; rintro e w' ⟨rfl, rfl⟩)
        go_round
        case rel => exact ⟨4, by omega, by go_num, fun _ => hu'.out.1 (by omega), fun _ => hu'.out.2.1 (by omega), fun _ => hu'.out.2.2.1 (by omega), fun _ => h⟩
        case measure => simp [intOf]
    · obtain ⟨h1, h3, h2, h4⟩ := hu'.out
      have h1 := h1 (by omega)
      have h2 := h2 (by omega)
      have h3 := h3 (by omega)
      have h4 := h4 (by omega)
      have a := in6_iff h1
      have b := in6_iff h2
      have c := in6_iff h3
      have d := in6_iff h4
      go_wp2_with (go_at_call 23; refine (onLine_any _ _ _ _ _ (by omega) (by omega) (by omega) (by omega) (by omega) (by omega) (by omega) (by omega) _).mono ?_; rintro e w' ⟨rfl, n, rfl⟩)
      go_ret
      exact ⟨ret_int (by rw [hr0.out]; simp [h1, h2, h3, h4]), _, rfl⟩
end Go.Proofs.YtmknafkngggfjaaDoor
