/-
  Contracts of inches, pieces and weekdays, and what a choice hands back.
-/
import Derived.Test.YtmknafkngggfjaaGreatDoorCore
namespace Go.Proofs.YtmknafkngggfjaaGreatDoor
open Go.ChangeShapes Go.WideShapes Go.ChangeAt Go.RowKit
set_option linter.unusedVariables false
set_option linter.unusedSimpArgs false
/-- the number where the test says yes, else 0 (not reducible: the walk leaves it alone) -/
def pick (b : Bool) (n : Int) : Int := if b = true then n else 0
/-- OK where the test says yes, else the code c -/
def code (b : Bool) (c : Int) : Int := if b = true then 0 else c
theorem pick_t {b : Bool} (h : b = true) (n : Int) : pick b n = n := by unfold pick; rw [if_pos h]
theorem pick_f {b : Bool} (h : b = false) (n : Int) : pick b n = 0 := by unfold pick; rw [h]; rfl
theorem code_t {b : Bool} (h : b = true) (c : Int) : code b c = 0 := by unfold code; rw [if_pos h]
theorem code_f {b : Bool} (h : b = false) (c : Int) : code b c = c := by unfold code; rw [h]; rfl
theorem ret_int2 {a b c d : Int} (h1 : a = c) (h2 : b = d) : Ending.returned (.tuple #[.int .i64 a, .int .i64 b]) = .returned (.tuple #[.int .i64 c, .int .i64 d]) := by rw [h1, h2]
theorem ret_int4 {a b c d a' b' c' d' : Int} (h1 : a = a') (h2 : b = b') (h3 : c = c') (h4 : d = d') : Ending.returned (.tuple #[.int .i64 a, .int .i64 b, .int .i64 c, .int .i64 d]) = .returned (.tuple #[.int .i64 a', .int .i64 b', .int .i64 c', .int .i64 d']) := by rw [h1, h2, h3, h4]
theorem l02Mass_any (n : Int) (w : World) : Calls Tryz.prog 41 #[.int .i64 n] w fun e w' => e = .returned (.bool (inB n 0 1000000000)) ∧ w = w' := by
  go_enter Tryz.func41, Tryz.ntmps41
  go_wp2_with (go_at_call 53; refine (l00In_any _ _ _ _).mono ?_; rintro e w' ⟨rfl, rfl⟩)
  go_ret
  exact ⟨rfl, rfl⟩
theorem withinL_any (n lo hi : Int) (w : World) : Calls Tryz.prog 55 #[.int .i64 n, .int .i64 lo, .int .i64 hi] w fun e w' => e = .returned (.bool (inB n lo hi)) ∧ w = w' := by
  by_cases h1 : lo ≤ n <;> by_cases h2 : n ≤ hi
  all_goals
    go_enter Tryz.func55, Tryz.ntmps55
    go_wp2
    go_ret
    exact ⟨ret_bool (by simp [inB, h1, h2]), rfl⟩
theorem isLength_any (n : Int) (w : World) : Calls Tryz.prog 43 #[.int .i64 n] w fun e w' => e = .returned (.bool (inB n 0 1000000000)) ∧ w = w' := by
  go_enter Tryz.func43, Tryz.ntmps43
  go_wp2_with (go_at_call 55; refine (withinL_any _ _ _ _).mono ?_; rintro e w' ⟨rfl, rfl⟩)
  go_ret
  exact ⟨rfl, rfl⟩
theorem inchPartsM_any (n : Int) (h0 : 0 ≤ n) (h1 : n ≤ 1000000000) (w : World) : Calls Tryz.prog 46 #[.int .i64 n] w fun e w' => e = .returned (.int .i64 (rnd (64 * n) 254)) ∧ ∃ m, w' = w.drewN m := by
  go_enter Tryz.func46, Tryz.ntmps46
  go_wp2_with (go_at_call 57; refine (nearest_any _ _ (by omega) (by omega) (by omega) (by omega) (by omega) _).mono ?_; rintro e w' ⟨rfl, m, rfl⟩)
  go_ret
  exact ⟨rfl, _, rfl⟩
theorem implInchParts_any (n : Int) (w : World) : Calls Tryz.prog 18 #[.int .i64 n] w fun e w' => e = .returned (.tuple #[.int .i64 (pick (inB n 0 1000000000) (rnd (64 * n) 254)), .int .i64 (code (inB n 0 1000000000) 2)]) ∧ ∃ m, w' = w.drewN m := by
  cases h : inB n 0 1000000000
  · go_enter Tryz.func18, Tryz.ntmps18
    go_wp2_with (go_at_call 43; refine (isLength_any _ _).mono ?_; rintro e w' ⟨rfl, rfl⟩)
    go_ret2
    exact ⟨ret_int2 rfl rfl, 0, rfl⟩
  · have hb := inB_iff.1 h
    go_enter Tryz.func18, Tryz.ntmps18
    go_wp2_with (first
      | (go_at_call 43; refine (isLength_any _ _).mono ?_; rintro e w' ⟨rfl, rfl⟩)
      | (go_at_call 46; refine (inchPartsM_any _ (by omega) (by omega) _).mono ?_; rintro e w' ⟨rfl, m, rfl⟩))
    go_ret2
    exact ⟨ret_int2 rfl rfl, _, rfl⟩
theorem implPiecesFrom_any (l e0 s : Int) (w : World) : Calls Tryz.prog 21 #[.int .i64 l, .int .i64 e0, .int .i64 s] w fun e w' => e = .returned (.tuple #[.int .i64 (pick (inB l 0 1000000000 && inB e0 1 1000000000 && inB s 0 1000) ((l + s) / (e0 + s))), .int .i64 (code (inB l 0 1000000000 && inB e0 1 1000000000 && inB s 0 1000) 2)]) ∧ w = w' := by
  cases h1 : inB l 0 1000000000 <;> cases h2 : inB e0 1 1000000000 <;> cases h3 : inB s 0 1000
  case true.true.true =>
    have b1 := inB_iff.1 h1
    have b2 := inB_iff.1 h2
    have b3 := inB_iff.1 h3
    have hq := Int.ediv_le_self (a := l + s) (e0 + s) (by omega)
    have hq0 := Int.ediv_nonneg (a := l + s) (b := e0 + s) (by omega) (by omega)
    go_enter Tryz.func21, Tryz.ntmps21
    go_wp2_with (go_at_call 26; refine (within64_any _ _ _ _).mono ?_; rintro e w' ⟨rfl, rfl⟩)
    go_ret2
    exact ⟨ret_int2 rfl rfl, rfl⟩
  all_goals
    go_enter Tryz.func21, Tryz.ntmps21
    go_wp2_with (go_at_call 26; refine (within64_any _ _ _ _).mono ?_; rintro e w' ⟨rfl, rfl⟩)
    go_ret2
    exact ⟨ret_int2 rfl rfl, rfl⟩
end Go.Proofs.YtmknafkngggfjaaGreatDoor
