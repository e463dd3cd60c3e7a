/-
  Bending of ribs: the program's and the model's contracts.
-/
import Derived.Test.YtmhiekfnkbldeaaFg
import Derived.Test.YtmhiekfnkbldeaaCore2
namespace Go.Proofs.Ytmhiekfnkbldeaa
open Go.ChangeShapes Go.WideShapes Go.ChangeAt Go.RowKit
set_option linter.unusedVariables false
set_option linter.unusedSimpArgs false
set_option maxRecDepth 1000000
theorem isRibSize_any (n : Int) (w : World) : Calls Try.prog 60 #[.int .i64 n] w fun e w' => e = .returned (.bool (inB n 1 10000)) ∧ w = w' := by
  go_enter Try.func60, Try.ntmps60
  go_wp2_with (go_at_call 65; refine (within64_any _ _ _ _).mono ?_; rintro e w' ⟨rfl, rfl⟩)
  go_ret
  exact ⟨rfl, rfl⟩
theorem l06Size_any (n : Int) (w : World) : Calls Try.prog 58 #[.int .i64 n] w fun e w' => e = .returned (.bool (inB n 1 10000)) ∧ w = w' := by
  go_enter Try.func58, Try.ntmps58
  go_wp2_with (go_at_call 68; refine (l00In_any _ _ _ _).mono ?_; rintro e w' ⟨rfl, rfl⟩)
  go_ret
  exact ⟨rfl, rfl⟩
theorem isBendable_any (t h : Int) (w : World) : Calls Try.prog 61 #[.int .i64 t, .int .i64 h] w fun e w' => e = .returned (.bool (inB t 1 100 && inB h 1 1000)) ∧ w = w' := by
  cases h1 : inB t 1 100 <;> cases h2 : inB h 1 1000
  all_goals
    go_enter Try.func61, Try.ntmps61
    go_wp2_with (go_at_call 65; refine (within64_any _ _ _ _).mono ?_; rintro e w' ⟨rfl, rfl⟩)
    go_ret
    exact ⟨rfl, rfl⟩
theorem l06Bend_any (t h : Int) (w : World) : Calls Try.prog 59 #[.int .i64 t, .int .i64 h] w fun e w' => e = .returned (.bool (inB t 1 100 && inB h 1 1000)) ∧ w = w' := by
  cases h1 : inB t 1 100 <;> cases h2 : inB h 1 1000
  all_goals
    go_enter Try.func59, Try.ntmps59
    go_wp2_with (go_at_call 68; refine (l00In_any _ _ _ _).mono ?_; rintro e w' ⟨rfl, rfl⟩)
    go_ret
    exact ⟨rfl, rfl⟩
def mx0 (n : Int) : Int := if 0 < n then n else 0
def bendV (r t h : Int) : Int := (mx0 (1000 * t / r - h) + 9) / 10
theorem l00Max0_any (n : Int) (w : World) : Calls Try.prog 54 #[.int .i64 0, .int .i64 n] w fun e w' => e = .returned (.int .i64 (mx0 n)) ∧ w = w' := by
  have hx : Hid (mx0 n = if 0 < n then n else 0) := Lib.hid rfl
  by_cases h : 0 < n
  · have h' : ¬ (n < 0) := by omega
    go_enter Try.func54, Try.ntmps54
    go_wp2
    go_ret
    exact ⟨ret_int (by rw [hx.out, if_pos h]), rfl⟩
  · by_cases h2 : n < 0
    all_goals
      go_enter Try.func54, Try.ntmps54
      go_wp2
      go_ret
      exact ⟨ret_int (by rw [hx.out, if_neg (by omega)]; try omega), rfl⟩
theorem quo_bd {r t : Int} (hr : 1 ≤ r ∧ r ≤ 10000) (ht : 1 ≤ t ∧ t ≤ 100) : 0 ≤ 1000 * t / r ∧ 1000 * t / r ≤ 100000 := by
  have h1 := Int.ediv_nonneg (a := 1000 * t) (b := r) (by omega) (by omega)
  have h2 := Int.ediv_le_self (a := 1000 * t) r (by omega)
  omega
set_option maxHeartbeats 1600000 in
theorem specBendSteps_any (r t h : Int) (w : World) : Calls Try.prog 30 #[.int .i64 r, .int .i64 t, .int .i64 h] w fun e w' => e = .returned (.tuple #[.int .i64 (pick (inB r 1 10000 && (inB t 1 100 && inB h 1 1000)) (bendV r t h)), .int .i64 (code (inB r 1 10000 && (inB t 1 100 && inB h 1 1000)) 2)]) ∧ w = w' := by
  cases h1 : inB r 1 10000
  · go_enter Try.func30, Try.ntmps30
    go_wp2_with (first
          | (go_at_call 58; refine (l06Size_any _ _).mono ?_; rintro e w' ⟨rfl, rfl⟩)
          | (go_at_call 59; refine (l06Bend_any _ _ _).mono ?_; rintro e w' ⟨rfl, rfl⟩)
          | (go_at_call 54; refine (l00Max0_any _ _).mono ?_; rintro e w' ⟨rfl, rfl⟩))
    go_ret2
    exact ⟨ret_int2 rfl rfl, rfl⟩
  cases h2 : (inB t 1 100 && inB h 1 1000)
  · go_enter Try.func30, Try.ntmps30
    go_wp2_with (first
          | (go_at_call 58; refine (l06Size_any _ _).mono ?_; rintro e w' ⟨rfl, rfl⟩)
          | (go_at_call 59; refine (l06Bend_any _ _ _).mono ?_; rintro e w' ⟨rfl, rfl⟩)
          | (go_at_call 54; refine (l00Max0_any _ _).mono ?_; rintro e w' ⟨rfl, rfl⟩))
    go_ret2
    exact ⟨ret_int2 rfl rfl, rfl⟩
  have hr := inB_iff.1 h1
  have hth : (1 ≤ t ∧ t ≤ 100) ∧ (1 ≤ h ∧ h ≤ 1000) := by rw [Bool.and_eq_true, inB_iff, inB_iff] at h2; exact h2
  have hq := quo_bd hr hth.1
  have hv : Hid (bendV r t h = (mx0 (1000 * t / r - h) + 9) / 10) := Lib.hid rfl
  have hm : Hid (mx0 (1000 * t / r - h) = if 0 < 1000 * t / r - h then 1000 * t / r - h else 0) := Lib.hid rfl
  have hmb : 0 ≤ mx0 (1000 * t / r - h) ∧ mx0 (1000 * t / r - h) ≤ 100000 := by rw [hm.out]; split <;> omega
  have cM := Lib.hid (fun W => l00Max0_any (1000 * t / r - h) W)
  obtain ⟨M, hM⟩ : ∃ M, M = mx0 (1000 * t / r - h) := ⟨_, rfl⟩
  rw [← hM] at hmb hv cM
  clear hM hm
  go_enter Try.func30, Try.ntmps30
  go_wp2_with (first
        | (go_at_call 58; refine (l06Size_any _ _).mono ?_; rintro e w' ⟨rfl, rfl⟩)
        | (go_at_call 59; refine (l06Bend_any _ _ _).mono ?_; rintro e w' ⟨rfl, rfl⟩)
        | (go_at_call 54; refine (cM.out _).mono ?_; rintro e w' ⟨rfl, rfl⟩))
  go_ret2
  exact ⟨ret_int2 (by rw [hv.out]; rfl) rfl, rfl⟩
set_option maxHeartbeats 1600000 in
theorem implBendSteps_any (r t h : Int) (w : World) : Calls Try.prog 31 #[.int .i64 r, .int .i64 t, .int .i64 h] w fun e w' => e = .returned (.tuple #[.int .i64 (pick (inB r 1 10000 && (inB t 1 100 && inB h 1 1000)) (bendV r t h)), .int .i64 (code (inB r 1 10000 && (inB t 1 100 && inB h 1 1000)) 2)]) ∧ w = w' := by
  cases h1 : inB r 1 10000
  · go_enter Try.func31, Try.ntmps31
    go_wp2_with (first
      | (go_at_call 60; refine (isRibSize_any _ _).mono ?_; rintro e w' ⟨rfl, rfl⟩)
      | (go_at_call 61; refine (isBendable_any _ _ _).mono ?_; rintro e w' ⟨rfl, rfl⟩))
    go_ret2
    exact ⟨ret_int2 rfl rfl, rfl⟩
  cases h2 : (inB t 1 100 && inB h 1 1000)
  · go_enter Try.func31, Try.ntmps31
    go_wp2_with (first
      | (go_at_call 60; refine (isRibSize_any _ _).mono ?_; rintro e w' ⟨rfl, rfl⟩)
      | (go_at_call 61; refine (isBendable_any _ _ _).mono ?_; rintro e w' ⟨rfl, rfl⟩))
    go_ret2
    exact ⟨ret_int2 rfl rfl, rfl⟩
  have hr := inB_iff.1 h1
  have hth : (1 ≤ t ∧ t ≤ 100) ∧ (1 ≤ h ∧ h ≤ 1000) := by rw [Bool.and_eq_true, inB_iff, inB_iff] at h2; exact h2
  have hq := quo_bd hr hth.1
  have hv : Hid (ltV 10 (1000 * t / r - h) = bendV r t h) := Lib.hid (by
    unfold ltV bendV mx0
    split
    · rw [show max 0 (1000 * t / r - h) = 1000 * t / r - h by omega]; congr 1; omega
    · rw [show max 0 (1000 * t / r - h) = 0 by omega]; congr 1 <;> omega)
  have cL := Lib.hid (fun W => leastTimes_any 10 (1000 * t / r - h) (by omega) (by omega) W)
  go_enter Try.func31, Try.ntmps31
  go_wp2_with (first
      | (go_at_call 60; refine (isRibSize_any _ _).mono ?_; rintro e w' ⟨rfl, rfl⟩)
      | (go_at_call 61; refine (isBendable_any _ _ _).mono ?_; rintro e w' ⟨rfl, rfl⟩)
      | (go_at_call 62; (with_reducible refine (cL.out _).mono ?_); rintro e w' ⟨rfl, rfl⟩))
  go_ret2
  exact ⟨ret_int2 hv.out rfl, rfl⟩
end Go.Proofs.Ytmhiekfnkbldeaa
