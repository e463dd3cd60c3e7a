/-
  Contracts of weekdays and working days, of the model and of the program.
-/
import Derived.Test.YtembebdlllcblaaDate
namespace Go.Proofs.Ytembebdlllcblaa
open Go.ChangeShapes Go.WideShapes Go.ChangeAt Go.RowKit
set_option linter.unusedVariables false
set_option linter.unusedSimpArgs false
theorem l02Weekday_any (n : Int) (h0 : 0 ≤ n) (h1 : n ≤ 100000) (w : World) : Calls Try.prog 28 #[.int .i64 n] w fun e w' => e = .returned (.int .i64 ((5 + n) % 7)) ∧ w = w' := by
  go_enter Try.func28, Try.ntmps28
  go_wp2
  go_ret
  exact ⟨ret_int (by omega), rfl⟩
theorem weekdayOf_any (n : Int) (h0 : 0 ≤ n) (h1 : n ≤ 100000) (w : World) : Calls Try.prog 29 #[.int .i64 n] w fun e w' => e = .returned (.int .i64 ((5 + n) % 7)) ∧ w = w' := by
  go_enter Try.func29, Try.ntmps29
  go_wp2
  go_ret
  exact ⟨ret_int (by omega), rfl⟩
theorem specWeekdayOf_any (n : Int) (w : World) : Calls Try.prog 13 #[.int .i64 n] w fun e w' => e = .returned (.tuple #[.int .i64 (pick (inB n 0 36524) ((5 + n) % 7)), .int .i64 (code (inB n 0 36524) 2)]) ∧ w = w' := by
  cases h : inB n 0 36524
  · go_enter Try.func13, Try.ntmps13
    go_wp2_with (go_at_call 21; refine (l02Day_any _ _).mono ?_; rintro e w' ⟨rfl, rfl⟩)
    go_ret2
    exact ⟨ret_int2 rfl rfl, rfl⟩
  · have hb := inB_iff.1 h
    go_enter Try.func13, Try.ntmps13
    go_wp2_with (first
      | (go_at_call 21; refine (l02Day_any _ _).mono ?_; rintro e w' ⟨rfl, rfl⟩)
      | (go_at_call 28; refine (l02Weekday_any _ (by omega) (by omega) _).mono ?_; rintro e w' ⟨rfl, rfl⟩))
    go_ret2
    exact ⟨ret_int2 rfl rfl, rfl⟩
theorem implWeekdayOf_any (n : Int) (w : World) : Calls Try.prog 14 #[.int .i64 n] w fun e w' => e = .returned (.tuple #[.int .i64 (pick (inB n 0 36524) ((5 + n) % 7)), .int .i64 (code (inB n 0 36524) 2)]) ∧ w = w' := by
  cases h : inB n 0 36524
  · go_enter Try.func14, Try.ntmps14
    go_wp2_with (go_at_call 23; refine (isDay_any _ _).mono ?_; rintro e w' ⟨rfl, rfl⟩)
    go_ret2
    exact ⟨ret_int2 rfl rfl, rfl⟩
  · have hb := inB_iff.1 h
    go_enter Try.func14, Try.ntmps14
    go_wp2_with (first
      | (go_at_call 23; refine (isDay_any _ _).mono ?_; rintro e w' ⟨rfl, rfl⟩)
      | (go_at_call 29; refine (weekdayOf_any _ (by omega) (by omega) _).mono ?_; rintro e w' ⟨rfl, rfl⟩))
    go_ret2
    exact ⟨ret_int2 rfl rfl, rfl⟩
theorem l02Span_any (f u : Int) (w : World) : Calls Try.prog 36 #[.int .i64 f, .int .i64 u] w fun e w' => e = .returned (.bool (inB f 0 36524 && inB u f 36525)) ∧ w = w' := by
  cases h1 : inB f 0 36524
  all_goals
    go_enter Try.func36, Try.ntmps36
    go_wp2_with (first
      | (go_at_call 21; refine (l02Day_any _ _).mono ?_; rintro e w' ⟨rfl, rfl⟩)
      | (go_at_call 35; refine (l00In_any _ _ _ _).mono ?_; rintro e w' ⟨rfl, rfl⟩))
    go_ret
    exact ⟨rfl, rfl⟩
theorem specWorkDays_any (f u : Int) (w : World) : Calls Try.prog 19 #[.int .i64 f, .int .i64 u] w fun e w' => e = .returned (.tuple #[.int .i64 (pick (inB f 0 36524 && inB u f 36525) (workF f (u - f).toNat)), .int .i64 (code (inB f 0 36524 && inB u f 36525) 2)]) ∧ w = w' := by
  cases h : (inB f 0 36524 && inB u f 36525)
  · go_enter Try.func19, Try.ntmps19
    go_wp2_with (go_at_call 36; refine (l02Span_any _ _ _).mono ?_; rintro e w' ⟨rfl, rfl⟩)
    go_ret2
    exact ⟨ret_int2 rfl rfl, rfl⟩
  · obtain ⟨g1, g2⟩ := Bool.and_eq_true_iff.1 h
    have b1 := inB_iff.1 g1
    have b2 := inB_iff.1 g2
    clear g1 g2
    go_enter Try.func19, Try.ntmps19
    go_wp2_with (go_at_call 36; refine (l02Span_any _ _ _).mono ?_; rintro e w' ⟨rfl, rfl⟩)
    go_loop [6, 7] (fun s i => ∃ (k : Nat) (v : Int), f + k ≤ u ∧ i = .int .i64 (f + k) ∧ s = .int .i64 v ∧ 0 ≤ v ∧ v ≤ 40000 ∧ Hid (v = workF f k)) (fun _ i => (u - intOf i).toNat)
    case atStart => exact ⟨0, 0, by omega, by go_num, rfl, by omega, by omega, Lib.hid rfl⟩
    case round =>
      obtain ⟨k, v, hk, rfl, rfl, hv0, hv1, hv⟩ := hrel
      by_cases hlt : f + k < u
      · have hs := Lib.hid (workF_succ f k)
        have hb := workF_bd f k
        have hvk : v ≤ k := by have := hv.out; omega
        by_cases hw : (5 + (f + k)) % 7 < 5
        · have hn : Hid (v + 1 = workF f (k + 1)) := Lib.hid (by rw [hs.out, if_pos hw, hv.out])
          clear hb
          go_wp2_with (go_at_call 28; refine (l02Weekday_any _ (by omega) (by omega) _).mono ?_; rintro e w' ⟨rfl, rfl⟩)
          go_round
          case rel => exact ⟨k + 1, v + 1, by omega, by go_num, rfl, by omega, by omega, hn⟩
          case measure => simp [intOf]; omega
        · have hn : Hid (v = workF f (k + 1)) := Lib.hid (by rw [hs.out, if_neg hw, hv.out]; omega)
          clear hb
          go_wp2_with (go_at_call 28; refine (l02Weekday_any _ (by omega) (by omega) _).mono ?_; rintro e w' ⟨rfl, rfl⟩)
          go_round
          case rel => exact ⟨k + 1, v, by omega, by go_num, rfl, by omega, by omega, hn⟩
          case measure => simp [intOf]; omega
      · have hku : Hid ((u - f).toNat = k) := Lib.hid (by omega)
        go_wp2
        go_ret2
        exact ⟨ret_int2 (by rw [pick_t rfl, hku.out]; exact hv.out) rfl, rfl⟩
theorem implWorkDays_any (f u : Int) (w : World) : Calls Try.prog 20 #[.int .i64 f, .int .i64 u] w fun e w' => e = .returned (.tuple #[.int .i64 (pick (inB f 0 36524 && inB u f 36525) (workF f (u - f).toNat)), .int .i64 (code (inB f 0 36524 && inB u f 36525) 2)]) ∧ w = w' := by
  cases h1 : inB f 0 36524
  · go_enter Try.func20, Try.ntmps20
    go_wp2_with (go_at_call 23; refine (isDay_any _ _).mono ?_; rintro e w' ⟨rfl, rfl⟩)
    go_ret2
    exact ⟨ret_int2 rfl rfl, rfl⟩
  cases h2 : inB u f 36525
  · go_enter Try.func20, Try.ntmps20
    go_wp2_with (first
      | (go_at_call 23; refine (isDay_any _ _).mono ?_; rintro e w' ⟨rfl, rfl⟩)
      | (go_at_call 26; refine (within64_any _ _ _ _).mono ?_; rintro e w' ⟨rfl, rfl⟩))
    go_ret2
    exact ⟨ret_int2 rfl rfl, rfl⟩
  have b1 := inB_iff.1 h1
  have b2 := inB_iff.1 h2
  obtain ⟨n, hn⟩ : ∃ n : Nat, (n : Int) = (u - f) / 7 := ⟨((u - f) / 7).toNat, by omega⟩
  have hwk := Lib.hid (workF_weeks f n)
  have hq : 7 * (n : Int) ≤ u - f := by omega
  have hq2 : u - f < 7 * (n : Int) + 7 := by omega
  have hn' := Lib.hid hn
  clear hn
  go_enter Try.func20, Try.ntmps20
  go_wp2_with (first
      | (go_at_call 23; refine (isDay_any _ _).mono ?_; rintro e w' ⟨rfl, rfl⟩)
      | (go_at_call 26; refine (within64_any _ _ _ _).mono ?_; rintro e w' ⟨rfl, rfl⟩))
  rw [← hn'.out]
  go_loop [7, 8] (fun s i => ∃ (k : Nat) (v : Int), f + n * 7 + k ≤ u ∧ i = .int .i64 (f + n * 7 + k) ∧ s = .int .i64 v ∧ 0 ≤ v ∧ v ≤ 40000 ∧ Hid (v = workF f (7 * n + k))) (fun _ i => (u - intOf i).toNat)
  case atStart => exact ⟨0, n * 5, by omega, by go_num, rfl, by omega, by omega, Lib.hid (by rw [Nat.add_zero, hwk.out]; omega)⟩
  case round =>
    obtain ⟨k, v, hk, rfl, rfl, hv0, hv1, hv⟩ := hrel
    by_cases hlt : f + n * 7 + k < u
    · have hs := Lib.hid (workF_succ f (7 * n + k))
      have hb := workF_bd f (7 * n + k)
      have hvk : v ≤ 7 * n + k := by have := hv.out; omega
      by_cases hw : (5 + (f + n * 7 + k)) % 7 < 5
      · have hn : Hid (v + 1 = workF f (7 * n + (k + 1))) := Lib.hid (by rw [show 7 * n + (k + 1) = (7 * n + k) + 1 by omega, hs.out, if_pos (by omega), hv.out])
        clear hb
        go_wp2_with (go_at_call 29; refine (weekdayOf_any _ (by omega) (by omega) _).mono ?_; rintro e w' ⟨rfl, rfl⟩)
        go_round
        case rel => exact ⟨k + 1, v + 1, by omega, by go_num, rfl, by omega, by omega, hn⟩
        case measure => simp [intOf]; omega
      · have hn : Hid (v = workF f (7 * n + (k + 1))) := Lib.hid (by rw [show 7 * n + (k + 1) = (7 * n + k) + 1 by omega, hs.out, if_neg (by omega), hv.out]; omega)
        clear hb
        go_wp2_with (go_at_call 29; refine (weekdayOf_any _ (by omega) (by omega) _).mono ?_; rintro e w' ⟨rfl, rfl⟩)
        go_round
        case rel => exact ⟨k + 1, v, by omega, by go_num, rfl, by omega, by omega, hn⟩
        case measure => simp [intOf]; omega
    · have hku : Hid ((u - f).toNat = 7 * n + k) := Lib.hid (by omega)
      go_wp2
      go_ret2
      exact ⟨ret_int2 (by rw [pick_t rfl, hku.out]; exact hv.out) rfl, rfl⟩
end Go.Proofs.Ytembebdlllcblaa
