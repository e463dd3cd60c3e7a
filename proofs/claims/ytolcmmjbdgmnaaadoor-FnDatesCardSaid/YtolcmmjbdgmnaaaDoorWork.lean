/-
  Contracts of weekdays and working days, of the model and of the program.
-/
import Derived.Test.YtolcmmjbdgmnaaaDoorDate
namespace Go.Proofs.YtolcmmjbdgmnaaaDoor
open Go.ChangeShapes Go.WideShapes Go.ChangeAt Go.RowKit
set_option linter.unusedVariables false
set_option linter.unusedSimpArgs false
theorem weekdayOf_any (n : Int) (h0 : 0 ≤ n) (h1 : n ≤ 100000) (w : World) : Calls Tryd.prog 35 #[.int .i64 n] w fun e w' => e = .returned (.int .i64 ((5 + n) % 7)) ∧ w = w' := by
  go_enter Tryd.func35, Tryd.ntmps35
  go_wp2
  go_ret
  exact ⟨ret_int (by omega), rfl⟩
theorem implWeekdayOf_any (n : Int) (w : World) : Calls Tryd.prog 11 #[.int .i64 n] w fun e w' => e = .returned (.tuple #[.int .i64 (pick (inB n 0 36524) ((5 + n) % 7)), .int .i64 (code (inB n 0 36524) 2)]) ∧ w = w' := by
  cases h : inB n 0 36524
  · go_enter Tryd.func11, Tryd.ntmps11
    go_wp2_with (go_at_call 26; refine (isDay_any _ _).mono ?_; rintro e w' ⟨rfl, rfl⟩)
    go_ret2
    exact ⟨ret_int2 rfl rfl, rfl⟩
  · have hb := inB_iff.1 h
    go_enter Tryd.func11, Tryd.ntmps11
    go_wp2_with (first
      | (go_at_call 26; refine (isDay_any _ _).mono ?_; rintro e w' ⟨rfl, rfl⟩)
      | (go_at_call 35; refine (weekdayOf_any _ (by omega) (by omega) _).mono ?_; rintro e w' ⟨rfl, rfl⟩))
    go_ret2
    exact ⟨ret_int2 rfl rfl, rfl⟩
theorem implWorkDays_any (f u : Int) (w : World) : Calls Tryd.prog 13 #[.int .i64 f, .int .i64 u] w fun e w' => e = .returned (.tuple #[.int .i64 (pick (inB f 0 36524 && inB u f 36525) (workF f (u - f).toNat)), .int .i64 (code (inB f 0 36524 && inB u f 36525) 2)]) ∧ w = w' := by
  cases h1 : inB f 0 36524
  · go_enter Tryd.func13, Tryd.ntmps13
    go_wp2_with (go_at_call 26; refine (isDay_any _ _).mono ?_; rintro e w' ⟨rfl, rfl⟩)
    go_ret2
    exact ⟨ret_int2 rfl rfl, rfl⟩
  cases h2 : inB u f 36525
  · go_enter Tryd.func13, Tryd.ntmps13
    go_wp2_with (first
      | (go_at_call 26; refine (isDay_any _ _).mono ?_; rintro e w' ⟨rfl, rfl⟩)
      | (go_at_call 28; refine (within64_any _ _ _ _).mono ?_; rintro e w' ⟨rfl, rfl⟩))
    go_ret2
    exact ⟨ret_int2 rfl rfl, rfl⟩
  have b1 := inB_iff.1 h1
  have b2 := inB_iff.1 h2
  obtain ⟨n, hn⟩ : ∃ n : Nat, (n : Int) = (u - f) / 7 := ⟨((u - f) / 7).toNat, by omega⟩
  have hwk := Lib.hid (workF_weeks f n)
  have hq : 7 * (n : Int) ≤ u - f := by omega
  have hq2 : u - f < 7 * (n : Int) + 7 := by omega
  have hn' := Lib.hid hn
  clear hn
  go_enter Tryd.func13, Tryd.ntmps13
  go_wp2_with (first
      | (go_at_call 26; refine (isDay_any _ _).mono ?_; rintro e w' ⟨rfl, rfl⟩)
      | (go_at_call 28; refine (within64_any _ _ _ _).mono ?_; rintro e w' ⟨rfl, rfl⟩))
  rw [← hn'.out]
  go_loop [7, 8] (fun s i => ∃ (k : Nat) (v : Int), f + n * 7 + k ≤ u ∧ i = .int .i64 (f + n * 7 + k) ∧ s = .int .i64 v ∧ 0 ≤ v ∧ v ≤ 40000 ∧ Hid (v = workF f (7 * n + k))) (fun _ i => (u - intOf i).toNat)
  case atStart => exact ⟨0, n * 5, by omega, by go_num, rfl, by omega, by omega, Lib.hid (by rw [Nat.add_zero, hwk.out]; omega)⟩
  case round =>
    obtain ⟨k, v, hk, rfl, rfl, hv0, hv1, hv⟩ := hrel
    by_cases hlt : f + n * 7 + k < u
    · have hs := Lib.hid (workF_succ f (7 * n + k))
      have hb := workF_bd f (7 * n + k)
      have hvk : v ≤ 7 * n + k := by have := hv.out; omega
      by_cases hw : (5 + (f + n * 7 + k)) % 7 < 5
      · have hn : Hid (v + 1 = workF f (7 * n + (k + 1))) := Lib.hid (by rw [show 7 * n + (k + 1) = (7 * n + k) + 1 by omega, hs.out, if_pos (by omega), hv.out])
        clear hb
        go_wp2_with (go_at_call 35; refine (weekdayOf_any _ (by omega) (by omega) _).mono ?_; rintro e w' ⟨rfl, rfl⟩)
        go_round
        case rel => exact ⟨k + 1, v + 1, by omega, by go_num, rfl, by omega, by omega, hn⟩
        case measure => simp [intOf]; omega
      · have hn : Hid (v = workF f (7 * n + (k + 1))) := Lib.hid (by rw [show 7 * n + (k + 1) = (7 * n + k) + 1 by omega, hs.out, if_neg (by omega), hv.out]; omega)
        clear hb
        go_wp2_with (go_at_call 35; refine (weekdayOf_any _ (by omega) (by omega) _).mono ?_; rintro e w' ⟨rfl, rfl⟩)
        go_round
        case rel => exact ⟨k + 1, v, by omega, by go_num, rfl, by omega, by omega, hn⟩
        case measure => simp [intOf]; omega
    · have hku : Hid ((u - f).toNat = 7 * n + k) := Lib.hid (by omega)
      go_wp2
      go_ret2
      exact ⟨ret_int2 (by rw [pick_t rfl, hku.out]; exact hv.out) rfl, rfl⟩
end Go.Proofs.YtolcmmjbdgmnaaaDoor
