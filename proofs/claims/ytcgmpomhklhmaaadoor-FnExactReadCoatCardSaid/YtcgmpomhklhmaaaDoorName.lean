/-
  Contracts of IsName, of the model and of the program, and of the tests on bytes.
-/
import Derived.Test.YtcgmpomhklhmaaaDoorCore
import Derived.Test.YtcgmpomhklhmaaaDoorBytes
namespace Go.Proofs.YtcgmpomhklhmaaaDoor
open Go.ChangeShapes Go.WideShapes Go.ChangeAt Go.RowKit
set_option linter.unusedVariables false
set_option linter.unusedSimpArgs false

theorem withinI_any (n lo hi : Int) (w : World) : Calls Tryd.prog 46 #[.int .i64 n, .int .i64 lo, .int .i64 hi] w fun e w' => e = .returned (.bool (inB n lo hi)) ∧ w = w' := by
  by_cases h1 : lo ≤ n <;> by_cases h2 : n ≤ hi
  all_goals
    go_enter Tryd.func46, Tryd.ntmps46
    go_wp2
    go_ret
    exact ⟨ret_bool (by simp [inB, h1, h2]), rfl⟩
theorem withinB_any (n lo hi : Int) (w : World) : Calls Tryd.prog 58 #[.int .u8 n, .int .u8 lo, .int .u8 hi] w fun e w' => e = .returned (.bool (inB n lo hi)) ∧ w = w' := by
  by_cases h1 : lo ≤ n <;> by_cases h2 : n ≤ hi
  all_goals
    go_enter Tryd.func58, Tryd.ntmps58
    go_wp2
    go_ret
    exact ⟨ret_bool (by simp [inB, h1, h2]), rfl⟩
theorem isLetter_any (c : UInt8) (w : World) : Calls Tryd.prog 47 #[.int .u8 c.toNat] w fun e w' => e = .returned (.bool (lb c)) ∧ w = w' := by
  go_enter Tryd.func47, Tryd.ntmps47
  go_wp2_with (go_at_call 58; refine (withinB_any _ _ _ _).mono ?_; rintro e w' ⟨rfl, rfl⟩)
  go_ret
  exact ⟨rfl, rfl⟩
theorem isDigit_any (c : UInt8) (w : World) : Calls Tryd.prog 48 #[.int .u8 c.toNat] w fun e w' => e = .returned (.bool (db c)) ∧ w = w' := by
  go_enter Tryd.func48, Tryd.ntmps48
  go_wp2_with (go_at_call 58; refine (withinB_any _ _ _ _).mono ?_; rintro e w' ⟨rfl, rfl⟩)
  go_ret
  exact ⟨rfl, rfl⟩
theorem l01Small_any (c : UInt8) (w : World) : Calls Tryd.prog 43 #[.int .u8 c.toNat] w fun e w' => e = .returned (.bool (lb c)) ∧ w = w' := by
  by_cases h1 : (97 : Int) ≤ c.toNat <;> by_cases h2 : (c.toNat : Int) ≤ 122
  all_goals
    go_enter Tryd.func43, Tryd.ntmps43
    go_wp2
    go_ret
    exact ⟨ret_bool (by rw [← lb_of]; unfold inB; simp [h1, h2]), rfl⟩
theorem l01Digit_any (c : UInt8) (w : World) : Calls Tryd.prog 44 #[.int .u8 c.toNat] w fun e w' => e = .returned (.bool (db c)) ∧ w = w' := by
  by_cases h1 : (48 : Int) ≤ c.toNat <;> by_cases h2 : (c.toNat : Int) ≤ 57
  all_goals
    go_enter Tryd.func44, Tryd.ntmps44
    go_wp2
    go_ret
    exact ⟨ret_bool (by rw [← db_of]; unfold inB; simp [h1, h2]), rfl⟩

theorem empty_yes (s : ByteArray) (h : s.size = 0) : s.toList.isEmpty = true := by
  rw [ByteArray.toList_eq, List.isEmpty_iff_length_eq_zero]; exact h
theorem empty_no (s : ByteArray) (h : ¬ s.size = 0) : s.toList.isEmpty = false := by
  rw [ByteArray.toList_eq]
  cases e : s.data.toList with
  | nil => exact absurd (by rw [← len_data, e]; rfl) h
  | cons a l => rfl

set_option maxHeartbeats 1000000 in
theorem l01Name_any (s : ByteArray) (w : World) (hs : s.size ≤ maxLen) : Calls Tryd.prog 29 #[.string s] w fun e w' => e = .returned (.bool (nameL s.data.toList)) ∧ w = w' := by
  have hn0 : Hid (nameL s.data.toList = (decide (1 ≤ s.data.toList.length ∧ s.data.toList.length ≤ 10) && lb (s.data.toList.headD 0) && s.data.toList.all ldb)) := Lib.hid rfl
  have hl : Hid (s.data.toList.length = s.size) := Lib.hid (len_data s)
  unfold maxLen at hs
  by_cases h0 : s.size = 0
  · have h0' := empty_yes s h0
    go_enter Tryd.func29, Tryd.ntmps29
    go_wp2
    go_ret
    exact ⟨ret_bool (by rw [hn0.out, hl.out]; simp [h0]), rfl⟩
  have h0' := empty_no s h0
  by_cases h1 : s.size ≤ 10
  rotate_left
  · go_enter Tryd.func29, Tryd.ntmps29
    go_wp2
    go_ret
    exact ⟨ret_bool (by rw [hn0.out, hl.out]; simp [h0, h1]), rfl⟩
  have hpos : 0 < s.size := by omega
  have hd : Hid (s.data.toList.headD 0 = s[0]) := Lib.hid (head_at s hpos)
  cases h2 : lb s[0]
  · go_enter Tryd.func29, Tryd.ntmps29
    go_wp2_with (go_at_call 43; refine (l01Small_any _ _).mono ?_; rintro e w' ⟨rfl, rfl⟩)
    go_ret
    exact ⟨ret_bool (by rw [hn0.out, hd.out, h2]; simp), rfl⟩
  go_enter Tryd.func29, Tryd.ntmps29
  go_wp2_with (go_at_call 43; refine (l01Small_any _ _).mono ?_; rintro e w' ⟨rfl, rfl⟩)
  go_loop [3] (fun i => ∃ k : Nat, k ≤ s.size ∧ i = .int .i64 k ∧ Hid ((s.data.toList.take k).all ldb = true)) (fun i => s.size - (intOf i).toNat)
  case atStart => exact ⟨0, by omega, rfl, Lib.hid (by simp)⟩
  case round =>
    obtain ⟨k, hk, rfl, hall⟩ := hrel
    by_cases hlt : k < s.size
    · cases h3 : lb s[k]
      · cases h4 : db s[k]
        · go_wp2_with (first
            | (go_at_call 43; refine (l01Small_any _ _).mono ?_; rintro e w' ⟨rfl, rfl⟩)
            | (go_at_call 44; refine (l01Digit_any _ _).mono ?_; rintro e w' ⟨rfl, rfl⟩))
          go_ret
          exact ⟨ret_bool (by rw [hn0.out, all_fail (mem_at s k hlt) (by simp [ldb, h3, h4])]; simp), rfl⟩
        · go_wp2_with (first
            | (go_at_call 43; refine (l01Small_any _ _).mono ?_; rintro e w' ⟨rfl, rfl⟩)
            | (go_at_call 44; refine (l01Digit_any _ _).mono ?_; rintro e w' ⟨rfl, rfl⟩))
          go_round
          case rel => exact ⟨k + 1, by omega, by go_num, Lib.hid (by rw [take_snoc s k hlt]; exact all_snoc hall.out (by simp [ldb, h4]))⟩
          case measure => simp [intOf]; omega
      · go_wp2_with (go_at_call 43; refine (l01Small_any _ _).mono ?_; rintro e w' ⟨rfl, rfl⟩)
        go_round
        case rel => exact ⟨k + 1, by omega, by go_num, Lib.hid (by rw [take_snoc s k hlt]; exact all_snoc hall.out (by simp [ldb, h3]))⟩
        case measure => simp [intOf]; omega
    · have hk' : k = s.size := by omega
      go_wp2
      go_ret
      exact ⟨ret_bool (by rw [hn0.out, hd.out, hl.out, h2]; have := hall.out; rw [hk', take_all] at this; simp [this]; omega), rfl⟩

set_option maxHeartbeats 1000000 in
theorem implIsName_any (s : ByteArray) (w : World) (hs : s.size ≤ maxLen) : Calls Tryd.prog 33 #[.string s] w fun e w' => e = .returned (.bool (nameL s.data.toList)) ∧ w = w' := by
  have hn0 : Hid (nameL s.data.toList = (decide (1 ≤ s.data.toList.length ∧ s.data.toList.length ≤ 10) && lb (s.data.toList.headD 0) && s.data.toList.all ldb)) := Lib.hid rfl
  have hl : Hid (s.data.toList.length = s.size) := Lib.hid (len_data s)
  unfold maxLen at hs
  cases h0 : inB s.size 1 10
  · have hb := inB_no.1 h0
    go_enter Tryd.func33, Tryd.ntmps33
    go_wp2_with (go_at_call 46; refine (withinI_any _ _ _ _).mono ?_; rintro e w' ⟨rfl, rfl⟩)
    go_ret
    exact ⟨ret_bool (by rw [hn0.out, hl.out]; have : ¬ (1 ≤ s.size ∧ s.size ≤ 10) := by omega
                        simp [this]), rfl⟩
  have hb := inB_iff.1 h0
  have hpos : 0 < s.size := by omega
  have hd : Hid (s.data.toList.headD 0 = s[0]) := Lib.hid (head_at s hpos)
  cases h2 : lb s[0]
  · go_enter Tryd.func33, Tryd.ntmps33
    go_wp2_with (first
      | (go_at_call 46; refine (withinI_any _ _ _ _).mono ?_; rintro e w' ⟨rfl, rfl⟩)
      | (go_at_call 47; refine (isLetter_any _ _).mono ?_; rintro e w' ⟨rfl, rfl⟩))
    go_ret
    exact ⟨ret_bool (by rw [hn0.out, hd.out, h2]; simp), rfl⟩
  go_enter Tryd.func33, Tryd.ntmps33
  go_wp2_with (first
      | (go_at_call 46; refine (withinI_any _ _ _ _).mono ?_; rintro e w' ⟨rfl, rfl⟩)
      | (go_at_call 47; refine (isLetter_any _ _).mono ?_; rintro e w' ⟨rfl, rfl⟩))
  go_loop [16] (fun i => ∃ k : Nat, k ≤ s.size ∧ i = .int .i64 k ∧ Hid ((s.data.toList.take k).all ldb = true)) (fun i => s.size - (intOf i).toNat)
  case atStart => exact ⟨0, by omega, rfl, Lib.hid (by simp)⟩
  case round =>
    obtain ⟨k, hk, rfl, hall⟩ := hrel
    by_cases hlt : k < s.size
    · cases h3 : lb s[k]
      · cases h4 : db s[k]
        · go_wp2_with (first
            | (go_at_call 47; refine (isLetter_any _ _).mono ?_; rintro e w' ⟨rfl, rfl⟩)
            | (go_at_call 48; refine (isDigit_any _ _).mono ?_; rintro e w' ⟨rfl, rfl⟩))
          go_ret
          exact ⟨ret_bool (by rw [hn0.out, all_fail (mem_at s k hlt) (by simp [ldb, h3, h4])]; simp), rfl⟩
        · go_wp2_with (first
            | (go_at_call 47; refine (isLetter_any _ _).mono ?_; rintro e w' ⟨rfl, rfl⟩)
            | (go_at_call 48; refine (isDigit_any _ _).mono ?_; rintro e w' ⟨rfl, rfl⟩))
          go_round
          case rel => exact ⟨k + 1, by omega, by go_num, Lib.hid (by rw [take_snoc s k hlt]; exact all_snoc hall.out (by simp [ldb, h4]))⟩
          case measure => simp [intOf]; omega
      · go_wp2_with (go_at_call 47; refine (isLetter_any _ _).mono ?_; rintro e w' ⟨rfl, rfl⟩)
        go_round
        case rel => exact ⟨k + 1, by omega, by go_num, Lib.hid (by rw [take_snoc s k hlt]; exact all_snoc hall.out (by simp [ldb, h3]))⟩
        case measure => simp [intOf]; omega
    · have hk' : k = s.size := by omega
      go_wp2
      go_ret
      exact ⟨ret_bool (by rw [hn0.out, hd.out, hl.out, h2]; have := hall.out; rw [hk', take_all] at this; simp [this]; omega), rfl⟩
end Go.Proofs.YtcgmpomhklhmaaaDoor
