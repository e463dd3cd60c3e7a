/-
  Contracts of the texts of chapter 2: dates, numbers with places, lengths.
-/
import Derived.Test.YtmknafkngggfjaaGreatDoorText2
import Derived.Deep.RegionHeld3
namespace Go.Proofs.YtmknafkngggfjaaGreatDoor
open Go.ChangeShapes Go.WideShapes Go.ChangeAt Go.RowKit
set_option linter.unusedVariables false
set_option linter.unusedSimpArgs false
noncomputable def dateT (n : Int) : List UInt8 := if 0 ≤ n ∧ n ≤ 36524 then padL 4 (dateN n).1 ++ 45 :: (padL 2 (dateN n).2.1 ++ 45 :: padL 2 (dateN n).2.2) else []
theorem padL_four (n : Int) (h0 : 1000 ≤ n) : padL 4 n = Lib.itoa n := by
  obtain ⟨k, rfl⟩ := Int.eq_ofNat_of_zero_le (show 0 ≤ n by omega)
  have h := digs_ge 3 k (by omega)
  unfold padL
  rw [itoa_pos k (by omega), show 4 - (digsN k).length = 0 by omega]; rfl
theorem date_bounds {n : Int} (h0 : 0 ≤ n) (h1 : n ≤ 36524) : (2000 ≤ (dateN n).1 ∧ (dateN n).1 ≤ 2099) ∧ (1 ≤ (dateN n).2.1 ∧ (dateN n).2.1 ≤ 12) ∧ (1 ≤ (dateN n).2.2 ∧ (dateN n).2.2 ≤ 31) := by
  obtain ⟨h, _⟩ := dateN_ok h0 h1
  obtain ⟨a1, a2, a3, a4, a5, a6⟩ := dateB_iff.1 h
  have := mlen_bd (dateN n).1 (dateN n).2.1
  omega
/-! ### numbers with places -/
def tenV (j : Nat) : Int := ((10 ^ j : Nat) : Int)
theorem tenV_zero : tenV 0 = 1 := rfl
theorem tenV_succ (j : Nat) : tenV (j + 1) = tenV j * 10 := by unfold tenV; rw [Nat.pow_succ]; omega
theorem tenV_bd {j : Nat} (h : j ≤ 6) : 1 ≤ tenV j ∧ tenV j ≤ 1000000 := by
  have h1 := Nat.pow_pos (n := j) (show 0 < 10 by omega)
  have h2 := Nat.pow_le_pow_right (n := 10) (by omega) h
  unfold tenV; omega
theorem powerOfTen_any (p : Nat) (hp : p ≤ 6) (w : World) : Calls Tryz.prog 32 #[.int .i64 p] w fun e w' => e = .returned (.int .i64 (tenV p)) ∧ w = w' := by
  go_enter Tryz.func32, Tryz.ntmps32
  go_wp2
  go_loop [3, 5] (fun o i => ∃ k : Nat, k ≤ p ∧ i = .int .i64 k ∧ o = .int .i64 (tenV k)) (fun _ i => p - (intOf i).toNat)
  case atStart => exact ⟨0, by omega, rfl, rfl⟩
  case round =>
    obtain ⟨k, hk, rfl, rfl⟩ := hrel
    have hbd := tenV_bd (j := k) (by omega)
    by_cases hlt : k < p
    · have hs := Lib.hid (tenV_succ k)
      go_wp2
      go_round
      case rel => exact ⟨k + 1, by omega, by go_num, by rw [hs.out]⟩
      case measure => simp [intOf]; omega
    · obtain rfl : k = p := by omega
      go_wp2
      go_ret
      exact ⟨rfl, rfl⟩
end Go.Proofs.YtmknafkngggfjaaGreatDoor
