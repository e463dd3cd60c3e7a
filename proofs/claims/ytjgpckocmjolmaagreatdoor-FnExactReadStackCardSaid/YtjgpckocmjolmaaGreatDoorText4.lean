/-
  Contracts of the texts of chapter 2: numbers with places, lengths.
-/
import Derived.Test.YtjgpckocmjolmaaGreatDoorText3
import Derived.Deep.RegionHeld3
namespace Go.Proofs.YtjgpckocmjolmaaGreatDoor
open Go.ChangeShapes Go.WideShapes Go.ChangeAt Go.RowKit
set_option linter.unusedVariables false
set_option linter.unusedSimpArgs false
theorem nat_div (n : Int) (h : 0 ≤ n) (p : Nat) : n / tenV p = ((n.natAbs / 10 ^ p : Nat) : Int) := by
  obtain ⟨k, rfl⟩ := Int.eq_ofNat_of_zero_le h
  rfl
theorem nat_mod (n : Int) (h : 0 ≤ n) (p : Nat) : n % tenV p = ((n.natAbs % 10 ^ p : Nat) : Int) := by
  obtain ⟨k, rfl⟩ := Int.eq_ofNat_of_zero_le h
  rfl
theorem mod_lt_ten (n : Int) (h : 0 ≤ n) (p : Nat) : 0 ≤ n % tenV p ∧ n % tenV p < tenV p := by
  have h1 := Nat.pow_pos (n := p) (show 0 < 10 by omega)
  have h2 := Nat.mod_lt n.natAbs h1
  rw [nat_mod n h]; unfold tenV; omega
theorem div_le_self' (n : Int) (h : 0 ≤ n) (p : Nat) : 0 ≤ n / tenV p ∧ n / tenV p ≤ n :=
  ⟨Int.ediv_nonneg h (Int.natCast_nonneg _), Int.ediv_le_self _ h⟩
/-- the text of a number that is not negative, as both sides write it -/
theorem fixT_pos (n : Int) (p : Nat) (h0 : 0 ≤ n) (h1 : n ≤ 1000000000) (hp : 1 ≤ p) (hp6 : p ≤ 6) : fixT n p = Lib.itoa (n / tenV p) ++ 46 :: padL p (n % tenV p) := by
  have h2 := Nat.mod_lt n.natAbs (Nat.pow_pos (n := p) (show 0 < 10 by omega))
  rw [fixT_full (by omega) ⟨hp, hp6⟩, (fixL_pos h0 p).1, nat_div n h0, nat_mod n h0, padL_dN p _ (by omega) h2]; rfl
theorem fixT_neg (n : Int) (p : Nat) (h0 : n < 0) (h1 : -1000000000 ≤ n) (hp : 1 ≤ p) (hp6 : p ≤ 6) : fixT n p = 45 :: (Lib.itoa (-n / tenV p) ++ 46 :: padL p (-n % tenV p)) := by
  have h2 := Nat.mod_lt n.natAbs (Nat.pow_pos (n := p) (show 0 < 10 by omega))
  rw [fixT_full (by omega) ⟨hp, hp6⟩, (fixL_neg h0 p).1, nat_div (-n) (by omega), nat_mod (-n) (by omega), Int.natAbs_neg, padL_dN p _ (by omega) h2]; rfl
theorem fixT_neg' (N : Int) (p : Nat) (h0 : 0 < N) (h1 : N ≤ 1000000000) (hp : 1 ≤ p) (hp6 : p ≤ 6) : fixT (-N) p = 45 :: (Lib.itoa (N / tenV p) ++ 46 :: padL p (N % tenV p)) := by
  have := fixT_neg (-N) p (by omega) (by omega) hp hp6
  rw [Int.neg_neg] at this; exact this
theorem fixT_no (n p : Int) (h : (inB n (-1000000000) 1000000000 && inB p 1 6) = false) : fixT n p = [] := by
  unfold fixT
  rw [if_neg]
  intro hc
  rw [inB_iff.2 hc.1, inB_iff.2 hc.2] at h; cases h
/-- the model's digits behind a one -/
theorem one_pad (r : Int) (p : Nat) (h0 : 0 ≤ r) (h1 : r < tenV p) (hp : 1 ≤ p) : Lib.itoa (r + tenV p) = 49 :: padL p r := by
  obtain ⟨k, rfl⟩ := Int.eq_ofNat_of_zero_le h0
  have hk : k < 10 ^ p := by unfold tenV at h1; omega
  rw [padL_dN p k hp hk, ← itoa_one p k hk]; rfl
end Go.Proofs.YtjgpckocmjolmaaGreatDoor
