/-
  Contracts of the texts of chapter 2: numbers with places, lengths.
-/
import Derived.Test.YtmknafkngggfjaaGreatDoorText3
import Derived.Deep.RegionHeld3
namespace Go.Proofs.YtmknafkngggfjaaGreatDoor
open Go.ChangeShapes Go.WideShapes Go.ChangeAt Go.RowKit
set_option linter.unusedVariables false
set_option linter.unusedSimpArgs false
theorem nat_div (n : Int) (h : 0 ≤ n) (p : Nat) : n / tenV p = ((n.natAbs / 10 ^ p : Nat) : Int) := by
  obtain ⟨k, rfl⟩ := Int.eq_ofNat_of_zero_le h
  rfl
theorem nat_mod (n : Int) (h : 0 ≤ n) (p : Nat) : n % tenV p = ((n.natAbs % 10 ^ p : Nat) : Int) := by
  obtain ⟨k, rfl⟩ := Int.eq_ofNat_of_zero_le h
  rfl
theorem mod_lt_ten (n : Int) (h : 0 ≤ n) (p : Nat) : 0 ≤ n % tenV p ∧ n % tenV p < tenV p := by
  have h1 := Nat.pow_pos (n := p) (show 0 < 10 by omega)
  have h2 := Nat.mod_lt n.natAbs h1
  rw [nat_mod n h]; unfold tenV; omega
theorem div_le_self' (n : Int) (h : 0 ≤ n) (p : Nat) : 0 ≤ n / tenV p ∧ n / tenV p ≤ n :=
  ⟨Int.ediv_nonneg h (Int.natCast_nonneg _), Int.ediv_le_self _ h⟩
/-- the text of a number that is not negative, as both sides write it -/
theorem fixT_pos (n : Int) (p : Nat) (h0 : 0 ≤ n) (h1 : n ≤ 1000000000) (hp : 1 ≤ p) (hp6 : p ≤ 6) : fixT n p = Lib.itoa (n / tenV p) ++ 46 :: padL p (n % tenV p) := by
  have h2 := Nat.mod_lt n.natAbs (Nat.pow_pos (n := p) (show 0 < 10 by omega))
  rw [fixT_full (by omega) ⟨hp, hp6⟩, (fixL_pos h0 p).1, nat_div n h0, nat_mod n h0, padL_dN p _ (by omega) h2]; rfl
theorem fixT_neg (n : Int) (p : Nat) (h0 : n < 0) (h1 : -1000000000 ≤ n) (hp : 1 ≤ p) (hp6 : p ≤ 6) : fixT n p = 45 :: (Lib.itoa (-n / tenV p) ++ 46 :: padL p (-n % tenV p)) := by
  have h2 := Nat.mod_lt n.natAbs (Nat.pow_pos (n := p) (show 0 < 10 by omega))
  rw [fixT_full (by omega) ⟨hp, hp6⟩, (fixL_neg h0 p).1, nat_div (-n) (by omega), nat_mod (-n) (by omega), Int.natAbs_neg, padL_dN p _ (by omega) h2]; rfl
theorem fixT_neg' (N : Int) (p : Nat) (h0 : 0 < N) (h1 : N ≤ 1000000000) (hp : 1 ≤ p) (hp6 : p ≤ 6) : fixT (-N) p = 45 :: (Lib.itoa (N / tenV p) ++ 46 :: padL p (N % tenV p)) := by
  have := fixT_neg (-N) p (by omega) (by omega) hp hp6
  rw [Int.neg_neg] at this; exact this
theorem fixT_no (n p : Int) (h : (inB n (-1000000000) 1000000000 && inB p 1 6) = false) : fixT n p = [] := by
  unfold fixT
  rw [if_neg]
  intro hc
  rw [inB_iff.2 hc.1, inB_iff.2 hc.2] at h; cases h
set_option maxHeartbeats 1600000 in
set_option maxRecDepth 1000000 in
theorem implFixedText_any (n q : Int) (w : World) (hT : TabP w) : Calls Tryz.prog 9 #[.int .i64 n, .int .i64 q] w (StrRet (fixT n q) w) := by
  cases h1 : inB n (-1000000000) 1000000000
  · have hr : Hid (fixT n q = []) := Lib.hid (fixT_no n q (by rw [h1]; rfl))
    go_enter Tryz.func9, Tryz.ntmps9
    go_wp2_with (go_at_call 26; refine (within64_any _ _ _ _).mono ?_; rintro e w' ⟨rfl, rfl⟩)
    go_ret
    exact str_ret hr.out.symm (Below.refl _ _)
  cases h2 : inB q 1 6
  · have hr : Hid (fixT n q = []) := Lib.hid (fixT_no n q (by rw [h1, h2]; rfl))
    go_enter Tryz.func9, Tryz.ntmps9
    go_wp2_with (go_at_call 26; refine (within64_any _ _ _ _).mono ?_; rintro e w' ⟨rfl, rfl⟩)
    go_ret
    exact str_ret hr.out.symm (Below.refl _ _)
  obtain ⟨a1, a2⟩ := inB_iff.1 h1
  obtain ⟨c1, c2⟩ := inB_iff.1 h2
  obtain ⟨p, rfl⟩ := Int.eq_ofNat_of_zero_le (show 0 ≤ q by omega)
  have ht := tenV_bd (j := p) (by omega)
  have hT' := Lib.hid hT
  clear hT
  by_cases hn : n < 0
  · obtain ⟨N, rfl⟩ : ∃ N, n = -N := ⟨-n, by omega⟩
    have hN0 : 0 < N := by omega
    have hN1 : N ≤ 1000000000 := by omega
    have hr := Lib.hid (fixT_neg' N p hN0 hN1 (by omega) (by omega))
    have hd := div_le_self' N (by omega) p
    have hm := mod_lt_ten N (by omega) p
    obtain ⟨D, hD, hDl, _, hc⟩ := idec_all (N / tenV p) (by omega) (by omega)
    have hD' := Lib.hid hD
    have hl2 := padL_le p (N % tenV p) (by omega) (by omega) (by omega)
    clear hD
    go_enter Tryz.func9, Tryz.ntmps9
    go_wp2_with (go_at_call 26; refine (within64_any _ _ _ _).mono ?_; rintro e w' ⟨rfl, rfl⟩)
    refine (writeByte_any _ _ _ 45 45 rfl _ (BuB.start w) (by simp) (fresh_below w _).size).mono ?_
    rintro e w1 ⟨rfl, hB1, b1⟩
    have b01 := (fresh_below w (.cells #[.pointer none, .slice none 0 0] 49)).trans b1
    clear b1
    go_wp2_with (go_at_call 32; refine (powerOfTen_any p (by omega) _).mono ?_; rintro e w' ⟨rfl, rfl⟩)
    refine (hc.out _ (hT'.out.below b01)).mono ?_
    rintro e w2 ⟨rfl, b2⟩
    have hB2 := hB1.below b2
    have b02 := b01.trans (b2.mono b01.size)
    clear hB1 b2 b01
    go_wp2_with fail
    refine (writeString_any _ _ _ D w2 hB2 (by simp; omega) b02.size).mono ?_
    rintro e w3 ⟨rfl, hB3, b3⟩
    go_wp2_with fail
    refine (writeByte_any _ _ _ 46 46 rfl w3 hB3 (by simp; omega) (b02.trans b3).size).mono ?_
    rintro e w4 ⟨rfl, hB4, b4⟩
    go_wp2_with fail
    refine (writeDigits_any w _ hT'.out _ _ (N % tenV p) p _ rfl (by omega) (by omega) (by omega) (by simp; omega) ((b02.trans b3).trans b4) hB4).mono ?_
    rintro e w5 ⟨rfl, hB5, b5⟩
    go_wp2_with fail
    refine (string_any _ _ _ w5 hB5 b5.size).mono ?_
    rintro e w6 ⟨rfl, _, b6⟩
    go_wp2
    go_ret
    exact ⟨by rw [hr.out, hD'.out]; simp, b5.trans b6⟩
  · have hr := Lib.hid (fixT_pos n p (by omega) a2 (by omega) (by omega))
    have hd := div_le_self' n (by omega) p
    have hm := mod_lt_ten n (by omega) p
    obtain ⟨D, hD, hDl, _, hc⟩ := idec_all (n / tenV p) (by omega) (by omega)
    have hD' := Lib.hid hD
    have hl2 := padL_le p (n % tenV p) (by omega) (by omega) (by omega)
    clear hD
    go_enter Tryz.func9, Tryz.ntmps9
    go_wp2_with (first
      | (go_at_call 26; refine (within64_any _ _ _ _).mono ?_; rintro e w' ⟨rfl, rfl⟩)
      | (go_at_call 32; refine (powerOfTen_any p (by omega) _).mono ?_; rintro e w' ⟨rfl, rfl⟩))
    have b01 := fresh_below w (.cells #[.pointer none, .slice none 0 0] 49)
    refine (hc.out _ (hT'.out.below b01)).mono ?_
    rintro e w2 ⟨rfl, b2⟩
    have hB2 := (BuB.start w).below b2
    have b02 := b01.trans (b2.mono b01.size)
    clear b2 b01
    go_wp2_with fail
    refine (writeString_any _ _ _ D w2 hB2 (by simp; omega) b02.size).mono ?_
    rintro e w3 ⟨rfl, hB3, b3⟩
    go_wp2_with fail
    refine (writeByte_any _ _ _ 46 46 rfl w3 hB3 (by simp; omega) (b02.trans b3).size).mono ?_
    rintro e w4 ⟨rfl, hB4, b4⟩
    go_wp2_with fail
    refine (writeDigits_any w _ hT'.out _ _ (n % tenV p) p _ rfl (by omega) (by omega) (by omega) (by simp; omega) ((b02.trans b3).trans b4) hB4).mono ?_
    rintro e w5 ⟨rfl, hB5, b5⟩
    go_wp2_with fail
    refine (string_any _ _ _ w5 hB5 b5.size).mono ?_
    rintro e w6 ⟨rfl, _, b6⟩
    go_wp2
    go_ret
    exact ⟨by rw [hr.out, hD'.out]; simp, b5.trans b6⟩
/-- the model's digits behind a one -/
theorem one_pad (r : Int) (p : Nat) (h0 : 0 ≤ r) (h1 : r < tenV p) (hp : 1 ≤ p) : Lib.itoa (r + tenV p) = 49 :: padL p r := by
  obtain ⟨k, rfl⟩ := Int.eq_ofNat_of_zero_le h0
  have hk : k < 10 ^ p := by unfold tenV at h1; omega
  rw [padL_dN p k hp hk, ← itoa_one p k hk]; rfl
end Go.Proofs.YtmknafkngggfjaaGreatDoor
