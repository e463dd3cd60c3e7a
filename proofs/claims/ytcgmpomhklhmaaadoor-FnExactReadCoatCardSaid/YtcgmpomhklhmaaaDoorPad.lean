/-
  Plain lemmas on digits with leading zeros. Nothing of the program stands here.
-/
import Derived.Test.YtcgmpomhklhmaaaDoorReadMath
namespace Go.Proofs.YtcgmpomhklhmaaaDoor
/-- the last p digits of a number -/
def dN : Nat → Nat → List UInt8
  | 0, _ => []
  | p + 1, n => dN p (n / 10) ++ [UInt8.ofNat (48 + n % 10)]
theorem dN_len : ∀ p n, (dN p n).length = p
  | 0, _ => rfl
  | p + 1, n => by unfold dN; rw [List.length_append, dN_len p]; rfl
theorem dN_zero : ∀ p, dN p 0 = List.replicate p 48
  | 0 => rfl
  | p + 1 => by
    unfold dN
    rw [show 0 / 10 = 0 from rfl, dN_zero p, List.replicate_succ']; rfl
theorem digs_ge : ∀ (j n : Nat), 10 ^ j ≤ n → j < (digsN n).length
  | 0, n, h => digsN_ne n (by have := h; simp at this; omega)
  | j + 1, n, h => by
    have hp := Nat.pow_pos (n := j) (show 0 < 10 by omega)
    rw [Nat.pow_succ] at h
    rw [digsN_pos n (by omega), List.length_append]
    have := digs_ge j (n / 10) (by omega)
    simp; omega
/-- zeros ahead of the digits -/
theorem pad_dN : ∀ (p n : Nat), n < 10 ^ p → List.replicate (p - (digsN n).length) 48 ++ digsN n = dN p n
  | 0, n, h => by
    have : n = 0 := by simpa using h
    subst this; rw [digsN_zero]; rfl
  | p + 1, n, h => by
    by_cases h0 : n = 0
    · subst h0; rw [digsN_zero, dN_zero]; simp
    · rw [Nat.pow_succ] at h
      have ih := pad_dN p (n / 10) (by omega)
      unfold dN
      rw [← ih, digsN_pos n (by omega), List.length_append]
      have e : p + 1 - ((digsN (n / 10)).length + [UInt8.ofNat (48 + n % 10)].length) = p - (digsN (n / 10)).length := by simp
      rw [e, List.append_assoc]
/-- the same with the decimal form, where the number has at least one digit -/
def padL (p : Nat) (n : Int) : List UInt8 := List.replicate (p - (Lib.itoa n).length) 48 ++ Lib.itoa n
theorem padL_dN (p n : Nat) (hp : 0 < p) (h : n < 10 ^ p) : padL p (n : Int) = dN p n := by
  unfold padL
  by_cases h0 : n = 0
  · subst h0
    rw [show ((0 : Nat) : Int) = 0 from rfl, itoa_zero, dN_zero]
    obtain ⟨q, rfl⟩ : ∃ q, p = q + 1 := ⟨p - 1, by omega⟩
    rw [List.replicate_succ']; rfl
  · rw [itoa_pos n (by omega), pad_dN p n h]
theorem padL_len (p : Nat) (n : Int) (h0 : 0 ≤ n) (hp : 0 < p) (h : n < (10 ^ p : Nat)) : (padL p n).length = p := by
  obtain ⟨k, rfl⟩ := Int.eq_ofNat_of_zero_le h0
  rw [padL_dN p k hp (by omega), dN_len]
theorem itoa_len1 (n : Int) (h0 : 0 ≤ n) (h : n < 10) : (Lib.itoa n).length = 1 := by
  obtain ⟨k, rfl⟩ := Int.eq_ofNat_of_zero_le h0
  by_cases hk : k = 0
  · subst hk; rw [show ((0 : Nat) : Int) = 0 from rfl, itoa_zero]; rfl
  · rw [itoa_pos k (by omega)]
    have a := digsN_len 1 k (by omega)
    have b := digsN_ne k (by omega)
    omega
theorem itoa_lenp (j : Nat) (n : Int) (h0 : ((10 ^ j : Nat) : Int) ≤ n) (h : n < (10 ^ (j + 1) : Nat)) : (Lib.itoa n).length = j + 1 := by
  have hp := Nat.pow_pos (n := j) (show 0 < 10 by omega)
  obtain ⟨k, rfl⟩ := Int.eq_ofNat_of_zero_le (show 0 ≤ n by omega)
  rw [itoa_pos k (by omega)]
  have a := digsN_len (j + 1) k (by omega)
  have b := digs_ge j k (by omega)
  omega
theorem pad_lt (n : Int) (h0 : 0 ≤ n) (h : n < 10) : 48 :: Lib.itoa n = padL 2 n := by
  unfold padL; rw [itoa_len1 n h0 h]; rfl
theorem pad_ge (n : Int) (h0 : 10 ≤ n) (h : n < 100) : Lib.itoa n = padL 2 n := by
  unfold padL; rw [itoa_lenp 1 n (by omega) (by omega)]; rfl
theorem pad_year (n : Int) (h0 : 1000 ≤ n) (h : n < 10000) : Lib.itoa n = padL 4 n := by
  unfold padL; rw [itoa_lenp 3 n (by omega) (by omega)]; rfl
theorem pad_one (n : Int) : Lib.itoa n = padL 1 n := by
  have : (Lib.itoa n).length ≠ 0 := by
    rcases Int.lt_trichotomy n 0 with h | h | h
    · obtain ⟨N, rfl⟩ : ∃ N : Nat, n = -(N : Int) := ⟨n.natAbs, by omega⟩
      rw [itoa_negp N (by omega)]; simp
    · subst h; rw [itoa_zero]; simp
    · obtain ⟨N, rfl⟩ := Int.eq_ofNat_of_zero_le (Int.le_of_lt h)
      rw [itoa_pos N (by omega)]; have := digsN_ne N (by omega); omega
  unfold padL; rw [show 1 - (Lib.itoa n).length = 0 by omega]; rfl
/-- a one ahead: digits with leading zeros behind it -/
theorem digs_one : ∀ (p r : Nat), r < 10 ^ p → digsN (r + 10 ^ p) = 49 :: dN p r
  | 0, r, h => by
    have : r = 0 := by simpa using h
    subst this
    rw [show 0 + 10 ^ 0 = 1 from rfl, digsN_pos 1 (by omega), show 1 / 10 = 0 from rfl, digsN_zero]; rfl
  | p + 1, r, h => by
    have hp := Nat.pow_pos (n := p) (show 0 < 10 by omega)
    rw [Nat.pow_succ] at h
    rw [Nat.pow_succ, digsN_pos _ (by omega)]
    have e1 : (r + 10 ^ p * 10) / 10 = r / 10 + 10 ^ p := by omega
    have e2 : (r + 10 ^ p * 10) % 10 = r % 10 := by omega
    rw [e1, e2, digs_one p (r / 10) (by omega)]
    rfl
theorem itoa_one (p r : Nat) (h : r < 10 ^ p) : Lib.itoa (((r + 10 ^ p : Nat) : Int)) = 49 :: dN p r := by
  have hp := Nat.pow_pos (n := p) (show 0 < 10 by omega)
  rw [itoa_pos _ (by omega), digs_one p r h]
theorem dN_all : ∀ p n, (dN p n).all db = true
  | 0, _ => rfl
  | p + 1, n => by
    unfold dN
    refine all_snoc (dN_all p _) ?_
    rw [db_iff, UInt8.toNat_ofNat']; omega
theorem dN_val : ∀ p n, n < 10 ^ p → valF 0 (dN p n) = n
  | 0, n, h => by
    have : n = 0 := by simpa using h
    subst this; rfl
  | p + 1, n, h => by
    rw [Nat.pow_succ] at h
    unfold dN
    rw [valF_snoc, dN_val p (n / 10) (by omega), UInt8.toNat_ofNat']; omega
/-- digits are the digits of their value -/
theorem dN_back : ∀ (p : Nat) (b : List UInt8), b.length = p → b.all db = true → dN p (valF 0 b) = b
  | 0, b, h, _ => by
    have : b = [] := List.length_eq_zero_iff.1 h
    subst this; rfl
  | p + 1, b, h, ha => by
    have hne : b ≠ [] := by intro e; subst e; simp at h
    obtain ⟨c, d, rfl⟩ : ∃ c d, b = c ++ [d] := ⟨b.dropLast, b.getLast hne, (List.dropLast_concat_getLast hne).symm⟩
    rw [List.all_append] at ha
    have ha1 : c.all db = true := by revert ha; cases c.all db <;> simp
    have ha2 : db d = true := by revert ha; cases h2 : db d <;> simp [h2]
    have hd := (db_iff d).1 ha2
    have hl : c.length = p := by simpa using h
    unfold dN
    rw [valF_snoc]
    have e1 : (10 * valF 0 c + (d.toNat - 48)) / 10 = valF 0 c := by omega
    have e2 : (10 * valF 0 c + (d.toNat - 48)) % 10 = d.toNat - 48 := by omega
    rw [e1, e2, dN_back p c hl ha1, digit_back d ha2]
theorem dN_ndash (p n : Nat) (c : UInt8) (hc : db c = false) : ∀ x ∈ dN p n, x ≠ c := by
  intro x hx e
  subst e
  have := List.all_eq_true.1 (dN_all p n) x hx
  rw [hc] at this; exact absurd this (by decide)
end Go.Proofs.YtcgmpomhklhmaaaDoor
