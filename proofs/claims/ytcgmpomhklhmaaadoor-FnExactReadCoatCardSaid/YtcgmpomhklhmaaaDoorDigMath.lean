/-
  Plain lemmas on decimal digits. Nothing of the program stands here.
-/
import Derived.Test.YtcgmpomhklhmaaaDoorSplitMath
import Derived.Lib.ItoaNum
namespace Go.Proofs.YtcgmpomhklhmaaaDoor
set_option linter.unusedVariables false in
def digsN (n : Nat) : List UInt8 := if h : n = 0 then [] else digsN (n / 10) ++ [UInt8.ofNat (48 + n % 10)]
theorem digsN_pos (n : Nat) (h : 0 < n) : digsN n = digsN (n / 10) ++ [UInt8.ofNat (48 + n % 10)] := by
  rw [digsN, dif_neg (by omega)]
theorem digsN_zero : digsN 0 = [] := by rw [digsN, dif_pos rfl]
theorem digsN_len : ∀ (j n : Nat), n < 10 ^ j → (digsN n).length ≤ j
  | 0, n, h => by
    have : n = 0 := by simpa using h
    subst this; rw [digsN_zero]; exact Nat.le_refl 0
  | j + 1, n, h => by
    by_cases h0 : n = 0
    · subst h0; rw [digsN_zero]; exact Nat.zero_le _
    · rw [digsN_pos n (by omega)]
      have := digsN_len j (n / 10) (by rw [Nat.pow_succ] at h; omega)
      simp; omega
theorem digsN_ne (n : Nat) (h : 0 < n) : 0 < (digsN n).length := by rw [digsN_pos n h]; simp
theorem decDigits_digs : ∀ n : Nat, 0 < n → Lib.decDigits n = digsN n := by
  intro n
  induction n using Nat.strongRecOn with
  | _ n ih =>
    intro h
    rw [Lib.decDigits, digsN_pos n h]
    split
    · rename_i h10
      have e1 : n / 10 = 0 := by omega
      have e2 : n % 10 = n := by omega
      rw [e1, e2, digsN_zero]; rfl
    · rename_i h10
      rw [ih (n / 10) (by omega) (by omega)]
theorem itoa_zero : Lib.itoa 0 = [48] := by
  unfold Lib.itoa; rw [if_neg (by omega)]; exact Lib.decDigits_one (by omega)
theorem itoa_pos (n : Nat) (h : 0 < n) : Lib.itoa (n : Int) = digsN n := by
  unfold Lib.itoa; rw [if_neg (by omega), Int.toNat_natCast, decDigits_digs n h]
theorem itoa_negp (n : Nat) (h : 0 < n) : Lib.itoa (-(n : Int)) = 45 :: digsN n := by
  unfold Lib.itoa; rw [if_pos (by omega), Int.natAbs_neg, Int.natAbs_natCast, decDigits_digs n h]
theorem dig_step (N u : Nat) (D : List UInt8) (hu : 0 < u) (h : digsN N = digsN u ++ D.reverse) : digsN N = digsN (u / 10) ++ (D ++ [UInt8.ofNat (48 + u % 10)]).reverse := by
  rw [h, digsN_pos u hu]; simp
theorem dig_size (N u : Nat) (D : List UInt8) (hn : N ≤ 9223372036854775808) (h : digsN N = digsN u ++ D.reverse) : D.length ≤ 19 := by
  have h1 := digsN_len 19 N (by omega)
  rw [h, List.length_append, List.length_reverse] at h1
  omega
theorem rev_step (D : List UInt8) (t : Nat) (h : t < D.length) : (D.drop (t + 1)).reverse ++ [D[t]] = (D.drop t).reverse := by
  rw [List.drop_eq_getElem_cons h, List.reverse_cons]
end Go.Proofs.YtcgmpomhklhmaaaDoor
