/-
  Bows: sums over parts, the first greatest of numbers, least multiples. Mathematics alone.
-/
import Derived.Test.YtjnpladpegmiiaaMath1
namespace Go.Proofs.Ytjnpladpegmiiaa
set_option linter.unusedVariables false
set_option linter.unusedSimpArgs false
/-- the sum of the first k numbers -/
def sumF (f : Nat → Int) : Nat → Int
  | 0 => 0
  | k + 1 => sumF f k + f k
theorem sumF_bd {f : Nat → Int} {lo hi : Int} : ∀ n, (∀ i, i < n → lo ≤ f i ∧ f i ≤ hi) → lo * n ≤ sumF f n ∧ sumF f n ≤ hi * n
  | 0, _ => by simp [sumF]
  | n + 1, h => by
    have h1 := sumF_bd n (fun i hi => h i (by omega))
    have h2 := h n (by omega)
    unfold sumF
    rw [show ((n + 1 : Nat) : Int) = (n : Int) + 1 by omega, Int.mul_add, Int.mul_add, Int.mul_one, Int.mul_one]
    omega
/-- the place of the greatest of the first n numbers, the first one of several -/
def fgI (f : Nat → Int) : Nat → Nat
  | 0 => 0
  | k + 1 => if f (fgI f k) < f k then k else fgI f k
theorem fgI_lt {f : Nat → Int} : ∀ n, 0 < n → fgI f n < n
  | 1, _ => by unfold fgI fgI; split <;> omega
  | n + 2, _ => by
    have := fgI_lt (f := f) (n + 1) (by omega)
    unfold fgI
    split <;> omega
theorem fgI_ge {f : Nat → Int} : ∀ n i, i < n → f i ≤ f (fgI f n)
  | n + 1, i, hi => by
    rcases Nat.lt_or_ge i n with h | h
    · have := fgI_ge (f := f) n i h
      unfold fgI
      split <;> omega
    · obtain rfl : i = n := by omega
      unfold fgI
      split <;> omega
theorem fgI_one (f : Nat → Int) : fgI f 1 = 0 := by unfold fgI fgI; split <;> omega
theorem fgI_first {f : Nat → Int} : ∀ n i, i < fgI f n → f i < f (fgI f n)
  | 0, i, hi => by unfold fgI at hi; omega
  | n + 1, i, hi => by
    unfold fgI at hi ⊢
    by_cases h : f (fgI f n) < f n
    · rw [if_pos h] at hi ⊢
      have := fgI_ge (f := f) n i hi
      omega
    · rw [if_neg h] at hi ⊢
      exact fgI_first n i hi
theorem fgI_congr {f g : Nat → Int} : ∀ n, (∀ i, i < n → f i = g i) → fgI f n = fgI g n
  | 0, _ => rfl
  | n + 1, h => by
    have h1 := fgI_congr n (fun i hi => h i (by omega))
    unfold fgI
    rw [h1]
    rcases Nat.eq_zero_or_pos n with h0 | h0
    · subst h0
      rw [show fgI g 0 = 0 from rfl, h 0 (by omega)]
    · rw [h _ (by have := fgI_lt (f := g) n h0; omega), h n (by omega)]
/-- the greatest of the first n numbers and 0 -/
def mxF (f : Nat → Int) : Nat → Int
  | 0 => 0
  | k + 1 => max (mxF f k) (f k)
theorem mxF_fg {f : Nat → Int} : ∀ n, 0 < n → (∀ i, i < n → 0 ≤ f i) → mxF f n = f (fgI f n)
  | 1, _, h => by
    have := h 0 (by omega)
    rw [fgI_one]
    unfold mxF mxF
    omega
  | n + 2, _, h => by
    have h1 := mxF_fg (f := f) (n + 1) (by omega) (fun i hi => h i (by omega))
    show max (mxF f (n + 1)) (f (n + 1)) = f (fgI f (n + 2))
    rw [h1]
    show _ = f (if f (fgI f (n + 1)) < f (n + 1) then n + 1 else fgI f (n + 1))
    split <;> omega
theorem mxF_bd {f : Nat → Int} {M : Int} (hM : 0 ≤ M) : ∀ n, (∀ i, i < n → f i ≤ M) → 0 ≤ mxF f n ∧ mxF f n ≤ M
  | 0, _ => by unfold mxF; omega
  | n + 1, h => by
    have h1 := mxF_bd hM n (fun i hi => h i (by omega))
    have h2 := h n (by omega)
    unfold mxF
    omega
/-- how often a positive number must be taken to reach a goal -/
def ltV (e g : Int) : Int := (max 0 g + e - 1) / e
theorem ltV_spec {e g : Int} (he : 0 < e) : 0 ≤ ltV e g ∧ g ≤ e * ltV e g ∧ (∀ k : Int, 0 ≤ k → g ≤ e * k → ltV e g ≤ k) := by
  unfold ltV
  have h1 := Int.mul_ediv_add_emod (max 0 g + e - 1) e
  have h2 := Int.emod_nonneg (max 0 g + e - 1) (by omega : e ≠ 0)
  have h3 := Int.emod_lt_of_pos (max 0 g + e - 1) he
  refine ⟨Int.ediv_nonneg (by omega) (by omega), by omega, fun k hk hg => ?_⟩
  have hmax : max 0 g ≤ e * k := by
    have := Int.mul_nonneg (by omega : 0 ≤ e) hk
    omega
  have : max 0 g + e - 1 < (k + 1) * e := by
    rw [Int.add_mul, Int.one_mul, Int.mul_comm k e]; omega
  have := Int.ediv_lt_of_lt_mul he this
  omega
theorem ltV_bd {e g G : Int} (he : 0 < e) (hg : g ≤ G) (hG : 0 ≤ G) : 0 ≤ ltV e g ∧ ltV e g ≤ G := by
  have h := ltV_spec (g := g) he
  refine ⟨h.1, h.2.2 G hG ?_⟩
  have : 1 * G ≤ e * G := Int.mul_le_mul_of_nonneg_right (by omega) hG
  omega
end Go.Proofs.Ytjnpladpegmiiaa
