/-
  Plain arithmetic for chapter 1: nearest quotients, bounds, roots. Nothing of the program stands here.
-/
namespace Go.Proofs.Ytmppaimcejcoiaa
/-- is n from lo to hi? (not reducible: the walk leaves it alone) -/
def inB (n lo hi : Int) : Bool := decide (lo ≤ n) && decide (n ≤ hi)
theorem inB_iff {n lo hi : Int} : inB n lo hi = true ↔ lo ≤ n ∧ n ≤ hi := by simp [inB]
theorem inB_no {n lo hi : Int} : inB n lo hi = false ↔ (n < lo ∨ hi < n) := by
  have := @inB_iff n lo hi
  cases h : inB n lo hi
  · rw [h] at this; simp at this; simp; omega
  · rw [h] at this; simp at this; simp; omega

/-- the integer nearest to a / b for b > 0, halves away from 0 -/
def rp (a b : Int) : Int := if a < 0 then -((b - 2 * a) / (2 * b)) else (2 * a + b) / (2 * b)
def rnd (a b : Int) : Int := if b = 0 then 0 else if b < 0 then rp (-a) (-b) else rp a b

theorem rp_pos {a b : Int} (ha : 0 ≤ a) : rp a b = (2 * a + b) / (2 * b) := by unfold rp; rw [if_neg (by omega)]
theorem rp_neg {a b : Int} (ha : a < 0) : rp a b = -((b - 2 * a) / (2 * b)) := by unfold rp; rw [if_pos ha]

/-- the quotient in terms of quotient and rest -/
theorem near_div (q r b : Int) (hb : 0 < b) (h0 : 0 ≤ r) (h1 : r < b) :
    (2 * (b * q + r) + b) / (2 * b) = if r < b - r then q else q + 1 := by
  have e : 2 * (b * q + r) + b = (2 * r + b) + (2 * b) * q := by rw [Int.mul_assoc]; omega
  rw [e, Int.add_mul_ediv_left _ _ (by omega)]
  split
  · rw [Int.ediv_eq_zero_of_lt (by omega) (by omega)]; omega
  · have : 2 * r + b = (2 * r - b) + (2 * b) * 1 := by omega
    rw [this, Int.add_mul_ediv_left _ _ (by omega), Int.ediv_eq_zero_of_lt (by omega) (by omega)]; omega

theorem rnd_pp (a b : Int) (hb : 0 < b) (ha : 0 ≤ a) : rnd a b = if a % b < b - a % b then a / b else a / b + 1 := by
  unfold rnd; rw [if_neg (by omega), if_neg (by omega), rp_pos ha]
  have := near_div (a / b) (a % b) b hb (Int.emod_nonneg _ (by omega)) (Int.emod_lt_of_pos _ hb)
  rwa [Int.mul_ediv_add_emod] at this
theorem rnd_np (a b : Int) (hb : 0 < b) (ha : a < 0) : rnd a b = -(rnd (-a) b) := by
  unfold rnd; rw [if_neg (by omega), if_neg (by omega), if_neg (by omega), if_neg (by omega), rp_neg ha, rp_pos (by omega)]
  congr 2; omega
theorem rnd_zero (b : Int) : rnd 0 b = 0 := by
  unfold rnd; split
  · rfl
  · split
    · rw [rp_pos (by omega), Int.ediv_eq_zero_of_lt (by omega) (by omega)]
    · rw [rp_pos (by omega), Int.ediv_eq_zero_of_lt (by omega) (by omega)]
theorem rnd_neg (a b : Int) (hb : b < 0) : rnd a b = rnd (-a) (-b) := by
  unfold rnd; rw [if_neg (by omega), if_pos hb, if_neg (by omega), if_neg (by omega)]

/-- what the program computes: quotient and rest towards zero -/
theorem rnd_prog (a b : Int) (hb : b ≠ 0) :
    rnd a b = if ((a.tmod b).natAbs : Int) < (b.natAbs : Int) - (a.tmod b).natAbs then a.tdiv b else if decide (a < 0) ≠ decide (b < 0) then a.tdiv b - 1 else a.tdiv b + 1 := by
  have key : ∀ a b : Int, 0 < b → 0 ≤ a → rnd a b = if ((a.tmod b).natAbs : Int) < (b.natAbs : Int) - (a.tmod b).natAbs then a.tdiv b else a.tdiv b + 1 := by
    intro a b hb ha
    rw [rnd_pp a b hb ha, Int.tmod_eq_emod_of_nonneg ha, Int.tdiv_eq_ediv_of_nonneg ha]
    have := Int.emod_nonneg a (b := b) (by omega)
    rw [Int.natAbs_of_nonneg this, Int.natAbs_of_nonneg (by omega)]
  rcases Int.lt_or_gt_of_ne hb with h | h
  · rcases Int.lt_or_le a 0 with g | g
    · rw [rnd_neg a b h, key (-a) (-b) (by omega) (by omega), Int.neg_tmod, Int.tmod_neg, Int.natAbs_neg, Int.natAbs_neg, Int.tdiv_neg, Int.neg_tdiv]
      simp [g, h]
    · have hh : rnd a b = -(rnd a (-b)) := by
        rw [rnd_neg a b h]
        rcases Int.lt_or_le 0 a with k | k
        · rw [rnd_np (-a) (-b) (by omega) (by omega)]; simp
        · have : a = 0 := by omega
          subst this; simp [rnd_zero]
      rw [hh, key a (-b) (by omega) g, Int.tmod_neg, Int.natAbs_neg, Int.tdiv_neg]
      have g' : ¬ a < 0 := by omega
      simp only [g', h]
      split
      · omega
      · simp; omega
  · rcases Int.lt_or_le a 0 with g | g
    · rw [rnd_np a b h g, key (-a) b h (by omega), Int.neg_tmod, Int.natAbs_neg, Int.neg_tdiv]
      have h' : ¬ b < 0 := by omega
      simp only [g, h']
      split
      · omega
      · simp; omega
    · rw [key a b h g]
      have h' : ¬ b < 0 := by omega
      have g' : ¬ a < 0 := by omega
      simp [g', h']
end Go.Proofs.Ytmppaimcejcoiaa
