/-
  Plain arithmetic of drying: how a moisture changes day by day, and why thicker wood is slower.
-/
import Derived.Test.YtmppaimcejcoiaaMath1
namespace Go.Proofs.Ytmppaimcejcoiaa
/-- how a moisture m changes on a day where e is even, of wood that is t thick -/
def chgV (m e t : Int) : Int := rnd (20 * (e - m)) (t + 20)
/-- the moisture behind k days -/
def dryV (m e t : Int) : Nat → Int
  | 0 => m
  | k + 1 => dryV m e t k + chgV (dryV m e t k) e t
theorem rnd_of_pos {a b : Int} (hb : 0 < b) : rnd a b = rp a b := by unfold rnd; rw [if_neg (by omega), if_neg (by omega)]
theorem rnd_odd {a b : Int} (hb : 0 < b) : rnd (-a) b = -(rnd a b) := by
  rcases Int.lt_trichotomy a 0 with h | h | h
  · rw [rnd_np a b hb h]; simp
  · subst h; simp [rnd_zero]
  · rw [rnd_np (-a) b hb (by omega)]; simp
/-- for a number that is not negative: the quotient by bounds -/
theorem rnd_le_iff {a b q : Int} (hb : 0 < b) (ha : 0 ≤ a) : q ≤ rnd a b ↔ 2 * (b * q) ≤ 2 * a + b := by
  rw [rnd_of_pos hb, rp_pos ha, Int.le_ediv_iff_mul_le (by omega), Int.mul_comm q, Int.mul_assoc]
theorem rnd_nonneg {a b : Int} (hb : 0 < b) (ha : 0 ≤ a) : 0 ≤ rnd a b := (rnd_le_iff hb ha).2 (by simp; omega)
theorem rnd_nonpos {a b : Int} (hb : 0 < b) (ha : a ≤ 0) : rnd a b ≤ 0 := by
  have := rnd_odd (a := a) hb
  have h2 := rnd_nonneg (a := -a) hb (by omega)
  omega
theorem rnd_mono0 {a a' b : Int} (hb : 0 < b) (ha : 0 ≤ a) (h : a ≤ a') : rnd a b ≤ rnd a' b := by
  refine (rnd_le_iff hb (by omega)).2 ?_
  have := (rnd_le_iff (q := rnd a b) hb ha).1 (Int.le_refl _)
  omega
theorem rnd_mono {a a' b : Int} (hb : 0 < b) (h : a ≤ a') : rnd a b ≤ rnd a' b := by
  rcases Int.le_total 0 a with h1 | h1
  · exact rnd_mono0 hb h1 h
  · rcases Int.le_total 0 a' with h2 | h2
    · have := rnd_nonpos hb h1; have := rnd_nonneg hb h2; omega
    · have e1 := rnd_odd (a := a) hb
      have e2 := rnd_odd (a := a') hb
      have := rnd_mono0 (a := -a') (a' := -a) hb (by omega) (by omega)
      omega
theorem rnd_upper {a b : Int} (hb : 0 < b) : 2 * (b * rnd a b) ≤ 2 * a + b := by
  rcases Int.le_total 0 a with h | h
  · exact (rnd_le_iff hb h).1 (Int.le_refl _)
  · have e := rnd_odd (a := a) hb
    have e1 : rnd a b = -(rnd (-a) b) := by omega
    have hn : ¬ (rnd (-a) b + 1 ≤ rnd (-a) b) := by omega
    rw [rnd_le_iff hb (by omega)] at hn
    rw [e1]
    rw [Int.mul_add] at hn
    rw [Int.mul_neg]
    omega
theorem rnd_lower {a b : Int} (hb : 0 < b) : 2 * a - b ≤ 2 * (b * rnd a b) := by
  have e := rnd_odd (a := a) hb
  have := rnd_upper (a := -a) hb
  rw [e, Int.mul_neg] at this
  omega
/-- a number that is no farther off than d, and d less than the divisor: the quotient is at most one farther -/
theorem rnd_step {a d b : Int} (hb : 0 < b) (hd : d < b) : rnd (a + d) b ≤ rnd a b + 1 := by
  have h1 := rnd_upper (a := a + d) hb
  have h2 := rnd_lower (a := a) hb
  rcases Int.lt_or_le (rnd a b + 1) (rnd (a + d) b) with h | h
  · have h3 : b * (rnd a b + 2) ≤ b * rnd (a + d) b := Int.mul_le_mul_of_nonneg_left (by omega) (by omega)
    rw [Int.mul_add] at h3
    omega
  · exact h
/-- a greater divisor makes less of what is not negative -/
theorem rnd_anti {a b b' : Int} (hb : 0 < b) (ha : 0 ≤ a) (h : b ≤ b') : rnd a b' ≤ rnd a b := by
  refine (rnd_le_iff hb ha).2 ?_
  have h1 := rnd_upper (a := a) (b := b') (by omega)
  have h0 := rnd_nonneg (a := a) (b := b') (by omega) ha
  generalize rnd a b' = q at h1 h0
  rcases Int.lt_or_le 0 q with hq | hq
  · have h2 : b * (2 * q - 1) ≤ b' * (2 * q - 1) := Int.mul_le_mul_of_nonneg_right h (by omega)
    rw [Int.mul_sub, Int.mul_sub, Int.mul_left_comm b, Int.mul_left_comm b'] at h2
    omega
  · obtain rfl : q = 0 := by omega
    simp; omega
theorem chg_up {m e t : Int} (ht : 10 ≤ t) (h : m ≤ e) : 0 ≤ chgV m e t ∧ chgV m e t ≤ e - m := by
  unfold chgV
  refine ⟨rnd_nonneg (by omega) (by omega), ?_⟩
  have h1 := rnd_upper (a := 20 * (e - m)) (b := t + 20) (by omega)
  have h0 := rnd_nonneg (a := 20 * (e - m)) (b := t + 20) (by omega) (by omega)
  generalize hq : rnd (20 * (e - m)) (t + 20) = q at h1 h0
  rcases Int.lt_or_le (e - m) q with h2 | h2
  · have h3 : 30 * q ≤ (t + 20) * q := Int.mul_le_mul_of_nonneg_right (by omega) h0
    have h4 : (t + 20) * (e - m + 1) ≤ (t + 20) * q := Int.mul_le_mul_of_nonneg_left (by omega) (by omega)
    have h5 : 30 * (e - m) ≤ (t + 20) * (e - m) := Int.mul_le_mul_of_nonneg_right (by omega) (by omega)
    rw [Int.mul_add] at h4
    omega
  · exact h2
theorem chg_odd (m e t : Int) (ht : 10 ≤ t) : chgV m e t = -(chgV (2 * e - m) e t) := by
  unfold chgV
  have := rnd_odd (a := 20 * (e - m)) (b := t + 20) (by omega)
  rw [show 20 * (e - (2 * e - m)) = -(20 * (e - m)) by omega, this]; omega
theorem chg_down {m e t : Int} (ht : 10 ≤ t) (h : e ≤ m) : e - m ≤ chgV m e t ∧ chgV m e t ≤ 0 := by
  have h1 := chg_up (m := 2 * e - m) (e := e) ht (by omega)
  have h2 := chg_odd m e t ht
  omega
/-- a moister stack stays no drier on one day -/
theorem step_mono {m m' e t : Int} (ht : 10 ≤ t) (h : m ≤ m') : m + chgV m e t ≤ m' + chgV m' e t := by
  have one : ∀ x : Int, x + chgV x e t ≤ (x + 1) + chgV (x + 1) e t := fun x => by
    have := rnd_step (a := 20 * (e - (x + 1))) (d := 20) (b := t + 20) (by omega) (by omega)
    unfold chgV
    rw [show 20 * (e - (x + 1)) + 20 = 20 * (e - x) by omega] at this
    omega
  have key : ∀ n : Nat, m + chgV m e t ≤ (m + n) + chgV (m + n) e t := fun n => by
    induction n with
    | zero => simp
    | succ n ih => have := one (m + n); rw [show (m + (n : Int)) + 1 = m + ((n + 1 : Nat) : Int) by omega] at this; omega
  have := key (m' - m).toNat
  rw [show m + ((m' - m).toNat : Int) = m' by omega] at this
  exact this
theorem chg_thick_up {m e t t' : Int} (ht : 10 ≤ t) (htt : t ≤ t') (h : m ≤ e) : chgV m e t' ≤ chgV m e t := rnd_anti (by omega) (by omega) (by omega)
theorem chg_thick_down {m e t t' : Int} (ht : 10 ≤ t) (htt : t ≤ t') (h : e ≤ m) : chgV m e t ≤ chgV m e t' := by
  have h1 := chg_thick_up (m := 2 * e - m) (e := e) ht htt (by omega)
  have h2 := chg_odd m e t ht
  have h3 := chg_odd m e t' (by omega)
  omega
theorem dry_up {m e t : Int} (ht : 10 ≤ t) (h : m ≤ e) : ∀ k, m ≤ dryV m e t k ∧ dryV m e t k ≤ e
  | 0 => ⟨Int.le_refl _, h⟩
  | k + 1 => by have := dry_up ht h k; have := chg_up (m := dryV m e t k) (e := e) ht this.2; show _ ≤ dryV m e t k + _ ∧ dryV m e t k + _ ≤ _; omega
theorem dry_down {m e t : Int} (ht : 10 ≤ t) (h : e ≤ m) : ∀ k, e ≤ dryV m e t k ∧ dryV m e t k ≤ m
  | 0 => ⟨h, Int.le_refl _⟩
  | k + 1 => by have := dry_down ht h k; have := chg_down (m := dryV m e t k) (e := e) ht this.1; show _ ≤ dryV m e t k + _ ∧ dryV m e t k + _ ≤ _; omega
theorem dry_in {m e t : Int} (ht : 10 ≤ t) (hm : 0 ≤ m ∧ m ≤ 1000) (he : 0 ≤ e ∧ e ≤ 1000) (k : Nat) : 0 ≤ dryV m e t k ∧ dryV m e t k ≤ 1000 := by
  rcases Int.le_total m e with h | h
  · have := dry_up ht h k; omega
  · have := dry_down ht h k; omega
theorem chg_in {m e t : Int} (ht : 10 ≤ t) (hm : 0 ≤ m ∧ m ≤ 1000) (he : 0 ≤ e ∧ e ≤ 1000) : -1000 ≤ chgV m e t ∧ chgV m e t ≤ 1000 := by
  rcases Int.le_total m e with h | h
  · have := chg_up ht h; omega
  · have := chg_down ht h; omega
/-- where the moisture has stopped it stays -/
theorem dry_stop {m e t : Int} {k : Nat} (h : chgV (dryV m e t k) e t = 0) : ∀ j, dryV m e t (k + j) = dryV m e t k
  | 0 => rfl
  | j + 1 => by show dryV m e t (k + j) + chgV (dryV m e t (k + j)) e t = _; rw [dry_stop h j, h]; omega
/-- thinner wood rises no less, and thinner wood falls no less -/
theorem dry_thick_up {m e t t' : Int} (ht : 10 ≤ t) (htt : t ≤ t') (h : m ≤ e) : ∀ k, dryV m e t' k ≤ dryV m e t k
  | 0 => Int.le_refl _
  | k + 1 => by
    have ih := dry_thick_up ht htt h k
    have a := step_mono (e := e) (t := t) ht ih
    have b := chg_thick_up (m := dryV m e t' k) (e := e) ht htt (dry_up (by omega) h k).2
    show dryV m e t' k + _ ≤ dryV m e t k + _
    omega
theorem dry_thick_down {m e t t' : Int} (ht : 10 ≤ t) (htt : t ≤ t') (h : e ≤ m) : ∀ k, dryV m e t k ≤ dryV m e t' k
  | 0 => Int.le_refl _
  | k + 1 => by
    have ih := dry_thick_down ht htt h k
    have a := step_mono (e := e) (t := t) ht ih
    have b := chg_thick_down (m := dryV m e t' k) (e := e) ht htt (dry_down (by omega) h k).1
    show dryV m e t k + _ ≤ dryV m e t' k + _
    omega
end Go.Proofs.Ytmppaimcejcoiaa
