/-
  Pegs: how thick one is, how far it goes in, how much wider a hole must be. Mathematics.
-/
import Derived.Test.YtnlnocapbbeleaaLst
import Derived.Test.YtnlnocapbbeleaaMul
import Derived.Test.YtnlnocapbbeleaaCore2
namespace Go.Proofs.Ytnlnocapbbeleaa
set_option linter.unusedVariables false
set_option linter.unusedSimpArgs false
/-- how thick a peg is at a way -/
def thV (a c w : Int) : Int := a + w / c
/-- the way into a hole, if the peg is long enough -/
def wyV (a c h : Int) : Int := max 0 (h - a) * c
def iwV (a b c h : Int) : Int := if b < wyV a c h then 0 else wyV a c h
def iwC (a b c h : Int) : Int := if b < wyV a c h then 3 else 0
def wiP (a c h : Int) (i : Nat) : Bool := decide (h ≤ thV a c (i : Int))
/-- a peg's numbers -/
def pegN (a b c : Int) : Prop := (20 ≤ a ∧ a ≤ 200) ∧ (100 ≤ b ∧ b ≤ 1000) ∧ (10 ≤ c ∧ c ≤ 100)
theorem thV_bd {a c w : Int} (hc : 10 ≤ c ∧ c ≤ 100) (hw : 0 ≤ w ∧ w ≤ 1000) : a ≤ thV a c w ∧ thV a c w ≤ a + 1000 := by
  unfold thV
  have h1 := Int.ediv_nonneg hw.1 (by omega : 0 ≤ c)
  have h2 := Int.ediv_le_self c hw.1
  omega
theorem wyV_bd {a c h : Int} (ha : 20 ≤ a) (hc : 10 ≤ c ∧ c ≤ 100) (hh : h ≤ 1000) : 0 ≤ wyV a c h ∧ wyV a c h ≤ 100000 := by
  unfold wyV
  have := mulP_bd (a := max 0 (h - a)) (b := c) (A := 1000) (B := 100) (by omega) (by omega)
  omega
theorem wy_iff {a c h w : Int} (hc : 10 ≤ c) (hw : 0 ≤ w) : wyV a c h ≤ w ↔ h ≤ thV a c w := by
  unfold wyV thV
  have h1 := Int.le_ediv_iff_mul_le (a := h - a) (b := w) (c := c) (by omega)
  rcases Int.le_total 0 (h - a) with h0 | h0
  · rw [show max 0 (h - a) = h - a by omega]
    constructor
    · intro h2
      have := h1.2 h2
      omega
    · intro h2
      exact h1.1 (by omega)
  · rw [show max 0 (h - a) = 0 by omega, Int.zero_mul]
    have h2 := Int.ediv_nonneg hw (by omega : 0 ≤ c)
    constructor
    · intro; omega
    · intro; exact hw
theorem wi_at {a c h : Int} {i : Nat} (hc : 10 ≤ c) : wiP a c h i = decide (wyV a c h ≤ (i : Int)) := by
  unfold wiP
  rw [decide_eq_decide]
  exact (wy_iff hc (by omega)).symm
theorem wi_mono {a c h : Int} (hc : 10 ≤ c) {i j : Nat} (hij : i ≤ j) (hi : wiP a c h i = true) : wiP a c h j = true := by
  rw [wi_at hc, decide_eq_true_eq] at hi ⊢
  omega
theorem wi_lst {a b c h : Int} (hp : pegN a b c) (hh : h ≤ 1000) : lfV 0 (lstN (wiP a c h) (b.toNat + 1)) (b.toNat + 1) = iwV a b c h ∧ lfC (lstN (wiP a c h) (b.toNat + 1)) (b.toNat + 1) = iwC a b c h := by
  obtain ⟨ha, hb, hc⟩ := hp
  have hw := wyV_bd (a := a) (h := h) ha.1 hc hh
  unfold iwV iwC
  by_cases hlt : b < wyV a c h
  · have : lstN (wiP a c h) (b.toNat + 1) = b.toNat + 1 := lst_none (fun j hj => by rw [wi_at hc.1]; exact decide_eq_false (by omega))
    rw [this, if_pos hlt, if_pos hlt]
    unfold lfV lfC
    rw [if_pos rfl, if_pos rfl]
    exact ⟨rfl, rfl⟩
  · have : lstN (wiP a c h) (b.toNat + 1) = (wyV a c h).toNat := lst_at (by omega) (fun j hj => by rw [wi_at hc.1]; exact decide_eq_false (by omega)) (by rw [wi_at hc.1]; exact decide_eq_true (by omega)) (fun i j hij hi => wi_mono hc.1 hij hi)
    rw [this, if_neg hlt, if_neg hlt]
    unfold lfV lfC
    rw [if_neg (by omega), if_neg (by omega)]
    exact ⟨by omega, rfl⟩
theorem iw_bd {a b c h : Int} (hp : pegN a b c) (hh : h ≤ 1000) : 0 ≤ iwV a b c h ∧ iwV a b c h ≤ 1000 := by
  have hw := wyV_bd (a := a) (h := h) hp.1.1 hp.2.2 hh
  have := hp.2.1
  unfold iwV
  split <;> omega
/-- the widest hole that a peg fills, and the holes to look at -/
def wdV (a b c : Int) : Int := min 200 (thV a c b)
def rmP (a c h y : Int) (i : Nat) : Bool := decide (y ≤ wyV a c (h + i))
def rmN (a b c h : Int) : Nat := (wdV a b c + 1 - h).toNat
def rmV (a b c h y : Int) : Int := lfV 0 (lstN (rmP a c h y) (rmN a b c h)) (rmN a b c h)
def rmC (a b c h y : Int) : Int := lfC (lstN (rmP a c h y) (rmN a b c h)) (rmN a b c h)
theorem wyV_mono {a c h k : Int} (hc : 10 ≤ c) (hhk : h ≤ k) : wyV a c h ≤ wyV a c k := by
  unfold wyV
  exact Int.mul_le_mul_of_nonneg_right (by omega) (by omega)
theorem rm_mono {a c h y : Int} (hc : 10 ≤ c) {i j : Nat} (hij : i ≤ j) (hi : rmP a c h y i = true) : rmP a c h y j = true := by
  unfold rmP at hi ⊢
  rw [decide_eq_true_eq] at hi ⊢
  have := wyV_mono (a := a) (c := c) (h := h + i) (k := h + j) hc (by omega)
  omega
theorem wd_iff {a b c h : Int} (hp : pegN a b c) (hh : h ≤ 200) : wyV a c h ≤ b ↔ h ≤ wdV a b c := by
  have := wy_iff (a := a) (c := c) (h := h) (w := b) hp.2.2.1 (by have := hp.2.1; omega)
  unfold wdV
  rw [this]; omega
theorem wd_bd {a b c : Int} (hp : pegN a b c) : 20 ≤ wdV a b c ∧ wdV a b c ≤ 200 := by
  have := thV_bd (a := a) (c := c) (w := b) hp.2.2 (by have := hp.2.1; omega)
  have := hp.1
  unfold wdV
  omega
theorem rm_in {a b c h y : Int} (hp : pegN a b c) {k : Nat} (hk : k < rmN a b c h) : h + k ≤ 200 ∧ wyV a c (h + k) ≤ b := by
  have h1 := wd_bd hp
  unfold rmN at hk
  exact ⟨by omega, (wd_iff hp (by omega)).2 (by omega)⟩
theorem rm_out {a b c h y : Int} (hp : pegN a b c) {k : Nat} (hk : ¬ k < rmN a b c h) (hh : h + k ≤ 200) : b < wyV a c (h + k) := by
  have h1 := wd_bd hp
  unfold rmN at hk
  rcases Int.lt_or_le b (wyV a c (h + k)) with h2 | h2
  · exact h2
  · have := (wd_iff hp hh).1 h2
    omega
end Go.Proofs.Ytnlnocapbbeleaa
