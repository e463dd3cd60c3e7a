/-
  Strings of an instrument: the highest pitch and the least gauge; mathematics.
-/
import Derived.Test.YtnenccfmopjcjaaCrdV
import Derived.Test.YtnenccfmopjcjaaDryMath
import Derived.Test.YtnenccfmopjcjaaLst
namespace Go.Proofs.Ytnenccfmopjcjaa
open Go.ChangeShapes Go.WideShapes Go.ChangeAt Go.RowKit Go.Deep
set_option linter.unusedVariables false
set_option linter.unusedSimpArgs false
set_option maxRecDepth 1000000
theorem prd_monoA {a a' b c : Int} (ha : 0 ≤ a) (h : a ≤ a') (hb : 0 ≤ b) (hc : 0 ≤ c) : prdV a b c ≤ prdV a' b c := by
  unfold prdV
  have h1 : 4 * a * a ≤ 4 * a' * a' := Int.mul_le_mul (by omega) h ha (by omega)
  exact Int.mul_le_mul_of_nonneg_right (Int.mul_le_mul_of_nonneg_right (Int.mul_le_mul_of_nonneg_right h1 hb) hb) hc
theorem prd_monoC {a b c c' : Int} (ha : 0 ≤ a) (hb : 0 ≤ b) (h : c ≤ c') : prdV a b c ≤ prdV a b c' := by
  unfold prdV
  exact Int.mul_le_mul_of_nonneg_left h (Int.mul_nonneg (Int.mul_nonneg (Int.mul_nonneg (by omega) ha) hb) hb)
theorem ten_monoA {a a' b c : Int} (ha : 0 ≤ a) (h : a ≤ a') (hb : 0 ≤ b) (hc : 0 ≤ c) : tenV a b c ≤ tenV a' b c := rnd_mono (by decide) (prd_monoA ha h hb hc)
theorem ten_monoC {a b c c' : Int} (ha : 0 ≤ a) (hb : 0 ≤ b) (h : c ≤ c') : tenV a b c ≤ tenV a b c' := rnd_mono (by decide) (prd_monoC ha hb h)
/-- does a string not hold at the pitch k + 1? -/
def hpP (b c d z : Int) (k : Nat) : Bool := !hldB (k + 1) b c d z
theorem hp_mono {b c d z : Int} (hb : 0 ≤ b) (hc : 0 ≤ c) (i j : Nat) (hij : i ≤ j) (h : hpP b c d z i = true) : hpP b c d z j = true := by
  simp only [hpP, hldB, Bool.not_eq_true', decide_eq_false_iff_not] at h ⊢
  have := ten_monoA (a := (i : Int) + 1) (a' := (j : Int) + 1) (b := b) (c := c) (by omega) (by omega) hb hc
  omega
/-- is a string of the mass k + 1 pulled enough? -/
def lgP (a b f : Int) (k : Nat) : Bool := decide (f ≤ tenV a b (k + 1))
theorem lg_mono {a b f : Int} (ha : 0 ≤ a) (hb : 0 ≤ b) (i j : Nat) (hij : i ≤ j) (h : lgP a b f i = true) : lgP a b f j = true := by
  simp only [lgP, decide_eq_true_eq] at h ⊢
  have := ten_monoC (a := a) (b := b) (c := (i : Int) + 1) (c' := (j : Int) + 1) ha hb (by omega)
  omega
def cod3 (b1 b2 : Bool) (c : Int) : Int := if b1 = true then (if b2 = true then c else 2) else 1
def hpC (r : Nat) : Int := if r = 0 then 3 else 0
def lgC (r : Nat) : Int := if r = 10000 then 3 else 0
def lgV (r : Nat) : Int := if r = 10000 then 0 else (r : Int) + 1
end Go.Proofs.Ytnenccfmopjcjaa
