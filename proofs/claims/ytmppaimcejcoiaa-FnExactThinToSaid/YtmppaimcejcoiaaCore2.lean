/-
  Contracts of DivRound and Blend, of the model and of the program.
-/
import Derived.Test.YtmppaimcejcoiaaCore
namespace Go.Proofs.Ytmppaimcejcoiaa
open Go.ChangeShapes Go.WideShapes Go.ChangeAt Go.RowKit
set_option linter.unusedVariables false
set_option linter.unusedSimpArgs false

theorem Grown.drewN {W w' : World} (h : Grown W w') (n : Nat) : Grown W (w'.drewN n) := h


def divR (a b : Int) : Int := if b = 0 then 0 else if inB a (-1000000000000) 1000000000000 = false then 0 else if inB b (-1000000000000) 1000000000000 = false then 0 else rnd a b

/-- the value at x of the line through two points -/
def lineR (x0 y0 x1 y1 x : Int) : Int := if x ≤ x0 then y0 else if x1 ≤ x0 then y0 else if x1 ≤ x then y1 else y0 + rnd ((y1 - y0) * (x - x0)) (x1 - x0)

theorem mul_bd {a b B C : Int} (ha0 : -B ≤ a) (ha1 : a ≤ B) (hb0 : 0 ≤ b) (hb1 : b ≤ C) (hB : 0 ≤ B) : -(B * C) ≤ a * b ∧ a * b ≤ B * C := by
  have h1 : a * b ≤ B * b := Int.mul_le_mul_of_nonneg_right ha1 hb0
  have h2 : B * b ≤ B * C := Int.mul_le_mul_of_nonneg_left hb1 hB
  have h3 : (-B) * b ≤ a * b := Int.mul_le_mul_of_nonneg_right ha0 hb0
  have h4 : (-B) * b = -(B * b) := Int.neg_mul _ _
  omega
theorem rnd_bd (a b : Int) (hb : 0 < b) : (rnd a b).natAbs ≤ a.natAbs + 1 := by
  rw [rnd_prog a b (by omega)]
  have := Int.natAbs_tdiv_le_natAbs a b
  split
  · omega
  · split <;> omega

def in6 (n : Int) : Bool := inB n (-1000000) 1000000
theorem l00In6 (n : Int) (w : World) : Calls Try.prog 23 #[.int .i64 n, .int .i64 (-1000000), .int .i64 1000000] w fun e w' => e = .returned (.bool (in6 n)) ∧ w = w' := l00In_any _ _ _ _
theorem within6 (n : Int) (w : World) : Calls Try.prog 29 #[.int .i64 n, .int .i64 (-1000000), .int .i64 1000000] w fun e w' => e = .returned (.bool (in6 n)) ∧ w = w' := within64_any _ _ _ _
theorem in6_iff {n : Int} (h : in6 n = true) : -1000000 ≤ n ∧ n ≤ 1000000 := inB_iff.1 h
def blendR (x0 y0 x1 y1 x : Int) : Int := if in6 x0 && in6 x1 && in6 y0 && in6 y1 then lineR x0 y0 x1 y1 x else 0

def upTo4 (k : Nat) (a b c d : Int) : Prop := (1 ≤ k → in6 a = true) ∧ (2 ≤ k → in6 b = true) ∧ (3 ≤ k → in6 c = true) ∧ (4 ≤ k → in6 d = true)

end Go.Proofs.Ytmppaimcejcoiaa
