/-
  Plain arithmetic for square roots. Nothing of the program stands here.
-/
import Derived.Test.YtnenccfmopjcjaaGreatDoorMath1
namespace Go.Proofs.YtnenccfmopjcjaaGreatDoor
def rootN : Nat → Nat
  | 0 => 0
  | n + 1 => if (rootN n + 1) * (rootN n + 1) ≤ n + 1 then rootN n + 1 else rootN n
theorem rootN_sq : ∀ n : Nat, rootN n * rootN n ≤ n ∧ n < (rootN n + 1) * (rootN n + 1)
  | 0 => by simp [rootN]
  | n + 1 => by
    have ih := rootN_sq n
    unfold rootN
    split
    · rename_i h
      refine ⟨h, ?_⟩
      have : (rootN n + 1 + 1) * (rootN n + 1 + 1) = (rootN n + 1) * (rootN n + 1) + 2 * (rootN n + 1) + 1 := by simp only [Nat.add_mul, Nat.mul_add]; omega
      omega
    · rename_i h
      exact ⟨by omega, by omega⟩
/-- the greatest r with r * r at most n; 0 where n is negative -/
def rootR (n : Int) : Int := rootN n.toNat
theorem sq_lt {a b : Int} (ha : 0 ≤ a) (hb : a ≤ b) : a * a ≤ b * b :=
  Int.mul_le_mul hb hb ha (by omega)
theorem rootR_eq (n r : Int) (hn : 0 ≤ n) (hr : 0 ≤ r) (h1 : r * r ≤ n) (h2 : n < (r + 1) * (r + 1)) : rootR n = r := by
  have h := rootN_sq n.toNat
  unfold rootR
  have e1 : ((rootN n.toNat * rootN n.toNat : Nat) : Int) ≤ n := by omega
  have e2 : n < (((rootN n.toNat + 1) * (rootN n.toNat + 1) : Nat) : Int) := by omega
  rw [Int.natCast_mul] at e1 e2
  rw [Int.natCast_add] at e2
  generalize hx : (rootN n.toNat : Int) = x at *
  have hx0 : 0 ≤ x := by omega
  rcases Int.lt_or_le x r with h | h
  · have := sq_lt (a := x + 1) (b := r) (by omega) (by omega)
    have e2' : n < (x + 1) * (x + 1) := e2
    omega
  · rcases Int.lt_or_le r x with g | g
    · have := sq_lt (a := r + 1) (b := x) (by omega) (by omega)
      omega
    · omega
theorem rootR_neg (n : Int) (hn : n < 0) : rootR n = 0 := by
  unfold rootR
  have : n.toNat = 0 := by omega
  rw [this]; rfl
/-- 2 to the k, kept whole -/
def pw (k : Nat) : Int := ((2 ^ k : Nat) : Int)
theorem pw_zero : pw 0 = 1 := rfl
theorem pw_succ (k : Nat) : pw (k + 1) = 2 * pw k := by
  unfold pw; rw [Nat.pow_succ, Int.natCast_mul]; omega
theorem pw_pos (k : Nat) : 0 < pw k := by
  unfold pw; have := Nat.two_pow_pos k; omega
theorem pw_le {i k : Nat} (h : i ≤ k) : pw i ≤ pw k := by
  unfold pw; have := Nat.pow_le_pow_right (n := 2) (by omega) h; omega
/-- the bit that is tried: 0 behind the last one -/
def bitK : Nat → Int
  | 0 => 0
  | k + 1 => pw k
theorem bitK_half (k : Nat) : bitK (k + 1) / 2 = bitK k := by
  cases k with
  | zero => rfl
  | succ k => show pw (k + 1) / 2 = pw k; rw [pw_succ]; omega
end Go.Proofs.YtnenccfmopjcjaaGreatDoor
