/-
  What holds of the first k places of a list.
-/
import Derived.WalkKit
namespace Go.Proofs.Ytmppaimcejcoiaa
open Go
/-- p holds of all numbers below k -/
def allK (p : Nat → Bool) : Nat → Bool
  | 0 => true
  | k + 1 => allK p k && p k
theorem allK_iff (p : Nat → Bool) : ∀ n, allK p n = true ↔ ∀ i, i < n → p i = true
  | 0 => ⟨fun _ i hi => absurd hi (Nat.not_lt_zero i), fun _ => rfl⟩
  | n + 1 => by
    unfold allK
    rw [Bool.and_eq_true, allK_iff p n]
    constructor
    · rintro ⟨h1, h2⟩ i hi
      rcases Nat.lt_or_ge i n with h | h
      · exact h1 i h
      · rw [show i = n by omega]; exact h2
    · exact fun h => ⟨fun i hi => h i (by omega), h n (by omega)⟩
theorem allK_no {p : Nat → Bool} {k n : Nat} (h : p k = false) (hk : k < n) : allK p n = false := by
  cases e : allK p n
  · rfl
  · have := (allK_iff p n).1 e k hk
    rw [h] at this; exact absurd this (by decide)
theorem allK_yes {p : Nat → Bool} {k : Nat} (h : allK p k = true) (hs : p k = true) : allK p (k + 1) = true := by unfold allK; rw [h, hs]; rfl
theorem getD_of {α : Type} {Z : List α} {k : Nat} (d : α) (h : k < Z.length) : Z.getD k d = Z[k] := by rw [List.getD_eq_getElem?_getD, List.getElem?_eq_getElem h]; rfl
end Go.Proofs.Ytmppaimcejcoiaa
