/-
  Products of numbers that are not negative.
-/
namespace Go.Proofs.Ytmppaimcejcoiaa
theorem mulP_bd {a b A B : Int} (h1 : 0 ≤ a ∧ a ≤ A) (h2 : 0 ≤ b ∧ b ≤ B) : 0 ≤ a * b ∧ a * b ≤ A * B :=
  ⟨Int.mul_nonneg h1.1 h2.1, Int.mul_le_mul h1.2 h2.2 h2.1 (Int.le_trans h1.1 h1.2)⟩
end Go.Proofs.Ytmppaimcejcoiaa
