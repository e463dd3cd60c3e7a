/-
  Smooth heights: the model's answer.
-/
import Derived.Test.YtagjpldfafablaaOwn78
namespace Go.Proofs.Ytagjpldfafablaa
open Go.ChangeShapes Go.WideShapes Go.ChangeAt Go.RowKit Go.Deep
set_option linter.unusedVariables false
set_option linter.unusedSimpArgs false
theorem aro_in {R C : Nat} {h : Nat → Nat → Int} (h0 : ∀ i k, i < R → k < C → 0 ≤ h i k) (h1 : ∀ i k, i < R → k < C → h i k ≤ 1000) {i k : Nat} (hi : i < R) (hk : k < C) : ∀ z ∈ aroL R C h i k, 0 ≤ z ∧ z ≤ 1000 := by
  intro z hz
  obtain ⟨q, hq, rfl⟩ := (aro_mem z).1 hz
  obtain ⟨a, b⟩ := nb_in hi hk q hq
  exact ⟨h0 _ _ a b, h1 _ _ a b⟩
end Go.Proofs.Ytagjpldfafablaa
