/-
  The program's highest place.
-/
import Derived.Test.YtmppaimcejcoiaaPla2
namespace Go.Proofs.Ytmppaimcejcoiaa
open Go.ChangeShapes Go.WideShapes Go.ChangeAt Go.RowKit Go.Deep
set_option linter.unusedVariables false
set_option linter.unusedSimpArgs false
attribute [local go_sem] Oper.semAt_some
theorem GR.pl {w : World} {g o cap R C : Nat} {rg ro rc : Nat → Nat} {h : Nat → Nat → Int} (x : GR w g o cap R C rg ro rc h) {bg : Nat} (hb : w.cell? ⟨bg, 0, none⟩ = some (.slice (some ⟨g, o, none⟩) R cap)) : PlH w bg g o cap R C :=
  ⟨hb, fun i hi => ⟨_, _, x.top i hi⟩, x.R1, x.R10, x.C10⟩
/-- the first place with the greatest height -/
def hiF (h : Nat → Nat → Int) (L : List (Nat × Nat)) : Nat × Nat := L.foldl (fun b p => if h b.1 b.2 < h p.1 p.2 then p else b) (0, 0)
def hiV (G : List (List Int)) : Nat × Nat := if okG G then hiF (hG G) (plAll G.length (colsG G)) else (0, 0)
theorem hiF_next (h : Nat → Nat → Int) (L : List (Nat × Nat)) (p : Nat × Nat) : hiF h (L ++ [p]) = if h (hiF h L).1 (hiF h L).2 < h p.1 p.2 then p else hiF h L := by
  unfold hiF; rw [List.foldl_append]; rfl
theorem snoc_ind {α : Type} {P : List α → Prop} (h0 : P []) (h1 : ∀ L x, P L → P (L ++ [x])) (L : List α) : P L := by
  have : ∀ M : List α, P M.reverse := by
    intro M
    induction M with
    | nil => exact h0
    | cons x M ih => simpa using h1 _ x ih
  have := this L.reverse
  simpa using this
theorem hiF_in (h : Nat → Nat → Int) (L : List (Nat × Nat)) : hiF h L = (0, 0) ∨ hiF h L ∈ L := by
  refine snoc_ind (P := fun L => hiF h L = (0, 0) ∨ hiF h L ∈ L) (Or.inl rfl) (fun L p ih => ?_) L
  show hiF h (L ++ [p]) = (0, 0) ∨ hiF h (L ++ [p]) ∈ L ++ [p]
  · rw [hiF_next]
    split
    · exact Or.inr (by simp)
    · rcases ih with h1 | h1
      · exact Or.inl h1
      · exact Or.inr (by simp [h1])
theorem hiF_pre {R C : Nat} (hR : 1 ≤ R) (hC : 1 ≤ C) (h : Nat → Nat → Int) {pre : List (Nat × Nat)} (hp : pre <+: plAll R C) : (hiF h pre).1 < R ∧ (hiF h pre).2 < C := by
  rcases hiF_in h pre with h1 | h1
  · rw [h1]; exact ⟨hR, hC⟩
  · have := hp.subset h1
    exact mem_plAll.1 this
end Go.Proofs.Ytmppaimcejcoiaa
