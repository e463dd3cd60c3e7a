/-
  The steepest step of a grid, by the program.
-/
import Derived.Test.YtagjpldfafablaaNb
namespace Go.Proofs.Ytagjpldfafablaa
open Go.ChangeShapes Go.WideShapes Go.ChangeAt Go.RowKit Go.Deep
set_option linter.unusedVariables false
set_option linter.unusedSimpArgs false
attribute [local go_sem] Oper.semAt_some
def mxF (L : List Int) : Int := L.foldl maxG 0
theorem mxF_app (L : List Int) (x : Int) : mxF (L ++ [x]) = maxG (mxF L) x := by unfold mxF; rw [List.foldl_append]; rfl
theorem mxF_is (L : List Int) (h0 : ∀ x ∈ L, 0 ≤ x) : (mxF L = 0 ∨ mxF L ∈ L) ∧ 0 ≤ mxF L ∧ ∀ x ∈ L, x ≤ mxF L := by
  refine snoc_ind (P := fun L => (∀ x ∈ L, 0 ≤ x) → (mxF L = 0 ∨ mxF L ∈ L) ∧ 0 ≤ mxF L ∧ ∀ x ∈ L, x ≤ mxF L) (fun _ => ⟨Or.inl rfl, Int.le_refl _, fun x hx => by cases hx⟩) (fun L x ih h => ?_) L h0
  obtain ⟨a, b, c⟩ := ih (fun y hy => h y (by simp [hy]))
  have hx := h x (by simp)
  show (mxF (L ++ [x]) = 0 ∨ mxF (L ++ [x]) ∈ L ++ [x]) ∧ 0 ≤ mxF (L ++ [x]) ∧ ∀ y ∈ L ++ [x], y ≤ mxF (L ++ [x])
  rw [mxF_app]
  unfold maxG
  split
  · refine ⟨?_, b, fun y hy => ?_⟩
    · rcases a with a | a
      · exact Or.inl a
      · exact Or.inr (by simp [a])
    · rcases List.mem_append.1 hy with hy | hy
      · exact c y hy
      · simp at hy; subst hy; omega
  · refine ⟨Or.inr (by simp), hx, fun y hy => ?_⟩
    rcases List.mem_append.1 hy with hy | hy
    · have := c y hy; omega
    · simp at hy; subst hy; exact Int.le_refl _
theorem mxF_same {L M : List Int} (hL : ∀ x ∈ L, 0 ≤ x) (h : ∀ x, x ∈ L ↔ x ∈ M) : mxF L = mxF M := by
  obtain ⟨a, b, c⟩ := mxF_is L hL
  obtain ⟨a', b', c'⟩ := mxF_is M (fun x hx => hL x ((h x).2 hx))
  apply Int.le_antisymm
  · rcases a with a | a
    · omega
    · exact c' _ ((h _).1 a)
  · rcases a' with a' | a'
    · omega
    · exact c _ ((h _).2 a')
theorem mxF_bd {L : List Int} (h : ∀ x ∈ L, 0 ≤ x ∧ x ≤ 1000) : 0 ≤ mxF L ∧ mxF L ≤ 1000 := by
  obtain ⟨a, b, _⟩ := mxF_is L (fun x hx => (h x hx).1)
  rcases a with a | a
  · omega
  · exact h _ a
/-- differences to all neighbours -/
def dP (R C : Nat) (h : Nat → Nat → Int) (L : List (Nat × Nat)) : List Int := L.flatMap fun p => (nbL R C p.1 p.2).map fun q => absG (h p.1 p.2) (h q.1 q.2)
/-- differences to the one above and to the one ahead -/
def dU (h : Nat → Nat → Int) (p : Nat × Nat) : List Int := if 0 < p.1 then [absG (h p.1 p.2) (h (p.1 - 1) p.2)] else []
def dW (h : Nat → Nat → Int) (p : Nat × Nat) : List Int := if 0 < p.2 then [absG (h p.1 p.2) (h p.1 (p.2 - 1))] else []
def dS (h : Nat → Nat → Int) (L : List (Nat × Nat)) : List Int := L.flatMap fun p => dU h p ++ dW h p
theorem dP_app (R C : Nat) (h : Nat → Nat → Int) (L : List (Nat × Nat)) (p : Nat × Nat) : dP R C h (L ++ [p]) = dP R C h L ++ (nbL R C p.1 p.2).map fun q => absG (h p.1 p.2) (h q.1 q.2) := by unfold dP; rw [List.flatMap_append]; simp
theorem dS_app (h : Nat → Nat → Int) (L : List (Nat × Nat)) (p : Nat × Nat) : dS h (L ++ [p]) = dS h L ++ (dU h p ++ dW h p) := by unfold dS; rw [List.flatMap_append]; simp
theorem absG_comm (p q : Int) : absG p q = absG q p := by unfold absG; split <;> split <;> omega
theorem mem_nbL {R C i k : Nat} {q : Nat × Nat} : q ∈ nbL R C i k ↔ (1 ≤ i ∧ q = (i - 1, k)) ∨ (1 ≤ k ∧ q = (i, k - 1)) ∨ (k + 1 < C ∧ q = (i, k + 1)) ∨ (i + 1 < R ∧ q = (i + 1, k)) := by
  unfold nbL nbT
  rw [List.mem_filterMap]
  constructor
  · rintro ⟨j, hj, e⟩
    match j, List.mem_range.1 hj, e with
    | 0, _, e => simp only [nb4] at e; split at e <;> simp at e; exact Or.inl ⟨by assumption, e.symm⟩
    | 1, _, e => simp only [nb4] at e; split at e <;> simp at e; exact Or.inr (Or.inl ⟨by assumption, e.symm⟩)
    | 2, _, e => simp only [nb4] at e; split at e <;> simp at e; exact Or.inr (Or.inr (Or.inl ⟨by assumption, e.symm⟩))
    | 3, _, e => simp only [nb4] at e; split at e <;> simp at e; exact Or.inr (Or.inr (Or.inr ⟨by assumption, e.symm⟩))
  · rintro (⟨a, rfl⟩ | ⟨a, rfl⟩ | ⟨a, rfl⟩ | ⟨a, rfl⟩)
    · exact ⟨0, by simp, by simp only [nb4]; rw [if_pos a]⟩
    · exact ⟨1, by simp, by simp only [nb4]; rw [if_pos a]⟩
    · exact ⟨2, by simp, by simp only [nb4]; rw [if_pos a]⟩
    · exact ⟨3, by simp, by simp only [nb4]; rw [if_pos a]⟩
theorem dP_bd {R C : Nat} {h : Nat → Nat → Int} (h0 : ∀ i k, i < R → k < C → 0 ≤ h i k) (h1 : ∀ i k, i < R → k < C → h i k ≤ 1000) {L : List (Nat × Nat)} (hL : L <+: plAll R C) : ∀ x ∈ dP R C h L, 0 ≤ x ∧ x ≤ 1000 := by
  intro x hx
  unfold dP at hx
  obtain ⟨p, hp, hm⟩ := List.mem_flatMap.1 hx
  obtain ⟨q, hq, rfl⟩ := List.mem_map.1 hm
  obtain ⟨a, b⟩ := mem_plAll.1 (hL.subset hp)
  obtain ⟨c, d⟩ := nb_in a b q hq
  exact absG_bd (h0 _ _ a b) (h1 _ _ a b) (h0 _ _ c d) (h1 _ _ c d)
theorem dPS {R C : Nat} (h : Nat → Nat → Int) (x : Int) : x ∈ dP R C h (plAll R C) ↔ x ∈ dS h (plAll R C) := by
  unfold dP dS
  simp only [List.mem_flatMap, List.mem_map, List.mem_append]
  constructor
  · rintro ⟨⟨i, k⟩, hp, q, hq, rfl⟩
    obtain ⟨a, b⟩ := mem_plAll.1 hp
    rcases mem_nbL.1 hq with ⟨e, rfl⟩ | ⟨e, rfl⟩ | ⟨e, rfl⟩ | ⟨e, rfl⟩
    · exact ⟨(i, k), hp, Or.inl (by unfold dU; rw [if_pos (by show 0 < i; omega)]; simp)⟩
    · exact ⟨(i, k), hp, Or.inr (by unfold dW; rw [if_pos (by show 0 < k; omega)]; simp)⟩
    · exact ⟨(i, k + 1), mem_plAll.2 ⟨a, e⟩, Or.inr (by unfold dW; rw [if_pos (by show 0 < k + 1; omega)]; simp [absG_comm])⟩
    · exact ⟨(i + 1, k), mem_plAll.2 ⟨e, b⟩, Or.inl (by unfold dU; rw [if_pos (by show 0 < i + 1; omega)]; simp [absG_comm])⟩
  · rintro ⟨⟨i, k⟩, hp, hx⟩
    rcases hx with hx | hx
    · unfold dU at hx
      split at hx
      · rename_i hi
        simp at hx
        exact ⟨(i, k), hp, (i - 1, k), mem_nbL.2 (Or.inl ⟨hi, rfl⟩), hx.symm⟩
      · cases hx
    · unfold dW at hx
      split at hx
      · rename_i hi
        simp at hx
        exact ⟨(i, k), hp, (i, k - 1), mem_nbL.2 (Or.inr (Or.inl ⟨hi, rfl⟩)), hx.symm⟩
      · cases hx
theorem PlsAt.grown {w w' : World} {v : Value} {L : List (Nat × Nat)} {row : Option Nat} (h : PlsAt w v L) (hg : w.grownBy w' row) (hn : ∀ b, v.ownBlock = some b → some b ≠ row) : PlsAt w' v L := by
  obtain ⟨a, c, h1, h2, h4⟩ := h
  refine ⟨a, c, h1, h2, ?_⟩
  rcases h4 with h4 | ⟨g, e, hg', hc⟩
  · exact Or.inl h4
  · subst e
    have hne := hn g (by rw [h1]; rfl)
    refine Or.inr ⟨g, rfl, Nat.lt_of_lt_of_le hg' hg.size, fun j hj => ⟨?_, ?_⟩⟩
    · exact (World.cell?_of_block (hg.block g hg' hne)).trans (hc j hj).1
    · exact (World.cell?_of_block (hg.block g hg' hne)).trans (hc j hj).2
end Go.Proofs.Ytagjpldfafablaa
