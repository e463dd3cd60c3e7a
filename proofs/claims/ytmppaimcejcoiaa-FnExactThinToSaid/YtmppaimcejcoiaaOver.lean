/-
  The heights of a surface over all places of a grid.
-/
import Derived.Test.YtmppaimcejcoiaaSet
import Derived.Handy
namespace Go.Proofs.Ytmppaimcejcoiaa
open Go.ChangeShapes Go.WideShapes Go.ChangeAt Go.RowKit Go.Deep
set_option linter.unusedVariables false
set_option linter.unusedSimpArgs false
attribute [local go_sem] Oper.semAt_some
/-- a grid of R rows and C columns, set at these places, 0 elsewhere -/
def HoG (R C : Nat) (f : Nat → Nat → Int) (L : List (Nat × Nat)) (G : List (List Int)) : Prop :=
  G.length = R ∧ ∀ i (hi : i < G.length), (G[i]).length = C ∧ ∀ k (hk : k < (G[i]).length), (G[i])[k] = if (i, k) ∈ L then f i k else 0
theorem HoG.zero (R C : Nat) (f : Nat → Nat → Int) : HoG R C f [] (List.replicate R (List.replicate C 0)) := by
  refine ⟨by simp, fun i hi => ⟨by simp, fun k hk => by simp⟩⟩
theorem HoG.next {R C : Nat} {f : Nat → Nat → Int} {L : List (Nat × Nat)} {G : List (List Int)} (h : HoG R C f L G) {i k : Nat} (hi : i < G.length) : HoG R C f (L ++ [(i, k)]) (G.set i ((G[i]).set k (f i k))) := by
  refine ⟨by rw [List.length_set]; exact h.1, fun j hj => ?_⟩
  have hj' : j < G.length := by rwa [List.length_set] at hj
  obtain ⟨a, b⟩ := h.2 j hj'
  by_cases e : i = j
  · subst e
    have e1 : (G.set i ((G[i]).set k (f i k)))[i] = (G[i]).set k (f i k) := by simp
    rw [e1]
    refine ⟨by rw [List.length_set]; exact a, fun m hm => ?_⟩
    have hm' : m < (G[i]).length := by rwa [List.length_set] at hm
    by_cases e2 : k = m
    · subst e2; simp
    · rw [List.getElem_set_ne e2, b m hm']
      have : ((i, m) ∈ L ++ [(i, k)]) ↔ (i, m) ∈ L := by
        rw [List.mem_append, List.mem_singleton]
        constructor
        · rintro (x | x)
          · exact x
          · injection x with _ x; exact absurd x.symm e2
        · exact Or.inl
      simp only [this]
  · have e1 : (G.set i ((G[i]).set k (f i k)))[j] = G[j] := List.getElem_set_ne e _
    rw [e1]
    refine ⟨a, fun m hm => ?_⟩
    rw [b m hm]
    have : ((j, m) ∈ L ++ [(i, k)]) ↔ (j, m) ∈ L := by
      rw [List.mem_append, List.mem_singleton]
      constructor
      · rintro (x | x)
        · exact x
        · injection x with x _; exact absurd x.symm e
      · exact Or.inl
    simp only [this]
theorem HoG.done {R C : Nat} {f : Nat → Nat → Int} {G : List (List Int)} (h : HoG R C f (plAll R C) G) : G = (List.range R).map fun i => (List.range C).map fun k => f i k := by
  refine List.ext_getElem (by simp [h.1]) (fun i h1 h2 => ?_)
  obtain ⟨a, b⟩ := h.2 i h1
  rw [List.getElem_map, List.getElem_range]
  refine List.ext_getElem (by simp [a]) (fun k h3 h4 => ?_)
  rw [b k h3, List.getElem_map, List.getElem_range, if_pos (mem_plAll.2 ⟨by have := h.1; omega, by omega⟩)]
end Go.Proofs.Ytmppaimcejcoiaa
