/-
  What stands around a place: the model.
-/
import Derived.Test.YtagjpldfafablaaStp
import Derived.Test.YtagjpldfafablaaEdge8
import Derived.Deep.CutRange
namespace Go.Proofs.Ytagjpldfafablaa
open Go.ChangeShapes Go.WideShapes Go.ChangeAt Go.RowKit Go.Deep
set_option linter.unusedVariables false
set_option linter.unusedSimpArgs false
def aro4 (R C : Nat) (h : Nat → Nat → Int) (i k : Nat) : Nat → List Int
  | 0 => if 0 < i then [h (i - 1) k] else []
  | 1 => if i + 1 < R then [h (i + 1) k] else []
  | 2 => if 0 < k then [h i (k - 1)] else []
  | 3 => if k + 1 < C then [h i (k + 1)] else []
  | _ => []
/-- what stands around a place, the first j ways -/
def aroT (R C : Nat) (h : Nat → Nat → Int) (i k j : Nat) : List Int := (List.range j).flatMap (aro4 R C h i k)
def aroL (R C : Nat) (h : Nat → Nat → Int) (i k : Nat) : List Int := aroT R C h i k 4
theorem aroT_next (R C : Nat) (h : Nat → Nat → Int) (i k j : Nat) : aroT R C h i k (j + 1) = aroT R C h i k j ++ aro4 R C h i k j := by
  unfold aroT; rw [List.range_succ, List.flatMap_append]; simp
theorem aro_mem {R C : Nat} {h : Nat → Nat → Int} {i k : Nat} (z : Int) : z ∈ aroL R C h i k ↔ ∃ q ∈ nbL R C i k, h q.1 q.2 = z := by
  have e : aroL R C h i k = (((aro4 R C h i k 0 ++ aro4 R C h i k 1) ++ aro4 R C h i k 2) ++ aro4 R C h i k 3) := by
    unfold aroL
    rw [aroT_next, aroT_next, aroT_next, aroT_next]
    simp [aroT]
  rw [e]
  simp only [List.mem_append, aro4]
  constructor
  · rintro (((hz | hz) | hz) | hz) <;> split at hz <;> simp at hz <;> subst hz
    · exact ⟨(i - 1, k), mem_nbL.2 (Or.inl ⟨by omega, rfl⟩), rfl⟩
    · exact ⟨(i + 1, k), mem_nbL.2 (Or.inr (Or.inr (Or.inr ⟨by omega, rfl⟩))), rfl⟩
    · exact ⟨(i, k - 1), mem_nbL.2 (Or.inr (Or.inl ⟨by omega, rfl⟩)), rfl⟩
    · exact ⟨(i, k + 1), mem_nbL.2 (Or.inr (Or.inr (Or.inl ⟨by omega, rfl⟩))), rfl⟩
  · rintro ⟨q, hq, rfl⟩
    rcases mem_nbL.1 hq with ⟨a, rfl⟩ | ⟨a, rfl⟩ | ⟨a, rfl⟩ | ⟨a, rfl⟩
    · exact Or.inl (Or.inl (Or.inl (by rw [if_pos (by omega)]; simp)))
    · exact Or.inl (Or.inr (by rw [if_pos (by omega)]; simp))
    · exact Or.inr (by rw [if_pos a]; simp)
    · exact Or.inl (Or.inl (Or.inr (by rw [if_pos a]; simp)))
theorem aro4_len (R C : Nat) (h : Nat → Nat → Int) (i k j : Nat) : (aro4 R C h i k j).length ≤ 1 := by
  unfold aro4; split <;> (try split) <;> simp
theorem aroT_len (R C : Nat) (h : Nat → Nat → Int) (i k : Nat) : ∀ j, (aroT R C h i k j).length ≤ j
  | 0 => by simp [aroT]
  | j + 1 => by rw [aroT_next, List.length_append]; have := aroT_len R C h i k j; have := aro4_len R C h i k j; omega
theorem infoI1 : (Try.prog.info? 2).map (fun i => (i.zero, i.size, i.bytes)) = some (some (.int .i64 0), 1, 8) := by kernel_rfl
end Go.Proofs.Ytagjpldfafablaa
