/-
  Rows of numbers of the law's own: marked and held.
-/
import Derived.Test.YtjgpckocmjolmaaGreatDoorInts
import Derived.ChangeAgain
namespace Go.Proofs.YtjgpckocmjolmaaGreatDoor
open Go.ChangeShapes Go.WideShapes Go.ChangeAt Go.RowKit
set_option linter.unusedVariables false
set_option linter.unusedSimpArgs false
theorem rowI_start (w : World) : (w.alloc (.cells #[] 2)).ownsRow w.heap.size 2 1 (.slice (some ⟨w.heap.size, 0, none⟩) 0 0) ([] : List Int).length (([] : List Int).map encI) :=
  ⟨rfl, Or.inr ⟨w.heap.size, 0, #[], rfl, Nat.le_refl _, heap_alloc_new _ _, Nat.le_refl 0, by unfold maxLen; omega, rfl, rfl⟩⟩
/-- a row of numbers whose first j are marks, k0 and on -/
def markI (Z : List Int) (k0 j : Nat) : List Int := (List.range j).map (fun i => ((k0 + i : Nat) : Int)) ++ Z.drop j
theorem markI_zero (Z : List Int) (k0 : Nat) : markI Z k0 0 = Z := by simp [markI]
theorem markI_len (Z : List Int) (k0 j : Nat) (h : j ≤ Z.length) : (markI Z k0 j).length = Z.length := by simp [markI]; omega
theorem markI_all (Z : List Int) (k0 : Nat) : markI Z k0 Z.length = (List.range Z.length).map (fun i => ((k0 + i : Nat) : Int)) := by simp [markI]
theorem markI_set (Z : List Int) (k0 j : Nat) (h : j < Z.length) : ((markI Z k0 j).map encI).set j (.int .i64 ((k0 + j : Nat) : Int)) = (markI Z k0 (j + 1)).map encI := by
  unfold markI
  have e : (Z.drop j) = Z[j] :: Z.drop (j + 1) := by rw [List.drop_eq_getElem_cons h]
  rw [List.map_append, List.map_append, List.set_append_right _ _ (by simp), List.range_succ, List.map_append, List.map_append, List.append_assoc]
  congr 1
  simp only [List.length_map, List.length_range, Nat.sub_self]
  rw [e, List.map_cons, List.set_cons_zero]
  rfl

theorem own_low {w : World} {B B' e size n : Nat} {v : Value} {xs : List Value} (h : w.ownsRow B e size v n xs) (hB : B' ≤ B) : w.ownsRow B' e size v n xs := by
  refine ⟨h.1, ?_⟩
  rcases h.2 with h1 | ⟨g, cap, cur, hv, hg, r⟩
  · exact Or.inl h1
  · exact Or.inr ⟨g, cap, cur, hv, Nat.le_trans hB hg, r⟩
end Go.Proofs.YtjgpckocmjolmaaGreatDoor
