/-
  Contracts of ListText: the program's, over the library's Join.
-/
import Derived.Test.YtfcdhjbnlokinaaDoorList
import Derived.Test.YtfcdhjbnlokinaaDoorTabs
namespace Go.Proofs.YtfcdhjbnlokinaaDoor
open Go.ChangeShapes Go.WideShapes Go.ChangeAt Go.RowKit Go.Sort
set_option linter.unusedVariables false
set_option linter.unusedSimpArgs false
theorem isValueV (n : Int) (w : World) : Calls Tryd.prog 41 #[.int .i64 n] w fun e w' => e = .returned (.bool (inV n)) ∧ w = w' := isValue_any _ _
/-- a new row of texts, k of which are laid -/
def fillS (L : List ByteArray) (k : Nat) : List Value := (L.take k).map Value.string ++ List.replicate (L.length - k) (.string ⟨#[]⟩)
theorem fillS_zero (L : List ByteArray) : fillS L 0 = List.replicate L.length (.string ⟨#[]⟩) := by simp [fillS]
theorem fillS_all (L : List ByteArray) : fillS L L.length = L.map Value.string := by simp [fillS]
theorem fillS_len (L : List ByteArray) (k : Nat) (h : k ≤ L.length) : (fillS L k).length = L.length := by simp [fillS]; omega
theorem fillS_set (L : List ByteArray) (k : Nat) (h : k < L.length) : (fillS L k).set k (.string L[k]) = fillS L (k + 1) := by
  unfold fillS
  have e : List.replicate (L.length - k) (Value.string ⟨#[]⟩) = Value.string ⟨#[]⟩ :: List.replicate (L.length - (k + 1)) (.string ⟨#[]⟩) := by
    rw [show L.length - k = (L.length - (k + 1)) + 1 by omega, List.replicate_succ]
  have hl : ((L.take k).map Value.string).length = k := by simp; omega
  rw [e, List.set_append_right _ _ (by rw [hl]; exact Nat.le_refl _), hl, Nat.sub_self, List.set_cons_zero, List.take_succ_eq_append_getElem h, List.map_append, List.append_assoc]
  rfl
def decs (Z : List Int) : List ByteArray := Z.map fun n => ⟨(Lib.itoa n).toArray⟩
theorem decs_len (Z : List Int) : (decs Z).length = Z.length := by simp [decs]
theorem decs_at (Z : List Int) (k : Nat) (h : k < Z.length) : (decs Z)[k]'(by rw [decs_len]; exact h) = ⟨(Lib.itoa Z[k]).toArray⟩ := by simp [decs]
theorem decs_data (Z : List Int) : (decs Z).map (·.data.toList) = Z.map Lib.itoa := by
  unfold decs; rw [List.map_map]; apply List.map_congr_left; intro n _; rfl

end Go.Proofs.YtfcdhjbnlokinaaDoor
