/-
  Contracts of ReadList: the model's; the law's marks on rows of numbers.
-/
import Derived.Test.YtcdpkbcpglaiaaaGreatDoorRead
import Derived.Test.YtcdpkbcpglaiaaaGreatDoorIntRow
import Derived.Test.YtcdpkbcpglaiaaaGreatDoorCutMath
namespace Go.Proofs.YtcdpkbcpglaiaaaGreatDoor
open Go.ChangeShapes Go.WideShapes Go.ChangeAt Go.RowKit
set_option linter.unusedVariables false
set_option linter.unusedSimpArgs false
/-- a row of numbers and true, or no row and false -/
def LRet (o : Option (List Int)) (w : World) (e : Ending) (w' : World) : Prop :=
  match o with
  | none => e = .returned (.tuple #[.slice none 0 0, .bool false]) ∧ Below w.heap.size w w'
  | some Z => ∃ v, e = .returned (.tuple #[v, .bool true]) ∧ w'.ownsRow w.heap.size 2 1 v Z.length (Z.map encI) ∧ Below w.heap.size w w'
theorem is_dash (s : ByteArray) (h : s.data.toList = [45]) : s = ⟨#[45]⟩ := bytes_of s _ h
theorem no_dash (s : ByteArray) (h : s.data.toList ≠ [45]) : (s.toList == [45]) = false := by
  rw [ByteArray.toList_eq, beq_eq_false_iff_ne]; exact h

end Go.Proofs.YtcdpkbcpglaiaaaGreatDoor
