/-
  Contracts of ReadList: the model's; the law's marks on rows of numbers.
-/
import Derived.Test.YtnenccfmopjcjaaGreatDoorRead
import Derived.Test.YtnenccfmopjcjaaGreatDoorIntRow
import Derived.Test.YtnenccfmopjcjaaGreatDoorCutMath
namespace Go.Proofs.YtnenccfmopjcjaaGreatDoor
open Go.ChangeShapes Go.WideShapes Go.ChangeAt Go.RowKit
set_option linter.unusedVariables false
set_option linter.unusedSimpArgs false
theorem rl_l00InV (n : Int) (w : World) : Calls Tryz.prog 42 #[.int .i64 n, .int .i64 (-1000000000000), .int .i64 1000000000000] w fun e w' => e = .returned (.bool (inV n)) ∧ w = w' := l00In_any _ _ _ _
/-- a row of numbers and true, or no row and false -/
def LRet (o : Option (List Int)) (w : World) (e : Ending) (w' : World) : Prop :=
  match o with
  | none => e = .returned (.tuple #[.slice none 0 0, .bool false]) ∧ Below w.heap.size w w'
  | some Z => ∃ v, e = .returned (.tuple #[v, .bool true]) ∧ w'.ownsRow w.heap.size 2 1 v Z.length (Z.map encI) ∧ Below w.heap.size w w'
theorem is_dash (s : ByteArray) (h : s.data.toList = [45]) : s = ⟨#[45]⟩ := bytes_of s _ h
theorem no_dash (s : ByteArray) (h : s.data.toList ≠ [45]) : (s.toList == [45]) = false := by
  rw [ByteArray.toList_eq, beq_eq_false_iff_ne]; exact h

end Go.Proofs.YtnenccfmopjcjaaGreatDoor
