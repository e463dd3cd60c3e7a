/-
  Contracts of IsName, of the model and of the program, and of the tests on bytes.
-/
import Derived.Test.YtcioknobeacblaaCore
import Derived.Test.YtcioknobeacblaaBytes
namespace Go.Proofs.Ytcioknobeacblaa
open Go.ChangeShapes Go.WideShapes Go.ChangeAt Go.RowKit
set_option linter.unusedVariables false
set_option linter.unusedSimpArgs false

theorem empty_yes (s : ByteArray) (h : s.size = 0) : s.toList.isEmpty = true := by
  rw [ByteArray.toList_eq, List.isEmpty_iff_length_eq_zero]; exact h
theorem empty_no (s : ByteArray) (h : ¬ s.size = 0) : s.toList.isEmpty = false := by
  rw [ByteArray.toList_eq]
  cases e : s.data.toList with
  | nil => exact absurd (by rw [← len_data, e]; rfl) h
  | cons a l => rfl

end Go.Proofs.Ytcioknobeacblaa
