/-
  Contracts of DateOf and DayNumber, of the model and of the program.
-/
import Derived.Test.YtmknafkngggfjaaGreatDoorDate
import Derived.Test.YtmknafkngggfjaaGreatDoorDateOf
import Derived.Deep.RegionHeld3
namespace Go.Proofs.YtmknafkngggfjaaGreatDoor
open Go.ChangeShapes Go.WideShapes Go.ChangeAt Go.RowKit
set_option linter.unusedVariables false
set_option linter.unusedSimpArgs false
theorem ret_ib {a b : Int} {c d : Bool} (h1 : a = b) (h2 : c = d) : Ending.returned (.tuple #[.int .i64 a, .bool c]) = .returned (.tuple #[.int .i64 b, .bool d]) := by rw [h1, h2]
/-- is this a date? and its day, else 0 -/
def numV (y m d : Int) : Int := pick (dateB y m d) (numD y m d)
theorem dateB_split (y m d : Int) : dateB y m d = (inB y 2000 2099 && inB m 1 12 && inB d 1 (mlen y m)) := by
  unfold dateB inB; simp only [Bool.and_assoc]
end Go.Proofs.YtmknafkngggfjaaGreatDoor
