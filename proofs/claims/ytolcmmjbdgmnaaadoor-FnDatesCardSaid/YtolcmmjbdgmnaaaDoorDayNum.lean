/-
  Contracts of DateOf and DayNumber, of the model and of the program.
-/
import Derived.Test.YtolcmmjbdgmnaaaDoorDate
import Derived.Test.YtolcmmjbdgmnaaaDoorDateOf
import Derived.Deep.RegionHeld3
namespace Go.Proofs.YtolcmmjbdgmnaaaDoor
open Go.ChangeShapes Go.WideShapes Go.ChangeAt Go.RowKit
set_option linter.unusedVariables false
set_option linter.unusedSimpArgs false
theorem ret_ib {a b : Int} {c d : Bool} (h1 : a = b) (h2 : c = d) : Ending.returned (.tuple #[.int .i64 a, .bool c]) = .returned (.tuple #[.int .i64 b, .bool d]) := by rw [h1, h2]
theorem implDateOf_any (n : Int) (w : World) : Calls Tryd.prog 7 #[.int .i64 n] w fun e w' => e = .returned (.tuple #[.int .i64 (pick (inB n 0 36524) (dateN n).1), .int .i64 (pick (inB n 0 36524) (dateN n).2.1), .int .i64 (pick (inB n 0 36524) (dateN n).2.2), .int .i64 (code (inB n 0 36524) 2)]) ∧ Below w.heap.size w w' := by
  cases h : inB n 0 36524
  · go_enter Tryd.func7, Tryd.ntmps7
    go_wp2_with (go_at_call 26; refine (isDay_any _ _).mono ?_; rintro e w' ⟨rfl, rfl⟩)
    exact bodyPost_ret (v := .tuple #[.int .i64 0, .int .i64 0, .int .i64 0, .int .i64 2]) (by simp [results, Tryd.results7, go_sem]) rfl ⟨ret_int4 rfl rfl rfl rfl, Below.refl _ _⟩
  · have hb := inB_iff.1 h
    go_enter Tryd.func7, Tryd.ntmps7
    go_wp2_with (first
      | (go_at_call 26; refine (isDay_any _ _).mono ?_; rintro e w' ⟨rfl, rfl⟩)
      | (go_at_call 27; refine (dateOf_any _ hb.1 hb.2 _).mono ?_; rintro e w1 ⟨rfl, b1⟩))
    go_quiet (fail)
    go_wp2
    exact bodyPost_ret (v := .tuple #[.int .i64 (dateN n).1, .int .i64 (dateN n).2.1, .int .i64 (dateN n).2.2, .int .i64 0]) (by simp [results, Tryd.results7, go_sem]) rfl ⟨ret_int4 rfl rfl rfl rfl, belowN (b1.alloc b1.size _) _⟩
/-- is this a date? and its day, else 0 -/
def numV (y m d : Int) : Int := pick (dateB y m d) (numD y m d)
theorem dateB_split (y m d : Int) : dateB y m d = (inB y 2000 2099 && inB m 1 12 && inB d 1 (mlen y m)) := by
  unfold dateB inB; simp only [Bool.and_assoc]
end Go.Proofs.YtolcmmjbdgmnaaaDoor
