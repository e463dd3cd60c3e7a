/-
  Contracts of inches, pieces and weekdays, and what a choice hands back.
-/
import Derived.Test.YtmppaimcejcoiaaCore
namespace Go.Proofs.Ytmppaimcejcoiaa
open Go.ChangeShapes Go.WideShapes Go.ChangeAt Go.RowKit
set_option linter.unusedVariables false
set_option linter.unusedSimpArgs false
/-- the number where the test says yes, else 0 (not reducible: the walk leaves it alone) -/
def pick (b : Bool) (n : Int) : Int := if b = true then n else 0
/-- OK where the test says yes, else the code c -/
def code (b : Bool) (c : Int) : Int := if b = true then 0 else c
theorem pick_t {b : Bool} (h : b = true) (n : Int) : pick b n = n := by unfold pick; rw [if_pos h]
theorem pick_f {b : Bool} (h : b = false) (n : Int) : pick b n = 0 := by unfold pick; rw [h]; rfl
theorem code_t {b : Bool} (h : b = true) (c : Int) : code b c = 0 := by unfold code; rw [if_pos h]
theorem code_f {b : Bool} (h : b = false) (c : Int) : code b c = c := by unfold code; rw [h]; rfl
theorem ret_int2 {a b c d : Int} (h1 : a = c) (h2 : b = d) : Ending.returned (.tuple #[.int .i64 a, .int .i64 b]) = .returned (.tuple #[.int .i64 c, .int .i64 d]) := by rw [h1, h2]
theorem ret_int4 {a b c d a' b' c' d' : Int} (h1 : a = a') (h2 : b = b') (h3 : c = c') (h4 : d = d') : Ending.returned (.tuple #[.int .i64 a, .int .i64 b, .int .i64 c, .int .i64 d]) = .returned (.tuple #[.int .i64 a', .int .i64 b', .int .i64 c', .int .i64 d']) := by rw [h1, h2, h3, h4]
end Go.Proofs.Ytmppaimcejcoiaa
