/-
  The first greatest of numbers that a closure tells, and least multiples: the program's contracts.
-/
import Derived.Test.YtmhiekfnkbldeaaDoorBowMath
import Derived.Test.YtmhiekfnkbldeaaDoorUnits
import Derived.Test.YtmhiekfnkbldeaaDoorMem
import Derived.Laws.EntriesVeiled
import Derived.Shelf.RegionOpenPlain
namespace Go.Proofs.YtmhiekfnkbldeaaDoor
open Go.ChangeShapes Go.WideShapes Go.ChangeAt Go.RowKit Go.Deep
set_option linter.unusedVariables false
set_option linter.unusedSimpArgs false
set_option maxRecDepth 1000000
theorem leastTimes_any (e g : Int) (he : 1 ≤ e ∧ e ≤ 1000000000) (hg : -1000000000000000 ≤ g ∧ g ≤ 1000000000000000) (w : World) : Calls Tryd.prog 40 #[.int .i64 e, .int .i64 g] w fun r w' => r = .returned (.int .i64 (ltV e g)) ∧ w = w' := by
  have hV : Hid (ltV e g = (max 0 g + e - 1) / e) := Lib.hid rfl
  have hne : e ≠ 0 := by omega
  by_cases h : 0 ≤ g
  · have e1 : IntKind.i64.wrap (g + e) = g + e := IntWalk.i64_in _ (by omega)
    have e2 : IntKind.i64.wrap (g + e - 1) = g + e - 1 := IntWalk.i64_in _ (by omega)
    have hq : (g + e - 1).tdiv e = ltV e g := by rw [hV.out, Int.tdiv_eq_ediv_of_nonneg (by omega), show max 0 g = g by omega]
    have hb := ltV_bd (e := e) (g := g) (G := 1000000000000000) (by omega) hg.2 (by omega)
    have e3 : IntKind.i64.wrap ((g + e - 1).tdiv e) = ltV e g := by rw [hq]; exact IntWalk.i64_in _ (by omega)
    go_enter Tryd.func40, Tryd.ntmps40
    go_wp2
    all_goals go_ret
    all_goals exact ⟨ret_int (by first | (rw [hV.out, show max 0 g = g by omega]; done) | (rw [hV.out, show max 0 g + e - 1 = e - 1 by omega]; done)), rfl⟩
  · have e2 : IntKind.i64.wrap (0 + e) = e := by rw [Int.zero_add]; exact IntWalk.i64_in _ (by omega)
    have e4 : IntKind.i64.wrap (e - 1) = e - 1 := IntWalk.i64_in _ (by omega)
    have hq : (e - 1).tdiv e = ltV e g := by rw [hV.out, Int.tdiv_eq_ediv_of_nonneg (by omega), show max 0 g = 0 by omega, Int.zero_add]
    have hb := ltV_bd (e := e) (g := g) (G := 1000000000000000) (by omega) hg.2 (by omega)
    have e3 : IntKind.i64.wrap ((e - 1).tdiv e) = ltV e g := by rw [hq]; exact IntWalk.i64_in _ (by omega)
    go_enter Tryd.func40, Tryd.ntmps40
    go_wp2
    go_ret
    exact ⟨ret_int (by rw [hV.out, show max 0 g = 0 by omega, Int.zero_add]), rfl⟩
end Go.Proofs.YtmhiekfnkbldeaaDoor
