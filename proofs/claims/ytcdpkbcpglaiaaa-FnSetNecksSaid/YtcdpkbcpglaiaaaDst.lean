/-
  Distances of numbers, on both sides.
-/
import Derived.Test.YtcdpkbcpglaiaaaCore2
import Derived.Deep.RegionHeld3
import Derived.Test.YtcdpkbcpglaiaaaMem
import Derived.Deep.LoopGhost
import Derived.Deep.Draws
import Derived.Below
namespace Go.Proofs.Ytcdpkbcpglaiaaa
open Go.ChangeShapes Go.WideShapes Go.ChangeAt Go.RowKit Go.Deep
set_option linter.unusedVariables false
set_option linter.unusedSimpArgs false
def absG (p q : Int) : Int := if q < p then p - q else q - p
theorem distG (p q : Int) (h0 : -1000000 ≤ p) (h1 : p ≤ 1000000) (h2 : -1000000 ≤ q) (h3 : q ≤ 1000000) (w : World) : Calls Try.prog 25 #[.int .i64 p, .int .i64 q] w fun e w' => e = .returned (.int .i64 (absG p q)) ∧ w = w' := by
  by_cases h : q ≤ p
  all_goals
    go_enter Try.func25, Try.ntmps25
    go_wp2
    go_ret
    exact ⟨ret_int (by unfold absG; split <;> omega), rfl⟩
def maxG (p q : Int) : Int := if q < p then p else q
theorem absG_sub (a b : Int) : absG (a - b) 0 = absG a b := by unfold absG; split <;> split <;> omega
theorem absG_comm (a b : Int) : absG a b = absG b a := by unfold absG; split <;> split <;> omega
theorem absG_bnd {p q : Int} {M : Int} (h0 : 0 ≤ p) (h1 : p ≤ M) (h2 : 0 ≤ q) (h3 : q ≤ M) : 0 ≤ absG p q ∧ absG p q ≤ M := by unfold absG; split <;> omega
end Go.Proofs.Ytcdpkbcpglaiaaa
