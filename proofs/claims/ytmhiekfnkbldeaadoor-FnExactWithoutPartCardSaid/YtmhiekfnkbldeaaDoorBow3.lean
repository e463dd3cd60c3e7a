/-
  Bows: inertia, the heaviest part.
-/
import Derived.Test.YtmhiekfnkbldeaaDoorBow2
namespace Go.Proofs.YtmhiekfnkbldeaaDoor
open Go.ChangeShapes Go.WideShapes Go.ChangeAt Go.RowKit Go.Deep
set_option linter.unusedVariables false
set_option linter.unusedSimpArgs false
set_option maxRecDepth 1000000
theorem codeOfParts_any (ok : Bool) (v : Value) (Z : List Prt) (w : World) (hn : Z.length ≤ 1048576) (hv : PrtsAt w v Z) : Calls Tryd.prog 24 #[v, .bool ok] w fun e w' => e = .returned (.int .i64 (cd3 (bowB Z) ok 0)) ∧ Below w.heap.size w w' := by
  have cV := implValidBow_any v Z w hn hv
  cases h1 : bowB Z <;> rw [h1] at cV <;> replace cV := Lib.hid cV
  · go_enter Tryd.func24, Tryd.ntmps24
    go_wp2_with (go_at_call 32; (with_reducible refine cV.out.mono ?_); rintro e w1 ⟨rfl, b1⟩)
    go_ret
    exact ⟨ret_int rfl, b1⟩
  · cases ok
    all_goals
      go_enter Tryd.func24, Tryd.ntmps24
      go_wp2_with (go_at_call 32; (with_reducible refine cV.out.mono ?_); rintro e w1 ⟨rfl, b1⟩)
      go_ret
      exact ⟨ret_int rfl, b1⟩
end Go.Proofs.YtmhiekfnkbldeaaDoor
