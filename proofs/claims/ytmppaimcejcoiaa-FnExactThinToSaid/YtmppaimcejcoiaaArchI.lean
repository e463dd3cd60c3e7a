/-
  Grids: the program's validity.
-/
import Derived.Test.YtmppaimcejcoiaaArch
import Derived.FnLit
namespace Go.Proofs.Ytmppaimcejcoiaa
open Go.ChangeShapes Go.WideShapes Go.ChangeAt Go.RowKit Go.Deep
set_option linter.unusedVariables false
set_option linter.unusedSimpArgs false
theorem okG_rows0 {G : List (List Int)} (h : inB (G.length : Int) 1 10 = false) : okG G = false := by
  unfold okG
  have : (decide (0 < G.length) && decide (G.length ≤ 10)) = false := by
    simp only [inB, Bool.and_eq_false_iff, decide_eq_false_iff_not] at h ⊢
    omega
  rw [this, Bool.and_false]
theorem okG_cols0 {G : List (List Int)} (hG : 0 < G.length) (h : inB (colsG G : Int) 1 10 = false) : okG G = false := by
  refine okG_no (all_not hG ?_)
  have hc := colsG_get hG
  unfold rowOk
  rw [← hc]
  simp only [inB, Bool.and_eq_false_iff, decide_eq_false_iff_not] at h ⊢
  right
  omega
end Go.Proofs.Ytmppaimcejcoiaa
