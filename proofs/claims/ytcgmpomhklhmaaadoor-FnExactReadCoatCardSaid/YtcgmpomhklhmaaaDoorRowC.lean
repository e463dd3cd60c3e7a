/-
  A row of numbers of the call's own, with a code behind it or alone.
-/
import Derived.Test.YtcgmpomhklhmaaaDoorIntRow
import Derived.Test.YtcgmpomhklhmaaaDoorUnits
namespace Go.Proofs.YtcgmpomhklhmaaaDoor
open Go.ChangeShapes Go.WideShapes Go.ChangeAt Go.RowKit
set_option linter.unusedVariables false
set_option linter.unusedSimpArgs false
/-- a row of numbers and a code -/
def RowC (L : List Int) (c : Int) (w : World) (e : Ending) (w' : World) : Prop := ∃ v, e = .returned (.tuple #[v, .int .i64 c]) ∧ w'.ownsRow w.heap.size 2 1 v L.length (L.map encI) ∧ Below w.heap.size w w'
theorem rowC_nil {c c' : Int} {L : List Int} {w w' : World} (hL : L = []) (hc : c = c') (hb : Below w.heap.size w w') : RowC L c w (.returned (.tuple #[.slice none 0 0, .int .i64 c'])) w' := by
  subst hL hc; exact ⟨_, rfl, World.ownsRow_nil _ _ _ _, hb⟩
theorem rowC_mk {c c' : Int} {L L' : List Int} {v : Value} {w w' : World} {B : Nat} (hL : L = L') (hc : c = c') (hB : w.heap.size ≤ B) (ho : w'.ownsRow B 2 1 v L'.length (L'.map encI)) (hb : Below w.heap.size w w') : RowC L c w (.returned (.tuple #[v, .int .i64 c'])) w' := by
  subst hL hc; exact ⟨_, rfl, own_low ho hB, hb⟩
/-- a row of numbers alone -/
def RowN (L : List Int) (w : World) (e : Ending) (w' : World) : Prop := ∃ v, e = .returned v ∧ w'.ownsRow w.heap.size 2 1 v L.length (L.map encI) ∧ Below w.heap.size w w'
theorem rowN_mk {L L' : List Int} {v : Value} {w w' : World} {B : Nat} (hL : L = L') (hB : w.heap.size ≤ B) (ho : w'.ownsRow B 2 1 v L'.length (L'.map encI)) (hb : Below w.heap.size w w') : RowN L w (.returned v) w' := by
  subst hL; exact ⟨_, rfl, own_low ho hB, hb⟩
end Go.Proofs.YtcgmpomhklhmaaaDoor
