/-
  DERIVED. GIVEN WITH THE SEED: THE CARDS: each row of YtdelfgijlhjmoaaDoorRows.lean that lists a variable, with what it lists TIED to the program's text (the seventh form; the later family's looks); each row that meets fmt, with fmt's text TOLD by the authors' own Lean function (tested against real Go, not proved from fmt's source: count such statements apart). THE CARD IS WHAT COUNTS. Prove the row's statement (the work); the ties are given (YtdelfgijlhjmoaaDoorTie.lean); close each card by the builder's one call (the guide's Derived/Test/ToyasCard.lean, 'card_holds'). Laid BY PROGRAM, IN A SANDBOX (cutbox-door.mjs). By AI agents, Wed Nov 11 2026. No macro, syntax, notation, axiom, sorry.
-/
import Derived.Test.YtdelfgijlhjmoaaDoorRows
import GoSem.ClaimSeven
namespace Go.Proofs.YtdelfgijlhjmoaaDoor
namespace Rows

/-- THE TIED CARD OF 'laws.FnExactSafeHumidity'. -/
def fnExactSafeHumidityCard : Claim7 := { stood := { row := fnExactSafeHumidityRow, standIns := [], harness := (true, "8fe21a0cd40d6014539f4a830eaca5e3e29f3173ab4d37392c60aea072a8c958"), looks := false }, kinds := [], alts := [], laidByText := true, laidKinds := [.data], laidTests := true, laidLooks := .later }
def FnExactSafeHumidityCardSaid : Prop := Claim7.holds Tryd.pinned (.plain (OpenSpec.ofChange fnExactSafeHumiditySpec)) fnExactSafeHumidityCard

/-- THE SECOND FORM's CARD OF 'laws.FnExactSafeHumidity'. -/
def fnExactSafeHumidityUptoCard : Claim7 := { stood := { row := fnExactSafeHumidityUptoRow, standIns := [], harness := (true, "8fe21a0cd40d6014539f4a830eaca5e3e29f3173ab4d37392c60aea072a8c958"), looks := false }, kinds := [], alts := [], laidByText := true, laidKinds := [.data], laidTests := true, laidLooks := .later }
def FnExactSafeHumidityUptoCardSaid : Prop := Claim7.holds Tryd.pinned (.plain (OpenSpec.upto fnExactSafeHumiditySpec)) fnExactSafeHumidityUptoCard
end Rows
end Go.Proofs.YtdelfgijlhjmoaaDoor
