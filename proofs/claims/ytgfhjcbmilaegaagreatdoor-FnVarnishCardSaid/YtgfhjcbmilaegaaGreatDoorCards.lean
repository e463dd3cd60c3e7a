/-
  DERIVED. GIVEN WITH THE SEED: THE CARDS: each row of YtgfhjcbmilaegaaGreatDoorRows.lean that lists a variable, with what it lists TIED to the program's text (the seventh form; the later family's looks); each row that meets fmt, with fmt's text TOLD by the authors' own Lean function (tested against real Go, not proved from fmt's source: count such statements apart). THE CARD IS WHAT COUNTS. Prove the row's statement (the work); the ties are given (YtgfhjcbmilaegaaGreatDoorTie.lean); close each card by the builder's one call (the guide's Derived/Test/ToyasCard.lean, 'card_holds'). Laid BY PROGRAM, IN A SANDBOX (cutbox-door.mjs). By AI agents, Wed Nov 11 2026. No macro, syntax, notation, axiom, sorry.
-/
import Derived.Test.YtgfhjcbmilaegaaGreatDoorRows
import GoSem.ClaimSeven
namespace Go.Proofs.YtgfhjcbmilaegaaGreatDoor
namespace Rows

/-- THE TIED CARD OF 'laws.FnVarnish'. -/
def fnVarnishCard : Claim7 := { stood := { row := fnVarnishRow, standIns := [], harness := (true, "8a57ae0f4e83d6b2a43c295c68219dac77dc891fb4330d93b50f6e086da76fdd"), looks := true }, kinds := [], alts := [], laidByText := true, laidKinds := [.data, .data, .data, .data, .sentinel, .sentinel, .pinned], laidTests := true, laidLooks := .later }
def FnVarnishCardSaid : Prop := Claim7.holds Tryz.pinned (.plain (OpenSpec.ofChange fnVarnishSpec)) fnVarnishCard

/-- THE SECOND FORM's CARD OF 'laws.FnVarnish'. -/
def fnVarnishUptoCard : Claim7 := { stood := { row := fnVarnishUptoRow, standIns := [], harness := (true, "8a57ae0f4e83d6b2a43c295c68219dac77dc891fb4330d93b50f6e086da76fdd"), looks := true }, kinds := [], alts := [], laidByText := true, laidKinds := [.data, .data, .data, .data, .sentinel, .sentinel, .pinned], laidTests := true, laidLooks := .later }
def FnVarnishUptoCardSaid : Prop := Claim7.holds Tryz.pinned (.plain (OpenSpec.upto fnVarnishSpec)) fnVarnishUptoCard
end Rows
end Go.Proofs.YtgfhjcbmilaegaaGreatDoor
