/-
  DERIVED. GIVEN WITH THE SEED: THE CARDS: each row of YtolcmmjbdgmnaaaDoorRows.lean that lists a variable, with what it lists TIED to the program's text (the seventh form; the later family's looks); each row that meets fmt, with fmt's text TOLD by the authors' own Lean function (tested against real Go, not proved from fmt's source: count such statements apart). THE CARD IS WHAT COUNTS. Prove the row's statement (the work); the ties are given (YtolcmmjbdgmnaaaDoorTie.lean); close each card by the builder's one call (the guide's Derived/Test/ToyasCard.lean, 'card_holds'). Laid BY PROGRAM, IN A SANDBOX (cutbox-door.mjs). By AI agents, Wed Nov 11 2026. No macro, syntax, notation, axiom, sorry.
-/
import Derived.Test.YtolcmmjbdgmnaaaDoorRows
import GoSem.ClaimSeven
namespace Go.Proofs.YtolcmmjbdgmnaaaDoor
namespace Rows

/-- THE TIED CARD OF 'laws.FnDates'. -/
def fnDatesCard : Claim7 := { stood := { row := fnDatesRow, standIns := [], harness := (true, "35b5fe313a440119958a3d910e706591ff705665187728fcf79434711f99e9cb"), looks := true }, kinds := [], alts := [], laidByText := true, laidKinds := [.data, .data, .data, .data, .sentinel, .sentinel, .pinned], laidTests := true, laidLooks := .later }
def FnDatesCardSaid : Prop := Claim7.holds Tryd.pinned (.plain (OpenSpec.ofChange fnDatesSpec)) fnDatesCard

/-- THE TIED CARD OF 'laws.FnExactReadyStacks'. -/
def fnExactReadyStacksCard : Claim7 := { stood := { row := fnExactReadyStacksRow, standIns := [], harness := (true, "35b5fe313a440119958a3d910e706591ff705665187728fcf79434711f99e9cb"), looks := true }, kinds := [], alts := [], laidByText := true, laidKinds := [.data], laidTests := true, laidLooks := .later }
def FnExactReadyStacksCardSaid : Prop := Claim7.holds Tryd.pinned (.plain (OpenSpec.ofChange fnExactReadyStacksSpec)) fnExactReadyStacksCard

/-- THE SECOND FORM's CARD OF 'laws.FnDates'. -/
def fnDatesUptoCard : Claim7 := { stood := { row := fnDatesUptoRow, standIns := [], harness := (true, "35b5fe313a440119958a3d910e706591ff705665187728fcf79434711f99e9cb"), looks := true }, kinds := [], alts := [], laidByText := true, laidKinds := [.data, .data, .data, .data, .sentinel, .sentinel, .pinned], laidTests := true, laidLooks := .later }
def FnDatesUptoCardSaid : Prop := Claim7.holds Tryd.pinned (.plain (OpenSpec.upto fnDatesSpec)) fnDatesUptoCard

/-- THE SECOND FORM's CARD OF 'laws.FnExactReadyStacks'. -/
def fnExactReadyStacksUptoCard : Claim7 := { stood := { row := fnExactReadyStacksUptoRow, standIns := [], harness := (true, "35b5fe313a440119958a3d910e706591ff705665187728fcf79434711f99e9cb"), looks := true }, kinds := [], alts := [], laidByText := true, laidKinds := [.data], laidTests := true, laidLooks := .later }
def FnExactReadyStacksUptoCardSaid : Prop := Claim7.holds Tryd.pinned (.plain (OpenSpec.upto fnExactReadyStacksSpec)) fnExactReadyStacksUptoCard
end Rows
end Go.Proofs.YtolcmmjbdgmnaaaDoor
