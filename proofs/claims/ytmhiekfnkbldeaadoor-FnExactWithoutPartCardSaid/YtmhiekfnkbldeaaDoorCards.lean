/-
  DERIVED. GIVEN WITH THE SEED: THE CARDS: each row of YtmhiekfnkbldeaaDoorRows.lean that lists a variable, with what it lists TIED to the program's text (the seventh form; the later family's looks); each row that meets fmt, with fmt's text TOLD by the authors' own Lean function (tested against real Go, not proved from fmt's source: count such statements apart). THE CARD IS WHAT COUNTS. Prove the row's statement (the work); the ties are given (YtmhiekfnkbldeaaDoorTie.lean); close each card by the builder's one call (the guide's Derived/Test/ToyasCard.lean, 'card_holds'). Laid BY PROGRAM, IN A SANDBOX (cutbox-door.mjs). By AI agents, Wed Nov 11 2026. No macro, syntax, notation, axiom, sorry.
-/
import Derived.Test.YtmhiekfnkbldeaaDoorRows
import GoSem.ClaimSeven
namespace Go.Proofs.YtmhiekfnkbldeaaDoor
namespace Rows

/-- THE TIED CARD OF 'laws.FnExactAddedMass'. -/
def fnExactAddedMassCard : Claim7 := { stood := { row := fnExactAddedMassRow, standIns := [], harness := (true, "cdbefe9cad744be5019173d21010e71237d396fecbd58bf97cb594b1f1dc70a7"), looks := true }, kinds := [], alts := [], laidByText := true, laidKinds := [.sentinel, .sentinel, .sentinel], laidTests := true, laidLooks := .later }
def FnExactAddedMassCardSaid : Prop := Claim7.holds Tryd.pinned (.plain (OpenSpec.ofChange fnExactAddedMassSpec)) fnExactAddedMassCard

/-- THE TIED CARD OF 'laws.FnExactMovedPart'. -/
def fnExactMovedPartCard : Claim7 := { stood := { row := fnExactMovedPartRow, standIns := [], harness := (true, "cdbefe9cad744be5019173d21010e71237d396fecbd58bf97cb594b1f1dc70a7"), looks := true }, kinds := [], alts := [], laidByText := true, laidKinds := [.sentinel, .sentinel, .sentinel, .sentinel], laidTests := true, laidLooks := .later }
def FnExactMovedPartCardSaid : Prop := Claim7.holds Tryd.pinned (.plain (OpenSpec.ofChange fnExactMovedPartSpec)) fnExactMovedPartCard

/-- THE TIED CARD OF 'laws.FnExactWithoutPart'. -/
def fnExactWithoutPartCard : Claim7 := { stood := { row := fnExactWithoutPartRow, standIns := [], harness := (true, "cdbefe9cad744be5019173d21010e71237d396fecbd58bf97cb594b1f1dc70a7"), looks := true }, kinds := [], alts := [], laidByText := true, laidKinds := [.sentinel, .sentinel, .sentinel, .sentinel], laidTests := true, laidLooks := .later }
def FnExactWithoutPartCardSaid : Prop := Claim7.holds Tryd.pinned (.plain (OpenSpec.ofChange fnExactWithoutPartSpec)) fnExactWithoutPartCard

/-- THE SECOND FORM's CARD OF 'laws.FnExactAddedMass'. -/
def fnExactAddedMassUptoCard : Claim7 := { stood := { row := fnExactAddedMassUptoRow, standIns := [], harness := (true, "cdbefe9cad744be5019173d21010e71237d396fecbd58bf97cb594b1f1dc70a7"), looks := true }, kinds := [], alts := [], laidByText := true, laidKinds := [.sentinel, .sentinel, .sentinel], laidTests := true, laidLooks := .later }
def FnExactAddedMassUptoCardSaid : Prop := Claim7.holds Tryd.pinned (.plain (OpenSpec.upto fnExactAddedMassSpec)) fnExactAddedMassUptoCard

/-- THE SECOND FORM's CARD OF 'laws.FnExactMovedPart'. -/
def fnExactMovedPartUptoCard : Claim7 := { stood := { row := fnExactMovedPartUptoRow, standIns := [], harness := (true, "cdbefe9cad744be5019173d21010e71237d396fecbd58bf97cb594b1f1dc70a7"), looks := true }, kinds := [], alts := [], laidByText := true, laidKinds := [.sentinel, .sentinel, .sentinel, .sentinel], laidTests := true, laidLooks := .later }
def FnExactMovedPartUptoCardSaid : Prop := Claim7.holds Tryd.pinned (.plain (OpenSpec.upto fnExactMovedPartSpec)) fnExactMovedPartUptoCard

/-- THE SECOND FORM's CARD OF 'laws.FnExactWithoutPart'. -/
def fnExactWithoutPartUptoCard : Claim7 := { stood := { row := fnExactWithoutPartUptoRow, standIns := [], harness := (true, "cdbefe9cad744be5019173d21010e71237d396fecbd58bf97cb594b1f1dc70a7"), looks := true }, kinds := [], alts := [], laidByText := true, laidKinds := [.sentinel, .sentinel, .sentinel, .sentinel], laidTests := true, laidLooks := .later }
def FnExactWithoutPartUptoCardSaid : Prop := Claim7.holds Tryd.pinned (.plain (OpenSpec.upto fnExactWithoutPartSpec)) fnExactWithoutPartUptoCard
end Rows
end Go.Proofs.YtmhiekfnkbldeaaDoor
