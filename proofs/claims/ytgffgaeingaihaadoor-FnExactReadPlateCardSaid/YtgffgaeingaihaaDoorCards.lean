/-
  DERIVED. GIVEN WITH THE SEED: THE CARDS: each row of YtgffgaeingaihaaDoorRows.lean that lists a variable, with what it lists TIED to the program's text (the seventh form; the later family's looks); each row that meets fmt, with fmt's text TOLD by the authors' own Lean function (tested against real Go, not proved from fmt's source: count such statements apart). THE CARD IS WHAT COUNTS. Prove the row's statement (the work); the ties are given (YtgffgaeingaihaaDoorTie.lean); close each card by the builder's one call (the guide's Derived/Test/ToyasCard.lean, 'card_holds'). Laid BY PROGRAM, IN A SANDBOX (cutbox-door.mjs). By AI agents, Wed Nov 11 2026. No macro, syntax, notation, axiom, sorry.
-/
import Derived.Test.YtgffgaeingaihaaDoorRows
import GoSem.ClaimSeven
namespace Go.Proofs.YtgffgaeingaihaaDoor
namespace Rows

/-- THE TIED CARD OF 'laws.FnExactReadPlate'. -/
def fnExactReadPlateCard : Claim7 := { stood := { row := fnExactReadPlateRow, standIns := [], harness := (true, "f8b1196ebc093184b0c6cc9d4eeb5ad5956990387cd264e4f933032e2b6699b7"), looks := true }, kinds := [], alts := [], laidByText := true, laidKinds := [.data, .data, .data, .data, .sentinel, .sentinel, .pinned], laidTests := true, laidLooks := .later }
def FnExactReadPlateCardSaid : Prop := Claim7.holds Tryd.pinned (.plain (OpenSpec.ofChange fnExactReadPlateSpec)) fnExactReadPlateCard

/-- THE TIED CARD OF 'laws.FnExactNeckText'. -/
def fnExactNeckTextCard : Claim7 := { stood := { row := fnExactNeckTextRow, standIns := [], harness := (true, "f8b1196ebc093184b0c6cc9d4eeb5ad5956990387cd264e4f933032e2b6699b7"), looks := true }, kinds := [], alts := [], laidByText := true, laidKinds := [.data, .data, .data], laidTests := true, laidLooks := .later }
def FnExactNeckTextCardSaid : Prop := Claim7.holds Tryd.pinned (.plain (OpenSpec.ofChange fnExactNeckTextSpec)) fnExactNeckTextCard

/-- THE TIED CARD OF 'laws.FnExactReadNeck'. -/
def fnExactReadNeckCard : Claim7 := { stood := { row := fnExactReadNeckRow, standIns := [], harness := (true, "f8b1196ebc093184b0c6cc9d4eeb5ad5956990387cd264e4f933032e2b6699b7"), looks := true }, kinds := [], alts := [], laidByText := true, laidKinds := [.data, .data, .data, .data, .sentinel, .sentinel, .pinned], laidTests := true, laidLooks := .later }
def FnExactReadNeckCardSaid : Prop := Claim7.holds Tryd.pinned (.plain (OpenSpec.ofChange fnExactReadNeckSpec)) fnExactReadNeckCard

/-- THE SECOND FORM's CARD OF 'laws.FnExactReadPlate'. -/
def fnExactReadPlateUptoCard : Claim7 := { stood := { row := fnExactReadPlateUptoRow, standIns := [], harness := (true, "f8b1196ebc093184b0c6cc9d4eeb5ad5956990387cd264e4f933032e2b6699b7"), looks := true }, kinds := [], alts := [], laidByText := true, laidKinds := [.data, .data, .data, .data, .sentinel, .sentinel, .pinned], laidTests := true, laidLooks := .later }
def FnExactReadPlateUptoCardSaid : Prop := Claim7.holds Tryd.pinned (.plain (OpenSpec.upto fnExactReadPlateSpec)) fnExactReadPlateUptoCard

/-- THE SECOND FORM's CARD OF 'laws.FnExactNeckText'. -/
def fnExactNeckTextUptoCard : Claim7 := { stood := { row := fnExactNeckTextUptoRow, standIns := [], harness := (true, "f8b1196ebc093184b0c6cc9d4eeb5ad5956990387cd264e4f933032e2b6699b7"), looks := true }, kinds := [], alts := [], laidByText := true, laidKinds := [.data, .data, .data], laidTests := true, laidLooks := .later }
def FnExactNeckTextUptoCardSaid : Prop := Claim7.holds Tryd.pinned (.plain (OpenSpec.upto fnExactNeckTextSpec)) fnExactNeckTextUptoCard

/-- THE SECOND FORM's CARD OF 'laws.FnExactReadNeck'. -/
def fnExactReadNeckUptoCard : Claim7 := { stood := { row := fnExactReadNeckUptoRow, standIns := [], harness := (true, "f8b1196ebc093184b0c6cc9d4eeb5ad5956990387cd264e4f933032e2b6699b7"), looks := true }, kinds := [], alts := [], laidByText := true, laidKinds := [.data, .data, .data, .data, .sentinel, .sentinel, .pinned], laidTests := true, laidLooks := .later }
def FnExactReadNeckUptoCardSaid : Prop := Claim7.holds Tryd.pinned (.plain (OpenSpec.upto fnExactReadNeckSpec)) fnExactReadNeckUptoCard
end Rows
end Go.Proofs.YtgffgaeingaihaaDoor
