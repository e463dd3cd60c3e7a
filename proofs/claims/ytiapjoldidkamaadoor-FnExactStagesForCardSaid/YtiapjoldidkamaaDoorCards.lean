/-
  DERIVED. GIVEN WITH THE SEED: THE CARDS: each row of YtiapjoldidkamaaDoorRows.lean that lists a variable, with what it lists TIED to the program's text (the seventh form; the later family's looks); each row that meets fmt, with fmt's text TOLD by the authors' own Lean function (tested against real Go, not proved from fmt's source: count such statements apart). THE CARD IS WHAT COUNTS. Prove the row's statement (the work); the ties are given (YtiapjoldidkamaaDoorTie.lean); close each card by the builder's one call (the guide's Derived/Test/ToyasCard.lean, 'card_holds'). Laid BY PROGRAM, IN A SANDBOX (cutbox-door.mjs). By AI agents, Wed Nov 11 2026. No macro, syntax, notation, axiom, sorry.
-/
import Derived.Test.YtiapjoldidkamaaDoorRows
import GoSem.ClaimSeven
namespace Go.Proofs.YtiapjoldidkamaaDoor
namespace Rows

/-- THE TIED CARD OF 'laws.FnExactEvenMoisture'. -/
def fnExactEvenMoistureCard : Claim7 := { stood := { row := fnExactEvenMoistureRow, standIns := [], harness := (true, "a8e93fa9ec73baf5d5f3737d5be394166fb42f2a62482638a6963df26dcf9da4"), looks := false }, kinds := [], alts := [], laidByText := true, laidKinds := [.data], laidTests := true, laidLooks := .later }
def FnExactEvenMoistureCardSaid : Prop := Claim7.holds Tryd.pinned (.plain (OpenSpec.ofChange fnExactEvenMoistureSpec)) fnExactEvenMoistureCard

/-- THE TIED CARD OF 'laws.FnExactMoistureAfter'. -/
def fnExactMoistureAfterCard : Claim7 := { stood := { row := fnExactMoistureAfterRow, standIns := [], harness := (true, "a8e93fa9ec73baf5d5f3737d5be394166fb42f2a62482638a6963df26dcf9da4"), looks := false }, kinds := [], alts := [], laidByText := true, laidKinds := [.data], laidTests := true, laidLooks := .later }
def FnExactMoistureAfterCardSaid : Prop := Claim7.holds Tryd.pinned (.plain (OpenSpec.ofChange fnExactMoistureAfterSpec)) fnExactMoistureAfterCard

/-- THE TIED CARD OF 'laws.FnExactDaysToDry'. -/
def fnExactDaysToDryCard : Claim7 := { stood := { row := fnExactDaysToDryRow, standIns := [], harness := (true, "a8e93fa9ec73baf5d5f3737d5be394166fb42f2a62482638a6963df26dcf9da4"), looks := false }, kinds := [], alts := [], laidByText := true, laidKinds := [.data], laidTests := true, laidLooks := .later }
def FnExactDaysToDryCardSaid : Prop := Claim7.holds Tryd.pinned (.plain (OpenSpec.ofChange fnExactDaysToDrySpec)) fnExactDaysToDryCard

/-- THE TIED CARD OF 'laws.FnExactThickToDry'. -/
def fnExactThickToDryCard : Claim7 := { stood := { row := fnExactThickToDryRow, standIns := [], harness := (true, "a8e93fa9ec73baf5d5f3737d5be394166fb42f2a62482638a6963df26dcf9da4"), looks := false }, kinds := [], alts := [], laidByText := true, laidKinds := [.data], laidTests := true, laidLooks := .later }
def FnExactThickToDryCardSaid : Prop := Claim7.holds Tryd.pinned (.plain (OpenSpec.ofChange fnExactThickToDrySpec)) fnExactThickToDryCard

/-- THE TIED CARD OF 'laws.FnExactCrackDays'. -/
def fnExactCrackDaysCard : Claim7 := { stood := { row := fnExactCrackDaysRow, standIns := [], harness := (true, "a8e93fa9ec73baf5d5f3737d5be394166fb42f2a62482638a6963df26dcf9da4"), looks := false }, kinds := [], alts := [], laidByText := true, laidKinds := [.data], laidTests := true, laidLooks := .later }
def FnExactCrackDaysCardSaid : Prop := Claim7.holds Tryd.pinned (.plain (OpenSpec.ofChange fnExactCrackDaysSpec)) fnExactCrackDaysCard

/-- THE TIED CARD OF 'laws.FnExactSafeHumidity'. -/
def fnExactSafeHumidityCard : Claim7 := { stood := { row := fnExactSafeHumidityRow, standIns := [], harness := (true, "a8e93fa9ec73baf5d5f3737d5be394166fb42f2a62482638a6963df26dcf9da4"), looks := false }, kinds := [], alts := [], laidByText := true, laidKinds := [.data], laidTests := true, laidLooks := .later }
def FnExactSafeHumidityCardSaid : Prop := Claim7.holds Tryd.pinned (.plain (OpenSpec.ofChange fnExactSafeHumiditySpec)) fnExactSafeHumidityCard

/-- THE TIED CARD OF 'laws.FnExactReadyStacks'. -/
def fnExactReadyStacksCard : Claim7 := { stood := { row := fnExactReadyStacksRow, standIns := [], harness := (true, "a8e93fa9ec73baf5d5f3737d5be394166fb42f2a62482638a6963df26dcf9da4"), looks := false }, kinds := [], alts := [], laidByText := true, laidKinds := [.data], laidTests := true, laidLooks := .later }
def FnExactReadyStacksCardSaid : Prop := Claim7.holds Tryd.pinned (.plain (OpenSpec.ofChange fnExactReadyStacksSpec)) fnExactReadyStacksCard

/-- THE TIED CARD OF 'laws.FnExactStagesFor'. -/
def fnExactStagesForCard : Claim7 := { stood := { row := fnExactStagesForRow, standIns := [], harness := (true, "a8e93fa9ec73baf5d5f3737d5be394166fb42f2a62482638a6963df26dcf9da4"), looks := false }, kinds := [], alts := [], laidByText := true, laidKinds := [.data], laidTests := true, laidLooks := .later }
def FnExactStagesForCardSaid : Prop := Claim7.holds Tryd.pinned (.plain (OpenSpec.ofChange fnExactStagesForSpec)) fnExactStagesForCard

/-- THE SECOND FORM's CARD OF 'laws.FnExactEvenMoisture'. -/
def fnExactEvenMoistureUptoCard : Claim7 := { stood := { row := fnExactEvenMoistureUptoRow, standIns := [], harness := (true, "a8e93fa9ec73baf5d5f3737d5be394166fb42f2a62482638a6963df26dcf9da4"), looks := false }, kinds := [], alts := [], laidByText := true, laidKinds := [.data], laidTests := true, laidLooks := .later }
def FnExactEvenMoistureUptoCardSaid : Prop := Claim7.holds Tryd.pinned (.plain (OpenSpec.upto fnExactEvenMoistureSpec)) fnExactEvenMoistureUptoCard

/-- THE SECOND FORM's CARD OF 'laws.FnExactMoistureAfter'. -/
def fnExactMoistureAfterUptoCard : Claim7 := { stood := { row := fnExactMoistureAfterUptoRow, standIns := [], harness := (true, "a8e93fa9ec73baf5d5f3737d5be394166fb42f2a62482638a6963df26dcf9da4"), looks := false }, kinds := [], alts := [], laidByText := true, laidKinds := [.data], laidTests := true, laidLooks := .later }
def FnExactMoistureAfterUptoCardSaid : Prop := Claim7.holds Tryd.pinned (.plain (OpenSpec.upto fnExactMoistureAfterSpec)) fnExactMoistureAfterUptoCard

/-- THE SECOND FORM's CARD OF 'laws.FnExactDaysToDry'. -/
def fnExactDaysToDryUptoCard : Claim7 := { stood := { row := fnExactDaysToDryUptoRow, standIns := [], harness := (true, "a8e93fa9ec73baf5d5f3737d5be394166fb42f2a62482638a6963df26dcf9da4"), looks := false }, kinds := [], alts := [], laidByText := true, laidKinds := [.data], laidTests := true, laidLooks := .later }
def FnExactDaysToDryUptoCardSaid : Prop := Claim7.holds Tryd.pinned (.plain (OpenSpec.upto fnExactDaysToDrySpec)) fnExactDaysToDryUptoCard

/-- THE SECOND FORM's CARD OF 'laws.FnExactThickToDry'. -/
def fnExactThickToDryUptoCard : Claim7 := { stood := { row := fnExactThickToDryUptoRow, standIns := [], harness := (true, "a8e93fa9ec73baf5d5f3737d5be394166fb42f2a62482638a6963df26dcf9da4"), looks := false }, kinds := [], alts := [], laidByText := true, laidKinds := [.data], laidTests := true, laidLooks := .later }
def FnExactThickToDryUptoCardSaid : Prop := Claim7.holds Tryd.pinned (.plain (OpenSpec.upto fnExactThickToDrySpec)) fnExactThickToDryUptoCard

/-- THE SECOND FORM's CARD OF 'laws.FnExactCrackDays'. -/
def fnExactCrackDaysUptoCard : Claim7 := { stood := { row := fnExactCrackDaysUptoRow, standIns := [], harness := (true, "a8e93fa9ec73baf5d5f3737d5be394166fb42f2a62482638a6963df26dcf9da4"), looks := false }, kinds := [], alts := [], laidByText := true, laidKinds := [.data], laidTests := true, laidLooks := .later }
def FnExactCrackDaysUptoCardSaid : Prop := Claim7.holds Tryd.pinned (.plain (OpenSpec.upto fnExactCrackDaysSpec)) fnExactCrackDaysUptoCard

/-- THE SECOND FORM's CARD OF 'laws.FnExactSafeHumidity'. -/
def fnExactSafeHumidityUptoCard : Claim7 := { stood := { row := fnExactSafeHumidityUptoRow, standIns := [], harness := (true, "a8e93fa9ec73baf5d5f3737d5be394166fb42f2a62482638a6963df26dcf9da4"), looks := false }, kinds := [], alts := [], laidByText := true, laidKinds := [.data], laidTests := true, laidLooks := .later }
def FnExactSafeHumidityUptoCardSaid : Prop := Claim7.holds Tryd.pinned (.plain (OpenSpec.upto fnExactSafeHumiditySpec)) fnExactSafeHumidityUptoCard

/-- THE SECOND FORM's CARD OF 'laws.FnExactReadyStacks'. -/
def fnExactReadyStacksUptoCard : Claim7 := { stood := { row := fnExactReadyStacksUptoRow, standIns := [], harness := (true, "a8e93fa9ec73baf5d5f3737d5be394166fb42f2a62482638a6963df26dcf9da4"), looks := false }, kinds := [], alts := [], laidByText := true, laidKinds := [.data], laidTests := true, laidLooks := .later }
def FnExactReadyStacksUptoCardSaid : Prop := Claim7.holds Tryd.pinned (.plain (OpenSpec.upto fnExactReadyStacksSpec)) fnExactReadyStacksUptoCard

/-- THE SECOND FORM's CARD OF 'laws.FnExactStagesFor'. -/
def fnExactStagesForUptoCard : Claim7 := { stood := { row := fnExactStagesForUptoRow, standIns := [], harness := (true, "a8e93fa9ec73baf5d5f3737d5be394166fb42f2a62482638a6963df26dcf9da4"), looks := false }, kinds := [], alts := [], laidByText := true, laidKinds := [.data], laidTests := true, laidLooks := .later }
def FnExactStagesForUptoCardSaid : Prop := Claim7.holds Tryd.pinned (.plain (OpenSpec.upto fnExactStagesForSpec)) fnExactStagesForUptoCard
end Rows
end Go.Proofs.YtiapjoldidkamaaDoor
