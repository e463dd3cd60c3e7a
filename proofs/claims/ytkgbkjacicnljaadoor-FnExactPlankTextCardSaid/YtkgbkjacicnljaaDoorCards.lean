/-
  DERIVED. GIVEN WITH THE SEED: THE CARDS: each row of YtkgbkjacicnljaaDoorRows.lean that lists a variable, with what it lists TIED to the program's text (the seventh form; the later family's looks); each row that meets fmt, with fmt's text TOLD by the authors' own Lean function (tested against real Go, not proved from fmt's source: count such statements apart). THE CARD IS WHAT COUNTS. Prove the row's statement (the work); the ties are given (YtkgbkjacicnljaaDoorTie.lean); close each card by the builder's one call (the guide's Derived/Test/ToyasCard.lean, 'card_holds'). Laid BY PROGRAM, IN A SANDBOX (cutbox-door.mjs). By AI agents, Wed Nov 11 2026. No macro, syntax, notation, axiom, sorry.
-/
import Derived.Test.YtkgbkjacicnljaaDoorRows
import GoSem.ClaimSeven
namespace Go.Proofs.YtkgbkjacicnljaaDoor
namespace Rows

/-- THE TIED CARD OF 'laws.FnExactPlankText'. -/
def fnExactPlankTextCard : Claim7 := { stood := { row := fnExactPlankTextRow, standIns := [], harness := (true, "4fc922d0f328db8626076a3cc3fad1f7a9bf1e7b91c559217de31f446701c7c3"), looks := true }, kinds := [], alts := [], laidByText := true, laidKinds := [.data, .data, .data], laidTests := true, laidLooks := .later }
def FnExactPlankTextCardSaid : Prop := Claim7.holds Tryd.pinned (.plain (OpenSpec.ofChange fnExactPlankTextSpec)) fnExactPlankTextCard

/-- THE TIED CARD OF 'laws.FnExactReadPlank'. -/
def fnExactReadPlankCard : Claim7 := { stood := { row := fnExactReadPlankRow, standIns := [], harness := (true, "4fc922d0f328db8626076a3cc3fad1f7a9bf1e7b91c559217de31f446701c7c3"), looks := true }, kinds := [], alts := [], laidByText := true, laidKinds := [.data, .data, .data, .data, .sentinel, .sentinel, .pinned], laidTests := true, laidLooks := .later }
def FnExactReadPlankCardSaid : Prop := Claim7.holds Tryd.pinned (.plain (OpenSpec.ofChange fnExactReadPlankSpec)) fnExactReadPlankCard

/-- THE TIED CARD OF 'laws.FnExactRibText'. -/
def fnExactRibTextCard : Claim7 := { stood := { row := fnExactRibTextRow, standIns := [], harness := (true, "4fc922d0f328db8626076a3cc3fad1f7a9bf1e7b91c559217de31f446701c7c3"), looks := true }, kinds := [], alts := [], laidByText := true, laidKinds := [.data, .data, .data], laidTests := true, laidLooks := .later }
def FnExactRibTextCardSaid : Prop := Claim7.holds Tryd.pinned (.plain (OpenSpec.ofChange fnExactRibTextSpec)) fnExactRibTextCard

/-- THE TIED CARD OF 'laws.FnExactReadRib'. -/
def fnExactReadRibCard : Claim7 := { stood := { row := fnExactReadRibRow, standIns := [], harness := (true, "4fc922d0f328db8626076a3cc3fad1f7a9bf1e7b91c559217de31f446701c7c3"), looks := true }, kinds := [], alts := [], laidByText := true, laidKinds := [.data, .data, .data, .data, .sentinel, .sentinel, .pinned], laidTests := true, laidLooks := .later }
def FnExactReadRibCardSaid : Prop := Claim7.holds Tryd.pinned (.plain (OpenSpec.ofChange fnExactReadRibSpec)) fnExactReadRibCard

/-- THE SECOND FORM's CARD OF 'laws.FnExactPlankText'. -/
def fnExactPlankTextUptoCard : Claim7 := { stood := { row := fnExactPlankTextUptoRow, standIns := [], harness := (true, "4fc922d0f328db8626076a3cc3fad1f7a9bf1e7b91c559217de31f446701c7c3"), looks := true }, kinds := [], alts := [], laidByText := true, laidKinds := [.data, .data, .data], laidTests := true, laidLooks := .later }
def FnExactPlankTextUptoCardSaid : Prop := Claim7.holds Tryd.pinned (.plain (OpenSpec.upto fnExactPlankTextSpec)) fnExactPlankTextUptoCard

/-- THE SECOND FORM's CARD OF 'laws.FnExactReadPlank'. -/
def fnExactReadPlankUptoCard : Claim7 := { stood := { row := fnExactReadPlankUptoRow, standIns := [], harness := (true, "4fc922d0f328db8626076a3cc3fad1f7a9bf1e7b91c559217de31f446701c7c3"), looks := true }, kinds := [], alts := [], laidByText := true, laidKinds := [.data, .data, .data, .data, .sentinel, .sentinel, .pinned], laidTests := true, laidLooks := .later }
def FnExactReadPlankUptoCardSaid : Prop := Claim7.holds Tryd.pinned (.plain (OpenSpec.upto fnExactReadPlankSpec)) fnExactReadPlankUptoCard

/-- THE SECOND FORM's CARD OF 'laws.FnExactRibText'. -/
def fnExactRibTextUptoCard : Claim7 := { stood := { row := fnExactRibTextUptoRow, standIns := [], harness := (true, "4fc922d0f328db8626076a3cc3fad1f7a9bf1e7b91c559217de31f446701c7c3"), looks := true }, kinds := [], alts := [], laidByText := true, laidKinds := [.data, .data, .data], laidTests := true, laidLooks := .later }
def FnExactRibTextUptoCardSaid : Prop := Claim7.holds Tryd.pinned (.plain (OpenSpec.upto fnExactRibTextSpec)) fnExactRibTextUptoCard

/-- THE SECOND FORM's CARD OF 'laws.FnExactReadRib'. -/
def fnExactReadRibUptoCard : Claim7 := { stood := { row := fnExactReadRibUptoRow, standIns := [], harness := (true, "4fc922d0f328db8626076a3cc3fad1f7a9bf1e7b91c559217de31f446701c7c3"), looks := true }, kinds := [], alts := [], laidByText := true, laidKinds := [.data, .data, .data, .data, .sentinel, .sentinel, .pinned], laidTests := true, laidLooks := .later }
def FnExactReadRibUptoCardSaid : Prop := Claim7.holds Tryd.pinned (.plain (OpenSpec.upto fnExactReadRibSpec)) fnExactReadRibUptoCard
end Rows
end Go.Proofs.YtkgbkjacicnljaaDoor
