/-
  DERIVED. GIVEN WITH THE SEED: THE CARDS: each row of YtilppdjjcgffiaaDoorRows.lean that lists a variable, with what it lists TIED to the program's text (the seventh form; the later family's looks); each row that meets fmt, with fmt's text TOLD by the authors' own Lean function (tested against real Go, not proved from fmt's source: count such statements apart). THE CARD IS WHAT COUNTS. Prove the row's statement (the work); the ties are given (YtilppdjjcgffiaaDoorTie.lean); close each card by the builder's one call (the guide's Derived/Test/ToyasCard.lean, 'card_holds'). Laid BY PROGRAM, IN A SANDBOX (cutbox-door.mjs). By AI agents, Wed Nov 11 2026. No macro, syntax, notation, axiom, sorry.
-/
import Derived.Test.YtilppdjjcgffiaaDoorRows
import GoSem.ClaimSeven
namespace Go.Proofs.YtilppdjjcgffiaaDoor
namespace Rows

/-- THE TIED CARD OF 'laws.FnExactPartText'. -/
def fnExactPartTextCard : Claim7 := { stood := { row := fnExactPartTextRow, standIns := [], harness := (true, "51068a0a2f2a2a7956fbdbe7b18e9a006a5672f75772689c693296485d22808f"), looks := true }, kinds := [], alts := [], laidByText := true, laidKinds := [.data, .data, .data], laidTests := true, laidLooks := .later }
def FnExactPartTextCardSaid : Prop := Claim7.holds Tryd.pinned (.plain (OpenSpec.ofChange fnExactPartTextSpec)) fnExactPartTextCard

/-- THE TIED CARD OF 'laws.FnExactReadPart'. -/
def fnExactReadPartCard : Claim7 := { stood := { row := fnExactReadPartRow, standIns := [], harness := (true, "51068a0a2f2a2a7956fbdbe7b18e9a006a5672f75772689c693296485d22808f"), looks := true }, kinds := [], alts := [], laidByText := true, laidKinds := [.data, .data, .data, .sentinel, .sentinel], laidTests := true, laidLooks := .later }
def FnExactReadPartCardSaid : Prop := Claim7.holds Tryd.pinned (.plain (OpenSpec.ofChange fnExactReadPartSpec)) fnExactReadPartCard

/-- THE TIED CARD OF 'laws.FnExactPegText'. -/
def fnExactPegTextCard : Claim7 := { stood := { row := fnExactPegTextRow, standIns := [], harness := (true, "51068a0a2f2a2a7956fbdbe7b18e9a006a5672f75772689c693296485d22808f"), looks := true }, kinds := [], alts := [], laidByText := true, laidKinds := [.data, .data, .data], laidTests := true, laidLooks := .later }
def FnExactPegTextCardSaid : Prop := Claim7.holds Tryd.pinned (.plain (OpenSpec.ofChange fnExactPegTextSpec)) fnExactPegTextCard

/-- THE TIED CARD OF 'laws.FnExactReadPeg'. -/
def fnExactReadPegCard : Claim7 := { stood := { row := fnExactReadPegRow, standIns := [], harness := (true, "51068a0a2f2a2a7956fbdbe7b18e9a006a5672f75772689c693296485d22808f"), looks := true }, kinds := [], alts := [], laidByText := true, laidKinds := [.data, .data, .data, .data, .sentinel, .sentinel, .pinned], laidTests := true, laidLooks := .later }
def FnExactReadPegCardSaid : Prop := Claim7.holds Tryd.pinned (.plain (OpenSpec.ofChange fnExactReadPegSpec)) fnExactReadPegCard

/-- THE SECOND FORM's CARD OF 'laws.FnExactPartText'. -/
def fnExactPartTextUptoCard : Claim7 := { stood := { row := fnExactPartTextUptoRow, standIns := [], harness := (true, "51068a0a2f2a2a7956fbdbe7b18e9a006a5672f75772689c693296485d22808f"), looks := true }, kinds := [], alts := [], laidByText := true, laidKinds := [.data, .data, .data], laidTests := true, laidLooks := .later }
def FnExactPartTextUptoCardSaid : Prop := Claim7.holds Tryd.pinned (.plain (OpenSpec.upto fnExactPartTextSpec)) fnExactPartTextUptoCard

/-- THE SECOND FORM's CARD OF 'laws.FnExactReadPart'. -/
def fnExactReadPartUptoCard : Claim7 := { stood := { row := fnExactReadPartUptoRow, standIns := [], harness := (true, "51068a0a2f2a2a7956fbdbe7b18e9a006a5672f75772689c693296485d22808f"), looks := true }, kinds := [], alts := [], laidByText := true, laidKinds := [.data, .data, .data, .sentinel, .sentinel], laidTests := true, laidLooks := .later }
def FnExactReadPartUptoCardSaid : Prop := Claim7.holds Tryd.pinned (.plain (OpenSpec.upto fnExactReadPartSpec)) fnExactReadPartUptoCard

/-- THE SECOND FORM's CARD OF 'laws.FnExactPegText'. -/
def fnExactPegTextUptoCard : Claim7 := { stood := { row := fnExactPegTextUptoRow, standIns := [], harness := (true, "51068a0a2f2a2a7956fbdbe7b18e9a006a5672f75772689c693296485d22808f"), looks := true }, kinds := [], alts := [], laidByText := true, laidKinds := [.data, .data, .data], laidTests := true, laidLooks := .later }
def FnExactPegTextUptoCardSaid : Prop := Claim7.holds Tryd.pinned (.plain (OpenSpec.upto fnExactPegTextSpec)) fnExactPegTextUptoCard

/-- THE SECOND FORM's CARD OF 'laws.FnExactReadPeg'. -/
def fnExactReadPegUptoCard : Claim7 := { stood := { row := fnExactReadPegUptoRow, standIns := [], harness := (true, "51068a0a2f2a2a7956fbdbe7b18e9a006a5672f75772689c693296485d22808f"), looks := true }, kinds := [], alts := [], laidByText := true, laidKinds := [.data, .data, .data, .data, .sentinel, .sentinel, .pinned], laidTests := true, laidLooks := .later }
def FnExactReadPegUptoCardSaid : Prop := Claim7.holds Tryd.pinned (.plain (OpenSpec.upto fnExactReadPegSpec)) fnExactReadPegUptoCard
end Rows
end Go.Proofs.YtilppdjjcgffiaaDoor
