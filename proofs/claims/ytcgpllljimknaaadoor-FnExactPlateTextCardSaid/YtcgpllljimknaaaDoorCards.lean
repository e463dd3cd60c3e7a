/-
  DERIVED. GIVEN WITH THE SEED: THE CARDS: each row of YtcgpllljimknaaaDoorRows.lean that lists a variable, with what it lists TIED to the program's text (the seventh form; the later family's looks); each row that meets fmt, with fmt's text TOLD by the authors' own Lean function (tested against real Go, not proved from fmt's source: count such statements apart). THE CARD IS WHAT COUNTS. Prove the row's statement (the work); the ties are given (YtcgpllljimknaaaDoorTie.lean); close each card by the builder's one call (the guide's Derived/Test/ToyasCard.lean, 'card_holds'). Laid BY PROGRAM, IN A SANDBOX (cutbox-door.mjs). By AI agents, Wed Nov 11 2026. No macro, syntax, notation, axiom, sorry.
-/
import Derived.Test.YtcgpllljimknaaaDoorRows
import GoSem.ClaimSeven
namespace Go.Proofs.YtcgpllljimknaaaDoor
namespace Rows

/-- THE TIED CARD OF 'laws.FnExactPlateText'. -/
def fnExactPlateTextCard : Claim7 := { stood := { row := fnExactPlateTextRow, standIns := [], harness := (true, "26834120662d48205c0cd2f52eb313862ae2b110df3b3935d834ad3c2ac90285"), looks := true }, kinds := [], alts := [], laidByText := true, laidKinds := [.data, .data, .data], laidTests := true, laidLooks := .later }
def FnExactPlateTextCardSaid : Prop := Claim7.holds Tryd.pinned (.plain (OpenSpec.ofChange fnExactPlateTextSpec)) fnExactPlateTextCard

/-- THE TIED CARD OF 'laws.FnExactReadPlate'. -/
def fnExactReadPlateCard : Claim7 := { stood := { row := fnExactReadPlateRow, standIns := [], harness := (true, "26834120662d48205c0cd2f52eb313862ae2b110df3b3935d834ad3c2ac90285"), looks := true }, kinds := [], alts := [], laidByText := true, laidKinds := [.data, .data, .data, .data, .sentinel, .sentinel, .pinned], laidTests := true, laidLooks := .later }
def FnExactReadPlateCardSaid : Prop := Claim7.holds Tryd.pinned (.plain (OpenSpec.ofChange fnExactReadPlateSpec)) fnExactReadPlateCard

/-- THE TIED CARD OF 'laws.FnExactStringText'. -/
def fnExactStringTextCard : Claim7 := { stood := { row := fnExactStringTextRow, standIns := [], harness := (true, "26834120662d48205c0cd2f52eb313862ae2b110df3b3935d834ad3c2ac90285"), looks := true }, kinds := [], alts := [], laidByText := true, laidKinds := [.data, .data, .data], laidTests := true, laidLooks := .later }
def FnExactStringTextCardSaid : Prop := Claim7.holds Tryd.pinned (.plain (OpenSpec.ofChange fnExactStringTextSpec)) fnExactStringTextCard

/-- THE TIED CARD OF 'laws.FnExactReadString'. -/
def fnExactReadStringCard : Claim7 := { stood := { row := fnExactReadStringRow, standIns := [], harness := (true, "26834120662d48205c0cd2f52eb313862ae2b110df3b3935d834ad3c2ac90285"), looks := true }, kinds := [], alts := [], laidByText := true, laidKinds := [.data, .data, .data, .data, .sentinel, .sentinel, .pinned], laidTests := true, laidLooks := .later }
def FnExactReadStringCardSaid : Prop := Claim7.holds Tryd.pinned (.plain (OpenSpec.ofChange fnExactReadStringSpec)) fnExactReadStringCard

/-- THE SECOND FORM's CARD OF 'laws.FnExactPlateText'. -/
def fnExactPlateTextUptoCard : Claim7 := { stood := { row := fnExactPlateTextUptoRow, standIns := [], harness := (true, "26834120662d48205c0cd2f52eb313862ae2b110df3b3935d834ad3c2ac90285"), looks := true }, kinds := [], alts := [], laidByText := true, laidKinds := [.data, .data, .data], laidTests := true, laidLooks := .later }
def FnExactPlateTextUptoCardSaid : Prop := Claim7.holds Tryd.pinned (.plain (OpenSpec.upto fnExactPlateTextSpec)) fnExactPlateTextUptoCard

/-- THE SECOND FORM's CARD OF 'laws.FnExactReadPlate'. -/
def fnExactReadPlateUptoCard : Claim7 := { stood := { row := fnExactReadPlateUptoRow, standIns := [], harness := (true, "26834120662d48205c0cd2f52eb313862ae2b110df3b3935d834ad3c2ac90285"), looks := true }, kinds := [], alts := [], laidByText := true, laidKinds := [.data, .data, .data, .data, .sentinel, .sentinel, .pinned], laidTests := true, laidLooks := .later }
def FnExactReadPlateUptoCardSaid : Prop := Claim7.holds Tryd.pinned (.plain (OpenSpec.upto fnExactReadPlateSpec)) fnExactReadPlateUptoCard

/-- THE SECOND FORM's CARD OF 'laws.FnExactStringText'. -/
def fnExactStringTextUptoCard : Claim7 := { stood := { row := fnExactStringTextUptoRow, standIns := [], harness := (true, "26834120662d48205c0cd2f52eb313862ae2b110df3b3935d834ad3c2ac90285"), looks := true }, kinds := [], alts := [], laidByText := true, laidKinds := [.data, .data, .data], laidTests := true, laidLooks := .later }
def FnExactStringTextUptoCardSaid : Prop := Claim7.holds Tryd.pinned (.plain (OpenSpec.upto fnExactStringTextSpec)) fnExactStringTextUptoCard

/-- THE SECOND FORM's CARD OF 'laws.FnExactReadString'. -/
def fnExactReadStringUptoCard : Claim7 := { stood := { row := fnExactReadStringUptoRow, standIns := [], harness := (true, "26834120662d48205c0cd2f52eb313862ae2b110df3b3935d834ad3c2ac90285"), looks := true }, kinds := [], alts := [], laidByText := true, laidKinds := [.data, .data, .data, .data, .sentinel, .sentinel, .pinned], laidTests := true, laidLooks := .later }
def FnExactReadStringUptoCardSaid : Prop := Claim7.holds Tryd.pinned (.plain (OpenSpec.upto fnExactReadStringSpec)) fnExactReadStringUptoCard
end Rows
end Go.Proofs.YtcgpllljimknaaaDoor
