/-
  DERIVED. GIVEN WITH THE SEED: THE CARDS: each row of YtcgmpomhklhmaaaDoorRows.lean that lists a variable, with what it lists TIED to the program's text (the seventh form; the later family's looks); each row that meets fmt, with fmt's text TOLD by the authors' own Lean function (tested against real Go, not proved from fmt's source: count such statements apart). THE CARD IS WHAT COUNTS. Prove the row's statement (the work); the ties are given (YtcgmpomhklhmaaaDoorTie.lean); close each card by the builder's one call (the guide's Derived/Test/ToyasCard.lean, 'card_holds'). Laid BY PROGRAM, IN A SANDBOX (cutbox-door.mjs). By AI agents, Wed Nov 11 2026. No macro, syntax, notation, axiom, sorry.
-/
import Derived.Test.YtcgmpomhklhmaaaDoorRows
import GoSem.ClaimSeven
namespace Go.Proofs.YtcgmpomhklhmaaaDoor
namespace Rows

/-- THE TIED CARD OF 'laws.FnExactCoatText'. -/
def fnExactCoatTextCard : Claim7 := { stood := { row := fnExactCoatTextRow, standIns := [], harness := (true, "4c7b874c4bb8f21a1aa722f27187aa9749371fccf4b6485eb47019c12b45e9da"), looks := true }, kinds := [], alts := [], laidByText := true, laidKinds := [.data, .data, .data], laidTests := true, laidLooks := .later }
def FnExactCoatTextCardSaid : Prop := Claim7.holds Tryd.pinned (.plain (OpenSpec.ofChange fnExactCoatTextSpec)) fnExactCoatTextCard

/-- THE TIED CARD OF 'laws.FnExactReadCoat'. -/
def fnExactReadCoatCard : Claim7 := { stood := { row := fnExactReadCoatRow, standIns := [], harness := (true, "4c7b874c4bb8f21a1aa722f27187aa9749371fccf4b6485eb47019c12b45e9da"), looks := true }, kinds := [], alts := [], laidByText := true, laidKinds := [.data, .data, .data, .data, .sentinel, .sentinel, .pinned], laidTests := true, laidLooks := .later }
def FnExactReadCoatCardSaid : Prop := Claim7.holds Tryd.pinned (.plain (OpenSpec.ofChange fnExactReadCoatSpec)) fnExactReadCoatCard

/-- THE SECOND FORM's CARD OF 'laws.FnExactCoatText'. -/
def fnExactCoatTextUptoCard : Claim7 := { stood := { row := fnExactCoatTextUptoRow, standIns := [], harness := (true, "4c7b874c4bb8f21a1aa722f27187aa9749371fccf4b6485eb47019c12b45e9da"), looks := true }, kinds := [], alts := [], laidByText := true, laidKinds := [.data, .data, .data], laidTests := true, laidLooks := .later }
def FnExactCoatTextUptoCardSaid : Prop := Claim7.holds Tryd.pinned (.plain (OpenSpec.upto fnExactCoatTextSpec)) fnExactCoatTextUptoCard

/-- THE SECOND FORM's CARD OF 'laws.FnExactReadCoat'. -/
def fnExactReadCoatUptoCard : Claim7 := { stood := { row := fnExactReadCoatUptoRow, standIns := [], harness := (true, "4c7b874c4bb8f21a1aa722f27187aa9749371fccf4b6485eb47019c12b45e9da"), looks := true }, kinds := [], alts := [], laidByText := true, laidKinds := [.data, .data, .data, .data, .sentinel, .sentinel, .pinned], laidTests := true, laidLooks := .later }
def FnExactReadCoatUptoCardSaid : Prop := Claim7.holds Tryd.pinned (.plain (OpenSpec.upto fnExactReadCoatSpec)) fnExactReadCoatUptoCard
end Rows
end Go.Proofs.YtcgmpomhklhmaaaDoor
