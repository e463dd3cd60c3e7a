/-
  DERIVED. GIVEN WITH THE SEED: THE CARDS: each row of YtfcdhjbnlokinaaDoorRows.lean that lists a variable, with what it lists TIED to the program's text (the seventh form; the later family's looks); each row that meets fmt, with fmt's text TOLD by the authors' own Lean function (tested against real Go, not proved from fmt's source: count such statements apart). THE CARD IS WHAT COUNTS. Prove the row's statement (the work); the ties are given (YtfcdhjbnlokinaaDoorTie.lean); close each card by the builder's one call (the guide's Derived/Test/ToyasCard.lean, 'card_holds'). Laid BY PROGRAM, IN A SANDBOX (cutbox-door.mjs). By AI agents, Wed Nov 11 2026. No macro, syntax, notation, axiom, sorry.
-/
import Derived.Test.YtfcdhjbnlokinaaDoorRows
import GoSem.ClaimSeven
namespace Go.Proofs.YtfcdhjbnlokinaaDoor
namespace Rows

/-- THE TIED CARD OF 'laws.FnExactReadRib'. -/
def fnExactReadRibCard : Claim7 := { stood := { row := fnExactReadRibRow, standIns := [], harness := (true, "aa1edb6396b5b657300d79e64b1588b431ca3d9e29574fd18aeef2044a481d6a"), looks := true }, kinds := [], alts := [], laidByText := true, laidKinds := [.data, .data, .data, .data, .sentinel, .sentinel, .pinned], laidTests := true, laidLooks := .later }
def FnExactReadRibCardSaid : Prop := Claim7.holds Tryd.pinned (.plain (OpenSpec.ofChange fnExactReadRibSpec)) fnExactReadRibCard

/-- THE TIED CARD OF 'laws.FnExactReadPlank'. -/
def fnExactReadPlankCard : Claim7 := { stood := { row := fnExactReadPlankRow, standIns := [], harness := (true, "aa1edb6396b5b657300d79e64b1588b431ca3d9e29574fd18aeef2044a481d6a"), looks := true }, kinds := [], alts := [], laidByText := true, laidKinds := [.data, .data, .data, .data, .sentinel, .sentinel, .pinned], laidTests := true, laidLooks := .later }
def FnExactReadPlankCardSaid : Prop := Claim7.holds Tryd.pinned (.plain (OpenSpec.ofChange fnExactReadPlankSpec)) fnExactReadPlankCard

/-- THE SECOND FORM's CARD OF 'laws.FnExactReadRib'. -/
def fnExactReadRibUptoCard : Claim7 := { stood := { row := fnExactReadRibUptoRow, standIns := [], harness := (true, "aa1edb6396b5b657300d79e64b1588b431ca3d9e29574fd18aeef2044a481d6a"), looks := true }, kinds := [], alts := [], laidByText := true, laidKinds := [.data, .data, .data, .data, .sentinel, .sentinel, .pinned], laidTests := true, laidLooks := .later }
def FnExactReadRibUptoCardSaid : Prop := Claim7.holds Tryd.pinned (.plain (OpenSpec.upto fnExactReadRibSpec)) fnExactReadRibUptoCard

/-- THE SECOND FORM's CARD OF 'laws.FnExactReadPlank'. -/
def fnExactReadPlankUptoCard : Claim7 := { stood := { row := fnExactReadPlankUptoRow, standIns := [], harness := (true, "aa1edb6396b5b657300d79e64b1588b431ca3d9e29574fd18aeef2044a481d6a"), looks := true }, kinds := [], alts := [], laidByText := true, laidKinds := [.data, .data, .data, .data, .sentinel, .sentinel, .pinned], laidTests := true, laidLooks := .later }
def FnExactReadPlankUptoCardSaid : Prop := Claim7.holds Tryd.pinned (.plain (OpenSpec.upto fnExactReadPlankSpec)) fnExactReadPlankUptoCard
end Rows
end Go.Proofs.YtfcdhjbnlokinaaDoor
