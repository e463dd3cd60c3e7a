/-
  DERIVED. GIVEN WITH THE SEED: THE CARDS: each row of YtfamahojeeagiaaDoorRows.lean that lists a variable, with what it lists TIED to the program's text (the seventh form; the later family's looks); each row that meets fmt, with fmt's text TOLD by the authors' own Lean function (tested against real Go, not proved from fmt's source: count such statements apart). THE CARD IS WHAT COUNTS. Prove the row's statement (the work); the ties are given (YtfamahojeeagiaaDoorTie.lean); close each card by the builder's one call (the guide's Derived/Test/ToyasCard.lean, 'card_holds'). Laid BY PROGRAM, IN A SANDBOX (cutbox-door.mjs). By AI agents, Wed Nov 11 2026. No macro, syntax, notation, axiom, sorry.
-/
import Derived.Test.YtfamahojeeagiaaDoorRows
import GoSem.ClaimSeven
namespace Go.Proofs.YtfamahojeeagiaaDoor
namespace Rows

/-- THE TIED CARD OF 'laws.FnExactStackText'. -/
def fnExactStackTextCard : Claim7 := { stood := { row := fnExactStackTextRow, standIns := [], harness := (true, "91919a2f760ca2dd49d90fc1ea8d789ec9513558ee9cb40bca87357d719f6644"), looks := false }, kinds := [], alts := [], laidByText := true, laidKinds := [.data, .data, .data], laidTests := true, laidLooks := .later }
def FnExactStackTextCardSaid : Prop := Claim7.holds Tryd.pinned (.plain (OpenSpec.ofChange fnExactStackTextSpec)) fnExactStackTextCard

/-- THE TIED CARD OF 'laws.FnDrying'. -/
def fnDryingCard : Claim7 := { stood := { row := fnDryingRow, standIns := [], harness := (true, "91919a2f760ca2dd49d90fc1ea8d789ec9513558ee9cb40bca87357d719f6644"), looks := false }, kinds := [], alts := [], laidByText := true, laidKinds := [.data], laidTests := true, laidLooks := .later }
def FnDryingCardSaid : Prop := Claim7.holds Tryd.pinned (.plain (OpenSpec.ofChange fnDryingSpec)) fnDryingCard

/-- THE SECOND FORM's CARD OF 'laws.FnExactStackText'. -/
def fnExactStackTextUptoCard : Claim7 := { stood := { row := fnExactStackTextUptoRow, standIns := [], harness := (true, "91919a2f760ca2dd49d90fc1ea8d789ec9513558ee9cb40bca87357d719f6644"), looks := false }, kinds := [], alts := [], laidByText := true, laidKinds := [.data, .data, .data], laidTests := true, laidLooks := .later }
def FnExactStackTextUptoCardSaid : Prop := Claim7.holds Tryd.pinned (.plain (OpenSpec.upto fnExactStackTextSpec)) fnExactStackTextUptoCard

/-- THE SECOND FORM's CARD OF 'laws.FnDrying'. -/
def fnDryingUptoCard : Claim7 := { stood := { row := fnDryingUptoRow, standIns := [], harness := (true, "91919a2f760ca2dd49d90fc1ea8d789ec9513558ee9cb40bca87357d719f6644"), looks := false }, kinds := [], alts := [], laidByText := true, laidKinds := [.data], laidTests := true, laidLooks := .later }
def FnDryingUptoCardSaid : Prop := Claim7.holds Tryd.pinned (.plain (OpenSpec.upto fnDryingSpec)) fnDryingUptoCard
end Rows
end Go.Proofs.YtfamahojeeagiaaDoor
