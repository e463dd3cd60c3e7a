/-
  DERIVED. GIVEN WITH THE SEED: THE CARDS: each row of YtemccejlophmkaaDoorRows.lean that lists a variable, with what it lists TIED to the program's text (the seventh form; the later family's looks); each row that meets fmt, with fmt's text TOLD by the authors' own Lean function (tested against real Go, not proved from fmt's source: count such statements apart). THE CARD IS WHAT COUNTS. Prove the row's statement (the work); the ties are given (YtemccejlophmkaaDoorTie.lean); close each card by the builder's one call (the guide's Derived/Test/ToyasCard.lean, 'card_holds'). Laid BY PROGRAM, IN A SANDBOX (cutbox-door.mjs). By AI agents, Wed Nov 11 2026. No macro, syntax, notation, axiom, sorry.
-/
import Derived.Test.YtemccejlophmkaaDoorRows
import GoSem.ClaimSeven
namespace Go.Proofs.YtemccejlophmkaaDoor
namespace Rows

/-- THE TIED CARD OF 'laws.FnDrying'. -/
def fnDryingCard : Claim7 := { stood := { row := fnDryingRow, standIns := [], harness := (true, "d4907f0ecc11b99c4ae998aff6249f364f4da51248114773fd45fa8b1194c7f5"), looks := false }, kinds := [], alts := [], laidByText := true, laidKinds := [.data], laidTests := true, laidLooks := .later }
def FnDryingCardSaid : Prop := Claim7.holds Tryd.pinned (.plain (OpenSpec.ofChange fnDryingSpec)) fnDryingCard

/-- THE SECOND FORM's CARD OF 'laws.FnDrying'. -/
def fnDryingUptoCard : Claim7 := { stood := { row := fnDryingUptoRow, standIns := [], harness := (true, "d4907f0ecc11b99c4ae998aff6249f364f4da51248114773fd45fa8b1194c7f5"), looks := false }, kinds := [], alts := [], laidByText := true, laidKinds := [.data], laidTests := true, laidLooks := .later }
def FnDryingUptoCardSaid : Prop := Claim7.holds Tryd.pinned (.plain (OpenSpec.upto fnDryingSpec)) fnDryingUptoCard
end Rows
end Go.Proofs.YtemccejlophmkaaDoor
