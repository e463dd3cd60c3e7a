/-
  DERIVED. GIVEN WITH THE SEED: THE CARDS: each row of YtjgpckocmjolmaaDoorRows.lean that lists a variable, with what it lists TIED to the program's text (the seventh form; the later family's looks); each row that meets fmt, with fmt's text TOLD by the authors' own Lean function (tested against real Go, not proved from fmt's source: count such statements apart). THE CARD IS WHAT COUNTS. Prove the row's statement (the work); the ties are given (YtjgpckocmjolmaaDoorTie.lean); close each card by the builder's one call (the guide's Derived/Test/ToyasCard.lean, 'card_holds'). Laid BY PROGRAM, IN A SANDBOX (cutbox-door.mjs). By AI agents, Wed Nov 11 2026. No macro, syntax, notation, axiom, sorry.
-/
import Derived.Test.YtjgpckocmjolmaaDoorRows
import GoSem.ClaimSeven
namespace Go.Proofs.YtjgpckocmjolmaaDoor
namespace Rows

/-- THE TIED CARD OF 'laws.FnExactReadyStacks'. -/
def fnExactReadyStacksCard : Claim7 := { stood := { row := fnExactReadyStacksRow, standIns := [], harness := (true, "b397fb0552f86c18872db5a0db8f47fe007065db0be594ded0e65a262dc75121"), looks := false }, kinds := [], alts := [], laidByText := true, laidKinds := [.data], laidTests := true, laidLooks := .later }
def FnExactReadyStacksCardSaid : Prop := Claim7.holds Tryd.pinned (.plain (OpenSpec.ofChange fnExactReadyStacksSpec)) fnExactReadyStacksCard

/-- THE SECOND FORM's CARD OF 'laws.FnExactReadyStacks'. -/
def fnExactReadyStacksUptoCard : Claim7 := { stood := { row := fnExactReadyStacksUptoRow, standIns := [], harness := (true, "b397fb0552f86c18872db5a0db8f47fe007065db0be594ded0e65a262dc75121"), looks := false }, kinds := [], alts := [], laidByText := true, laidKinds := [.data], laidTests := true, laidLooks := .later }
def FnExactReadyStacksUptoCardSaid : Prop := Claim7.holds Tryd.pinned (.plain (OpenSpec.upto fnExactReadyStacksSpec)) fnExactReadyStacksUptoCard
end Rows
end Go.Proofs.YtjgpckocmjolmaaDoor
