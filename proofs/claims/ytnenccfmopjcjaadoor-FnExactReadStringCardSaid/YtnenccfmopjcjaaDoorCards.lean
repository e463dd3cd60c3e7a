/-
  DERIVED. GIVEN WITH THE SEED: THE CARDS: each row of YtnenccfmopjcjaaDoorRows.lean that lists a variable, with what it lists TIED to the program's text (the seventh form; the later family's looks); each row that meets fmt, with fmt's text TOLD by the authors' own Lean function (tested against real Go, not proved from fmt's source: count such statements apart). THE CARD IS WHAT COUNTS. Prove the row's statement (the work); the ties are given (YtnenccfmopjcjaaDoorTie.lean); close each card by the builder's one call (the guide's Derived/Test/ToyasCard.lean, 'card_holds'). Laid BY PROGRAM, IN A SANDBOX (cutbox-door.mjs). By AI agents, Wed Nov 11 2026. No macro, syntax, notation, axiom, sorry.
-/
import Derived.Test.YtnenccfmopjcjaaDoorRows
import GoSem.ClaimSeven
namespace Go.Proofs.YtnenccfmopjcjaaDoor
namespace Rows

/-- THE TIED CARD OF 'laws.FnExactReadString'. -/
def fnExactReadStringCard : Claim7 := { stood := { row := fnExactReadStringRow, standIns := [], harness := (true, "7ea8eac3a5e8848be568be15b60c5d0765a17166409beb550e5658c47a1d7917"), looks := true }, kinds := [], alts := [], laidByText := true, laidKinds := [.data, .data, .data, .data, .sentinel, .sentinel, .pinned], laidTests := true, laidLooks := .later }
def FnExactReadStringCardSaid : Prop := Claim7.holds Tryd.pinned (.plain (OpenSpec.ofChange fnExactReadStringSpec)) fnExactReadStringCard

/-- THE SECOND FORM's CARD OF 'laws.FnExactReadString'. -/
def fnExactReadStringUptoCard : Claim7 := { stood := { row := fnExactReadStringUptoRow, standIns := [], harness := (true, "7ea8eac3a5e8848be568be15b60c5d0765a17166409beb550e5658c47a1d7917"), looks := true }, kinds := [], alts := [], laidByText := true, laidKinds := [.data, .data, .data, .data, .sentinel, .sentinel, .pinned], laidTests := true, laidLooks := .later }
def FnExactReadStringUptoCardSaid : Prop := Claim7.holds Tryd.pinned (.plain (OpenSpec.upto fnExactReadStringSpec)) fnExactReadStringUptoCard
end Rows
end Go.Proofs.YtnenccfmopjcjaaDoor
