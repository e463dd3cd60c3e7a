/-
  DERIVED. GIVEN WITH THE SEED: THE CARDS: each row of YtcdpkbcpglaiaaaGreatDoorRows.lean that lists a variable, with what it lists TIED to the program's text (the seventh form; the later family's looks); each row that meets fmt, with fmt's text TOLD by the authors' own Lean function (tested against real Go, not proved from fmt's source: count such statements apart). THE CARD IS WHAT COUNTS. Prove the row's statement (the work); the ties are given (YtcdpkbcpglaiaaaGreatDoorTie.lean); close each card by the builder's one call (the guide's Derived/Test/ToyasCard.lean, 'card_holds'). Laid BY PROGRAM, IN A SANDBOX (cutbox-door.mjs). By AI agents, Wed Nov 11 2026. No macro, syntax, notation, axiom, sorry.
-/
import Derived.Test.YtcdpkbcpglaiaaaGreatDoorRows
import GoSem.ClaimSeven
namespace Go.Proofs.YtcdpkbcpglaiaaaGreatDoor
namespace Rows

/-- THE TIED CARD OF 'laws.FnNecks'. -/
def fnNecksCard : Claim7 := { stood := { row := fnNecksRow, standIns := [], harness := (true, "8c80443d8292cf3389e7127b34aefe88b7046514d475ff45b4f453d8ddd4769a"), looks := true }, kinds := [], alts := [], laidByText := true, laidKinds := [.data, .data, .data, .data, .sentinel, .sentinel, .pinned], laidTests := true, laidLooks := .later }
def FnNecksCardSaid : Prop := Claim7.holds Tryz.pinned (.plain (OpenSpec.ofChange fnNecksSpec)) fnNecksCard

/-- THE SECOND FORM's CARD OF 'laws.FnNecks'. -/
def fnNecksUptoCard : Claim7 := { stood := { row := fnNecksUptoRow, standIns := [], harness := (true, "8c80443d8292cf3389e7127b34aefe88b7046514d475ff45b4f453d8ddd4769a"), looks := true }, kinds := [], alts := [], laidByText := true, laidKinds := [.data, .data, .data, .data, .sentinel, .sentinel, .pinned], laidTests := true, laidLooks := .later }
def FnNecksUptoCardSaid : Prop := Claim7.holds Tryz.pinned (.plain (OpenSpec.upto fnNecksSpec)) fnNecksUptoCard
end Rows
end Go.Proofs.YtcdpkbcpglaiaaaGreatDoor
