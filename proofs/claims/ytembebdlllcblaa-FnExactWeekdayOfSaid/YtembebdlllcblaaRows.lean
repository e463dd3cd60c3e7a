/-
  No cell of these rows narrows 'for every input' (looked for: loops, veiled, ifaces, maps, wideKeys, modest, calm, conditions, laid).
  DERIVED. THE GIVEN ROWS OF THIS SEAT. 6 by the template 'for every input the law returns true; each argument reads behind the call as it read before'; 0 by the template 'total and deterministic' (their statements: YtembebdlllcblaaTotals.lean).
  GIVEN WITH THE SEED: the statements are not yours to turn. If you find one false, say at which input.
  Laid BY PROGRAM, IN A SANDBOX (cutbox-rows.mjs): the forced cells as the released guide's own fill.sh prints them over the translation ffab8ae6bfd7e7a5… (all of the seat's roots in one cut). By AI agents, Wed Nov 11 2026. No macro, syntax, notation, axiom, sorry.
-/
import Derived.Test.YtembebdlllcblaaChecked
import GoSem.Claim
import GoSem.ClaimJoined
import GoSem.ClaimMapViews
import Derived.JoinedTies
import Derived.KernelRfl
namespace Go.Proofs.Ytembebdlllcblaa
/- THE CELL 'sum', in the pinned program and in every row, IS THE sha256 OF THE DUMP (.gsa) THAT YtembebdlllcblaaProg.lean LOADS. Nothing in Lean hashes anything: it is a label: what it is worth is what the hold of that sum in a sandbox is worth. -/
noncomputable def Try.pinned : Pinned := { name := "ytembebdlllcblaa", sum := "ffab8ae6bfd7e7a5fe03f4b16a0e98b386a5c4f6d9b0e90fa7d3cdb412691cff", checked := Try.checked }
namespace Rows
def none {H : Type} : Left H := { results := [], args := [] }

/-- 'laws.FnExactDateOf': WHATEVER THE INPUT: true; the input reads as it did. -/
def fnExactDateOfSpec : ChangeSpec := { name := "fnExactDateOf", fn := fun _ => fun
  | [d] => { results := [.lit (.bool true)], args := [d] }
  | _ => none }
def fnExactDateOfRow : OpenClaim := { program := "ytembebdlllcblaa", sum := "ffab8ae6bfd7e7a5fe03f4b16a0e98b386a5c4f6d9b0e90fa7d3cdb412691cff", func := "loop.example/g01061/laws.FnExactDateOf", spec := "fnExactDateOf", apart := false }
def FnExactDateOfSaid : Prop := fnExactDateOfRow.holds Try.pinned (OpenSpec.ofChange fnExactDateOfSpec)

/-- ITS FALSE NEIGHBOUR: 'it returns false'. Refute it at one input. -/
def fnExactDateOfWrong : ChangeSpec := { name := "fnExactDateOf", fn := fun _ => fun
  | [d] => { results := [.lit (.bool false)], args := [d] }
  | _ => none }
def FnExactDateOfWrongFalsely : Prop := fnExactDateOfRow.holds Try.pinned (OpenSpec.ofChange fnExactDateOfWrong)

/-- 'laws.FnExactDayNumber': WHATEVER THE INPUT: true; the input reads as it did. -/
def fnExactDayNumberSpec : ChangeSpec := { name := "fnExactDayNumber", fn := fun _ => fun
  | [d1, d2, d3] => { results := [.lit (.bool true)], args := [d1, d2, d3] }
  | _ => none }
def fnExactDayNumberRow : OpenClaim := { program := "ytembebdlllcblaa", sum := "ffab8ae6bfd7e7a5fe03f4b16a0e98b386a5c4f6d9b0e90fa7d3cdb412691cff", func := "loop.example/g01061/laws.FnExactDayNumber", spec := "fnExactDayNumber", apart := false }
def FnExactDayNumberSaid : Prop := fnExactDayNumberRow.holds Try.pinned (OpenSpec.ofChange fnExactDayNumberSpec)

/-- ITS FALSE NEIGHBOUR: 'it returns false'. Refute it at one input. -/
def fnExactDayNumberWrong : ChangeSpec := { name := "fnExactDayNumber", fn := fun _ => fun
  | [d1, d2, d3] => { results := [.lit (.bool false)], args := [d1, d2, d3] }
  | _ => none }
def FnExactDayNumberWrongFalsely : Prop := fnExactDayNumberRow.holds Try.pinned (OpenSpec.ofChange fnExactDayNumberWrong)

/-- 'laws.FnExactWeekdayOf': WHATEVER THE INPUT: true; the input reads as it did. -/
def fnExactWeekdayOfSpec : ChangeSpec := { name := "fnExactWeekdayOf", fn := fun _ => fun
  | [d] => { results := [.lit (.bool true)], args := [d] }
  | _ => none }
def fnExactWeekdayOfRow : OpenClaim := { program := "ytembebdlllcblaa", sum := "ffab8ae6bfd7e7a5fe03f4b16a0e98b386a5c4f6d9b0e90fa7d3cdb412691cff", func := "loop.example/g01061/laws.FnExactWeekdayOf", spec := "fnExactWeekdayOf", apart := false }
def FnExactWeekdayOfSaid : Prop := fnExactWeekdayOfRow.holds Try.pinned (OpenSpec.ofChange fnExactWeekdayOfSpec)

/-- ITS FALSE NEIGHBOUR: 'it returns false'. Refute it at one input. -/
def fnExactWeekdayOfWrong : ChangeSpec := { name := "fnExactWeekdayOf", fn := fun _ => fun
  | [d] => { results := [.lit (.bool false)], args := [d] }
  | _ => none }
def FnExactWeekdayOfWrongFalsely : Prop := fnExactWeekdayOfRow.holds Try.pinned (OpenSpec.ofChange fnExactWeekdayOfWrong)

/-- 'laws.FnExactInchParts': WHATEVER THE INPUT: true; the input reads as it did. -/
def fnExactInchPartsSpec : ChangeSpec := { name := "fnExactInchParts", fn := fun _ => fun
  | [d] => { results := [.lit (.bool true)], args := [d] }
  | _ => none }
def fnExactInchPartsRow : OpenClaim := { program := "ytembebdlllcblaa", sum := "ffab8ae6bfd7e7a5fe03f4b16a0e98b386a5c4f6d9b0e90fa7d3cdb412691cff", func := "loop.example/g01061/laws.FnExactInchParts", spec := "fnExactInchParts", apart := false }
def FnExactInchPartsSaid : Prop := fnExactInchPartsRow.holds Try.pinned (OpenSpec.ofChange fnExactInchPartsSpec)

/-- ITS FALSE NEIGHBOUR: 'it returns false'. Refute it at one input. -/
def fnExactInchPartsWrong : ChangeSpec := { name := "fnExactInchParts", fn := fun _ => fun
  | [d] => { results := [.lit (.bool false)], args := [d] }
  | _ => none }
def FnExactInchPartsWrongFalsely : Prop := fnExactInchPartsRow.holds Try.pinned (OpenSpec.ofChange fnExactInchPartsWrong)

/-- 'laws.FnExactPiecesFrom': WHATEVER THE INPUT: true; the input reads as it did. -/
def fnExactPiecesFromSpec : ChangeSpec := { name := "fnExactPiecesFrom", fn := fun _ => fun
  | [d1, d2, d3] => { results := [.lit (.bool true)], args := [d1, d2, d3] }
  | _ => none }
def fnExactPiecesFromRow : OpenClaim := { program := "ytembebdlllcblaa", sum := "ffab8ae6bfd7e7a5fe03f4b16a0e98b386a5c4f6d9b0e90fa7d3cdb412691cff", func := "loop.example/g01061/laws.FnExactPiecesFrom", spec := "fnExactPiecesFrom", apart := false }
def FnExactPiecesFromSaid : Prop := fnExactPiecesFromRow.holds Try.pinned (OpenSpec.ofChange fnExactPiecesFromSpec)

/-- ITS FALSE NEIGHBOUR: 'it returns false'. Refute it at one input. -/
def fnExactPiecesFromWrong : ChangeSpec := { name := "fnExactPiecesFrom", fn := fun _ => fun
  | [d1, d2, d3] => { results := [.lit (.bool false)], args := [d1, d2, d3] }
  | _ => none }
def FnExactPiecesFromWrongFalsely : Prop := fnExactPiecesFromRow.holds Try.pinned (OpenSpec.ofChange fnExactPiecesFromWrong)

/-- 'laws.FnExactWorkDays': WHATEVER THE INPUT: true; the input reads as it did. -/
def fnExactWorkDaysSpec : ChangeSpec := { name := "fnExactWorkDays", fn := fun _ => fun
  | [d1, d2] => { results := [.lit (.bool true)], args := [d1, d2] }
  | _ => none }
def fnExactWorkDaysRow : OpenClaim := { program := "ytembebdlllcblaa", sum := "ffab8ae6bfd7e7a5fe03f4b16a0e98b386a5c4f6d9b0e90fa7d3cdb412691cff", func := "loop.example/g01061/laws.FnExactWorkDays", spec := "fnExactWorkDays", apart := false }
def FnExactWorkDaysSaid : Prop := fnExactWorkDaysRow.holds Try.pinned (OpenSpec.ofChange fnExactWorkDaysSpec)

/-- ITS FALSE NEIGHBOUR: 'it returns false'. Refute it at one input. -/
def fnExactWorkDaysWrong : ChangeSpec := { name := "fnExactWorkDays", fn := fun _ => fun
  | [d1, d2] => { results := [.lit (.bool false)], args := [d1, d2] }
  | _ => none }
def FnExactWorkDaysWrongFalsely : Prop := fnExactWorkDaysRow.holds Try.pinned (OpenSpec.ofChange fnExactWorkDaysWrong)

/- THE SECOND FORM. 'bulk': how many values and letters a reading holds, each counted each time it is reached (what is shared counts as often as it is met; a slice's spare places count too). A statement '..UptoSaid' is the law's where the arguments, and the package variables that the reading takes, are together of bulk at most 1048576: NARROWER than '..Said'. Prove '..Said' where nothing that the law and all that it calls make is longer than what came in: it says more and counts as full. Else prove '..UptoSaid'. A law counts once. -/
mutual
def uptoBulk {H : Type} : DataW H → Nat
  | .lit (.string bytes) => bytes.length + 1
  | .lit _ => 1
  | .nil => 1
  | .ptr d => uptoBulk d + 1
  | .slice elems spare => uptoBulkAll elems + uptoBulkAll spare + 1
  | .agg parts => uptoBulkAll parts + 1
  | .iface _ d => uptoBulk d + 1
  | .map entries => uptoBulkEntries entries + 1
  | .held _ => 1
def uptoBulkAll {H : Type} : List (DataW H) → Nat
  | [] => 0
  | d :: r => uptoBulk d + uptoBulkAll r
def uptoBulkEntries {H : Type} : List (Lit × DataW H) → Nat
  | [] => 0
  | x :: r => uptoBulkEntry x + uptoBulkEntries r
def uptoBulkEntry {H : Type} : Lit × DataW H → Nat
  | (.string bytes, d) => bytes.length + uptoBulk d + 1
  | (_, d) => uptoBulk d + 1
 end
def uptoSmall : (H : Type) → List (DataW H) → Bool := fun _ ds => decide (uptoBulkAll ds ≤ 1048576)
def OpenSpec.upto (s : _root_.Go.ChangeSpec) : _root_.Go.OpenSpec := { _root_.Go.OpenSpec.ofChange s with cond := some uptoSmall }

/-- 'laws.FnExactDateOf', WHERE WHAT IT READS IS OF BULK AT MOST 1048576: true; the input reads as it did. -/
def fnExactDateOfUptoRow : OpenClaim := { program := "ytembebdlllcblaa", sum := "ffab8ae6bfd7e7a5fe03f4b16a0e98b386a5c4f6d9b0e90fa7d3cdb412691cff", func := "loop.example/g01061/laws.FnExactDateOf", spec := "fnExactDateOf", apart := false, narrowed := true }
def FnExactDateOfUptoSaid : Prop := fnExactDateOfUptoRow.holds Try.pinned (OpenSpec.upto fnExactDateOfSpec)

/-- 'laws.FnExactDayNumber', WHERE WHAT IT READS IS OF BULK AT MOST 1048576: true; the input reads as it did. -/
def fnExactDayNumberUptoRow : OpenClaim := { program := "ytembebdlllcblaa", sum := "ffab8ae6bfd7e7a5fe03f4b16a0e98b386a5c4f6d9b0e90fa7d3cdb412691cff", func := "loop.example/g01061/laws.FnExactDayNumber", spec := "fnExactDayNumber", apart := false, narrowed := true }
def FnExactDayNumberUptoSaid : Prop := fnExactDayNumberUptoRow.holds Try.pinned (OpenSpec.upto fnExactDayNumberSpec)

/-- 'laws.FnExactWeekdayOf', WHERE WHAT IT READS IS OF BULK AT MOST 1048576: true; the input reads as it did. -/
def fnExactWeekdayOfUptoRow : OpenClaim := { program := "ytembebdlllcblaa", sum := "ffab8ae6bfd7e7a5fe03f4b16a0e98b386a5c4f6d9b0e90fa7d3cdb412691cff", func := "loop.example/g01061/laws.FnExactWeekdayOf", spec := "fnExactWeekdayOf", apart := false, narrowed := true }
def FnExactWeekdayOfUptoSaid : Prop := fnExactWeekdayOfUptoRow.holds Try.pinned (OpenSpec.upto fnExactWeekdayOfSpec)

/-- 'laws.FnExactInchParts', WHERE WHAT IT READS IS OF BULK AT MOST 1048576: true; the input reads as it did. -/
def fnExactInchPartsUptoRow : OpenClaim := { program := "ytembebdlllcblaa", sum := "ffab8ae6bfd7e7a5fe03f4b16a0e98b386a5c4f6d9b0e90fa7d3cdb412691cff", func := "loop.example/g01061/laws.FnExactInchParts", spec := "fnExactInchParts", apart := false, narrowed := true }
def FnExactInchPartsUptoSaid : Prop := fnExactInchPartsUptoRow.holds Try.pinned (OpenSpec.upto fnExactInchPartsSpec)

/-- 'laws.FnExactPiecesFrom', WHERE WHAT IT READS IS OF BULK AT MOST 1048576: true; the input reads as it did. -/
def fnExactPiecesFromUptoRow : OpenClaim := { program := "ytembebdlllcblaa", sum := "ffab8ae6bfd7e7a5fe03f4b16a0e98b386a5c4f6d9b0e90fa7d3cdb412691cff", func := "loop.example/g01061/laws.FnExactPiecesFrom", spec := "fnExactPiecesFrom", apart := false, narrowed := true }
def FnExactPiecesFromUptoSaid : Prop := fnExactPiecesFromUptoRow.holds Try.pinned (OpenSpec.upto fnExactPiecesFromSpec)

/-- 'laws.FnExactWorkDays', WHERE WHAT IT READS IS OF BULK AT MOST 1048576: true; the input reads as it did. -/
def fnExactWorkDaysUptoRow : OpenClaim := { program := "ytembebdlllcblaa", sum := "ffab8ae6bfd7e7a5fe03f4b16a0e98b386a5c4f6d9b0e90fa7d3cdb412691cff", func := "loop.example/g01061/laws.FnExactWorkDays", spec := "fnExactWorkDays", apart := false, narrowed := true }
def FnExactWorkDaysUptoSaid : Prop := fnExactWorkDaysUptoRow.holds Try.pinned (OpenSpec.upto fnExactWorkDaysSpec)

end Rows
end Go.Proofs.Ytembebdlllcblaa
