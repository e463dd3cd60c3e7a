/-
  No cell of these rows narrows 'for every input' (looked for: loops, veiled, ifaces, maps, wideKeys, modest, calm, conditions, laid).
  DERIVED. THE GIVEN ROWS OF THIS SEAT. 10 by the template 'for every input the law returns true; each argument reads behind the call as it read before'; 0 by the template 'total and deterministic' (their statements: YtembebdlllcblabTotals.lean).
  GIVEN WITH THE SEED: the statements are not yours to turn. If you find one false, say at which input.
  Laid BY PROGRAM, IN A SANDBOX (cutbox-rows.mjs): the forced cells as the released guide's own fill.sh prints them over the translation 4a0ffa935ee4cedc… (all of the seat's roots in one cut). By AI agents, Wed Nov 11 2026. No macro, syntax, notation, axiom, sorry.
-/
import Derived.Test.YtembebdlllcblabChecked
import GoSem.Claim
import GoSem.ClaimJoined
import GoSem.ClaimMapViews
import Derived.JoinedTies
import Derived.KernelRfl
namespace Go.Proofs.Ytembebdlllcblab
/- THE CELL 'sum', in the pinned program and in every row, IS THE sha256 OF THE DUMP (.gsa) THAT YtembebdlllcblabProg.lean LOADS. Nothing in Lean hashes anything: it is a label: what it is worth is what the hold of that sum in a sandbox is worth. -/
noncomputable def Try.pinned : Pinned := { name := "ytembebdlllcblab", sum := "4a0ffa935ee4cedc5156a8d0d8d790d4011953d91e4ce1ec309d58a24327e68b", checked := Try.checked }
namespace Rows
def none {H : Type} : Left H := { results := [], args := [] }

/-- 'laws.FnExactValidPlank': WHATEVER THE INPUT: true; the input reads as it did. -/
def fnExactValidPlankSpec : ChangeSpec := { name := "fnExactValidPlank", fn := fun _ => fun
  | [d] => { results := [.lit (.bool true)], args := [d] }
  | _ => none }
def fnExactValidPlankRow : OpenClaim := { program := "ytembebdlllcblab", sum := "4a0ffa935ee4cedc5156a8d0d8d790d4011953d91e4ce1ec309d58a24327e68b", func := "loop.example/g01061/laws.FnExactValidPlank", spec := "fnExactValidPlank", apart := false }
def FnExactValidPlankSaid : Prop := fnExactValidPlankRow.holds Try.pinned (OpenSpec.ofChange fnExactValidPlankSpec)

/-- ITS FALSE NEIGHBOUR: 'it returns false'. Refute it at one input. -/
def fnExactValidPlankWrong : ChangeSpec := { name := "fnExactValidPlank", fn := fun _ => fun
  | [d] => { results := [.lit (.bool false)], args := [d] }
  | _ => none }
def FnExactValidPlankWrongFalsely : Prop := fnExactValidPlankRow.holds Try.pinned (OpenSpec.ofChange fnExactValidPlankWrong)

/-- 'laws.FnExactValidPlanks': WHATEVER THE INPUT: true; the input reads as it did. -/
def fnExactValidPlanksSpec : ChangeSpec := { name := "fnExactValidPlanks", fn := fun _ => fun
  | [d] => { results := [.lit (.bool true)], args := [d] }
  | _ => none }
def fnExactValidPlanksRow : OpenClaim := { program := "ytembebdlllcblab", sum := "4a0ffa935ee4cedc5156a8d0d8d790d4011953d91e4ce1ec309d58a24327e68b", func := "loop.example/g01061/laws.FnExactValidPlanks", spec := "fnExactValidPlanks", unfollowed := true, recurses := true, apart := false }
def FnExactValidPlanksSaid : Prop := fnExactValidPlanksRow.holds Try.pinned (OpenSpec.ofChange fnExactValidPlanksSpec)

/-- ITS FALSE NEIGHBOUR: 'it returns false'. Refute it at one input. -/
def fnExactValidPlanksWrong : ChangeSpec := { name := "fnExactValidPlanks", fn := fun _ => fun
  | [d] => { results := [.lit (.bool false)], args := [d] }
  | _ => none }
def FnExactValidPlanksWrongFalsely : Prop := fnExactValidPlanksRow.holds Try.pinned (OpenSpec.ofChange fnExactValidPlanksWrong)

/-- 'laws.FnExactDensityOf': WHATEVER THE INPUT: true; the input reads as it did. -/
def fnExactDensityOfSpec : ChangeSpec := { name := "fnExactDensityOf", fn := fun _ => fun
  | [d] => { results := [.lit (.bool true)], args := [d] }
  | _ => none }
def fnExactDensityOfRow : OpenClaim := { program := "ytembebdlllcblab", sum := "4a0ffa935ee4cedc5156a8d0d8d790d4011953d91e4ce1ec309d58a24327e68b", func := "loop.example/g01061/laws.FnExactDensityOf", spec := "fnExactDensityOf", apart := false }
def FnExactDensityOfSaid : Prop := fnExactDensityOfRow.holds Try.pinned (OpenSpec.ofChange fnExactDensityOfSpec)

/-- ITS FALSE NEIGHBOUR: 'it returns false'. Refute it at one input. -/
def fnExactDensityOfWrong : ChangeSpec := { name := "fnExactDensityOf", fn := fun _ => fun
  | [d] => { results := [.lit (.bool false)], args := [d] }
  | _ => none }
def FnExactDensityOfWrongFalsely : Prop := fnExactDensityOfRow.holds Try.pinned (OpenSpec.ofChange fnExactDensityOfWrong)

/-- 'laws.FnExactRingWidth': WHATEVER THE INPUT: true; the input reads as it did. -/
def fnExactRingWidthSpec : ChangeSpec := { name := "fnExactRingWidth", fn := fun _ => fun
  | [d] => { results := [.lit (.bool true)], args := [d] }
  | _ => none }
def fnExactRingWidthRow : OpenClaim := { program := "ytembebdlllcblab", sum := "4a0ffa935ee4cedc5156a8d0d8d790d4011953d91e4ce1ec309d58a24327e68b", func := "loop.example/g01061/laws.FnExactRingWidth", spec := "fnExactRingWidth", apart := false }
def FnExactRingWidthSaid : Prop := fnExactRingWidthRow.holds Try.pinned (OpenSpec.ofChange fnExactRingWidthSpec)

/-- ITS FALSE NEIGHBOUR: 'it returns false'. Refute it at one input. -/
def fnExactRingWidthWrong : ChangeSpec := { name := "fnExactRingWidth", fn := fun _ => fun
  | [d] => { results := [.lit (.bool false)], args := [d] }
  | _ => none }
def FnExactRingWidthWrongFalsely : Prop := fnExactRingWidthRow.holds Try.pinned (OpenSpec.ofChange fnExactRingWidthWrong)

/-- 'laws.FnExactSpeedOf': WHATEVER THE INPUT: true; the input reads as it did. -/
def fnExactSpeedOfSpec : ChangeSpec := { name := "fnExactSpeedOf", fn := fun _ => fun
  | [d1, d2] => { results := [.lit (.bool true)], args := [d1, d2] }
  | _ => none }
def fnExactSpeedOfRow : OpenClaim := { program := "ytembebdlllcblab", sum := "4a0ffa935ee4cedc5156a8d0d8d790d4011953d91e4ce1ec309d58a24327e68b", func := "loop.example/g01061/laws.FnExactSpeedOf", spec := "fnExactSpeedOf", apart := false }
def FnExactSpeedOfSaid : Prop := fnExactSpeedOfRow.holds Try.pinned (OpenSpec.ofChange fnExactSpeedOfSpec)

/-- ITS FALSE NEIGHBOUR: 'it returns false'. Refute it at one input. -/
def fnExactSpeedOfWrong : ChangeSpec := { name := "fnExactSpeedOf", fn := fun _ => fun
  | [d1, d2] => { results := [.lit (.bool false)], args := [d1, d2] }
  | _ => none }
def FnExactSpeedOfWrongFalsely : Prop := fnExactSpeedOfRow.holds Try.pinned (OpenSpec.ofChange fnExactSpeedOfWrong)

/-- 'laws.FnExactPairGap': WHATEVER THE INPUT: true; the input reads as it did. -/
def fnExactPairGapSpec : ChangeSpec := { name := "fnExactPairGap", fn := fun _ => fun
  | [d1, d2] => { results := [.lit (.bool true)], args := [d1, d2] }
  | _ => none }
def fnExactPairGapRow : OpenClaim := { program := "ytembebdlllcblab", sum := "4a0ffa935ee4cedc5156a8d0d8d790d4011953d91e4ce1ec309d58a24327e68b", func := "loop.example/g01061/laws.FnExactPairGap", spec := "fnExactPairGap", apart := false }
def FnExactPairGapSaid : Prop := fnExactPairGapRow.holds Try.pinned (OpenSpec.ofChange fnExactPairGapSpec)

/-- ITS FALSE NEIGHBOUR: 'it returns false'. Refute it at one input. -/
def fnExactPairGapWrong : ChangeSpec := { name := "fnExactPairGap", fn := fun _ => fun
  | [d1, d2] => { results := [.lit (.bool false)], args := [d1, d2] }
  | _ => none }
def FnExactPairGapWrongFalsely : Prop := fnExactPairGapRow.holds Try.pinned (OpenSpec.ofChange fnExactPairGapWrong)

/-- 'laws.FnExactBestPair': WHATEVER THE INPUT: true; the input reads as it did. -/
def fnExactBestPairSpec : ChangeSpec := { name := "fnExactBestPair", fn := fun _ => fun
  | [d] => { results := [.lit (.bool true)], args := [d] }
  | _ => none }
def fnExactBestPairRow : OpenClaim := { program := "ytembebdlllcblab", sum := "4a0ffa935ee4cedc5156a8d0d8d790d4011953d91e4ce1ec309d58a24327e68b", func := "loop.example/g01061/laws.FnExactBestPair", spec := "fnExactBestPair", unfollowed := true, recurses := true, apart := false }
def FnExactBestPairSaid : Prop := fnExactBestPairRow.holds Try.pinned (OpenSpec.ofChange fnExactBestPairSpec)

/-- ITS FALSE NEIGHBOUR: 'it returns false'. Refute it at one input. -/
def fnExactBestPairWrong : ChangeSpec := { name := "fnExactBestPair", fn := fun _ => fun
  | [d] => { results := [.lit (.bool false)], args := [d] }
  | _ => none }
def FnExactBestPairWrongFalsely : Prop := fnExactBestPairRow.holds Try.pinned (OpenSpec.ofChange fnExactBestPairWrong)

/-- 'laws.FnExactFitsPiece': WHATEVER THE INPUT: true; the input reads as it did. -/
def fnExactFitsPieceSpec : ChangeSpec := { name := "fnExactFitsPiece", fn := fun _ => fun
  | [d1, d2, d3, d4] => { results := [.lit (.bool true)], args := [d1, d2, d3, d4] }
  | _ => none }
def fnExactFitsPieceRow : OpenClaim := { program := "ytembebdlllcblab", sum := "4a0ffa935ee4cedc5156a8d0d8d790d4011953d91e4ce1ec309d58a24327e68b", func := "loop.example/g01061/laws.FnExactFitsPiece", spec := "fnExactFitsPiece", apart := false }
def FnExactFitsPieceSaid : Prop := fnExactFitsPieceRow.holds Try.pinned (OpenSpec.ofChange fnExactFitsPieceSpec)

/-- ITS FALSE NEIGHBOUR: 'it returns false'. Refute it at one input. -/
def fnExactFitsPieceWrong : ChangeSpec := { name := "fnExactFitsPiece", fn := fun _ => fun
  | [d1, d2, d3, d4] => { results := [.lit (.bool false)], args := [d1, d2, d3, d4] }
  | _ => none }
def FnExactFitsPieceWrongFalsely : Prop := fnExactFitsPieceRow.holds Try.pinned (OpenSpec.ofChange fnExactFitsPieceWrong)

/-- 'laws.FnExactPiecesOf': WHATEVER THE INPUT: true; the input reads as it did. -/
def fnExactPiecesOfSpec : ChangeSpec := { name := "fnExactPiecesOf", fn := fun _ => fun
  | [d1, d2, d3, d4] => { results := [.lit (.bool true)], args := [d1, d2, d3, d4] }
  | _ => none }
def fnExactPiecesOfRow : OpenClaim := { program := "ytembebdlllcblab", sum := "4a0ffa935ee4cedc5156a8d0d8d790d4011953d91e4ce1ec309d58a24327e68b", func := "loop.example/g01061/laws.FnExactPiecesOf", spec := "fnExactPiecesOf", apart := false }
def FnExactPiecesOfSaid : Prop := fnExactPiecesOfRow.holds Try.pinned (OpenSpec.ofChange fnExactPiecesOfSpec)

/-- ITS FALSE NEIGHBOUR: 'it returns false'. Refute it at one input. -/
def fnExactPiecesOfWrong : ChangeSpec := { name := "fnExactPiecesOf", fn := fun _ => fun
  | [d1, d2, d3, d4] => { results := [.lit (.bool false)], args := [d1, d2, d3, d4] }
  | _ => none }
def FnExactPiecesOfWrongFalsely : Prop := fnExactPiecesOfRow.holds Try.pinned (OpenSpec.ofChange fnExactPiecesOfWrong)

/-- 'laws.FnExactLightestFor': WHATEVER THE INPUT: true; the input reads as it did. -/
def fnExactLightestForSpec : ChangeSpec := { name := "fnExactLightestFor", fn := fun _ => fun
  | [d1, d2, d3, d4] => { results := [.lit (.bool true)], args := [d1, d2, d3, d4] }
  | _ => none }
def fnExactLightestForRow : OpenClaim := { program := "ytembebdlllcblab", sum := "4a0ffa935ee4cedc5156a8d0d8d790d4011953d91e4ce1ec309d58a24327e68b", func := "loop.example/g01061/laws.FnExactLightestFor", spec := "fnExactLightestFor", unfollowed := true, recurses := true, apart := false }
def FnExactLightestForSaid : Prop := fnExactLightestForRow.holds Try.pinned (OpenSpec.ofChange fnExactLightestForSpec)

/-- ITS FALSE NEIGHBOUR: 'it returns false'. Refute it at one input. -/
def fnExactLightestForWrong : ChangeSpec := { name := "fnExactLightestFor", fn := fun _ => fun
  | [d1, d2, d3, d4] => { results := [.lit (.bool false)], args := [d1, d2, d3, d4] }
  | _ => none }
def FnExactLightestForWrongFalsely : Prop := fnExactLightestForRow.holds Try.pinned (OpenSpec.ofChange fnExactLightestForWrong)

/- THE SECOND FORM. 'bulk': how many values and letters a reading holds, each counted each time it is reached (what is shared counts as often as it is met; a slice's spare places count too). A statement '..UptoSaid' is the law's where the arguments, and the package variables that the reading takes, are together of bulk at most 1048576: NARROWER than '..Said'. Prove '..Said' where nothing that the law and all that it calls make is longer than what came in: it says more and counts as full. Else prove '..UptoSaid'. A law counts once. -/
mutual
def uptoBulk {H : Type} : DataW H → Nat
  | .lit (.string bytes) => bytes.length + 1
  | .lit _ => 1
  | .nil => 1
  | .ptr d => uptoBulk d + 1
  | .slice elems spare => uptoBulkAll elems + uptoBulkAll spare + 1
  | .agg parts => uptoBulkAll parts + 1
  | .iface _ d => uptoBulk d + 1
  | .map entries => uptoBulkEntries entries + 1
  | .held _ => 1
def uptoBulkAll {H : Type} : List (DataW H) → Nat
  | [] => 0
  | d :: r => uptoBulk d + uptoBulkAll r
def uptoBulkEntries {H : Type} : List (Lit × DataW H) → Nat
  | [] => 0
  | x :: r => uptoBulkEntry x + uptoBulkEntries r
def uptoBulkEntry {H : Type} : Lit × DataW H → Nat
  | (.string bytes, d) => bytes.length + uptoBulk d + 1
  | (_, d) => uptoBulk d + 1
 end
def uptoSmall : (H : Type) → List (DataW H) → Bool := fun _ ds => decide (uptoBulkAll ds ≤ 1048576)
def OpenSpec.upto (s : _root_.Go.ChangeSpec) : _root_.Go.OpenSpec := { _root_.Go.OpenSpec.ofChange s with cond := some uptoSmall }

/-- 'laws.FnExactValidPlank', WHERE WHAT IT READS IS OF BULK AT MOST 1048576: true; the input reads as it did. -/
def fnExactValidPlankUptoRow : OpenClaim := { program := "ytembebdlllcblab", sum := "4a0ffa935ee4cedc5156a8d0d8d790d4011953d91e4ce1ec309d58a24327e68b", func := "loop.example/g01061/laws.FnExactValidPlank", spec := "fnExactValidPlank", apart := false, narrowed := true }
def FnExactValidPlankUptoSaid : Prop := fnExactValidPlankUptoRow.holds Try.pinned (OpenSpec.upto fnExactValidPlankSpec)

/-- 'laws.FnExactValidPlanks', WHERE WHAT IT READS IS OF BULK AT MOST 1048576: true; the input reads as it did. -/
def fnExactValidPlanksUptoRow : OpenClaim := { program := "ytembebdlllcblab", sum := "4a0ffa935ee4cedc5156a8d0d8d790d4011953d91e4ce1ec309d58a24327e68b", func := "loop.example/g01061/laws.FnExactValidPlanks", spec := "fnExactValidPlanks", unfollowed := true, recurses := true, apart := false, narrowed := true }
def FnExactValidPlanksUptoSaid : Prop := fnExactValidPlanksUptoRow.holds Try.pinned (OpenSpec.upto fnExactValidPlanksSpec)

/-- 'laws.FnExactDensityOf', WHERE WHAT IT READS IS OF BULK AT MOST 1048576: true; the input reads as it did. -/
def fnExactDensityOfUptoRow : OpenClaim := { program := "ytembebdlllcblab", sum := "4a0ffa935ee4cedc5156a8d0d8d790d4011953d91e4ce1ec309d58a24327e68b", func := "loop.example/g01061/laws.FnExactDensityOf", spec := "fnExactDensityOf", apart := false, narrowed := true }
def FnExactDensityOfUptoSaid : Prop := fnExactDensityOfUptoRow.holds Try.pinned (OpenSpec.upto fnExactDensityOfSpec)

/-- 'laws.FnExactRingWidth', WHERE WHAT IT READS IS OF BULK AT MOST 1048576: true; the input reads as it did. -/
def fnExactRingWidthUptoRow : OpenClaim := { program := "ytembebdlllcblab", sum := "4a0ffa935ee4cedc5156a8d0d8d790d4011953d91e4ce1ec309d58a24327e68b", func := "loop.example/g01061/laws.FnExactRingWidth", spec := "fnExactRingWidth", apart := false, narrowed := true }
def FnExactRingWidthUptoSaid : Prop := fnExactRingWidthUptoRow.holds Try.pinned (OpenSpec.upto fnExactRingWidthSpec)

/-- 'laws.FnExactSpeedOf', WHERE WHAT IT READS IS OF BULK AT MOST 1048576: true; the input reads as it did. -/
def fnExactSpeedOfUptoRow : OpenClaim := { program := "ytembebdlllcblab", sum := "4a0ffa935ee4cedc5156a8d0d8d790d4011953d91e4ce1ec309d58a24327e68b", func := "loop.example/g01061/laws.FnExactSpeedOf", spec := "fnExactSpeedOf", apart := false, narrowed := true }
def FnExactSpeedOfUptoSaid : Prop := fnExactSpeedOfUptoRow.holds Try.pinned (OpenSpec.upto fnExactSpeedOfSpec)

/-- 'laws.FnExactPairGap', WHERE WHAT IT READS IS OF BULK AT MOST 1048576: true; the input reads as it did. -/
def fnExactPairGapUptoRow : OpenClaim := { program := "ytembebdlllcblab", sum := "4a0ffa935ee4cedc5156a8d0d8d790d4011953d91e4ce1ec309d58a24327e68b", func := "loop.example/g01061/laws.FnExactPairGap", spec := "fnExactPairGap", apart := false, narrowed := true }
def FnExactPairGapUptoSaid : Prop := fnExactPairGapUptoRow.holds Try.pinned (OpenSpec.upto fnExactPairGapSpec)

/-- 'laws.FnExactBestPair', WHERE WHAT IT READS IS OF BULK AT MOST 1048576: true; the input reads as it did. -/
def fnExactBestPairUptoRow : OpenClaim := { program := "ytembebdlllcblab", sum := "4a0ffa935ee4cedc5156a8d0d8d790d4011953d91e4ce1ec309d58a24327e68b", func := "loop.example/g01061/laws.FnExactBestPair", spec := "fnExactBestPair", unfollowed := true, recurses := true, apart := false, narrowed := true }
def FnExactBestPairUptoSaid : Prop := fnExactBestPairUptoRow.holds Try.pinned (OpenSpec.upto fnExactBestPairSpec)

/-- 'laws.FnExactFitsPiece', WHERE WHAT IT READS IS OF BULK AT MOST 1048576: true; the input reads as it did. -/
def fnExactFitsPieceUptoRow : OpenClaim := { program := "ytembebdlllcblab", sum := "4a0ffa935ee4cedc5156a8d0d8d790d4011953d91e4ce1ec309d58a24327e68b", func := "loop.example/g01061/laws.FnExactFitsPiece", spec := "fnExactFitsPiece", apart := false, narrowed := true }
def FnExactFitsPieceUptoSaid : Prop := fnExactFitsPieceUptoRow.holds Try.pinned (OpenSpec.upto fnExactFitsPieceSpec)

/-- 'laws.FnExactPiecesOf', WHERE WHAT IT READS IS OF BULK AT MOST 1048576: true; the input reads as it did. -/
def fnExactPiecesOfUptoRow : OpenClaim := { program := "ytembebdlllcblab", sum := "4a0ffa935ee4cedc5156a8d0d8d790d4011953d91e4ce1ec309d58a24327e68b", func := "loop.example/g01061/laws.FnExactPiecesOf", spec := "fnExactPiecesOf", apart := false, narrowed := true }
def FnExactPiecesOfUptoSaid : Prop := fnExactPiecesOfUptoRow.holds Try.pinned (OpenSpec.upto fnExactPiecesOfSpec)

/-- 'laws.FnExactLightestFor', WHERE WHAT IT READS IS OF BULK AT MOST 1048576: true; the input reads as it did. -/
def fnExactLightestForUptoRow : OpenClaim := { program := "ytembebdlllcblab", sum := "4a0ffa935ee4cedc5156a8d0d8d790d4011953d91e4ce1ec309d58a24327e68b", func := "loop.example/g01061/laws.FnExactLightestFor", spec := "fnExactLightestFor", unfollowed := true, recurses := true, apart := false, narrowed := true }
def FnExactLightestForUptoSaid : Prop := fnExactLightestForUptoRow.holds Try.pinned (OpenSpec.upto fnExactLightestForSpec)

end Rows
end Go.Proofs.Ytembebdlllcblab
