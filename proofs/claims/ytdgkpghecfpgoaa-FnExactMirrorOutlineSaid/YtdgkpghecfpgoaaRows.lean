/-
  No cell of these rows narrows 'for every input' (looked for: loops, veiled, ifaces, maps, wideKeys, modest, calm, conditions, laid).
  DERIVED. THE GIVEN ROWS OF THIS SEAT. 12 by the template 'for every input the law returns true; each argument reads behind the call as it read before'; 0 by the template 'total and deterministic' (their statements: YtdgkpghecfpgoaaTotals.lean).
  GIVEN WITH THE SEED: the statements are not yours to turn. If you find one false, say at which input.
  Laid BY PROGRAM, IN A SANDBOX (cutbox-rows.mjs): the forced cells as the released guide's own fill.sh prints them over the translation 6d700edea3f26cd0… (all of the seat's roots in one cut). By AI agents, Wed Nov 11 2026. No macro, syntax, notation, axiom, sorry.
-/
import Derived.Test.YtdgkpghecfpgoaaChecked
import GoSem.Claim
import GoSem.ClaimJoined
import GoSem.ClaimMapViews
import Derived.JoinedTies
import Derived.KernelRfl
namespace Go.Proofs.Ytdgkpghecfpgoaa
/- THE CELL 'sum', in the pinned program and in every row, IS THE sha256 OF THE DUMP (.gsa) THAT YtdgkpghecfpgoaaProg.lean LOADS. Nothing in Lean hashes anything: it is a label: what it is worth is what the hold of that sum in a sandbox is worth. -/
noncomputable def Try.pinned : Pinned := { name := "ytdgkpghecfpgoaa", sum := "6d700edea3f26cd05375d9f7e121a786c7c1d3de05f5c57b4fc24cb26e24743b", checked := Try.checked }
namespace Rows
def none {H : Type} : Left H := { results := [], args := [] }

/-- 'laws.FnExactValidArc': WHATEVER THE INPUT: true; the input reads as it did. -/
def fnExactValidArcSpec : ChangeSpec := { name := "fnExactValidArc", fn := fun _ => fun
  | [d] => { results := [.lit (.bool true)], args := [d] }
  | _ => none }
def fnExactValidArcRow : OpenClaim := { program := "ytdgkpghecfpgoaa", sum := "6d700edea3f26cd05375d9f7e121a786c7c1d3de05f5c57b4fc24cb26e24743b", func := "loop.example/g01061/laws.FnExactValidArc", spec := "fnExactValidArc", apart := false }
def FnExactValidArcSaid : Prop := fnExactValidArcRow.holds Try.pinned (OpenSpec.ofChange fnExactValidArcSpec)

/-- ITS FALSE NEIGHBOUR: 'it returns false'. Refute it at one input. -/
def fnExactValidArcWrong : ChangeSpec := { name := "fnExactValidArc", fn := fun _ => fun
  | [d] => { results := [.lit (.bool false)], args := [d] }
  | _ => none }
def FnExactValidArcWrongFalsely : Prop := fnExactValidArcRow.holds Try.pinned (OpenSpec.ofChange fnExactValidArcWrong)

/-- 'laws.FnExactValidOutline': WHATEVER THE INPUT: true; the input reads as it did. -/
def fnExactValidOutlineSpec : ChangeSpec := { name := "fnExactValidOutline", fn := fun _ => fun
  | [d] => { results := [.lit (.bool true)], args := [d] }
  | _ => none }
def fnExactValidOutlineRow : OpenClaim := { program := "ytdgkpghecfpgoaa", sum := "6d700edea3f26cd05375d9f7e121a786c7c1d3de05f5c57b4fc24cb26e24743b", func := "loop.example/g01061/laws.FnExactValidOutline", spec := "fnExactValidOutline", apart := false }
def FnExactValidOutlineSaid : Prop := fnExactValidOutlineRow.holds Try.pinned (OpenSpec.ofChange fnExactValidOutlineSpec)

/-- ITS FALSE NEIGHBOUR: 'it returns false'. Refute it at one input. -/
def fnExactValidOutlineWrong : ChangeSpec := { name := "fnExactValidOutline", fn := fun _ => fun
  | [d] => { results := [.lit (.bool false)], args := [d] }
  | _ => none }
def FnExactValidOutlineWrongFalsely : Prop := fnExactValidOutlineRow.holds Try.pinned (OpenSpec.ofChange fnExactValidOutlineWrong)

/-- 'laws.FnExactRadiusSquared': WHATEVER THE INPUT: true; the input reads as it did. -/
def fnExactRadiusSquaredSpec : ChangeSpec := { name := "fnExactRadiusSquared", fn := fun _ => fun
  | [d] => { results := [.lit (.bool true)], args := [d] }
  | _ => none }
def fnExactRadiusSquaredRow : OpenClaim := { program := "ytdgkpghecfpgoaa", sum := "6d700edea3f26cd05375d9f7e121a786c7c1d3de05f5c57b4fc24cb26e24743b", func := "loop.example/g01061/laws.FnExactRadiusSquared", spec := "fnExactRadiusSquared", apart := false }
def FnExactRadiusSquaredSaid : Prop := fnExactRadiusSquaredRow.holds Try.pinned (OpenSpec.ofChange fnExactRadiusSquaredSpec)

/-- ITS FALSE NEIGHBOUR: 'it returns false'. Refute it at one input. -/
def fnExactRadiusSquaredWrong : ChangeSpec := { name := "fnExactRadiusSquared", fn := fun _ => fun
  | [d] => { results := [.lit (.bool false)], args := [d] }
  | _ => none }
def FnExactRadiusSquaredWrongFalsely : Prop := fnExactRadiusSquaredRow.holds Try.pinned (OpenSpec.ofChange fnExactRadiusSquaredWrong)

/-- 'laws.FnExactIsSmoothJoint': WHATEVER THE INPUT: true; the input reads as it did. -/
def fnExactIsSmoothJointSpec : ChangeSpec := { name := "fnExactIsSmoothJoint", fn := fun _ => fun
  | [d1, d2] => { results := [.lit (.bool true)], args := [d1, d2] }
  | _ => none }
def fnExactIsSmoothJointRow : OpenClaim := { program := "ytdgkpghecfpgoaa", sum := "6d700edea3f26cd05375d9f7e121a786c7c1d3de05f5c57b4fc24cb26e24743b", func := "loop.example/g01061/laws.FnExactIsSmoothJoint", spec := "fnExactIsSmoothJoint", apart := false }
def FnExactIsSmoothJointSaid : Prop := fnExactIsSmoothJointRow.holds Try.pinned (OpenSpec.ofChange fnExactIsSmoothJointSpec)

/-- ITS FALSE NEIGHBOUR: 'it returns false'. Refute it at one input. -/
def fnExactIsSmoothJointWrong : ChangeSpec := { name := "fnExactIsSmoothJoint", fn := fun _ => fun
  | [d1, d2] => { results := [.lit (.bool false)], args := [d1, d2] }
  | _ => none }
def FnExactIsSmoothJointWrongFalsely : Prop := fnExactIsSmoothJointRow.holds Try.pinned (OpenSpec.ofChange fnExactIsSmoothJointWrong)

/-- 'laws.FnExactCornersOf': WHATEVER THE INPUT: true; the input reads as it did. -/
def fnExactCornersOfSpec : ChangeSpec := { name := "fnExactCornersOf", fn := fun _ => fun
  | [d] => { results := [.lit (.bool true)], args := [d] }
  | _ => none }
def fnExactCornersOfRow : OpenClaim := { program := "ytdgkpghecfpgoaa", sum := "6d700edea3f26cd05375d9f7e121a786c7c1d3de05f5c57b4fc24cb26e24743b", func := "loop.example/g01061/laws.FnExactCornersOf", spec := "fnExactCornersOf", apart := false }
def FnExactCornersOfSaid : Prop := fnExactCornersOfRow.holds Try.pinned (OpenSpec.ofChange fnExactCornersOfSpec)

/-- ITS FALSE NEIGHBOUR: 'it returns false'. Refute it at one input. -/
def fnExactCornersOfWrong : ChangeSpec := { name := "fnExactCornersOf", fn := fun _ => fun
  | [d] => { results := [.lit (.bool false)], args := [d] }
  | _ => none }
def FnExactCornersOfWrongFalsely : Prop := fnExactCornersOfRow.holds Try.pinned (OpenSpec.ofChange fnExactCornersOfWrong)

/-- 'laws.FnExactIsSmooth': WHATEVER THE INPUT: true; the input reads as it did. -/
def fnExactIsSmoothSpec : ChangeSpec := { name := "fnExactIsSmooth", fn := fun _ => fun
  | [d] => { results := [.lit (.bool true)], args := [d] }
  | _ => none }
def fnExactIsSmoothRow : OpenClaim := { program := "ytdgkpghecfpgoaa", sum := "6d700edea3f26cd05375d9f7e121a786c7c1d3de05f5c57b4fc24cb26e24743b", func := "loop.example/g01061/laws.FnExactIsSmooth", spec := "fnExactIsSmooth", apart := false }
def FnExactIsSmoothSaid : Prop := fnExactIsSmoothRow.holds Try.pinned (OpenSpec.ofChange fnExactIsSmoothSpec)

/-- ITS FALSE NEIGHBOUR: 'it returns false'. Refute it at one input. -/
def fnExactIsSmoothWrong : ChangeSpec := { name := "fnExactIsSmooth", fn := fun _ => fun
  | [d] => { results := [.lit (.bool false)], args := [d] }
  | _ => none }
def FnExactIsSmoothWrongFalsely : Prop := fnExactIsSmoothRow.holds Try.pinned (OpenSpec.ofChange fnExactIsSmoothWrong)

/-- 'laws.FnExactOvalOutline': WHATEVER THE INPUT: true; the input reads as it did. -/
def fnExactOvalOutlineSpec : ChangeSpec := { name := "fnExactOvalOutline", fn := fun _ => fun
  | [d1, d2] => { results := [.lit (.bool true)], args := [d1, d2] }
  | _ => none }
def fnExactOvalOutlineRow : OpenClaim := { program := "ytdgkpghecfpgoaa", sum := "6d700edea3f26cd05375d9f7e121a786c7c1d3de05f5c57b4fc24cb26e24743b", func := "loop.example/g01061/laws.FnExactOvalOutline", spec := "fnExactOvalOutline", apart := false }
def FnExactOvalOutlineSaid : Prop := fnExactOvalOutlineRow.holds Try.pinned (OpenSpec.ofChange fnExactOvalOutlineSpec)

/-- ITS FALSE NEIGHBOUR: 'it returns false'. Refute it at one input. -/
def fnExactOvalOutlineWrong : ChangeSpec := { name := "fnExactOvalOutline", fn := fun _ => fun
  | [d1, d2] => { results := [.lit (.bool false)], args := [d1, d2] }
  | _ => none }
def FnExactOvalOutlineWrongFalsely : Prop := fnExactOvalOutlineRow.holds Try.pinned (OpenSpec.ofChange fnExactOvalOutlineWrong)

/-- 'laws.FnExactMoveOutline': WHATEVER THE INPUT: true; the input reads as it did. -/
def fnExactMoveOutlineSpec : ChangeSpec := { name := "fnExactMoveOutline", fn := fun _ => fun
  | [d1, d2, d3] => { results := [.lit (.bool true)], args := [d1, d2, d3] }
  | _ => none }
def fnExactMoveOutlineRow : OpenClaim := { program := "ytdgkpghecfpgoaa", sum := "6d700edea3f26cd05375d9f7e121a786c7c1d3de05f5c57b4fc24cb26e24743b", func := "loop.example/g01061/laws.FnExactMoveOutline", spec := "fnExactMoveOutline", unfollowed := true, recurses := true, apart := false }
def FnExactMoveOutlineSaid : Prop := fnExactMoveOutlineRow.holds Try.pinned (OpenSpec.ofChange fnExactMoveOutlineSpec)

/-- ITS FALSE NEIGHBOUR: 'it returns false'. Refute it at one input. -/
def fnExactMoveOutlineWrong : ChangeSpec := { name := "fnExactMoveOutline", fn := fun _ => fun
  | [d1, d2, d3] => { results := [.lit (.bool false)], args := [d1, d2, d3] }
  | _ => none }
def FnExactMoveOutlineWrongFalsely : Prop := fnExactMoveOutlineRow.holds Try.pinned (OpenSpec.ofChange fnExactMoveOutlineWrong)

/-- 'laws.FnExactMirrorOutline': WHATEVER THE INPUT: true; the input reads as it did. -/
def fnExactMirrorOutlineSpec : ChangeSpec := { name := "fnExactMirrorOutline", fn := fun _ => fun
  | [d] => { results := [.lit (.bool true)], args := [d] }
  | _ => none }
def fnExactMirrorOutlineRow : OpenClaim := { program := "ytdgkpghecfpgoaa", sum := "6d700edea3f26cd05375d9f7e121a786c7c1d3de05f5c57b4fc24cb26e24743b", func := "loop.example/g01061/laws.FnExactMirrorOutline", spec := "fnExactMirrorOutline", unfollowed := true, recurses := true, apart := false }
def FnExactMirrorOutlineSaid : Prop := fnExactMirrorOutlineRow.holds Try.pinned (OpenSpec.ofChange fnExactMirrorOutlineSpec)

/-- ITS FALSE NEIGHBOUR: 'it returns false'. Refute it at one input. -/
def fnExactMirrorOutlineWrong : ChangeSpec := { name := "fnExactMirrorOutline", fn := fun _ => fun
  | [d] => { results := [.lit (.bool false)], args := [d] }
  | _ => none }
def FnExactMirrorOutlineWrongFalsely : Prop := fnExactMirrorOutlineRow.holds Try.pinned (OpenSpec.ofChange fnExactMirrorOutlineWrong)

/-- 'laws.FnExactTwiceArea': WHATEVER THE INPUT: true; the input reads as it did. -/
def fnExactTwiceAreaSpec : ChangeSpec := { name := "fnExactTwiceArea", fn := fun _ => fun
  | [d] => { results := [.lit (.bool true)], args := [d] }
  | _ => none }
def fnExactTwiceAreaRow : OpenClaim := { program := "ytdgkpghecfpgoaa", sum := "6d700edea3f26cd05375d9f7e121a786c7c1d3de05f5c57b4fc24cb26e24743b", func := "loop.example/g01061/laws.FnExactTwiceArea", spec := "fnExactTwiceArea", apart := false }
def FnExactTwiceAreaSaid : Prop := fnExactTwiceAreaRow.holds Try.pinned (OpenSpec.ofChange fnExactTwiceAreaSpec)

/-- ITS FALSE NEIGHBOUR: 'it returns false'. Refute it at one input. -/
def fnExactTwiceAreaWrong : ChangeSpec := { name := "fnExactTwiceArea", fn := fun _ => fun
  | [d] => { results := [.lit (.bool false)], args := [d] }
  | _ => none }
def FnExactTwiceAreaWrongFalsely : Prop := fnExactTwiceAreaRow.holds Try.pinned (OpenSpec.ofChange fnExactTwiceAreaWrong)

/-- 'laws.FnExactBoxOf': WHATEVER THE INPUT: true; the input reads as it did. -/
def fnExactBoxOfSpec : ChangeSpec := { name := "fnExactBoxOf", fn := fun _ => fun
  | [d] => { results := [.lit (.bool true)], args := [d] }
  | _ => none }
def fnExactBoxOfRow : OpenClaim := { program := "ytdgkpghecfpgoaa", sum := "6d700edea3f26cd05375d9f7e121a786c7c1d3de05f5c57b4fc24cb26e24743b", func := "loop.example/g01061/laws.FnExactBoxOf", spec := "fnExactBoxOf", apart := false }
def FnExactBoxOfSaid : Prop := fnExactBoxOfRow.holds Try.pinned (OpenSpec.ofChange fnExactBoxOfSpec)

/-- ITS FALSE NEIGHBOUR: 'it returns false'. Refute it at one input. -/
def fnExactBoxOfWrong : ChangeSpec := { name := "fnExactBoxOf", fn := fun _ => fun
  | [d] => { results := [.lit (.bool false)], args := [d] }
  | _ => none }
def FnExactBoxOfWrongFalsely : Prop := fnExactBoxOfRow.holds Try.pinned (OpenSpec.ofChange fnExactBoxOfWrong)

/-- 'laws.FnExactSharpestOf': WHATEVER THE INPUT: true; the input reads as it did. -/
def fnExactSharpestOfSpec : ChangeSpec := { name := "fnExactSharpestOf", fn := fun _ => fun
  | [d] => { results := [.lit (.bool true)], args := [d] }
  | _ => none }
def fnExactSharpestOfRow : OpenClaim := { program := "ytdgkpghecfpgoaa", sum := "6d700edea3f26cd05375d9f7e121a786c7c1d3de05f5c57b4fc24cb26e24743b", func := "loop.example/g01061/laws.FnExactSharpestOf", spec := "fnExactSharpestOf", apart := false }
def FnExactSharpestOfSaid : Prop := fnExactSharpestOfRow.holds Try.pinned (OpenSpec.ofChange fnExactSharpestOfSpec)

/-- ITS FALSE NEIGHBOUR: 'it returns false'. Refute it at one input. -/
def fnExactSharpestOfWrong : ChangeSpec := { name := "fnExactSharpestOf", fn := fun _ => fun
  | [d] => { results := [.lit (.bool false)], args := [d] }
  | _ => none }
def FnExactSharpestOfWrongFalsely : Prop := fnExactSharpestOfRow.holds Try.pinned (OpenSpec.ofChange fnExactSharpestOfWrong)

/- THE SECOND FORM. 'bulk': how many values and letters a reading holds, each counted each time it is reached (what is shared counts as often as it is met; a slice's spare places count too). A statement '..UptoSaid' is the law's where the arguments, and the package variables that the reading takes, are together of bulk at most 1048576: NARROWER than '..Said'. Prove '..Said' where nothing that the law and all that it calls make is longer than what came in: it says more and counts as full. Else prove '..UptoSaid'. A law counts once. -/
mutual
def uptoBulk {H : Type} : DataW H → Nat
  | .lit (.string bytes) => bytes.length + 1
  | .lit _ => 1
  | .nil => 1
  | .ptr d => uptoBulk d + 1
  | .slice elems spare => uptoBulkAll elems + uptoBulkAll spare + 1
  | .agg parts => uptoBulkAll parts + 1
  | .iface _ d => uptoBulk d + 1
  | .map entries => uptoBulkEntries entries + 1
  | .held _ => 1
def uptoBulkAll {H : Type} : List (DataW H) → Nat
  | [] => 0
  | d :: r => uptoBulk d + uptoBulkAll r
def uptoBulkEntries {H : Type} : List (Lit × DataW H) → Nat
  | [] => 0
  | x :: r => uptoBulkEntry x + uptoBulkEntries r
def uptoBulkEntry {H : Type} : Lit × DataW H → Nat
  | (.string bytes, d) => bytes.length + uptoBulk d + 1
  | (_, d) => uptoBulk d + 1
 end
def uptoSmall : (H : Type) → List (DataW H) → Bool := fun _ ds => decide (uptoBulkAll ds ≤ 1048576)
def OpenSpec.upto (s : _root_.Go.ChangeSpec) : _root_.Go.OpenSpec := { _root_.Go.OpenSpec.ofChange s with cond := some uptoSmall }

/-- 'laws.FnExactValidArc', WHERE WHAT IT READS IS OF BULK AT MOST 1048576: true; the input reads as it did. -/
def fnExactValidArcUptoRow : OpenClaim := { program := "ytdgkpghecfpgoaa", sum := "6d700edea3f26cd05375d9f7e121a786c7c1d3de05f5c57b4fc24cb26e24743b", func := "loop.example/g01061/laws.FnExactValidArc", spec := "fnExactValidArc", apart := false, narrowed := true }
def FnExactValidArcUptoSaid : Prop := fnExactValidArcUptoRow.holds Try.pinned (OpenSpec.upto fnExactValidArcSpec)

/-- 'laws.FnExactValidOutline', WHERE WHAT IT READS IS OF BULK AT MOST 1048576: true; the input reads as it did. -/
def fnExactValidOutlineUptoRow : OpenClaim := { program := "ytdgkpghecfpgoaa", sum := "6d700edea3f26cd05375d9f7e121a786c7c1d3de05f5c57b4fc24cb26e24743b", func := "loop.example/g01061/laws.FnExactValidOutline", spec := "fnExactValidOutline", apart := false, narrowed := true }
def FnExactValidOutlineUptoSaid : Prop := fnExactValidOutlineUptoRow.holds Try.pinned (OpenSpec.upto fnExactValidOutlineSpec)

/-- 'laws.FnExactRadiusSquared', WHERE WHAT IT READS IS OF BULK AT MOST 1048576: true; the input reads as it did. -/
def fnExactRadiusSquaredUptoRow : OpenClaim := { program := "ytdgkpghecfpgoaa", sum := "6d700edea3f26cd05375d9f7e121a786c7c1d3de05f5c57b4fc24cb26e24743b", func := "loop.example/g01061/laws.FnExactRadiusSquared", spec := "fnExactRadiusSquared", apart := false, narrowed := true }
def FnExactRadiusSquaredUptoSaid : Prop := fnExactRadiusSquaredUptoRow.holds Try.pinned (OpenSpec.upto fnExactRadiusSquaredSpec)

/-- 'laws.FnExactIsSmoothJoint', WHERE WHAT IT READS IS OF BULK AT MOST 1048576: true; the input reads as it did. -/
def fnExactIsSmoothJointUptoRow : OpenClaim := { program := "ytdgkpghecfpgoaa", sum := "6d700edea3f26cd05375d9f7e121a786c7c1d3de05f5c57b4fc24cb26e24743b", func := "loop.example/g01061/laws.FnExactIsSmoothJoint", spec := "fnExactIsSmoothJoint", apart := false, narrowed := true }
def FnExactIsSmoothJointUptoSaid : Prop := fnExactIsSmoothJointUptoRow.holds Try.pinned (OpenSpec.upto fnExactIsSmoothJointSpec)

/-- 'laws.FnExactCornersOf', WHERE WHAT IT READS IS OF BULK AT MOST 1048576: true; the input reads as it did. -/
def fnExactCornersOfUptoRow : OpenClaim := { program := "ytdgkpghecfpgoaa", sum := "6d700edea3f26cd05375d9f7e121a786c7c1d3de05f5c57b4fc24cb26e24743b", func := "loop.example/g01061/laws.FnExactCornersOf", spec := "fnExactCornersOf", apart := false, narrowed := true }
def FnExactCornersOfUptoSaid : Prop := fnExactCornersOfUptoRow.holds Try.pinned (OpenSpec.upto fnExactCornersOfSpec)

/-- 'laws.FnExactIsSmooth', WHERE WHAT IT READS IS OF BULK AT MOST 1048576: true; the input reads as it did. -/
def fnExactIsSmoothUptoRow : OpenClaim := { program := "ytdgkpghecfpgoaa", sum := "6d700edea3f26cd05375d9f7e121a786c7c1d3de05f5c57b4fc24cb26e24743b", func := "loop.example/g01061/laws.FnExactIsSmooth", spec := "fnExactIsSmooth", apart := false, narrowed := true }
def FnExactIsSmoothUptoSaid : Prop := fnExactIsSmoothUptoRow.holds Try.pinned (OpenSpec.upto fnExactIsSmoothSpec)

/-- 'laws.FnExactOvalOutline', WHERE WHAT IT READS IS OF BULK AT MOST 1048576: true; the input reads as it did. -/
def fnExactOvalOutlineUptoRow : OpenClaim := { program := "ytdgkpghecfpgoaa", sum := "6d700edea3f26cd05375d9f7e121a786c7c1d3de05f5c57b4fc24cb26e24743b", func := "loop.example/g01061/laws.FnExactOvalOutline", spec := "fnExactOvalOutline", apart := false, narrowed := true }
def FnExactOvalOutlineUptoSaid : Prop := fnExactOvalOutlineUptoRow.holds Try.pinned (OpenSpec.upto fnExactOvalOutlineSpec)

/-- 'laws.FnExactMoveOutline', WHERE WHAT IT READS IS OF BULK AT MOST 1048576: true; the input reads as it did. -/
def fnExactMoveOutlineUptoRow : OpenClaim := { program := "ytdgkpghecfpgoaa", sum := "6d700edea3f26cd05375d9f7e121a786c7c1d3de05f5c57b4fc24cb26e24743b", func := "loop.example/g01061/laws.FnExactMoveOutline", spec := "fnExactMoveOutline", unfollowed := true, recurses := true, apart := false, narrowed := true }
def FnExactMoveOutlineUptoSaid : Prop := fnExactMoveOutlineUptoRow.holds Try.pinned (OpenSpec.upto fnExactMoveOutlineSpec)

/-- 'laws.FnExactMirrorOutline', WHERE WHAT IT READS IS OF BULK AT MOST 1048576: true; the input reads as it did. -/
def fnExactMirrorOutlineUptoRow : OpenClaim := { program := "ytdgkpghecfpgoaa", sum := "6d700edea3f26cd05375d9f7e121a786c7c1d3de05f5c57b4fc24cb26e24743b", func := "loop.example/g01061/laws.FnExactMirrorOutline", spec := "fnExactMirrorOutline", unfollowed := true, recurses := true, apart := false, narrowed := true }
def FnExactMirrorOutlineUptoSaid : Prop := fnExactMirrorOutlineUptoRow.holds Try.pinned (OpenSpec.upto fnExactMirrorOutlineSpec)

/-- 'laws.FnExactTwiceArea', WHERE WHAT IT READS IS OF BULK AT MOST 1048576: true; the input reads as it did. -/
def fnExactTwiceAreaUptoRow : OpenClaim := { program := "ytdgkpghecfpgoaa", sum := "6d700edea3f26cd05375d9f7e121a786c7c1d3de05f5c57b4fc24cb26e24743b", func := "loop.example/g01061/laws.FnExactTwiceArea", spec := "fnExactTwiceArea", apart := false, narrowed := true }
def FnExactTwiceAreaUptoSaid : Prop := fnExactTwiceAreaUptoRow.holds Try.pinned (OpenSpec.upto fnExactTwiceAreaSpec)

/-- 'laws.FnExactBoxOf', WHERE WHAT IT READS IS OF BULK AT MOST 1048576: true; the input reads as it did. -/
def fnExactBoxOfUptoRow : OpenClaim := { program := "ytdgkpghecfpgoaa", sum := "6d700edea3f26cd05375d9f7e121a786c7c1d3de05f5c57b4fc24cb26e24743b", func := "loop.example/g01061/laws.FnExactBoxOf", spec := "fnExactBoxOf", apart := false, narrowed := true }
def FnExactBoxOfUptoSaid : Prop := fnExactBoxOfUptoRow.holds Try.pinned (OpenSpec.upto fnExactBoxOfSpec)

/-- 'laws.FnExactSharpestOf', WHERE WHAT IT READS IS OF BULK AT MOST 1048576: true; the input reads as it did. -/
def fnExactSharpestOfUptoRow : OpenClaim := { program := "ytdgkpghecfpgoaa", sum := "6d700edea3f26cd05375d9f7e121a786c7c1d3de05f5c57b4fc24cb26e24743b", func := "loop.example/g01061/laws.FnExactSharpestOf", spec := "fnExactSharpestOf", apart := false, narrowed := true }
def FnExactSharpestOfUptoSaid : Prop := fnExactSharpestOfUptoRow.holds Try.pinned (OpenSpec.upto fnExactSharpestOfSpec)

end Rows
end Go.Proofs.Ytdgkpghecfpgoaa
