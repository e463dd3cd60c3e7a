/-
  No cell of these rows narrows 'for every input' (looked for: loops, veiled, ifaces, maps, wideKeys, modest, calm, conditions, laid).
  DERIVED. THE GIVEN ROWS OF THIS SEAT. 11 by the template 'for every input the law returns true; each argument reads behind the call as it read before'; 0 by the template 'total and deterministic' (their statements: YtnlnocapbbeleaaTotals.lean).
  GIVEN WITH THE SEED: the statements are not yours to turn. If you find one false, say at which input.
  Laid BY PROGRAM, IN A SANDBOX (cutbox-rows.mjs): the forced cells as the released guide's own fill.sh prints them over the translation 54ffb3c71e251161… (all of the seat's roots in one cut). By AI agents, Wed Nov 11 2026. No macro, syntax, notation, axiom, sorry.
-/
import Derived.Test.YtnlnocapbbeleaaChecked
import GoSem.Claim
import GoSem.ClaimJoined
import GoSem.ClaimMapViews
import Derived.JoinedTies
import Derived.KernelRfl
namespace Go.Proofs.Ytnlnocapbbeleaa
/- THE CELL 'sum', in the pinned program and in every row, IS THE sha256 OF THE DUMP (.gsa) THAT YtnlnocapbbeleaaProg.lean LOADS. Nothing in Lean hashes anything: it is a label: what it is worth is what the hold of that sum in a sandbox is worth. -/
noncomputable def Try.pinned : Pinned := { name := "ytnlnocapbbeleaa", sum := "54ffb3c71e251161756cd77bc46b67f816873c12071503e64f69776ebb2cf212", checked := Try.checked }
namespace Rows
def none {H : Type} : Left H := { results := [], args := [] }

/-- 'laws.FnExactValidPegs': WHATEVER THE INPUT: true; the input reads as it did. -/
def fnExactValidPegsSpec : ChangeSpec := { name := "fnExactValidPegs", fn := fun _ => fun
  | [d] => { results := [.lit (.bool true)], args := [d] }
  | _ => none }
def fnExactValidPegsRow : OpenClaim := { program := "ytnlnocapbbeleaa", sum := "54ffb3c71e251161756cd77bc46b67f816873c12071503e64f69776ebb2cf212", func := "loop.example/g01061/laws.FnExactValidPegs", spec := "fnExactValidPegs", unfollowed := true, recurses := true, plainKeys := false, apart := false }
def FnExactValidPegsSaid : Prop := fnExactValidPegsRow.holds Try.pinned (OpenSpec.ofChange fnExactValidPegsSpec)

/-- ITS FALSE NEIGHBOUR: 'it returns false'. Refute it at one input. -/
def fnExactValidPegsWrong : ChangeSpec := { name := "fnExactValidPegs", fn := fun _ => fun
  | [d] => { results := [.lit (.bool false)], args := [d] }
  | _ => none }
def FnExactValidPegsWrongFalsely : Prop := fnExactValidPegsRow.holds Try.pinned (OpenSpec.ofChange fnExactValidPegsWrong)

/-- 'laws.FnExactPegAt': WHATEVER THE INPUT: true; the input reads as it did. -/
def fnExactPegAtSpec : ChangeSpec := { name := "fnExactPegAt", fn := fun _ => fun
  | [d1, d2] => { results := [.lit (.bool true)], args := [d1, d2] }
  | _ => none }
def fnExactPegAtRow : OpenClaim := { program := "ytnlnocapbbeleaa", sum := "54ffb3c71e251161756cd77bc46b67f816873c12071503e64f69776ebb2cf212", func := "loop.example/g01061/laws.FnExactPegAt", spec := "fnExactPegAt", plainKeys := false, apart := false }
def FnExactPegAtSaid : Prop := fnExactPegAtRow.holds Try.pinned (OpenSpec.ofChange fnExactPegAtSpec)

/-- ITS FALSE NEIGHBOUR: 'it returns false'. Refute it at one input. -/
def fnExactPegAtWrong : ChangeSpec := { name := "fnExactPegAt", fn := fun _ => fun
  | [d1, d2] => { results := [.lit (.bool false)], args := [d1, d2] }
  | _ => none }
def FnExactPegAtWrongFalsely : Prop := fnExactPegAtRow.holds Try.pinned (OpenSpec.ofChange fnExactPegAtWrong)

/-- 'laws.FnExactWayIn': WHATEVER THE INPUT: true; the input reads as it did. -/
def fnExactWayInSpec : ChangeSpec := { name := "fnExactWayIn", fn := fun _ => fun
  | [d1, d2] => { results := [.lit (.bool true)], args := [d1, d2] }
  | _ => none }
def fnExactWayInRow : OpenClaim := { program := "ytnlnocapbbeleaa", sum := "54ffb3c71e251161756cd77bc46b67f816873c12071503e64f69776ebb2cf212", func := "loop.example/g01061/laws.FnExactWayIn", spec := "fnExactWayIn", unfollowed := true, recurses := true, plainKeys := false, apart := false }
def FnExactWayInSaid : Prop := fnExactWayInRow.holds Try.pinned (OpenSpec.ofChange fnExactWayInSpec)

/-- ITS FALSE NEIGHBOUR: 'it returns false'. Refute it at one input. -/
def fnExactWayInWrong : ChangeSpec := { name := "fnExactWayIn", fn := fun _ => fun
  | [d1, d2] => { results := [.lit (.bool false)], args := [d1, d2] }
  | _ => none }
def FnExactWayInWrongFalsely : Prop := fnExactWayInRow.holds Try.pinned (OpenSpec.ofChange fnExactWayInWrong)

/-- 'laws.FnExactTurnFor': WHATEVER THE INPUT: true; the input reads as it did. -/
def fnExactTurnForSpec : ChangeSpec := { name := "fnExactTurnFor", fn := fun _ => fun
  | [d1, d2, d3] => { results := [.lit (.bool true)], args := [d1, d2, d3] }
  | _ => none }
def fnExactTurnForRow : OpenClaim := { program := "ytnlnocapbbeleaa", sum := "54ffb3c71e251161756cd77bc46b67f816873c12071503e64f69776ebb2cf212", func := "loop.example/g01061/laws.FnExactTurnFor", spec := "fnExactTurnFor", unfollowed := true, recurses := true, plainKeys := false, apart := false }
def FnExactTurnForSaid : Prop := fnExactTurnForRow.holds Try.pinned (OpenSpec.ofChange fnExactTurnForSpec)

/-- ITS FALSE NEIGHBOUR: 'it returns false'. Refute it at one input. -/
def fnExactTurnForWrong : ChangeSpec := { name := "fnExactTurnFor", fn := fun _ => fun
  | [d1, d2, d3] => { results := [.lit (.bool false)], args := [d1, d2, d3] }
  | _ => none }
def FnExactTurnForWrongFalsely : Prop := fnExactTurnForRow.holds Try.pinned (OpenSpec.ofChange fnExactTurnForWrong)

/-- 'laws.FnExactReamTo': WHATEVER THE INPUT: true; the input reads as it did. -/
def fnExactReamToSpec : ChangeSpec := { name := "fnExactReamTo", fn := fun _ => fun
  | [d1, d2, d3] => { results := [.lit (.bool true)], args := [d1, d2, d3] }
  | _ => none }
def fnExactReamToRow : OpenClaim := { program := "ytnlnocapbbeleaa", sum := "54ffb3c71e251161756cd77bc46b67f816873c12071503e64f69776ebb2cf212", func := "loop.example/g01061/laws.FnExactReamTo", spec := "fnExactReamTo", unfollowed := true, recurses := true, plainKeys := false, apart := false }
def FnExactReamToSaid : Prop := fnExactReamToRow.holds Try.pinned (OpenSpec.ofChange fnExactReamToSpec)

/-- ITS FALSE NEIGHBOUR: 'it returns false'. Refute it at one input. -/
def fnExactReamToWrong : ChangeSpec := { name := "fnExactReamTo", fn := fun _ => fun
  | [d1, d2, d3] => { results := [.lit (.bool false)], args := [d1, d2, d3] }
  | _ => none }
def FnExactReamToWrongFalsely : Prop := fnExactReamToRow.holds Try.pinned (OpenSpec.ofChange fnExactReamToWrong)

/-- 'laws.FnExactAfterLength': WHATEVER THE INPUT: true; the input reads as it did. -/
def fnExactAfterLengthSpec : ChangeSpec := { name := "fnExactAfterLength", fn := fun _ => fun
  | [d1, d2] => { results := [.lit (.bool true)], args := [d1, d2] }
  | _ => none }
def fnExactAfterLengthRow : OpenClaim := { program := "ytnlnocapbbeleaa", sum := "54ffb3c71e251161756cd77bc46b67f816873c12071503e64f69776ebb2cf212", func := "loop.example/g01061/laws.FnExactAfterLength", spec := "fnExactAfterLength", plainKeys := false, apart := false }
def FnExactAfterLengthSaid : Prop := fnExactAfterLengthRow.holds Try.pinned (OpenSpec.ofChange fnExactAfterLengthSpec)

/-- ITS FALSE NEIGHBOUR: 'it returns false'. Refute it at one input. -/
def fnExactAfterLengthWrong : ChangeSpec := { name := "fnExactAfterLength", fn := fun _ => fun
  | [d1, d2] => { results := [.lit (.bool false)], args := [d1, d2] }
  | _ => none }
def FnExactAfterLengthWrongFalsely : Prop := fnExactAfterLengthRow.holds Try.pinned (OpenSpec.ofChange fnExactAfterLengthWrong)

/-- 'laws.FnExactPostRing': WHATEVER THE INPUT: true; the input reads as it did. -/
def fnExactPostRingSpec : ChangeSpec := { name := "fnExactPostRing", fn := fun _ => fun
  | [d1, d2] => { results := [.lit (.bool true)], args := [d1, d2] }
  | _ => none }
def fnExactPostRingRow : OpenClaim := { program := "ytnlnocapbbeleaa", sum := "54ffb3c71e251161756cd77bc46b67f816873c12071503e64f69776ebb2cf212", func := "loop.example/g01061/laws.FnExactPostRing", spec := "fnExactPostRing", plainKeys := false, apart := false }
def FnExactPostRingSaid : Prop := fnExactPostRingRow.holds Try.pinned (OpenSpec.ofChange fnExactPostRingSpec)

/-- ITS FALSE NEIGHBOUR: 'it returns false'. Refute it at one input. -/
def fnExactPostRingWrong : ChangeSpec := { name := "fnExactPostRing", fn := fun _ => fun
  | [d1, d2] => { results := [.lit (.bool false)], args := [d1, d2] }
  | _ => none }
def FnExactPostRingWrongFalsely : Prop := fnExactPostRingRow.holds Try.pinned (OpenSpec.ofChange fnExactPostRingWrong)

/-- 'laws.FnExactBestPost': WHATEVER THE INPUT: true; the input reads as it did. -/
def fnExactBestPostSpec : ChangeSpec := { name := "fnExactBestPost", fn := fun _ => fun
  | [d] => { results := [.lit (.bool true)], args := [d] }
  | _ => none }
def fnExactBestPostRow : OpenClaim := { program := "ytnlnocapbbeleaa", sum := "54ffb3c71e251161756cd77bc46b67f816873c12071503e64f69776ebb2cf212", func := "loop.example/g01061/laws.FnExactBestPost", spec := "fnExactBestPost", unfollowed := true, recurses := true, plainKeys := false, apart := false }
def FnExactBestPostSaid : Prop := fnExactBestPostRow.holds Try.pinned (OpenSpec.ofChange fnExactBestPostSpec)

/-- ITS FALSE NEIGHBOUR: 'it returns false'. Refute it at one input. -/
def fnExactBestPostWrong : ChangeSpec := { name := "fnExactBestPost", fn := fun _ => fun
  | [d] => { results := [.lit (.bool false)], args := [d] }
  | _ => none }
def FnExactBestPostWrongFalsely : Prop := fnExactBestPostRow.holds Try.pinned (OpenSpec.ofChange fnExactBestPostWrong)

/-- 'laws.FnExactPostLength': WHATEVER THE INPUT: true; the input reads as it did. -/
def fnExactPostLengthSpec : ChangeSpec := { name := "fnExactPostLength", fn := fun _ => fun
  | [d1, d2, d3, d4] => { results := [.lit (.bool true)], args := [d1, d2, d3, d4] }
  | _ => none }
def fnExactPostLengthRow : OpenClaim := { program := "ytnlnocapbbeleaa", sum := "54ffb3c71e251161756cd77bc46b67f816873c12071503e64f69776ebb2cf212", func := "loop.example/g01061/laws.FnExactPostLength", spec := "fnExactPostLength", plainKeys := false, apart := false }
def FnExactPostLengthSaid : Prop := fnExactPostLengthRow.holds Try.pinned (OpenSpec.ofChange fnExactPostLengthSpec)

/-- ITS FALSE NEIGHBOUR: 'it returns false'. Refute it at one input. -/
def fnExactPostLengthWrong : ChangeSpec := { name := "fnExactPostLength", fn := fun _ => fun
  | [d1, d2, d3, d4] => { results := [.lit (.bool false)], args := [d1, d2, d3, d4] }
  | _ => none }
def FnExactPostLengthWrongFalsely : Prop := fnExactPostLengthRow.holds Try.pinned (OpenSpec.ofChange fnExactPostLengthWrong)

/-- 'laws.FnExactWearOfPegs': WHATEVER THE INPUT: true; the input reads as it did. -/
def fnExactWearOfPegsSpec : ChangeSpec := { name := "fnExactWearOfPegs", fn := fun _ => fun
  | [d1, d2] => { results := [.lit (.bool true)], args := [d1, d2] }
  | _ => none }
def fnExactWearOfPegsRow : OpenClaim := { program := "ytnlnocapbbeleaa", sum := "54ffb3c71e251161756cd77bc46b67f816873c12071503e64f69776ebb2cf212", func := "loop.example/g01061/laws.FnExactWearOfPegs", spec := "fnExactWearOfPegs", unfollowed := true, recurses := true, plainKeys := false, apart := false }
def FnExactWearOfPegsSaid : Prop := fnExactWearOfPegsRow.holds Try.pinned (OpenSpec.ofChange fnExactWearOfPegsSpec)

/-- ITS FALSE NEIGHBOUR: 'it returns false'. Refute it at one input. -/
def fnExactWearOfPegsWrong : ChangeSpec := { name := "fnExactWearOfPegs", fn := fun _ => fun
  | [d1, d2] => { results := [.lit (.bool false)], args := [d1, d2] }
  | _ => none }
def FnExactWearOfPegsWrongFalsely : Prop := fnExactWearOfPegsRow.holds Try.pinned (OpenSpec.ofChange fnExactWearOfPegsWrong)

/-- 'laws.FnExactFitPegs': WHATEVER THE INPUT: true; the input reads as it did. -/
def fnExactFitPegsSpec : ChangeSpec := { name := "fnExactFitPegs", fn := fun _ => fun
  | [d1, d2, d3] => { results := [.lit (.bool true)], args := [d1, d2, d3] }
  | _ => none }
def fnExactFitPegsRow : OpenClaim := { program := "ytnlnocapbbeleaa", sum := "54ffb3c71e251161756cd77bc46b67f816873c12071503e64f69776ebb2cf212", func := "loop.example/g01061/laws.FnExactFitPegs", spec := "fnExactFitPegs", unfollowed := true, recurses := true, plainKeys := false, apart := false }
def FnExactFitPegsSaid : Prop := fnExactFitPegsRow.holds Try.pinned (OpenSpec.ofChange fnExactFitPegsSpec)

/-- ITS FALSE NEIGHBOUR: 'it returns false'. Refute it at one input. -/
def fnExactFitPegsWrong : ChangeSpec := { name := "fnExactFitPegs", fn := fun _ => fun
  | [d1, d2, d3] => { results := [.lit (.bool false)], args := [d1, d2, d3] }
  | _ => none }
def FnExactFitPegsWrongFalsely : Prop := fnExactFitPegsRow.holds Try.pinned (OpenSpec.ofChange fnExactFitPegsWrong)

/- THE SECOND FORM. 'bulk': how many values and letters a reading holds, each counted each time it is reached (what is shared counts as often as it is met; a slice's spare places count too). A statement '..UptoSaid' is the law's where the arguments, and the package variables that the reading takes, are together of bulk at most 1048576: NARROWER than '..Said'. Prove '..Said' where nothing that the law and all that it calls make is longer than what came in: it says more and counts as full. Else prove '..UptoSaid'. A law counts once. -/
mutual
def uptoBulk {H : Type} : DataW H → Nat
  | .lit (.string bytes) => bytes.length + 1
  | .lit _ => 1
  | .nil => 1
  | .ptr d => uptoBulk d + 1
  | .slice elems spare => uptoBulkAll elems + uptoBulkAll spare + 1
  | .agg parts => uptoBulkAll parts + 1
  | .iface _ d => uptoBulk d + 1
  | .map entries => uptoBulkEntries entries + 1
  | .held _ => 1
def uptoBulkAll {H : Type} : List (DataW H) → Nat
  | [] => 0
  | d :: r => uptoBulk d + uptoBulkAll r
def uptoBulkEntries {H : Type} : List (Lit × DataW H) → Nat
  | [] => 0
  | x :: r => uptoBulkEntry x + uptoBulkEntries r
def uptoBulkEntry {H : Type} : Lit × DataW H → Nat
  | (.string bytes, d) => bytes.length + uptoBulk d + 1
  | (_, d) => uptoBulk d + 1
 end
def uptoSmall : (H : Type) → List (DataW H) → Bool := fun _ ds => decide (uptoBulkAll ds ≤ 1048576)
def OpenSpec.upto (s : _root_.Go.ChangeSpec) : _root_.Go.OpenSpec := { _root_.Go.OpenSpec.ofChange s with cond := some uptoSmall }

/-- 'laws.FnExactValidPegs', WHERE WHAT IT READS IS OF BULK AT MOST 1048576: true; the input reads as it did. -/
def fnExactValidPegsUptoRow : OpenClaim := { program := "ytnlnocapbbeleaa", sum := "54ffb3c71e251161756cd77bc46b67f816873c12071503e64f69776ebb2cf212", func := "loop.example/g01061/laws.FnExactValidPegs", spec := "fnExactValidPegs", unfollowed := true, recurses := true, plainKeys := false, apart := false, narrowed := true }
def FnExactValidPegsUptoSaid : Prop := fnExactValidPegsUptoRow.holds Try.pinned (OpenSpec.upto fnExactValidPegsSpec)

/-- 'laws.FnExactPegAt', WHERE WHAT IT READS IS OF BULK AT MOST 1048576: true; the input reads as it did. -/
def fnExactPegAtUptoRow : OpenClaim := { program := "ytnlnocapbbeleaa", sum := "54ffb3c71e251161756cd77bc46b67f816873c12071503e64f69776ebb2cf212", func := "loop.example/g01061/laws.FnExactPegAt", spec := "fnExactPegAt", plainKeys := false, apart := false, narrowed := true }
def FnExactPegAtUptoSaid : Prop := fnExactPegAtUptoRow.holds Try.pinned (OpenSpec.upto fnExactPegAtSpec)

/-- 'laws.FnExactWayIn', WHERE WHAT IT READS IS OF BULK AT MOST 1048576: true; the input reads as it did. -/
def fnExactWayInUptoRow : OpenClaim := { program := "ytnlnocapbbeleaa", sum := "54ffb3c71e251161756cd77bc46b67f816873c12071503e64f69776ebb2cf212", func := "loop.example/g01061/laws.FnExactWayIn", spec := "fnExactWayIn", unfollowed := true, recurses := true, plainKeys := false, apart := false, narrowed := true }
def FnExactWayInUptoSaid : Prop := fnExactWayInUptoRow.holds Try.pinned (OpenSpec.upto fnExactWayInSpec)

/-- 'laws.FnExactTurnFor', WHERE WHAT IT READS IS OF BULK AT MOST 1048576: true; the input reads as it did. -/
def fnExactTurnForUptoRow : OpenClaim := { program := "ytnlnocapbbeleaa", sum := "54ffb3c71e251161756cd77bc46b67f816873c12071503e64f69776ebb2cf212", func := "loop.example/g01061/laws.FnExactTurnFor", spec := "fnExactTurnFor", unfollowed := true, recurses := true, plainKeys := false, apart := false, narrowed := true }
def FnExactTurnForUptoSaid : Prop := fnExactTurnForUptoRow.holds Try.pinned (OpenSpec.upto fnExactTurnForSpec)

/-- 'laws.FnExactReamTo', WHERE WHAT IT READS IS OF BULK AT MOST 1048576: true; the input reads as it did. -/
def fnExactReamToUptoRow : OpenClaim := { program := "ytnlnocapbbeleaa", sum := "54ffb3c71e251161756cd77bc46b67f816873c12071503e64f69776ebb2cf212", func := "loop.example/g01061/laws.FnExactReamTo", spec := "fnExactReamTo", unfollowed := true, recurses := true, plainKeys := false, apart := false, narrowed := true }
def FnExactReamToUptoSaid : Prop := fnExactReamToUptoRow.holds Try.pinned (OpenSpec.upto fnExactReamToSpec)

/-- 'laws.FnExactAfterLength', WHERE WHAT IT READS IS OF BULK AT MOST 1048576: true; the input reads as it did. -/
def fnExactAfterLengthUptoRow : OpenClaim := { program := "ytnlnocapbbeleaa", sum := "54ffb3c71e251161756cd77bc46b67f816873c12071503e64f69776ebb2cf212", func := "loop.example/g01061/laws.FnExactAfterLength", spec := "fnExactAfterLength", plainKeys := false, apart := false, narrowed := true }
def FnExactAfterLengthUptoSaid : Prop := fnExactAfterLengthUptoRow.holds Try.pinned (OpenSpec.upto fnExactAfterLengthSpec)

/-- 'laws.FnExactPostRing', WHERE WHAT IT READS IS OF BULK AT MOST 1048576: true; the input reads as it did. -/
def fnExactPostRingUptoRow : OpenClaim := { program := "ytnlnocapbbeleaa", sum := "54ffb3c71e251161756cd77bc46b67f816873c12071503e64f69776ebb2cf212", func := "loop.example/g01061/laws.FnExactPostRing", spec := "fnExactPostRing", plainKeys := false, apart := false, narrowed := true }
def FnExactPostRingUptoSaid : Prop := fnExactPostRingUptoRow.holds Try.pinned (OpenSpec.upto fnExactPostRingSpec)

/-- 'laws.FnExactBestPost', WHERE WHAT IT READS IS OF BULK AT MOST 1048576: true; the input reads as it did. -/
def fnExactBestPostUptoRow : OpenClaim := { program := "ytnlnocapbbeleaa", sum := "54ffb3c71e251161756cd77bc46b67f816873c12071503e64f69776ebb2cf212", func := "loop.example/g01061/laws.FnExactBestPost", spec := "fnExactBestPost", unfollowed := true, recurses := true, plainKeys := false, apart := false, narrowed := true }
def FnExactBestPostUptoSaid : Prop := fnExactBestPostUptoRow.holds Try.pinned (OpenSpec.upto fnExactBestPostSpec)

/-- 'laws.FnExactPostLength', WHERE WHAT IT READS IS OF BULK AT MOST 1048576: true; the input reads as it did. -/
def fnExactPostLengthUptoRow : OpenClaim := { program := "ytnlnocapbbeleaa", sum := "54ffb3c71e251161756cd77bc46b67f816873c12071503e64f69776ebb2cf212", func := "loop.example/g01061/laws.FnExactPostLength", spec := "fnExactPostLength", plainKeys := false, apart := false, narrowed := true }
def FnExactPostLengthUptoSaid : Prop := fnExactPostLengthUptoRow.holds Try.pinned (OpenSpec.upto fnExactPostLengthSpec)

/-- 'laws.FnExactWearOfPegs', WHERE WHAT IT READS IS OF BULK AT MOST 1048576: true; the input reads as it did. -/
def fnExactWearOfPegsUptoRow : OpenClaim := { program := "ytnlnocapbbeleaa", sum := "54ffb3c71e251161756cd77bc46b67f816873c12071503e64f69776ebb2cf212", func := "loop.example/g01061/laws.FnExactWearOfPegs", spec := "fnExactWearOfPegs", unfollowed := true, recurses := true, plainKeys := false, apart := false, narrowed := true }
def FnExactWearOfPegsUptoSaid : Prop := fnExactWearOfPegsUptoRow.holds Try.pinned (OpenSpec.upto fnExactWearOfPegsSpec)

/-- 'laws.FnExactFitPegs', WHERE WHAT IT READS IS OF BULK AT MOST 1048576: true; the input reads as it did. -/
def fnExactFitPegsUptoRow : OpenClaim := { program := "ytnlnocapbbeleaa", sum := "54ffb3c71e251161756cd77bc46b67f816873c12071503e64f69776ebb2cf212", func := "loop.example/g01061/laws.FnExactFitPegs", spec := "fnExactFitPegs", unfollowed := true, recurses := true, plainKeys := false, apart := false, narrowed := true }
def FnExactFitPegsUptoSaid : Prop := fnExactFitPegsUptoRow.holds Try.pinned (OpenSpec.upto fnExactFitPegsSpec)

end Rows
end Go.Proofs.Ytnlnocapbbeleaa
