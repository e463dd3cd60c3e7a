/-
  No cell of these rows narrows 'for every input' (looked for: loops, veiled, ifaces, maps, wideKeys, modest, calm, conditions, laid).
  DERIVED. THE GIVEN ROWS OF THIS SEAT. 11 by the template 'for every input the law returns true; each argument reads behind the call as it read before'; 0 by the template 'total and deterministic' (their statements: YtcclahemmfjmgaaTotals.lean).
  GIVEN WITH THE SEED: the statements are not yours to turn. If you find one false, say at which input.
  Laid BY PROGRAM, IN A SANDBOX (cutbox-rows.mjs): the forced cells as the released guide's own fill.sh prints them over the translation 67eba9a6dedc621c… (all of the seat's roots in one cut). By AI agents, Wed Nov 11 2026. No macro, syntax, notation, axiom, sorry.
-/
import Derived.Test.YtcclahemmfjmgaaChecked
import GoSem.Claim
import GoSem.ClaimJoined
import GoSem.ClaimMapViews
import Derived.JoinedTies
import Derived.KernelRfl
namespace Go.Proofs.Ytcclahemmfjmgaa
/- THE CELL 'sum', in the pinned program and in every row, IS THE sha256 OF THE DUMP (.gsa) THAT YtcclahemmfjmgaaProg.lean LOADS. Nothing in Lean hashes anything: it is a label: what it is worth is what the hold of that sum in a sandbox is worth. -/
noncomputable def Try.pinned : Pinned := { name := "ytcclahemmfjmgaa", sum := "67eba9a6dedc621cc658a3183972ff8e80fa44e077599e055f6842eeab0c42c4", checked := Try.checked }
namespace Rows
def none {H : Type} : Left H := { results := [], args := [] }

/-- 'laws.FnExactValidArch': WHATEVER THE INPUT: true; the input reads as it did. -/
def fnExactValidArchSpec : ChangeSpec := { name := "fnExactValidArch", fn := fun _ => fun
  | [d] => { results := [.lit (.bool true)], args := [d] }
  | _ => none }
def fnExactValidArchRow : OpenClaim := { program := "ytcclahemmfjmgaa", sum := "67eba9a6dedc621cc658a3183972ff8e80fa44e077599e055f6842eeab0c42c4", func := "loop.example/g01061/laws.FnExactValidArch", spec := "fnExactValidArch", unfollowed := true, recurses := true, apart := false }
def FnExactValidArchSaid : Prop := fnExactValidArchRow.holds Try.pinned (OpenSpec.ofChange fnExactValidArchSpec)

/-- ITS FALSE NEIGHBOUR: 'it returns false'. Refute it at one input. -/
def fnExactValidArchWrong : ChangeSpec := { name := "fnExactValidArch", fn := fun _ => fun
  | [d] => { results := [.lit (.bool false)], args := [d] }
  | _ => none }
def FnExactValidArchWrongFalsely : Prop := fnExactValidArchRow.holds Try.pinned (OpenSpec.ofChange fnExactValidArchWrong)

/-- 'laws.FnExactHighestOf': WHATEVER THE INPUT: true; the input reads as it did. -/
def fnExactHighestOfSpec : ChangeSpec := { name := "fnExactHighestOf", fn := fun _ => fun
  | [d] => { results := [.lit (.bool true)], args := [d] }
  | _ => none }
def fnExactHighestOfRow : OpenClaim := { program := "ytcclahemmfjmgaa", sum := "67eba9a6dedc621cc658a3183972ff8e80fa44e077599e055f6842eeab0c42c4", func := "loop.example/g01061/laws.FnExactHighestOf", spec := "fnExactHighestOf", unfollowed := true, recurses := true, apart := false }
def FnExactHighestOfSaid : Prop := fnExactHighestOfRow.holds Try.pinned (OpenSpec.ofChange fnExactHighestOfSpec)

/-- ITS FALSE NEIGHBOUR: 'it returns false'. Refute it at one input. -/
def fnExactHighestOfWrong : ChangeSpec := { name := "fnExactHighestOf", fn := fun _ => fun
  | [d] => { results := [.lit (.bool false)], args := [d] }
  | _ => none }
def FnExactHighestOfWrongFalsely : Prop := fnExactHighestOfRow.holds Try.pinned (OpenSpec.ofChange fnExactHighestOfWrong)

/-- 'laws.FnExactSteepestStep': WHATEVER THE INPUT: true; the input reads as it did. -/
def fnExactSteepestStepSpec : ChangeSpec := { name := "fnExactSteepestStep", fn := fun _ => fun
  | [d] => { results := [.lit (.bool true)], args := [d] }
  | _ => none }
def fnExactSteepestStepRow : OpenClaim := { program := "ytcclahemmfjmgaa", sum := "67eba9a6dedc621cc658a3183972ff8e80fa44e077599e055f6842eeab0c42c4", func := "loop.example/g01061/laws.FnExactSteepestStep", spec := "fnExactSteepestStep", unfollowed := true, recurses := true, apart := false }
def FnExactSteepestStepSaid : Prop := fnExactSteepestStepRow.holds Try.pinned (OpenSpec.ofChange fnExactSteepestStepSpec)

/-- ITS FALSE NEIGHBOUR: 'it returns false'. Refute it at one input. -/
def fnExactSteepestStepWrong : ChangeSpec := { name := "fnExactSteepestStep", fn := fun _ => fun
  | [d] => { results := [.lit (.bool false)], args := [d] }
  | _ => none }
def FnExactSteepestStepWrongFalsely : Prop := fnExactSteepestStepRow.holds Try.pinned (OpenSpec.ofChange fnExactSteepestStepWrong)

/-- 'laws.FnExactChannelGap': WHATEVER THE INPUT: true; the input reads as it did. -/
def fnExactChannelGapSpec : ChangeSpec := { name := "fnExactChannelGap", fn := fun _ => fun
  | [d] => { results := [.lit (.bool true)], args := [d] }
  | _ => none }
def fnExactChannelGapRow : OpenClaim := { program := "ytcclahemmfjmgaa", sum := "67eba9a6dedc621cc658a3183972ff8e80fa44e077599e055f6842eeab0c42c4", func := "loop.example/g01061/laws.FnExactChannelGap", spec := "fnExactChannelGap", unfollowed := true, recurses := true, apart := false }
def FnExactChannelGapSaid : Prop := fnExactChannelGapRow.holds Try.pinned (OpenSpec.ofChange fnExactChannelGapSpec)

/-- ITS FALSE NEIGHBOUR: 'it returns false'. Refute it at one input. -/
def fnExactChannelGapWrong : ChangeSpec := { name := "fnExactChannelGap", fn := fun _ => fun
  | [d] => { results := [.lit (.bool false)], args := [d] }
  | _ => none }
def FnExactChannelGapWrongFalsely : Prop := fnExactChannelGapRow.holds Try.pinned (OpenSpec.ofChange fnExactChannelGapWrong)

/-- 'laws.FnExactMirrorGap': WHATEVER THE INPUT: true; the input reads as it did. -/
def fnExactMirrorGapSpec : ChangeSpec := { name := "fnExactMirrorGap", fn := fun _ => fun
  | [d] => { results := [.lit (.bool true)], args := [d] }
  | _ => none }
def fnExactMirrorGapRow : OpenClaim := { program := "ytcclahemmfjmgaa", sum := "67eba9a6dedc621cc658a3183972ff8e80fa44e077599e055f6842eeab0c42c4", func := "loop.example/g01061/laws.FnExactMirrorGap", spec := "fnExactMirrorGap", unfollowed := true, recurses := true, apart := false }
def FnExactMirrorGapSaid : Prop := fnExactMirrorGapRow.holds Try.pinned (OpenSpec.ofChange fnExactMirrorGapSpec)

/-- ITS FALSE NEIGHBOUR: 'it returns false'. Refute it at one input. -/
def fnExactMirrorGapWrong : ChangeSpec := { name := "fnExactMirrorGap", fn := fun _ => fun
  | [d] => { results := [.lit (.bool false)], args := [d] }
  | _ => none }
def FnExactMirrorGapWrongFalsely : Prop := fnExactMirrorGapRow.holds Try.pinned (OpenSpec.ofChange fnExactMirrorGapWrong)

/-- 'laws.FnExactPitsOf': WHATEVER THE INPUT: true; the input reads as it did. -/
def fnExactPitsOfSpec : ChangeSpec := { name := "fnExactPitsOf", fn := fun _ => fun
  | [d] => { results := [.lit (.bool true)], args := [d] }
  | _ => none }
def fnExactPitsOfRow : OpenClaim := { program := "ytcclahemmfjmgaa", sum := "67eba9a6dedc621cc658a3183972ff8e80fa44e077599e055f6842eeab0c42c4", func := "loop.example/g01061/laws.FnExactPitsOf", spec := "fnExactPitsOf", unfollowed := true, recurses := true, apart := false }
def FnExactPitsOfSaid : Prop := fnExactPitsOfRow.holds Try.pinned (OpenSpec.ofChange fnExactPitsOfSpec)

/-- ITS FALSE NEIGHBOUR: 'it returns false'. Refute it at one input. -/
def fnExactPitsOfWrong : ChangeSpec := { name := "fnExactPitsOf", fn := fun _ => fun
  | [d] => { results := [.lit (.bool false)], args := [d] }
  | _ => none }
def FnExactPitsOfWrongFalsely : Prop := fnExactPitsOfRow.holds Try.pinned (OpenSpec.ofChange fnExactPitsOfWrong)

/-- 'laws.FnExactFallsToEdge': WHATEVER THE INPUT: true; the input reads as it did. -/
def fnExactFallsToEdgeSpec : ChangeSpec := { name := "fnExactFallsToEdge", fn := fun _ => fun
  | [d] => { results := [.lit (.bool true)], args := [d] }
  | _ => none }
def fnExactFallsToEdgeRow : OpenClaim := { program := "ytcclahemmfjmgaa", sum := "67eba9a6dedc621cc658a3183972ff8e80fa44e077599e055f6842eeab0c42c4", func := "loop.example/g01061/laws.FnExactFallsToEdge", spec := "fnExactFallsToEdge", unfollowed := true, recurses := true, apart := false }
def FnExactFallsToEdgeSaid : Prop := fnExactFallsToEdgeRow.holds Try.pinned (OpenSpec.ofChange fnExactFallsToEdgeSpec)

/-- ITS FALSE NEIGHBOUR: 'it returns false'. Refute it at one input. -/
def fnExactFallsToEdgeWrong : ChangeSpec := { name := "fnExactFallsToEdge", fn := fun _ => fun
  | [d] => { results := [.lit (.bool false)], args := [d] }
  | _ => none }
def FnExactFallsToEdgeWrongFalsely : Prop := fnExactFallsToEdgeRow.holds Try.pinned (OpenSpec.ofChange fnExactFallsToEdgeWrong)

/-- 'laws.FnExactSmoothArch': WHATEVER THE INPUT: true; the input reads as it did. -/
def fnExactSmoothArchSpec : ChangeSpec := { name := "fnExactSmoothArch", fn := fun _ => fun
  | [d] => { results := [.lit (.bool true)], args := [d] }
  | _ => none }
def fnExactSmoothArchRow : OpenClaim := { program := "ytcclahemmfjmgaa", sum := "67eba9a6dedc621cc658a3183972ff8e80fa44e077599e055f6842eeab0c42c4", func := "loop.example/g01061/laws.FnExactSmoothArch", spec := "fnExactSmoothArch", unfollowed := true, recurses := true, apart := false }
def FnExactSmoothArchSaid : Prop := fnExactSmoothArchRow.holds Try.pinned (OpenSpec.ofChange fnExactSmoothArchSpec)

/-- ITS FALSE NEIGHBOUR: 'it returns false'. Refute it at one input. -/
def fnExactSmoothArchWrong : ChangeSpec := { name := "fnExactSmoothArch", fn := fun _ => fun
  | [d] => { results := [.lit (.bool false)], args := [d] }
  | _ => none }
def FnExactSmoothArchWrongFalsely : Prop := fnExactSmoothArchRow.holds Try.pinned (OpenSpec.ofChange fnExactSmoothArchWrong)

/-- 'laws.FnExactWoodOver': WHATEVER THE INPUT: true; the input reads as it did. -/
def fnExactWoodOverSpec : ChangeSpec := { name := "fnExactWoodOver", fn := fun _ => fun
  | [d1, d2] => { results := [.lit (.bool true)], args := [d1, d2] }
  | _ => none }
def fnExactWoodOverRow : OpenClaim := { program := "ytcclahemmfjmgaa", sum := "67eba9a6dedc621cc658a3183972ff8e80fa44e077599e055f6842eeab0c42c4", func := "loop.example/g01061/laws.FnExactWoodOver", spec := "fnExactWoodOver", unfollowed := true, recurses := true, apart := false }
def FnExactWoodOverSaid : Prop := fnExactWoodOverRow.holds Try.pinned (OpenSpec.ofChange fnExactWoodOverSpec)

/-- ITS FALSE NEIGHBOUR: 'it returns false'. Refute it at one input. -/
def fnExactWoodOverWrong : ChangeSpec := { name := "fnExactWoodOver", fn := fun _ => fun
  | [d1, d2] => { results := [.lit (.bool false)], args := [d1, d2] }
  | _ => none }
def FnExactWoodOverWrongFalsely : Prop := fnExactWoodOverRow.holds Try.pinned (OpenSpec.ofChange fnExactWoodOverWrong)

/-- 'laws.FnExactThinPlaces': WHATEVER THE INPUT: true; the input reads as it did. -/
def fnExactThinPlacesSpec : ChangeSpec := { name := "fnExactThinPlaces", fn := fun _ => fun
  | [d1, d2, d3] => { results := [.lit (.bool true)], args := [d1, d2, d3] }
  | _ => none }
def fnExactThinPlacesRow : OpenClaim := { program := "ytcclahemmfjmgaa", sum := "67eba9a6dedc621cc658a3183972ff8e80fa44e077599e055f6842eeab0c42c4", func := "loop.example/g01061/laws.FnExactThinPlaces", spec := "fnExactThinPlaces", unfollowed := true, recurses := true, apart := false }
def FnExactThinPlacesSaid : Prop := fnExactThinPlacesRow.holds Try.pinned (OpenSpec.ofChange fnExactThinPlacesSpec)

/-- ITS FALSE NEIGHBOUR: 'it returns false'. Refute it at one input. -/
def fnExactThinPlacesWrong : ChangeSpec := { name := "fnExactThinPlaces", fn := fun _ => fun
  | [d1, d2, d3] => { results := [.lit (.bool false)], args := [d1, d2, d3] }
  | _ => none }
def FnExactThinPlacesWrongFalsely : Prop := fnExactThinPlacesRow.holds Try.pinned (OpenSpec.ofChange fnExactThinPlacesWrong)

/-- 'laws.FnExactHollowFor': WHATEVER THE INPUT: true; the input reads as it did. -/
def fnExactHollowForSpec : ChangeSpec := { name := "fnExactHollowFor", fn := fun _ => fun
  | [d1, d2] => { results := [.lit (.bool true)], args := [d1, d2] }
  | _ => none }
def fnExactHollowForRow : OpenClaim := { program := "ytcclahemmfjmgaa", sum := "67eba9a6dedc621cc658a3183972ff8e80fa44e077599e055f6842eeab0c42c4", func := "loop.example/g01061/laws.FnExactHollowFor", spec := "fnExactHollowFor", unfollowed := true, recurses := true, apart := false }
def FnExactHollowForSaid : Prop := fnExactHollowForRow.holds Try.pinned (OpenSpec.ofChange fnExactHollowForSpec)

/-- ITS FALSE NEIGHBOUR: 'it returns false'. Refute it at one input. -/
def fnExactHollowForWrong : ChangeSpec := { name := "fnExactHollowFor", fn := fun _ => fun
  | [d1, d2] => { results := [.lit (.bool false)], args := [d1, d2] }
  | _ => none }
def FnExactHollowForWrongFalsely : Prop := fnExactHollowForRow.holds Try.pinned (OpenSpec.ofChange fnExactHollowForWrong)

/- THE SECOND FORM. 'bulk': how many values and letters a reading holds, each counted each time it is reached (what is shared counts as often as it is met; a slice's spare places count too). A statement '..UptoSaid' is the law's where the arguments, and the package variables that the reading takes, are together of bulk at most 1048576: NARROWER than '..Said'. Prove '..Said' where nothing that the law and all that it calls make is longer than what came in: it says more and counts as full. Else prove '..UptoSaid'. A law counts once. -/
mutual
def uptoBulk {H : Type} : DataW H → Nat
  | .lit (.string bytes) => bytes.length + 1
  | .lit _ => 1
  | .nil => 1
  | .ptr d => uptoBulk d + 1
  | .slice elems spare => uptoBulkAll elems + uptoBulkAll spare + 1
  | .agg parts => uptoBulkAll parts + 1
  | .iface _ d => uptoBulk d + 1
  | .map entries => uptoBulkEntries entries + 1
  | .held _ => 1
def uptoBulkAll {H : Type} : List (DataW H) → Nat
  | [] => 0
  | d :: r => uptoBulk d + uptoBulkAll r
def uptoBulkEntries {H : Type} : List (Lit × DataW H) → Nat
  | [] => 0
  | x :: r => uptoBulkEntry x + uptoBulkEntries r
def uptoBulkEntry {H : Type} : Lit × DataW H → Nat
  | (.string bytes, d) => bytes.length + uptoBulk d + 1
  | (_, d) => uptoBulk d + 1
 end
def uptoSmall : (H : Type) → List (DataW H) → Bool := fun _ ds => decide (uptoBulkAll ds ≤ 1048576)
def OpenSpec.upto (s : _root_.Go.ChangeSpec) : _root_.Go.OpenSpec := { _root_.Go.OpenSpec.ofChange s with cond := some uptoSmall }

/-- 'laws.FnExactValidArch', WHERE WHAT IT READS IS OF BULK AT MOST 1048576: true; the input reads as it did. -/
def fnExactValidArchUptoRow : OpenClaim := { program := "ytcclahemmfjmgaa", sum := "67eba9a6dedc621cc658a3183972ff8e80fa44e077599e055f6842eeab0c42c4", func := "loop.example/g01061/laws.FnExactValidArch", spec := "fnExactValidArch", unfollowed := true, recurses := true, apart := false, narrowed := true }
def FnExactValidArchUptoSaid : Prop := fnExactValidArchUptoRow.holds Try.pinned (OpenSpec.upto fnExactValidArchSpec)

/-- 'laws.FnExactHighestOf', WHERE WHAT IT READS IS OF BULK AT MOST 1048576: true; the input reads as it did. -/
def fnExactHighestOfUptoRow : OpenClaim := { program := "ytcclahemmfjmgaa", sum := "67eba9a6dedc621cc658a3183972ff8e80fa44e077599e055f6842eeab0c42c4", func := "loop.example/g01061/laws.FnExactHighestOf", spec := "fnExactHighestOf", unfollowed := true, recurses := true, apart := false, narrowed := true }
def FnExactHighestOfUptoSaid : Prop := fnExactHighestOfUptoRow.holds Try.pinned (OpenSpec.upto fnExactHighestOfSpec)

/-- 'laws.FnExactSteepestStep', WHERE WHAT IT READS IS OF BULK AT MOST 1048576: true; the input reads as it did. -/
def fnExactSteepestStepUptoRow : OpenClaim := { program := "ytcclahemmfjmgaa", sum := "67eba9a6dedc621cc658a3183972ff8e80fa44e077599e055f6842eeab0c42c4", func := "loop.example/g01061/laws.FnExactSteepestStep", spec := "fnExactSteepestStep", unfollowed := true, recurses := true, apart := false, narrowed := true }
def FnExactSteepestStepUptoSaid : Prop := fnExactSteepestStepUptoRow.holds Try.pinned (OpenSpec.upto fnExactSteepestStepSpec)

/-- 'laws.FnExactChannelGap', WHERE WHAT IT READS IS OF BULK AT MOST 1048576: true; the input reads as it did. -/
def fnExactChannelGapUptoRow : OpenClaim := { program := "ytcclahemmfjmgaa", sum := "67eba9a6dedc621cc658a3183972ff8e80fa44e077599e055f6842eeab0c42c4", func := "loop.example/g01061/laws.FnExactChannelGap", spec := "fnExactChannelGap", unfollowed := true, recurses := true, apart := false, narrowed := true }
def FnExactChannelGapUptoSaid : Prop := fnExactChannelGapUptoRow.holds Try.pinned (OpenSpec.upto fnExactChannelGapSpec)

/-- 'laws.FnExactMirrorGap', WHERE WHAT IT READS IS OF BULK AT MOST 1048576: true; the input reads as it did. -/
def fnExactMirrorGapUptoRow : OpenClaim := { program := "ytcclahemmfjmgaa", sum := "67eba9a6dedc621cc658a3183972ff8e80fa44e077599e055f6842eeab0c42c4", func := "loop.example/g01061/laws.FnExactMirrorGap", spec := "fnExactMirrorGap", unfollowed := true, recurses := true, apart := false, narrowed := true }
def FnExactMirrorGapUptoSaid : Prop := fnExactMirrorGapUptoRow.holds Try.pinned (OpenSpec.upto fnExactMirrorGapSpec)

/-- 'laws.FnExactPitsOf', WHERE WHAT IT READS IS OF BULK AT MOST 1048576: true; the input reads as it did. -/
def fnExactPitsOfUptoRow : OpenClaim := { program := "ytcclahemmfjmgaa", sum := "67eba9a6dedc621cc658a3183972ff8e80fa44e077599e055f6842eeab0c42c4", func := "loop.example/g01061/laws.FnExactPitsOf", spec := "fnExactPitsOf", unfollowed := true, recurses := true, apart := false, narrowed := true }
def FnExactPitsOfUptoSaid : Prop := fnExactPitsOfUptoRow.holds Try.pinned (OpenSpec.upto fnExactPitsOfSpec)

/-- 'laws.FnExactFallsToEdge', WHERE WHAT IT READS IS OF BULK AT MOST 1048576: true; the input reads as it did. -/
def fnExactFallsToEdgeUptoRow : OpenClaim := { program := "ytcclahemmfjmgaa", sum := "67eba9a6dedc621cc658a3183972ff8e80fa44e077599e055f6842eeab0c42c4", func := "loop.example/g01061/laws.FnExactFallsToEdge", spec := "fnExactFallsToEdge", unfollowed := true, recurses := true, apart := false, narrowed := true }
def FnExactFallsToEdgeUptoSaid : Prop := fnExactFallsToEdgeUptoRow.holds Try.pinned (OpenSpec.upto fnExactFallsToEdgeSpec)

/-- 'laws.FnExactSmoothArch', WHERE WHAT IT READS IS OF BULK AT MOST 1048576: true; the input reads as it did. -/
def fnExactSmoothArchUptoRow : OpenClaim := { program := "ytcclahemmfjmgaa", sum := "67eba9a6dedc621cc658a3183972ff8e80fa44e077599e055f6842eeab0c42c4", func := "loop.example/g01061/laws.FnExactSmoothArch", spec := "fnExactSmoothArch", unfollowed := true, recurses := true, apart := false, narrowed := true }
def FnExactSmoothArchUptoSaid : Prop := fnExactSmoothArchUptoRow.holds Try.pinned (OpenSpec.upto fnExactSmoothArchSpec)

/-- 'laws.FnExactWoodOver', WHERE WHAT IT READS IS OF BULK AT MOST 1048576: true; the input reads as it did. -/
def fnExactWoodOverUptoRow : OpenClaim := { program := "ytcclahemmfjmgaa", sum := "67eba9a6dedc621cc658a3183972ff8e80fa44e077599e055f6842eeab0c42c4", func := "loop.example/g01061/laws.FnExactWoodOver", spec := "fnExactWoodOver", unfollowed := true, recurses := true, apart := false, narrowed := true }
def FnExactWoodOverUptoSaid : Prop := fnExactWoodOverUptoRow.holds Try.pinned (OpenSpec.upto fnExactWoodOverSpec)

/-- 'laws.FnExactThinPlaces', WHERE WHAT IT READS IS OF BULK AT MOST 1048576: true; the input reads as it did. -/
def fnExactThinPlacesUptoRow : OpenClaim := { program := "ytcclahemmfjmgaa", sum := "67eba9a6dedc621cc658a3183972ff8e80fa44e077599e055f6842eeab0c42c4", func := "loop.example/g01061/laws.FnExactThinPlaces", spec := "fnExactThinPlaces", unfollowed := true, recurses := true, apart := false, narrowed := true }
def FnExactThinPlacesUptoSaid : Prop := fnExactThinPlacesUptoRow.holds Try.pinned (OpenSpec.upto fnExactThinPlacesSpec)

/-- 'laws.FnExactHollowFor', WHERE WHAT IT READS IS OF BULK AT MOST 1048576: true; the input reads as it did. -/
def fnExactHollowForUptoRow : OpenClaim := { program := "ytcclahemmfjmgaa", sum := "67eba9a6dedc621cc658a3183972ff8e80fa44e077599e055f6842eeab0c42c4", func := "loop.example/g01061/laws.FnExactHollowFor", spec := "fnExactHollowFor", unfollowed := true, recurses := true, apart := false, narrowed := true }
def FnExactHollowForUptoSaid : Prop := fnExactHollowForUptoRow.holds Try.pinned (OpenSpec.upto fnExactHollowForSpec)

end Rows
end Go.Proofs.Ytcclahemmfjmgaa
