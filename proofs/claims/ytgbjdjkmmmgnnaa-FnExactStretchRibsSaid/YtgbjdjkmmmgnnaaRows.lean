/-
  No cell of these rows narrows 'for every input' (looked for: loops, veiled, ifaces, maps, wideKeys, modest, calm, conditions, laid).
  DERIVED. THE GIVEN ROWS OF THIS SEAT. 7 by the template 'for every input the law returns true; each argument reads behind the call as it read before'; 0 by the template 'total and deterministic' (their statements: YtgbjdjkmmmgnnaaTotals.lean).
  GIVEN WITH THE SEED: the statements are not yours to turn. If you find one false, say at which input.
  Laid BY PROGRAM, IN A SANDBOX (cutbox-rows.mjs): the forced cells as the released guide's own fill.sh prints them over the translation 45abfd53424bff14… (all of the seat's roots in one cut). By AI agents, Wed Nov 11 2026. No macro, syntax, notation, axiom, sorry.
-/
import Derived.Test.YtgbjdjkmmmgnnaaChecked
import GoSem.Claim
import GoSem.ClaimJoined
import GoSem.ClaimMapViews
import Derived.JoinedTies
import Derived.KernelRfl
namespace Go.Proofs.Ytgbjdjkmmmgnnaa
/- THE CELL 'sum', in the pinned program and in every row, IS THE sha256 OF THE DUMP (.gsa) THAT YtgbjdjkmmmgnnaaProg.lean LOADS. Nothing in Lean hashes anything: it is a label: what it is worth is what the hold of that sum in a sandbox is worth. -/
noncomputable def Try.pinned : Pinned := { name := "ytgbjdjkmmmgnnaa", sum := "45abfd53424bff14e636aa68b7bef38b1df5a2e36429b2483ca437e549e2ee02", checked := Try.checked }
namespace Rows
def none {H : Type} : Left H := { results := [], args := [] }

/-- 'laws.FnExactValidRibs': WHATEVER THE INPUT: true; the input reads as it did. -/
def fnExactValidRibsSpec : ChangeSpec := { name := "fnExactValidRibs", fn := fun _ => fun
  | [d] => { results := [.lit (.bool true)], args := [d] }
  | _ => none }
def fnExactValidRibsRow : OpenClaim := { program := "ytgbjdjkmmmgnnaa", sum := "45abfd53424bff14e636aa68b7bef38b1df5a2e36429b2483ca437e549e2ee02", func := "loop.example/g01061/laws.FnExactValidRibs", spec := "fnExactValidRibs", unfollowed := true, recurses := true, apart := false }
def FnExactValidRibsSaid : Prop := fnExactValidRibsRow.holds Try.pinned (OpenSpec.ofChange fnExactValidRibsSpec)

/-- ITS FALSE NEIGHBOUR: 'it returns false'. Refute it at one input. -/
def fnExactValidRibsWrong : ChangeSpec := { name := "fnExactValidRibs", fn := fun _ => fun
  | [d] => { results := [.lit (.bool false)], args := [d] }
  | _ => none }
def FnExactValidRibsWrongFalsely : Prop := fnExactValidRibsRow.holds Try.pinned (OpenSpec.ofChange fnExactValidRibsWrong)

/-- 'laws.FnExactRibsLength': WHATEVER THE INPUT: true; the input reads as it did. -/
def fnExactRibsLengthSpec : ChangeSpec := { name := "fnExactRibsLength", fn := fun _ => fun
  | [d] => { results := [.lit (.bool true)], args := [d] }
  | _ => none }
def fnExactRibsLengthRow : OpenClaim := { program := "ytgbjdjkmmmgnnaa", sum := "45abfd53424bff14e636aa68b7bef38b1df5a2e36429b2483ca437e549e2ee02", func := "loop.example/g01061/laws.FnExactRibsLength", spec := "fnExactRibsLength", unfollowed := true, recurses := true, apart := false }
def FnExactRibsLengthSaid : Prop := fnExactRibsLengthRow.holds Try.pinned (OpenSpec.ofChange fnExactRibsLengthSpec)

/-- ITS FALSE NEIGHBOUR: 'it returns false'. Refute it at one input. -/
def fnExactRibsLengthWrong : ChangeSpec := { name := "fnExactRibsLength", fn := fun _ => fun
  | [d] => { results := [.lit (.bool false)], args := [d] }
  | _ => none }
def FnExactRibsLengthWrongFalsely : Prop := fnExactRibsLengthRow.holds Try.pinned (OpenSpec.ofChange fnExactRibsLengthWrong)

/-- 'laws.FnExactBlocksAt': WHATEVER THE INPUT: true; the input reads as it did. -/
def fnExactBlocksAtSpec : ChangeSpec := { name := "fnExactBlocksAt", fn := fun _ => fun
  | [d1, d2] => { results := [.lit (.bool true)], args := [d1, d2] }
  | _ => none }
def fnExactBlocksAtRow : OpenClaim := { program := "ytgbjdjkmmmgnnaa", sum := "45abfd53424bff14e636aa68b7bef38b1df5a2e36429b2483ca437e549e2ee02", func := "loop.example/g01061/laws.FnExactBlocksAt", spec := "fnExactBlocksAt", unfollowed := true, recurses := true, apart := false }
def FnExactBlocksAtSaid : Prop := fnExactBlocksAtRow.holds Try.pinned (OpenSpec.ofChange fnExactBlocksAtSpec)

/-- ITS FALSE NEIGHBOUR: 'it returns false'. Refute it at one input. -/
def fnExactBlocksAtWrong : ChangeSpec := { name := "fnExactBlocksAt", fn := fun _ => fun
  | [d1, d2] => { results := [.lit (.bool false)], args := [d1, d2] }
  | _ => none }
def FnExactBlocksAtWrongFalsely : Prop := fnExactBlocksAtRow.holds Try.pinned (OpenSpec.ofChange fnExactBlocksAtWrong)

/-- 'laws.FnExactMouldGap': WHATEVER THE INPUT: true; the input reads as it did. -/
def fnExactMouldGapSpec : ChangeSpec := { name := "fnExactMouldGap", fn := fun _ => fun
  | [d1, d2] => { results := [.lit (.bool true)], args := [d1, d2] }
  | _ => none }
def fnExactMouldGapRow : OpenClaim := { program := "ytgbjdjkmmmgnnaa", sum := "45abfd53424bff14e636aa68b7bef38b1df5a2e36429b2483ca437e549e2ee02", func := "loop.example/g01061/laws.FnExactMouldGap", spec := "fnExactMouldGap", unfollowed := true, recurses := true, apart := false }
def FnExactMouldGapSaid : Prop := fnExactMouldGapRow.holds Try.pinned (OpenSpec.ofChange fnExactMouldGapSpec)

/-- ITS FALSE NEIGHBOUR: 'it returns false'. Refute it at one input. -/
def fnExactMouldGapWrong : ChangeSpec := { name := "fnExactMouldGap", fn := fun _ => fun
  | [d1, d2] => { results := [.lit (.bool false)], args := [d1, d2] }
  | _ => none }
def FnExactMouldGapWrongFalsely : Prop := fnExactMouldGapRow.holds Try.pinned (OpenSpec.ofChange fnExactMouldGapWrong)

/-- 'laws.FnExactStretchRibs': WHATEVER THE INPUT: true; the input reads as it did. -/
def fnExactStretchRibsSpec : ChangeSpec := { name := "fnExactStretchRibs", fn := fun _ => fun
  | [d1, d2] => { results := [.lit (.bool true)], args := [d1, d2] }
  | _ => none }
def fnExactStretchRibsRow : OpenClaim := { program := "ytgbjdjkmmmgnnaa", sum := "45abfd53424bff14e636aa68b7bef38b1df5a2e36429b2483ca437e549e2ee02", func := "loop.example/g01061/laws.FnExactStretchRibs", spec := "fnExactStretchRibs", unfollowed := true, recurses := true, apart := false }
def FnExactStretchRibsSaid : Prop := fnExactStretchRibsRow.holds Try.pinned (OpenSpec.ofChange fnExactStretchRibsSpec)

/-- ITS FALSE NEIGHBOUR: 'it returns false'. Refute it at one input. -/
def fnExactStretchRibsWrong : ChangeSpec := { name := "fnExactStretchRibs", fn := fun _ => fun
  | [d1, d2] => { results := [.lit (.bool false)], args := [d1, d2] }
  | _ => none }
def FnExactStretchRibsWrongFalsely : Prop := fnExactStretchRibsRow.holds Try.pinned (OpenSpec.ofChange fnExactStretchRibsWrong)

/-- 'laws.FnExactFirstCuts': WHATEVER THE INPUT: true; the input reads as it did. -/
def fnExactFirstCutsSpec : ChangeSpec := { name := "fnExactFirstCuts", fn := fun _ => fun
  | [d1, d2, d3] => { results := [.lit (.bool true)], args := [d1, d2, d3] }
  | _ => none }
def fnExactFirstCutsRow : OpenClaim := { program := "ytgbjdjkmmmgnnaa", sum := "45abfd53424bff14e636aa68b7bef38b1df5a2e36429b2483ca437e549e2ee02", func := "loop.example/g01061/laws.FnExactFirstCuts", spec := "fnExactFirstCuts", unfollowed := true, recurses := true, apart := false }
def FnExactFirstCutsSaid : Prop := fnExactFirstCutsRow.holds Try.pinned (OpenSpec.ofChange fnExactFirstCutsSpec)

/-- ITS FALSE NEIGHBOUR: 'it returns false'. Refute it at one input. -/
def fnExactFirstCutsWrong : ChangeSpec := { name := "fnExactFirstCuts", fn := fun _ => fun
  | [d1, d2, d3] => { results := [.lit (.bool false)], args := [d1, d2, d3] }
  | _ => none }
def FnExactFirstCutsWrongFalsely : Prop := fnExactFirstCutsRow.holds Try.pinned (OpenSpec.ofChange fnExactFirstCutsWrong)

/-- 'laws.FnExactStripsLeft': WHATEVER THE INPUT: true; the input reads as it did. -/
def fnExactStripsLeftSpec : ChangeSpec := { name := "fnExactStripsLeft", fn := fun _ => fun
  | [d1, d2, d3, d4] => { results := [.lit (.bool true)], args := [d1, d2, d3, d4] }
  | _ => none }
def fnExactStripsLeftRow : OpenClaim := { program := "ytgbjdjkmmmgnnaa", sum := "45abfd53424bff14e636aa68b7bef38b1df5a2e36429b2483ca437e549e2ee02", func := "loop.example/g01061/laws.FnExactStripsLeft", spec := "fnExactStripsLeft", unfollowed := true, recurses := true, apart := false }
def FnExactStripsLeftSaid : Prop := fnExactStripsLeftRow.holds Try.pinned (OpenSpec.ofChange fnExactStripsLeftSpec)

/-- ITS FALSE NEIGHBOUR: 'it returns false'. Refute it at one input. -/
def fnExactStripsLeftWrong : ChangeSpec := { name := "fnExactStripsLeft", fn := fun _ => fun
  | [d1, d2, d3, d4] => { results := [.lit (.bool false)], args := [d1, d2, d3, d4] }
  | _ => none }
def FnExactStripsLeftWrongFalsely : Prop := fnExactStripsLeftRow.holds Try.pinned (OpenSpec.ofChange fnExactStripsLeftWrong)

/- THE SECOND FORM. 'bulk': how many values and letters a reading holds, each counted each time it is reached (what is shared counts as often as it is met; a slice's spare places count too). A statement '..UptoSaid' is the law's where the arguments, and the package variables that the reading takes, are together of bulk at most 1048576: NARROWER than '..Said'. Prove '..Said' where nothing that the law and all that it calls make is longer than what came in: it says more and counts as full. Else prove '..UptoSaid'. A law counts once. -/
mutual
def uptoBulk {H : Type} : DataW H → Nat
  | .lit (.string bytes) => bytes.length + 1
  | .lit _ => 1
  | .nil => 1
  | .ptr d => uptoBulk d + 1
  | .slice elems spare => uptoBulkAll elems + uptoBulkAll spare + 1
  | .agg parts => uptoBulkAll parts + 1
  | .iface _ d => uptoBulk d + 1
  | .map entries => uptoBulkEntries entries + 1
  | .held _ => 1
def uptoBulkAll {H : Type} : List (DataW H) → Nat
  | [] => 0
  | d :: r => uptoBulk d + uptoBulkAll r
def uptoBulkEntries {H : Type} : List (Lit × DataW H) → Nat
  | [] => 0
  | x :: r => uptoBulkEntry x + uptoBulkEntries r
def uptoBulkEntry {H : Type} : Lit × DataW H → Nat
  | (.string bytes, d) => bytes.length + uptoBulk d + 1
  | (_, d) => uptoBulk d + 1
 end
def uptoSmall : (H : Type) → List (DataW H) → Bool := fun _ ds => decide (uptoBulkAll ds ≤ 1048576)
def OpenSpec.upto (s : _root_.Go.ChangeSpec) : _root_.Go.OpenSpec := { _root_.Go.OpenSpec.ofChange s with cond := some uptoSmall }

/-- 'laws.FnExactValidRibs', WHERE WHAT IT READS IS OF BULK AT MOST 1048576: true; the input reads as it did. -/
def fnExactValidRibsUptoRow : OpenClaim := { program := "ytgbjdjkmmmgnnaa", sum := "45abfd53424bff14e636aa68b7bef38b1df5a2e36429b2483ca437e549e2ee02", func := "loop.example/g01061/laws.FnExactValidRibs", spec := "fnExactValidRibs", unfollowed := true, recurses := true, apart := false, narrowed := true }
def FnExactValidRibsUptoSaid : Prop := fnExactValidRibsUptoRow.holds Try.pinned (OpenSpec.upto fnExactValidRibsSpec)

/-- 'laws.FnExactRibsLength', WHERE WHAT IT READS IS OF BULK AT MOST 1048576: true; the input reads as it did. -/
def fnExactRibsLengthUptoRow : OpenClaim := { program := "ytgbjdjkmmmgnnaa", sum := "45abfd53424bff14e636aa68b7bef38b1df5a2e36429b2483ca437e549e2ee02", func := "loop.example/g01061/laws.FnExactRibsLength", spec := "fnExactRibsLength", unfollowed := true, recurses := true, apart := false, narrowed := true }
def FnExactRibsLengthUptoSaid : Prop := fnExactRibsLengthUptoRow.holds Try.pinned (OpenSpec.upto fnExactRibsLengthSpec)

/-- 'laws.FnExactBlocksAt', WHERE WHAT IT READS IS OF BULK AT MOST 1048576: true; the input reads as it did. -/
def fnExactBlocksAtUptoRow : OpenClaim := { program := "ytgbjdjkmmmgnnaa", sum := "45abfd53424bff14e636aa68b7bef38b1df5a2e36429b2483ca437e549e2ee02", func := "loop.example/g01061/laws.FnExactBlocksAt", spec := "fnExactBlocksAt", unfollowed := true, recurses := true, apart := false, narrowed := true }
def FnExactBlocksAtUptoSaid : Prop := fnExactBlocksAtUptoRow.holds Try.pinned (OpenSpec.upto fnExactBlocksAtSpec)

/-- 'laws.FnExactMouldGap', WHERE WHAT IT READS IS OF BULK AT MOST 1048576: true; the input reads as it did. -/
def fnExactMouldGapUptoRow : OpenClaim := { program := "ytgbjdjkmmmgnnaa", sum := "45abfd53424bff14e636aa68b7bef38b1df5a2e36429b2483ca437e549e2ee02", func := "loop.example/g01061/laws.FnExactMouldGap", spec := "fnExactMouldGap", unfollowed := true, recurses := true, apart := false, narrowed := true }
def FnExactMouldGapUptoSaid : Prop := fnExactMouldGapUptoRow.holds Try.pinned (OpenSpec.upto fnExactMouldGapSpec)

/-- 'laws.FnExactStretchRibs', WHERE WHAT IT READS IS OF BULK AT MOST 1048576: true; the input reads as it did. -/
def fnExactStretchRibsUptoRow : OpenClaim := { program := "ytgbjdjkmmmgnnaa", sum := "45abfd53424bff14e636aa68b7bef38b1df5a2e36429b2483ca437e549e2ee02", func := "loop.example/g01061/laws.FnExactStretchRibs", spec := "fnExactStretchRibs", unfollowed := true, recurses := true, apart := false, narrowed := true }
def FnExactStretchRibsUptoSaid : Prop := fnExactStretchRibsUptoRow.holds Try.pinned (OpenSpec.upto fnExactStretchRibsSpec)

/-- 'laws.FnExactFirstCuts', WHERE WHAT IT READS IS OF BULK AT MOST 1048576: true; the input reads as it did. -/
def fnExactFirstCutsUptoRow : OpenClaim := { program := "ytgbjdjkmmmgnnaa", sum := "45abfd53424bff14e636aa68b7bef38b1df5a2e36429b2483ca437e549e2ee02", func := "loop.example/g01061/laws.FnExactFirstCuts", spec := "fnExactFirstCuts", unfollowed := true, recurses := true, apart := false, narrowed := true }
def FnExactFirstCutsUptoSaid : Prop := fnExactFirstCutsUptoRow.holds Try.pinned (OpenSpec.upto fnExactFirstCutsSpec)

/-- 'laws.FnExactStripsLeft', WHERE WHAT IT READS IS OF BULK AT MOST 1048576: true; the input reads as it did. -/
def fnExactStripsLeftUptoRow : OpenClaim := { program := "ytgbjdjkmmmgnnaa", sum := "45abfd53424bff14e636aa68b7bef38b1df5a2e36429b2483ca437e549e2ee02", func := "loop.example/g01061/laws.FnExactStripsLeft", spec := "fnExactStripsLeft", unfollowed := true, recurses := true, apart := false, narrowed := true }
def FnExactStripsLeftUptoSaid : Prop := fnExactStripsLeftUptoRow.holds Try.pinned (OpenSpec.upto fnExactStripsLeftSpec)

end Rows
end Go.Proofs.Ytgbjdjkmmmgnnaa
