/-
  No cell of these rows narrows 'for every input' (looked for: loops, veiled, ifaces, maps, wideKeys, modest, calm, conditions, laid).
  DERIVED. THE GIVEN ROWS OF THIS SEAT. 12 by the template 'for every input the law returns true; each argument reads behind the call as it read before'; 0 by the template 'total and deterministic' (their statements: YtjkgdgohnkcemaaTotals.lean).
  GIVEN WITH THE SEED: the statements are not yours to turn. If you find one false, say at which input.
  Laid BY PROGRAM, IN A SANDBOX (cutbox-rows.mjs): the forced cells as the released guide's own fill.sh prints them over the translation 1dc3e640c7319491… (all of the seat's roots in one cut). By AI agents, Wed Nov 11 2026. No macro, syntax, notation, axiom, sorry.
-/
import Derived.Test.YtjkgdgohnkcemaaChecked
import GoSem.Claim
import GoSem.ClaimJoined
import GoSem.ClaimMapViews
import Derived.JoinedTies
import Derived.KernelRfl
namespace Go.Proofs.Ytjkgdgohnkcemaa
/- THE CELL 'sum', in the pinned program and in every row, IS THE sha256 OF THE DUMP (.gsa) THAT YtjkgdgohnkcemaaProg.lean LOADS. Nothing in Lean hashes anything: it is a label: what it is worth is what the hold of that sum in a sandbox is worth. -/
noncomputable def Try.pinned : Pinned := { name := "ytjkgdgohnkcemaa", sum := "1dc3e640c7319491b0329423beb21d91c5d3c14e6b2fe92f8a63fded3a311a01", checked := Try.checked }
namespace Rows
def none {H : Type} : Left H := { results := [], args := [] }

/-- 'laws.FnExactValidNeck': WHATEVER THE INPUT: true; the input reads as it did. -/
def fnExactValidNeckSpec : ChangeSpec := { name := "fnExactValidNeck", fn := fun _ => fun
  | [d] => { results := [.lit (.bool true)], args := [d] }
  | _ => none }
def fnExactValidNeckRow : OpenClaim := { program := "ytjkgdgohnkcemaa", sum := "1dc3e640c7319491b0329423beb21d91c5d3c14e6b2fe92f8a63fded3a311a01", func := "loop.example/g01061/laws.FnExactValidNeck", spec := "fnExactValidNeck", apart := false }
def FnExactValidNeckSaid : Prop := fnExactValidNeckRow.holds Try.pinned (OpenSpec.ofChange fnExactValidNeckSpec)

/-- ITS FALSE NEIGHBOUR: 'it returns false'. Refute it at one input. -/
def fnExactValidNeckWrong : ChangeSpec := { name := "fnExactValidNeck", fn := fun _ => fun
  | [d] => { results := [.lit (.bool false)], args := [d] }
  | _ => none }
def FnExactValidNeckWrongFalsely : Prop := fnExactValidNeckRow.holds Try.pinned (OpenSpec.ofChange fnExactValidNeckWrong)

/-- 'laws.FnExactScaleOf': WHATEVER THE INPUT: true; the input reads as it did. -/
def fnExactScaleOfSpec : ChangeSpec := { name := "fnExactScaleOf", fn := fun _ => fun
  | [d] => { results := [.lit (.bool true)], args := [d] }
  | _ => none }
def fnExactScaleOfRow : OpenClaim := { program := "ytjkgdgohnkcemaa", sum := "1dc3e640c7319491b0329423beb21d91c5d3c14e6b2fe92f8a63fded3a311a01", func := "loop.example/g01061/laws.FnExactScaleOf", spec := "fnExactScaleOf", apart := false }
def FnExactScaleOfSaid : Prop := fnExactScaleOfRow.holds Try.pinned (OpenSpec.ofChange fnExactScaleOfSpec)

/-- ITS FALSE NEIGHBOUR: 'it returns false'. Refute it at one input. -/
def fnExactScaleOfWrong : ChangeSpec := { name := "fnExactScaleOf", fn := fun _ => fun
  | [d] => { results := [.lit (.bool false)], args := [d] }
  | _ => none }
def FnExactScaleOfWrongFalsely : Prop := fnExactScaleOfRow.holds Try.pinned (OpenSpec.ofChange fnExactScaleOfWrong)

/-- 'laws.FnExactStopRatio': WHATEVER THE INPUT: true; the input reads as it did. -/
def fnExactStopRatioSpec : ChangeSpec := { name := "fnExactStopRatio", fn := fun _ => fun
  | [d] => { results := [.lit (.bool true)], args := [d] }
  | _ => none }
def fnExactStopRatioRow : OpenClaim := { program := "ytjkgdgohnkcemaa", sum := "1dc3e640c7319491b0329423beb21d91c5d3c14e6b2fe92f8a63fded3a311a01", func := "loop.example/g01061/laws.FnExactStopRatio", spec := "fnExactStopRatio", apart := false }
def FnExactStopRatioSaid : Prop := fnExactStopRatioRow.holds Try.pinned (OpenSpec.ofChange fnExactStopRatioSpec)

/-- ITS FALSE NEIGHBOUR: 'it returns false'. Refute it at one input. -/
def fnExactStopRatioWrong : ChangeSpec := { name := "fnExactStopRatio", fn := fun _ => fun
  | [d] => { results := [.lit (.bool false)], args := [d] }
  | _ => none }
def FnExactStopRatioWrongFalsely : Prop := fnExactStopRatioRow.holds Try.pinned (OpenSpec.ofChange fnExactStopRatioWrong)

/-- 'laws.FnExactStopFor': WHATEVER THE INPUT: true; the input reads as it did. -/
def fnExactStopForSpec : ChangeSpec := { name := "fnExactStopFor", fn := fun _ => fun
  | [d1, d2] => { results := [.lit (.bool true)], args := [d1, d2] }
  | _ => none }
def fnExactStopForRow : OpenClaim := { program := "ytjkgdgohnkcemaa", sum := "1dc3e640c7319491b0329423beb21d91c5d3c14e6b2fe92f8a63fded3a311a01", func := "loop.example/g01061/laws.FnExactStopFor", spec := "fnExactStopFor", apart := false }
def FnExactStopForSaid : Prop := fnExactStopForRow.holds Try.pinned (OpenSpec.ofChange fnExactStopForSpec)

/-- ITS FALSE NEIGHBOUR: 'it returns false'. Refute it at one input. -/
def fnExactStopForWrong : ChangeSpec := { name := "fnExactStopFor", fn := fun _ => fun
  | [d1, d2] => { results := [.lit (.bool false)], args := [d1, d2] }
  | _ => none }
def FnExactStopForWrongFalsely : Prop := fnExactStopForRow.holds Try.pinned (OpenSpec.ofChange fnExactStopForWrong)

/-- 'laws.FnExactProjectionOf': WHATEVER THE INPUT: true; the input reads as it did. -/
def fnExactProjectionOfSpec : ChangeSpec := { name := "fnExactProjectionOf", fn := fun _ => fun
  | [d] => { results := [.lit (.bool true)], args := [d] }
  | _ => none }
def fnExactProjectionOfRow : OpenClaim := { program := "ytjkgdgohnkcemaa", sum := "1dc3e640c7319491b0329423beb21d91c5d3c14e6b2fe92f8a63fded3a311a01", func := "loop.example/g01061/laws.FnExactProjectionOf", spec := "fnExactProjectionOf", apart := false }
def FnExactProjectionOfSaid : Prop := fnExactProjectionOfRow.holds Try.pinned (OpenSpec.ofChange fnExactProjectionOfSpec)

/-- ITS FALSE NEIGHBOUR: 'it returns false'. Refute it at one input. -/
def fnExactProjectionOfWrong : ChangeSpec := { name := "fnExactProjectionOf", fn := fun _ => fun
  | [d] => { results := [.lit (.bool false)], args := [d] }
  | _ => none }
def FnExactProjectionOfWrongFalsely : Prop := fnExactProjectionOfRow.holds Try.pinned (OpenSpec.ofChange fnExactProjectionOfWrong)

/-- 'laws.FnExactAngleFor': WHATEVER THE INPUT: true; the input reads as it did. -/
def fnExactAngleForSpec : ChangeSpec := { name := "fnExactAngleFor", fn := fun _ => fun
  | [d1, d2] => { results := [.lit (.bool true)], args := [d1, d2] }
  | _ => none }
def fnExactAngleForRow : OpenClaim := { program := "ytjkgdgohnkcemaa", sum := "1dc3e640c7319491b0329423beb21d91c5d3c14e6b2fe92f8a63fded3a311a01", func := "loop.example/g01061/laws.FnExactAngleFor", spec := "fnExactAngleFor", unfollowed := true, recurses := true, apart := false }
def FnExactAngleForSaid : Prop := fnExactAngleForRow.holds Try.pinned (OpenSpec.ofChange fnExactAngleForSpec)

/-- ITS FALSE NEIGHBOUR: 'it returns false'. Refute it at one input. -/
def fnExactAngleForWrong : ChangeSpec := { name := "fnExactAngleFor", fn := fun _ => fun
  | [d1, d2] => { results := [.lit (.bool false)], args := [d1, d2] }
  | _ => none }
def FnExactAngleForWrongFalsely : Prop := fnExactAngleForRow.holds Try.pinned (OpenSpec.ofChange fnExactAngleForWrong)

/-- 'laws.FnExactShimFor': WHATEVER THE INPUT: true; the input reads as it did. -/
def fnExactShimForSpec : ChangeSpec := { name := "fnExactShimFor", fn := fun _ => fun
  | [d1, d2, d3] => { results := [.lit (.bool true)], args := [d1, d2, d3] }
  | _ => none }
def fnExactShimForRow : OpenClaim := { program := "ytjkgdgohnkcemaa", sum := "1dc3e640c7319491b0329423beb21d91c5d3c14e6b2fe92f8a63fded3a311a01", func := "loop.example/g01061/laws.FnExactShimFor", spec := "fnExactShimFor", unfollowed := true, recurses := true, apart := false }
def FnExactShimForSaid : Prop := fnExactShimForRow.holds Try.pinned (OpenSpec.ofChange fnExactShimForSpec)

/-- ITS FALSE NEIGHBOUR: 'it returns false'. Refute it at one input. -/
def fnExactShimForWrong : ChangeSpec := { name := "fnExactShimFor", fn := fun _ => fun
  | [d1, d2, d3] => { results := [.lit (.bool false)], args := [d1, d2, d3] }
  | _ => none }
def FnExactShimForWrongFalsely : Prop := fnExactShimForRow.holds Try.pinned (OpenSpec.ofChange fnExactShimForWrong)

/-- 'laws.FnExactStringAngle': WHATEVER THE INPUT: true; the input reads as it did. -/
def fnExactStringAngleSpec : ChangeSpec := { name := "fnExactStringAngle", fn := fun _ => fun
  | [d1, d2] => { results := [.lit (.bool true)], args := [d1, d2] }
  | _ => none }
def fnExactStringAngleRow : OpenClaim := { program := "ytjkgdgohnkcemaa", sum := "1dc3e640c7319491b0329423beb21d91c5d3c14e6b2fe92f8a63fded3a311a01", func := "loop.example/g01061/laws.FnExactStringAngle", spec := "fnExactStringAngle", unfollowed := true, recurses := true, apart := false }
def FnExactStringAngleSaid : Prop := fnExactStringAngleRow.holds Try.pinned (OpenSpec.ofChange fnExactStringAngleSpec)

/-- ITS FALSE NEIGHBOUR: 'it returns false'. Refute it at one input. -/
def fnExactStringAngleWrong : ChangeSpec := { name := "fnExactStringAngle", fn := fun _ => fun
  | [d1, d2] => { results := [.lit (.bool false)], args := [d1, d2] }
  | _ => none }
def FnExactStringAngleWrongFalsely : Prop := fnExactStringAngleRow.holds Try.pinned (OpenSpec.ofChange fnExactStringAngleWrong)

/-- 'laws.FnExactBridgeFor': WHATEVER THE INPUT: true; the input reads as it did. -/
def fnExactBridgeForSpec : ChangeSpec := { name := "fnExactBridgeFor", fn := fun _ => fun
  | [d1, d2] => { results := [.lit (.bool true)], args := [d1, d2] }
  | _ => none }
def fnExactBridgeForRow : OpenClaim := { program := "ytjkgdgohnkcemaa", sum := "1dc3e640c7319491b0329423beb21d91c5d3c14e6b2fe92f8a63fded3a311a01", func := "loop.example/g01061/laws.FnExactBridgeFor", spec := "fnExactBridgeFor", unfollowed := true, recurses := true, apart := false }
def FnExactBridgeForSaid : Prop := fnExactBridgeForRow.holds Try.pinned (OpenSpec.ofChange fnExactBridgeForSpec)

/-- ITS FALSE NEIGHBOUR: 'it returns false'. Refute it at one input. -/
def fnExactBridgeForWrong : ChangeSpec := { name := "fnExactBridgeFor", fn := fun _ => fun
  | [d1, d2] => { results := [.lit (.bool false)], args := [d1, d2] }
  | _ => none }
def FnExactBridgeForWrongFalsely : Prop := fnExactBridgeForRow.holds Try.pinned (OpenSpec.ofChange fnExactBridgeForWrong)

/-- 'laws.FnExactHeightsAlong': WHATEVER THE INPUT: true; the input reads as it did. -/
def fnExactHeightsAlongSpec : ChangeSpec := { name := "fnExactHeightsAlong", fn := fun _ => fun
  | [d1, d2, d3] => { results := [.lit (.bool true)], args := [d1, d2, d3] }
  | _ => none }
def fnExactHeightsAlongRow : OpenClaim := { program := "ytjkgdgohnkcemaa", sum := "1dc3e640c7319491b0329423beb21d91c5d3c14e6b2fe92f8a63fded3a311a01", func := "loop.example/g01061/laws.FnExactHeightsAlong", spec := "fnExactHeightsAlong", apart := false }
def FnExactHeightsAlongSaid : Prop := fnExactHeightsAlongRow.holds Try.pinned (OpenSpec.ofChange fnExactHeightsAlongSpec)

/-- ITS FALSE NEIGHBOUR: 'it returns false'. Refute it at one input. -/
def fnExactHeightsAlongWrong : ChangeSpec := { name := "fnExactHeightsAlong", fn := fun _ => fun
  | [d1, d2, d3] => { results := [.lit (.bool false)], args := [d1, d2, d3] }
  | _ => none }
def FnExactHeightsAlongWrongFalsely : Prop := fnExactHeightsAlongRow.holds Try.pinned (OpenSpec.ofChange fnExactHeightsAlongWrong)

/-- 'laws.FnExactNearestNeck': WHATEVER THE INPUT: true; the input reads as it did. -/
def fnExactNearestNeckSpec : ChangeSpec := { name := "fnExactNearestNeck", fn := fun _ => fun
  | [d1, d2] => { results := [.lit (.bool true)], args := [d1, d2] }
  | _ => none }
def fnExactNearestNeckRow : OpenClaim := { program := "ytjkgdgohnkcemaa", sum := "1dc3e640c7319491b0329423beb21d91c5d3c14e6b2fe92f8a63fded3a311a01", func := "loop.example/g01061/laws.FnExactNearestNeck", spec := "fnExactNearestNeck", unfollowed := true, recurses := true, apart := false }
def FnExactNearestNeckSaid : Prop := fnExactNearestNeckRow.holds Try.pinned (OpenSpec.ofChange fnExactNearestNeckSpec)

/-- ITS FALSE NEIGHBOUR: 'it returns false'. Refute it at one input. -/
def fnExactNearestNeckWrong : ChangeSpec := { name := "fnExactNearestNeck", fn := fun _ => fun
  | [d1, d2] => { results := [.lit (.bool false)], args := [d1, d2] }
  | _ => none }
def FnExactNearestNeckWrongFalsely : Prop := fnExactNearestNeckRow.holds Try.pinned (OpenSpec.ofChange fnExactNearestNeckWrong)

/-- 'laws.FnExactSetNecks': WHATEVER THE INPUT: true; the input reads as it did. -/
def fnExactSetNecksSpec : ChangeSpec := { name := "fnExactSetNecks", fn := fun _ => fun
  | [d1, d2, d3] => { results := [.lit (.bool true)], args := [d1, d2, d3] }
  | _ => none }
def fnExactSetNecksRow : OpenClaim := { program := "ytjkgdgohnkcemaa", sum := "1dc3e640c7319491b0329423beb21d91c5d3c14e6b2fe92f8a63fded3a311a01", func := "loop.example/g01061/laws.FnExactSetNecks", spec := "fnExactSetNecks", unfollowed := true, recurses := true, apart := false }
def FnExactSetNecksSaid : Prop := fnExactSetNecksRow.holds Try.pinned (OpenSpec.ofChange fnExactSetNecksSpec)

/-- ITS FALSE NEIGHBOUR: 'it returns false'. Refute it at one input. -/
def fnExactSetNecksWrong : ChangeSpec := { name := "fnExactSetNecks", fn := fun _ => fun
  | [d1, d2, d3] => { results := [.lit (.bool false)], args := [d1, d2, d3] }
  | _ => none }
def FnExactSetNecksWrongFalsely : Prop := fnExactSetNecksRow.holds Try.pinned (OpenSpec.ofChange fnExactSetNecksWrong)

/- THE SECOND FORM. 'bulk': how many values and letters a reading holds, each counted each time it is reached (what is shared counts as often as it is met; a slice's spare places count too). A statement '..UptoSaid' is the law's where the arguments, and the package variables that the reading takes, are together of bulk at most 1048576: NARROWER than '..Said'. Prove '..Said' where nothing that the law and all that it calls make is longer than what came in: it says more and counts as full. Else prove '..UptoSaid'. A law counts once. -/
mutual
def uptoBulk {H : Type} : DataW H → Nat
  | .lit (.string bytes) => bytes.length + 1
  | .lit _ => 1
  | .nil => 1
  | .ptr d => uptoBulk d + 1
  | .slice elems spare => uptoBulkAll elems + uptoBulkAll spare + 1
  | .agg parts => uptoBulkAll parts + 1
  | .iface _ d => uptoBulk d + 1
  | .map entries => uptoBulkEntries entries + 1
  | .held _ => 1
def uptoBulkAll {H : Type} : List (DataW H) → Nat
  | [] => 0
  | d :: r => uptoBulk d + uptoBulkAll r
def uptoBulkEntries {H : Type} : List (Lit × DataW H) → Nat
  | [] => 0
  | x :: r => uptoBulkEntry x + uptoBulkEntries r
def uptoBulkEntry {H : Type} : Lit × DataW H → Nat
  | (.string bytes, d) => bytes.length + uptoBulk d + 1
  | (_, d) => uptoBulk d + 1
 end
def uptoSmall : (H : Type) → List (DataW H) → Bool := fun _ ds => decide (uptoBulkAll ds ≤ 1048576)
def OpenSpec.upto (s : _root_.Go.ChangeSpec) : _root_.Go.OpenSpec := { _root_.Go.OpenSpec.ofChange s with cond := some uptoSmall }

/-- 'laws.FnExactValidNeck', WHERE WHAT IT READS IS OF BULK AT MOST 1048576: true; the input reads as it did. -/
def fnExactValidNeckUptoRow : OpenClaim := { program := "ytjkgdgohnkcemaa", sum := "1dc3e640c7319491b0329423beb21d91c5d3c14e6b2fe92f8a63fded3a311a01", func := "loop.example/g01061/laws.FnExactValidNeck", spec := "fnExactValidNeck", apart := false, narrowed := true }
def FnExactValidNeckUptoSaid : Prop := fnExactValidNeckUptoRow.holds Try.pinned (OpenSpec.upto fnExactValidNeckSpec)

/-- 'laws.FnExactScaleOf', WHERE WHAT IT READS IS OF BULK AT MOST 1048576: true; the input reads as it did. -/
def fnExactScaleOfUptoRow : OpenClaim := { program := "ytjkgdgohnkcemaa", sum := "1dc3e640c7319491b0329423beb21d91c5d3c14e6b2fe92f8a63fded3a311a01", func := "loop.example/g01061/laws.FnExactScaleOf", spec := "fnExactScaleOf", apart := false, narrowed := true }
def FnExactScaleOfUptoSaid : Prop := fnExactScaleOfUptoRow.holds Try.pinned (OpenSpec.upto fnExactScaleOfSpec)

/-- 'laws.FnExactStopRatio', WHERE WHAT IT READS IS OF BULK AT MOST 1048576: true; the input reads as it did. -/
def fnExactStopRatioUptoRow : OpenClaim := { program := "ytjkgdgohnkcemaa", sum := "1dc3e640c7319491b0329423beb21d91c5d3c14e6b2fe92f8a63fded3a311a01", func := "loop.example/g01061/laws.FnExactStopRatio", spec := "fnExactStopRatio", apart := false, narrowed := true }
def FnExactStopRatioUptoSaid : Prop := fnExactStopRatioUptoRow.holds Try.pinned (OpenSpec.upto fnExactStopRatioSpec)

/-- 'laws.FnExactStopFor', WHERE WHAT IT READS IS OF BULK AT MOST 1048576: true; the input reads as it did. -/
def fnExactStopForUptoRow : OpenClaim := { program := "ytjkgdgohnkcemaa", sum := "1dc3e640c7319491b0329423beb21d91c5d3c14e6b2fe92f8a63fded3a311a01", func := "loop.example/g01061/laws.FnExactStopFor", spec := "fnExactStopFor", apart := false, narrowed := true }
def FnExactStopForUptoSaid : Prop := fnExactStopForUptoRow.holds Try.pinned (OpenSpec.upto fnExactStopForSpec)

/-- 'laws.FnExactProjectionOf', WHERE WHAT IT READS IS OF BULK AT MOST 1048576: true; the input reads as it did. -/
def fnExactProjectionOfUptoRow : OpenClaim := { program := "ytjkgdgohnkcemaa", sum := "1dc3e640c7319491b0329423beb21d91c5d3c14e6b2fe92f8a63fded3a311a01", func := "loop.example/g01061/laws.FnExactProjectionOf", spec := "fnExactProjectionOf", apart := false, narrowed := true }
def FnExactProjectionOfUptoSaid : Prop := fnExactProjectionOfUptoRow.holds Try.pinned (OpenSpec.upto fnExactProjectionOfSpec)

/-- 'laws.FnExactAngleFor', WHERE WHAT IT READS IS OF BULK AT MOST 1048576: true; the input reads as it did. -/
def fnExactAngleForUptoRow : OpenClaim := { program := "ytjkgdgohnkcemaa", sum := "1dc3e640c7319491b0329423beb21d91c5d3c14e6b2fe92f8a63fded3a311a01", func := "loop.example/g01061/laws.FnExactAngleFor", spec := "fnExactAngleFor", unfollowed := true, recurses := true, apart := false, narrowed := true }
def FnExactAngleForUptoSaid : Prop := fnExactAngleForUptoRow.holds Try.pinned (OpenSpec.upto fnExactAngleForSpec)

/-- 'laws.FnExactShimFor', WHERE WHAT IT READS IS OF BULK AT MOST 1048576: true; the input reads as it did. -/
def fnExactShimForUptoRow : OpenClaim := { program := "ytjkgdgohnkcemaa", sum := "1dc3e640c7319491b0329423beb21d91c5d3c14e6b2fe92f8a63fded3a311a01", func := "loop.example/g01061/laws.FnExactShimFor", spec := "fnExactShimFor", unfollowed := true, recurses := true, apart := false, narrowed := true }
def FnExactShimForUptoSaid : Prop := fnExactShimForUptoRow.holds Try.pinned (OpenSpec.upto fnExactShimForSpec)

/-- 'laws.FnExactStringAngle', WHERE WHAT IT READS IS OF BULK AT MOST 1048576: true; the input reads as it did. -/
def fnExactStringAngleUptoRow : OpenClaim := { program := "ytjkgdgohnkcemaa", sum := "1dc3e640c7319491b0329423beb21d91c5d3c14e6b2fe92f8a63fded3a311a01", func := "loop.example/g01061/laws.FnExactStringAngle", spec := "fnExactStringAngle", unfollowed := true, recurses := true, apart := false, narrowed := true }
def FnExactStringAngleUptoSaid : Prop := fnExactStringAngleUptoRow.holds Try.pinned (OpenSpec.upto fnExactStringAngleSpec)

/-- 'laws.FnExactBridgeFor', WHERE WHAT IT READS IS OF BULK AT MOST 1048576: true; the input reads as it did. -/
def fnExactBridgeForUptoRow : OpenClaim := { program := "ytjkgdgohnkcemaa", sum := "1dc3e640c7319491b0329423beb21d91c5d3c14e6b2fe92f8a63fded3a311a01", func := "loop.example/g01061/laws.FnExactBridgeFor", spec := "fnExactBridgeFor", unfollowed := true, recurses := true, apart := false, narrowed := true }
def FnExactBridgeForUptoSaid : Prop := fnExactBridgeForUptoRow.holds Try.pinned (OpenSpec.upto fnExactBridgeForSpec)

/-- 'laws.FnExactHeightsAlong', WHERE WHAT IT READS IS OF BULK AT MOST 1048576: true; the input reads as it did. -/
def fnExactHeightsAlongUptoRow : OpenClaim := { program := "ytjkgdgohnkcemaa", sum := "1dc3e640c7319491b0329423beb21d91c5d3c14e6b2fe92f8a63fded3a311a01", func := "loop.example/g01061/laws.FnExactHeightsAlong", spec := "fnExactHeightsAlong", apart := false, narrowed := true }
def FnExactHeightsAlongUptoSaid : Prop := fnExactHeightsAlongUptoRow.holds Try.pinned (OpenSpec.upto fnExactHeightsAlongSpec)

/-- 'laws.FnExactNearestNeck', WHERE WHAT IT READS IS OF BULK AT MOST 1048576: true; the input reads as it did. -/
def fnExactNearestNeckUptoRow : OpenClaim := { program := "ytjkgdgohnkcemaa", sum := "1dc3e640c7319491b0329423beb21d91c5d3c14e6b2fe92f8a63fded3a311a01", func := "loop.example/g01061/laws.FnExactNearestNeck", spec := "fnExactNearestNeck", unfollowed := true, recurses := true, apart := false, narrowed := true }
def FnExactNearestNeckUptoSaid : Prop := fnExactNearestNeckUptoRow.holds Try.pinned (OpenSpec.upto fnExactNearestNeckSpec)

/-- 'laws.FnExactSetNecks', WHERE WHAT IT READS IS OF BULK AT MOST 1048576: true; the input reads as it did. -/
def fnExactSetNecksUptoRow : OpenClaim := { program := "ytjkgdgohnkcemaa", sum := "1dc3e640c7319491b0329423beb21d91c5d3c14e6b2fe92f8a63fded3a311a01", func := "loop.example/g01061/laws.FnExactSetNecks", spec := "fnExactSetNecks", unfollowed := true, recurses := true, apart := false, narrowed := true }
def FnExactSetNecksUptoSaid : Prop := fnExactSetNecksUptoRow.holds Try.pinned (OpenSpec.upto fnExactSetNecksSpec)

end Rows
end Go.Proofs.Ytjkgdgohnkcemaa
