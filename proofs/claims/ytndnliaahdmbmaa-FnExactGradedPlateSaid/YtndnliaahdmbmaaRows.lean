/-
  No cell of these rows narrows 'for every input' (looked for: loops, veiled, ifaces, maps, wideKeys, modest, calm, conditions, laid).
  DERIVED. THE GIVEN ROWS OF THIS SEAT. 12 by the template 'for every input the law returns true; each argument reads behind the call as it read before'; 0 by the template 'total and deterministic' (their statements: YtndnliaahdmbmaaTotals.lean).
  GIVEN WITH THE SEED: the statements are not yours to turn. If you find one false, say at which input.
  Laid BY PROGRAM, IN A SANDBOX (cutbox-rows.mjs): the forced cells as the released guide's own fill.sh prints them over the translation ddd0333fcdaf10ea… (all of the seat's roots in one cut). By AI agents, Wed Nov 11 2026. No macro, syntax, notation, axiom, sorry.
-/
import Derived.Test.YtndnliaahdmbmaaChecked
import GoSem.Claim
import GoSem.ClaimJoined
import GoSem.ClaimMapViews
import Derived.JoinedTies
import Derived.KernelRfl
namespace Go.Proofs.Ytndnliaahdmbmaa
/- THE CELL 'sum', in the pinned program and in every row, IS THE sha256 OF THE DUMP (.gsa) THAT YtndnliaahdmbmaaProg.lean LOADS. Nothing in Lean hashes anything: it is a label: what it is worth is what the hold of that sum in a sandbox is worth. -/
noncomputable def Try.pinned : Pinned := { name := "ytndnliaahdmbmaa", sum := "ddd0333fcdaf10eaeebf0bcd9f0d9abcea6dc42d6dffa34d5f59216ce689c85c", checked := Try.checked }
namespace Rows
def none {H : Type} : Left H := { results := [], args := [] }

/-- 'laws.FnExactValidPlate': WHATEVER THE INPUT: true; the input reads as it did. -/
def fnExactValidPlateSpec : ChangeSpec := { name := "fnExactValidPlate", fn := fun _ => fun
  | [d] => { results := [.lit (.bool true)], args := [d] }
  | _ => none }
def fnExactValidPlateRow : OpenClaim := { program := "ytndnliaahdmbmaa", sum := "ddd0333fcdaf10eaeebf0bcd9f0d9abcea6dc42d6dffa34d5f59216ce689c85c", func := "loop.example/g01061/laws.FnExactValidPlate", spec := "fnExactValidPlate", unfollowed := true, recurses := true, apart := false }
def FnExactValidPlateSaid : Prop := fnExactValidPlateRow.holds Try.pinned (OpenSpec.ofChange fnExactValidPlateSpec)

/-- ITS FALSE NEIGHBOUR: 'it returns false'. Refute it at one input. -/
def fnExactValidPlateWrong : ChangeSpec := { name := "fnExactValidPlate", fn := fun _ => fun
  | [d] => { results := [.lit (.bool false)], args := [d] }
  | _ => none }
def FnExactValidPlateWrongFalsely : Prop := fnExactValidPlateRow.holds Try.pinned (OpenSpec.ofChange fnExactValidPlateWrong)

/-- 'laws.FnExactPlateMass': WHATEVER THE INPUT: true; the input reads as it did. -/
def fnExactPlateMassSpec : ChangeSpec := { name := "fnExactPlateMass", fn := fun _ => fun
  | [d1, d2, d3] => { results := [.lit (.bool true)], args := [d1, d2, d3] }
  | _ => none }
def fnExactPlateMassRow : OpenClaim := { program := "ytndnliaahdmbmaa", sum := "ddd0333fcdaf10eaeebf0bcd9f0d9abcea6dc42d6dffa34d5f59216ce689c85c", func := "loop.example/g01061/laws.FnExactPlateMass", spec := "fnExactPlateMass", unfollowed := true, recurses := true, apart := false }
def FnExactPlateMassSaid : Prop := fnExactPlateMassRow.holds Try.pinned (OpenSpec.ofChange fnExactPlateMassSpec)

/-- ITS FALSE NEIGHBOUR: 'it returns false'. Refute it at one input. -/
def fnExactPlateMassWrong : ChangeSpec := { name := "fnExactPlateMass", fn := fun _ => fun
  | [d1, d2, d3] => { results := [.lit (.bool false)], args := [d1, d2, d3] }
  | _ => none }
def FnExactPlateMassWrongFalsely : Prop := fnExactPlateMassRow.holds Try.pinned (OpenSpec.ofChange fnExactPlateMassWrong)

/-- 'laws.FnExactRowStiff': WHATEVER THE INPUT: true; the input reads as it did. -/
def fnExactRowStiffSpec : ChangeSpec := { name := "fnExactRowStiff", fn := fun _ => fun
  | [d] => { results := [.lit (.bool true)], args := [d] }
  | _ => none }
def fnExactRowStiffRow : OpenClaim := { program := "ytndnliaahdmbmaa", sum := "ddd0333fcdaf10eaeebf0bcd9f0d9abcea6dc42d6dffa34d5f59216ce689c85c", func := "loop.example/g01061/laws.FnExactRowStiff", spec := "fnExactRowStiff", unfollowed := true, recurses := true, apart := false }
def FnExactRowStiffSaid : Prop := fnExactRowStiffRow.holds Try.pinned (OpenSpec.ofChange fnExactRowStiffSpec)

/-- ITS FALSE NEIGHBOUR: 'it returns false'. Refute it at one input. -/
def fnExactRowStiffWrong : ChangeSpec := { name := "fnExactRowStiff", fn := fun _ => fun
  | [d] => { results := [.lit (.bool false)], args := [d] }
  | _ => none }
def FnExactRowStiffWrongFalsely : Prop := fnExactRowStiffRow.holds Try.pinned (OpenSpec.ofChange fnExactRowStiffWrong)

/-- 'laws.FnExactWeakestRow': WHATEVER THE INPUT: true; the input reads as it did. -/
def fnExactWeakestRowSpec : ChangeSpec := { name := "fnExactWeakestRow", fn := fun _ => fun
  | [d] => { results := [.lit (.bool true)], args := [d] }
  | _ => none }
def fnExactWeakestRowRow : OpenClaim := { program := "ytndnliaahdmbmaa", sum := "ddd0333fcdaf10eaeebf0bcd9f0d9abcea6dc42d6dffa34d5f59216ce689c85c", func := "loop.example/g01061/laws.FnExactWeakestRow", spec := "fnExactWeakestRow", unfollowed := true, recurses := true, apart := false }
def FnExactWeakestRowSaid : Prop := fnExactWeakestRowRow.holds Try.pinned (OpenSpec.ofChange fnExactWeakestRowSpec)

/-- ITS FALSE NEIGHBOUR: 'it returns false'. Refute it at one input. -/
def fnExactWeakestRowWrong : ChangeSpec := { name := "fnExactWeakestRow", fn := fun _ => fun
  | [d] => { results := [.lit (.bool false)], args := [d] }
  | _ => none }
def FnExactWeakestRowWrongFalsely : Prop := fnExactWeakestRowRow.holds Try.pinned (OpenSpec.ofChange fnExactWeakestRowWrong)

/-- 'laws.FnExactThinAll': WHATEVER THE INPUT: true; the input reads as it did. -/
def fnExactThinAllSpec : ChangeSpec := { name := "fnExactThinAll", fn := fun _ => fun
  | [d1, d2, d3] => { results := [.lit (.bool true)], args := [d1, d2, d3] }
  | _ => none }
def fnExactThinAllRow : OpenClaim := { program := "ytndnliaahdmbmaa", sum := "ddd0333fcdaf10eaeebf0bcd9f0d9abcea6dc42d6dffa34d5f59216ce689c85c", func := "loop.example/g01061/laws.FnExactThinAll", spec := "fnExactThinAll", unfollowed := true, recurses := true, apart := false }
def FnExactThinAllSaid : Prop := fnExactThinAllRow.holds Try.pinned (OpenSpec.ofChange fnExactThinAllSpec)

/-- ITS FALSE NEIGHBOUR: 'it returns false'. Refute it at one input. -/
def fnExactThinAllWrong : ChangeSpec := { name := "fnExactThinAll", fn := fun _ => fun
  | [d1, d2, d3] => { results := [.lit (.bool false)], args := [d1, d2, d3] }
  | _ => none }
def FnExactThinAllWrongFalsely : Prop := fnExactThinAllRow.holds Try.pinned (OpenSpec.ofChange fnExactThinAllWrong)

/-- 'laws.FnExactThinTo': WHATEVER THE INPUT: true; the input reads as it did. -/
def fnExactThinToSpec : ChangeSpec := { name := "fnExactThinTo", fn := fun _ => fun
  | [d1, d2, d3, d4, d5] => { results := [.lit (.bool true)], args := [d1, d2, d3, d4, d5] }
  | _ => none }
def fnExactThinToRow : OpenClaim := { program := "ytndnliaahdmbmaa", sum := "ddd0333fcdaf10eaeebf0bcd9f0d9abcea6dc42d6dffa34d5f59216ce689c85c", func := "loop.example/g01061/laws.FnExactThinTo", spec := "fnExactThinTo", unfollowed := true, recurses := true, apart := false }
def FnExactThinToSaid : Prop := fnExactThinToRow.holds Try.pinned (OpenSpec.ofChange fnExactThinToSpec)

/-- ITS FALSE NEIGHBOUR: 'it returns false'. Refute it at one input. -/
def fnExactThinToWrong : ChangeSpec := { name := "fnExactThinTo", fn := fun _ => fun
  | [d1, d2, d3, d4, d5] => { results := [.lit (.bool false)], args := [d1, d2, d3, d4, d5] }
  | _ => none }
def FnExactThinToWrongFalsely : Prop := fnExactThinToRow.holds Try.pinned (OpenSpec.ofChange fnExactThinToWrong)

/-- 'laws.FnExactScrapeRow': WHATEVER THE INPUT: true; the input reads as it did. -/
def fnExactScrapeRowSpec : ChangeSpec := { name := "fnExactScrapeRow", fn := fun _ => fun
  | [d1, d2, d3, d4] => { results := [.lit (.bool true)], args := [d1, d2, d3, d4] }
  | _ => none }
def fnExactScrapeRowRow : OpenClaim := { program := "ytndnliaahdmbmaa", sum := "ddd0333fcdaf10eaeebf0bcd9f0d9abcea6dc42d6dffa34d5f59216ce689c85c", func := "loop.example/g01061/laws.FnExactScrapeRow", spec := "fnExactScrapeRow", unfollowed := true, recurses := true, apart := false }
def FnExactScrapeRowSaid : Prop := fnExactScrapeRowRow.holds Try.pinned (OpenSpec.ofChange fnExactScrapeRowSpec)

/-- ITS FALSE NEIGHBOUR: 'it returns false'. Refute it at one input. -/
def fnExactScrapeRowWrong : ChangeSpec := { name := "fnExactScrapeRow", fn := fun _ => fun
  | [d1, d2, d3, d4] => { results := [.lit (.bool false)], args := [d1, d2, d3, d4] }
  | _ => none }
def FnExactScrapeRowWrongFalsely : Prop := fnExactScrapeRowRow.holds Try.pinned (OpenSpec.ofChange fnExactScrapeRowWrong)

/-- 'laws.FnExactEvenPlate': WHATEVER THE INPUT: true; the input reads as it did. -/
def fnExactEvenPlateSpec : ChangeSpec := { name := "fnExactEvenPlate", fn := fun _ => fun
  | [d1, d2] => { results := [.lit (.bool true)], args := [d1, d2] }
  | _ => none }
def fnExactEvenPlateRow : OpenClaim := { program := "ytndnliaahdmbmaa", sum := "ddd0333fcdaf10eaeebf0bcd9f0d9abcea6dc42d6dffa34d5f59216ce689c85c", func := "loop.example/g01061/laws.FnExactEvenPlate", spec := "fnExactEvenPlate", unfollowed := true, recurses := true, apart := false }
def FnExactEvenPlateSaid : Prop := fnExactEvenPlateRow.holds Try.pinned (OpenSpec.ofChange fnExactEvenPlateSpec)

/-- ITS FALSE NEIGHBOUR: 'it returns false'. Refute it at one input. -/
def fnExactEvenPlateWrong : ChangeSpec := { name := "fnExactEvenPlate", fn := fun _ => fun
  | [d1, d2] => { results := [.lit (.bool false)], args := [d1, d2] }
  | _ => none }
def FnExactEvenPlateWrongFalsely : Prop := fnExactEvenPlateRow.holds Try.pinned (OpenSpec.ofChange fnExactEvenPlateWrong)

/-- 'laws.FnExactEdgeAndMiddle': WHATEVER THE INPUT: true; the input reads as it did. -/
def fnExactEdgeAndMiddleSpec : ChangeSpec := { name := "fnExactEdgeAndMiddle", fn := fun _ => fun
  | [d] => { results := [.lit (.bool true)], args := [d] }
  | _ => none }
def fnExactEdgeAndMiddleRow : OpenClaim := { program := "ytndnliaahdmbmaa", sum := "ddd0333fcdaf10eaeebf0bcd9f0d9abcea6dc42d6dffa34d5f59216ce689c85c", func := "loop.example/g01061/laws.FnExactEdgeAndMiddle", spec := "fnExactEdgeAndMiddle", unfollowed := true, recurses := true, apart := false }
def FnExactEdgeAndMiddleSaid : Prop := fnExactEdgeAndMiddleRow.holds Try.pinned (OpenSpec.ofChange fnExactEdgeAndMiddleSpec)

/-- ITS FALSE NEIGHBOUR: 'it returns false'. Refute it at one input. -/
def fnExactEdgeAndMiddleWrong : ChangeSpec := { name := "fnExactEdgeAndMiddle", fn := fun _ => fun
  | [d] => { results := [.lit (.bool false)], args := [d] }
  | _ => none }
def FnExactEdgeAndMiddleWrongFalsely : Prop := fnExactEdgeAndMiddleRow.holds Try.pinned (OpenSpec.ofChange fnExactEdgeAndMiddleWrong)

/-- 'laws.FnExactGradedPlate': WHATEVER THE INPUT: true; the input reads as it did. -/
def fnExactGradedPlateSpec : ChangeSpec := { name := "fnExactGradedPlate", fn := fun _ => fun
  | [d1, d2, d3, d4] => { results := [.lit (.bool true)], args := [d1, d2, d3, d4] }
  | _ => none }
def fnExactGradedPlateRow : OpenClaim := { program := "ytndnliaahdmbmaa", sum := "ddd0333fcdaf10eaeebf0bcd9f0d9abcea6dc42d6dffa34d5f59216ce689c85c", func := "loop.example/g01061/laws.FnExactGradedPlate", spec := "fnExactGradedPlate", unfollowed := true, recurses := true, apart := false }
def FnExactGradedPlateSaid : Prop := fnExactGradedPlateRow.holds Try.pinned (OpenSpec.ofChange fnExactGradedPlateSpec)

/-- ITS FALSE NEIGHBOUR: 'it returns false'. Refute it at one input. -/
def fnExactGradedPlateWrong : ChangeSpec := { name := "fnExactGradedPlate", fn := fun _ => fun
  | [d1, d2, d3, d4] => { results := [.lit (.bool false)], args := [d1, d2, d3, d4] }
  | _ => none }
def FnExactGradedPlateWrongFalsely : Prop := fnExactGradedPlateRow.holds Try.pinned (OpenSpec.ofChange fnExactGradedPlateWrong)

/-- 'laws.FnExactPlateGap': WHATEVER THE INPUT: true; the input reads as it did. -/
def fnExactPlateGapSpec : ChangeSpec := { name := "fnExactPlateGap", fn := fun _ => fun
  | [d1, d2] => { results := [.lit (.bool true)], args := [d1, d2] }
  | _ => none }
def fnExactPlateGapRow : OpenClaim := { program := "ytndnliaahdmbmaa", sum := "ddd0333fcdaf10eaeebf0bcd9f0d9abcea6dc42d6dffa34d5f59216ce689c85c", func := "loop.example/g01061/laws.FnExactPlateGap", spec := "fnExactPlateGap", unfollowed := true, recurses := true, apart := false }
def FnExactPlateGapSaid : Prop := fnExactPlateGapRow.holds Try.pinned (OpenSpec.ofChange fnExactPlateGapSpec)

/-- ITS FALSE NEIGHBOUR: 'it returns false'. Refute it at one input. -/
def fnExactPlateGapWrong : ChangeSpec := { name := "fnExactPlateGap", fn := fun _ => fun
  | [d1, d2] => { results := [.lit (.bool false)], args := [d1, d2] }
  | _ => none }
def FnExactPlateGapWrongFalsely : Prop := fnExactPlateGapRow.holds Try.pinned (OpenSpec.ofChange fnExactPlateGapWrong)

/-- 'laws.FnExactTooThin': WHATEVER THE INPUT: true; the input reads as it did. -/
def fnExactTooThinSpec : ChangeSpec := { name := "fnExactTooThin", fn := fun _ => fun
  | [d1, d2] => { results := [.lit (.bool true)], args := [d1, d2] }
  | _ => none }
def fnExactTooThinRow : OpenClaim := { program := "ytndnliaahdmbmaa", sum := "ddd0333fcdaf10eaeebf0bcd9f0d9abcea6dc42d6dffa34d5f59216ce689c85c", func := "loop.example/g01061/laws.FnExactTooThin", spec := "fnExactTooThin", unfollowed := true, recurses := true, apart := false }
def FnExactTooThinSaid : Prop := fnExactTooThinRow.holds Try.pinned (OpenSpec.ofChange fnExactTooThinSpec)

/-- ITS FALSE NEIGHBOUR: 'it returns false'. Refute it at one input. -/
def fnExactTooThinWrong : ChangeSpec := { name := "fnExactTooThin", fn := fun _ => fun
  | [d1, d2] => { results := [.lit (.bool false)], args := [d1, d2] }
  | _ => none }
def FnExactTooThinWrongFalsely : Prop := fnExactTooThinRow.holds Try.pinned (OpenSpec.ofChange fnExactTooThinWrong)

/- THE SECOND FORM. 'bulk': how many values and letters a reading holds, each counted each time it is reached (what is shared counts as often as it is met; a slice's spare places count too). A statement '..UptoSaid' is the law's where the arguments, and the package variables that the reading takes, are together of bulk at most 1048576: NARROWER than '..Said'. Prove '..Said' where nothing that the law and all that it calls make is longer than what came in: it says more and counts as full. Else prove '..UptoSaid'. A law counts once. -/
mutual
def uptoBulk {H : Type} : DataW H → Nat
  | .lit (.string bytes) => bytes.length + 1
  | .lit _ => 1
  | .nil => 1
  | .ptr d => uptoBulk d + 1
  | .slice elems spare => uptoBulkAll elems + uptoBulkAll spare + 1
  | .agg parts => uptoBulkAll parts + 1
  | .iface _ d => uptoBulk d + 1
  | .map entries => uptoBulkEntries entries + 1
  | .held _ => 1
def uptoBulkAll {H : Type} : List (DataW H) → Nat
  | [] => 0
  | d :: r => uptoBulk d + uptoBulkAll r
def uptoBulkEntries {H : Type} : List (Lit × DataW H) → Nat
  | [] => 0
  | x :: r => uptoBulkEntry x + uptoBulkEntries r
def uptoBulkEntry {H : Type} : Lit × DataW H → Nat
  | (.string bytes, d) => bytes.length + uptoBulk d + 1
  | (_, d) => uptoBulk d + 1
 end
def uptoSmall : (H : Type) → List (DataW H) → Bool := fun _ ds => decide (uptoBulkAll ds ≤ 1048576)
def OpenSpec.upto (s : _root_.Go.ChangeSpec) : _root_.Go.OpenSpec := { _root_.Go.OpenSpec.ofChange s with cond := some uptoSmall }

/-- 'laws.FnExactValidPlate', WHERE WHAT IT READS IS OF BULK AT MOST 1048576: true; the input reads as it did. -/
def fnExactValidPlateUptoRow : OpenClaim := { program := "ytndnliaahdmbmaa", sum := "ddd0333fcdaf10eaeebf0bcd9f0d9abcea6dc42d6dffa34d5f59216ce689c85c", func := "loop.example/g01061/laws.FnExactValidPlate", spec := "fnExactValidPlate", unfollowed := true, recurses := true, apart := false, narrowed := true }
def FnExactValidPlateUptoSaid : Prop := fnExactValidPlateUptoRow.holds Try.pinned (OpenSpec.upto fnExactValidPlateSpec)

/-- 'laws.FnExactPlateMass', WHERE WHAT IT READS IS OF BULK AT MOST 1048576: true; the input reads as it did. -/
def fnExactPlateMassUptoRow : OpenClaim := { program := "ytndnliaahdmbmaa", sum := "ddd0333fcdaf10eaeebf0bcd9f0d9abcea6dc42d6dffa34d5f59216ce689c85c", func := "loop.example/g01061/laws.FnExactPlateMass", spec := "fnExactPlateMass", unfollowed := true, recurses := true, apart := false, narrowed := true }
def FnExactPlateMassUptoSaid : Prop := fnExactPlateMassUptoRow.holds Try.pinned (OpenSpec.upto fnExactPlateMassSpec)

/-- 'laws.FnExactRowStiff', WHERE WHAT IT READS IS OF BULK AT MOST 1048576: true; the input reads as it did. -/
def fnExactRowStiffUptoRow : OpenClaim := { program := "ytndnliaahdmbmaa", sum := "ddd0333fcdaf10eaeebf0bcd9f0d9abcea6dc42d6dffa34d5f59216ce689c85c", func := "loop.example/g01061/laws.FnExactRowStiff", spec := "fnExactRowStiff", unfollowed := true, recurses := true, apart := false, narrowed := true }
def FnExactRowStiffUptoSaid : Prop := fnExactRowStiffUptoRow.holds Try.pinned (OpenSpec.upto fnExactRowStiffSpec)

/-- 'laws.FnExactWeakestRow', WHERE WHAT IT READS IS OF BULK AT MOST 1048576: true; the input reads as it did. -/
def fnExactWeakestRowUptoRow : OpenClaim := { program := "ytndnliaahdmbmaa", sum := "ddd0333fcdaf10eaeebf0bcd9f0d9abcea6dc42d6dffa34d5f59216ce689c85c", func := "loop.example/g01061/laws.FnExactWeakestRow", spec := "fnExactWeakestRow", unfollowed := true, recurses := true, apart := false, narrowed := true }
def FnExactWeakestRowUptoSaid : Prop := fnExactWeakestRowUptoRow.holds Try.pinned (OpenSpec.upto fnExactWeakestRowSpec)

/-- 'laws.FnExactThinAll', WHERE WHAT IT READS IS OF BULK AT MOST 1048576: true; the input reads as it did. -/
def fnExactThinAllUptoRow : OpenClaim := { program := "ytndnliaahdmbmaa", sum := "ddd0333fcdaf10eaeebf0bcd9f0d9abcea6dc42d6dffa34d5f59216ce689c85c", func := "loop.example/g01061/laws.FnExactThinAll", spec := "fnExactThinAll", unfollowed := true, recurses := true, apart := false, narrowed := true }
def FnExactThinAllUptoSaid : Prop := fnExactThinAllUptoRow.holds Try.pinned (OpenSpec.upto fnExactThinAllSpec)

/-- 'laws.FnExactThinTo', WHERE WHAT IT READS IS OF BULK AT MOST 1048576: true; the input reads as it did. -/
def fnExactThinToUptoRow : OpenClaim := { program := "ytndnliaahdmbmaa", sum := "ddd0333fcdaf10eaeebf0bcd9f0d9abcea6dc42d6dffa34d5f59216ce689c85c", func := "loop.example/g01061/laws.FnExactThinTo", spec := "fnExactThinTo", unfollowed := true, recurses := true, apart := false, narrowed := true }
def FnExactThinToUptoSaid : Prop := fnExactThinToUptoRow.holds Try.pinned (OpenSpec.upto fnExactThinToSpec)

/-- 'laws.FnExactScrapeRow', WHERE WHAT IT READS IS OF BULK AT MOST 1048576: true; the input reads as it did. -/
def fnExactScrapeRowUptoRow : OpenClaim := { program := "ytndnliaahdmbmaa", sum := "ddd0333fcdaf10eaeebf0bcd9f0d9abcea6dc42d6dffa34d5f59216ce689c85c", func := "loop.example/g01061/laws.FnExactScrapeRow", spec := "fnExactScrapeRow", unfollowed := true, recurses := true, apart := false, narrowed := true }
def FnExactScrapeRowUptoSaid : Prop := fnExactScrapeRowUptoRow.holds Try.pinned (OpenSpec.upto fnExactScrapeRowSpec)

/-- 'laws.FnExactEvenPlate', WHERE WHAT IT READS IS OF BULK AT MOST 1048576: true; the input reads as it did. -/
def fnExactEvenPlateUptoRow : OpenClaim := { program := "ytndnliaahdmbmaa", sum := "ddd0333fcdaf10eaeebf0bcd9f0d9abcea6dc42d6dffa34d5f59216ce689c85c", func := "loop.example/g01061/laws.FnExactEvenPlate", spec := "fnExactEvenPlate", unfollowed := true, recurses := true, apart := false, narrowed := true }
def FnExactEvenPlateUptoSaid : Prop := fnExactEvenPlateUptoRow.holds Try.pinned (OpenSpec.upto fnExactEvenPlateSpec)

/-- 'laws.FnExactEdgeAndMiddle', WHERE WHAT IT READS IS OF BULK AT MOST 1048576: true; the input reads as it did. -/
def fnExactEdgeAndMiddleUptoRow : OpenClaim := { program := "ytndnliaahdmbmaa", sum := "ddd0333fcdaf10eaeebf0bcd9f0d9abcea6dc42d6dffa34d5f59216ce689c85c", func := "loop.example/g01061/laws.FnExactEdgeAndMiddle", spec := "fnExactEdgeAndMiddle", unfollowed := true, recurses := true, apart := false, narrowed := true }
def FnExactEdgeAndMiddleUptoSaid : Prop := fnExactEdgeAndMiddleUptoRow.holds Try.pinned (OpenSpec.upto fnExactEdgeAndMiddleSpec)

/-- 'laws.FnExactGradedPlate', WHERE WHAT IT READS IS OF BULK AT MOST 1048576: true; the input reads as it did. -/
def fnExactGradedPlateUptoRow : OpenClaim := { program := "ytndnliaahdmbmaa", sum := "ddd0333fcdaf10eaeebf0bcd9f0d9abcea6dc42d6dffa34d5f59216ce689c85c", func := "loop.example/g01061/laws.FnExactGradedPlate", spec := "fnExactGradedPlate", unfollowed := true, recurses := true, apart := false, narrowed := true }
def FnExactGradedPlateUptoSaid : Prop := fnExactGradedPlateUptoRow.holds Try.pinned (OpenSpec.upto fnExactGradedPlateSpec)

/-- 'laws.FnExactPlateGap', WHERE WHAT IT READS IS OF BULK AT MOST 1048576: true; the input reads as it did. -/
def fnExactPlateGapUptoRow : OpenClaim := { program := "ytndnliaahdmbmaa", sum := "ddd0333fcdaf10eaeebf0bcd9f0d9abcea6dc42d6dffa34d5f59216ce689c85c", func := "loop.example/g01061/laws.FnExactPlateGap", spec := "fnExactPlateGap", unfollowed := true, recurses := true, apart := false, narrowed := true }
def FnExactPlateGapUptoSaid : Prop := fnExactPlateGapUptoRow.holds Try.pinned (OpenSpec.upto fnExactPlateGapSpec)

/-- 'laws.FnExactTooThin', WHERE WHAT IT READS IS OF BULK AT MOST 1048576: true; the input reads as it did. -/
def fnExactTooThinUptoRow : OpenClaim := { program := "ytndnliaahdmbmaa", sum := "ddd0333fcdaf10eaeebf0bcd9f0d9abcea6dc42d6dffa34d5f59216ce689c85c", func := "loop.example/g01061/laws.FnExactTooThin", spec := "fnExactTooThin", unfollowed := true, recurses := true, apart := false, narrowed := true }
def FnExactTooThinUptoSaid : Prop := fnExactTooThinUptoRow.holds Try.pinned (OpenSpec.upto fnExactTooThinSpec)

end Rows
end Go.Proofs.Ytndnliaahdmbmaa
