/-
  No cell of these rows narrows 'for every input' (looked for: loops, veiled, ifaces, maps, wideKeys, modest, calm, conditions, laid).
  DERIVED. THE GIVEN ROWS OF THIS SEAT. 8 by the template 'for every input the law returns true; each argument reads behind the call as it read before'; 0 by the template 'total and deterministic' (their statements: YtmhiekfnkbldeaaTotals.lean).
  GIVEN WITH THE SEED: the statements are not yours to turn. If you find one false, say at which input.
  Laid BY PROGRAM, IN A SANDBOX (cutbox-rows.mjs): the forced cells as the released guide's own fill.sh prints them over the translation 59747302a69d7a99… (all of the seat's roots in one cut). By AI agents, Wed Nov 11 2026. No macro, syntax, notation, axiom, sorry.
-/
import Derived.Test.YtmhiekfnkbldeaaChecked
import GoSem.Claim
import GoSem.ClaimJoined
import GoSem.ClaimMapViews
import Derived.JoinedTies
import Derived.KernelRfl
namespace Go.Proofs.Ytmhiekfnkbldeaa
/- THE CELL 'sum', in the pinned program and in every row, IS THE sha256 OF THE DUMP (.gsa) THAT YtmhiekfnkbldeaaProg.lean LOADS. Nothing in Lean hashes anything: it is a label: what it is worth is what the hold of that sum in a sandbox is worth. -/
noncomputable def Try.pinned : Pinned := { name := "ytmhiekfnkbldeaa", sum := "59747302a69d7a99fa6a14901e1a33a2c7e98350cc637719cc0850fa8e5deb8a", checked := Try.checked }
namespace Rows
def none {H : Type} : Left H := { results := [], args := [] }

/-- 'laws.FnExactValidBow': WHATEVER THE INPUT: true; the input reads as it did. -/
def fnExactValidBowSpec : ChangeSpec := { name := "fnExactValidBow", fn := fun _ => fun
  | [d] => { results := [.lit (.bool true)], args := [d] }
  | _ => none }
def fnExactValidBowRow : OpenClaim := { program := "ytmhiekfnkbldeaa", sum := "59747302a69d7a99fa6a14901e1a33a2c7e98350cc637719cc0850fa8e5deb8a", func := "loop.example/g01061/laws.FnExactValidBow", spec := "fnExactValidBow", unfollowed := true, recurses := true, apart := false }
def FnExactValidBowSaid : Prop := fnExactValidBowRow.holds Try.pinned (OpenSpec.ofChange fnExactValidBowSpec)

/-- ITS FALSE NEIGHBOUR: 'it returns false'. Refute it at one input. -/
def fnExactValidBowWrong : ChangeSpec := { name := "fnExactValidBow", fn := fun _ => fun
  | [d] => { results := [.lit (.bool false)], args := [d] }
  | _ => none }
def FnExactValidBowWrongFalsely : Prop := fnExactValidBowRow.holds Try.pinned (OpenSpec.ofChange fnExactValidBowWrong)

/-- 'laws.FnExactBowMass': WHATEVER THE INPUT: true; the input reads as it did. -/
def fnExactBowMassSpec : ChangeSpec := { name := "fnExactBowMass", fn := fun _ => fun
  | [d] => { results := [.lit (.bool true)], args := [d] }
  | _ => none }
def fnExactBowMassRow : OpenClaim := { program := "ytmhiekfnkbldeaa", sum := "59747302a69d7a99fa6a14901e1a33a2c7e98350cc637719cc0850fa8e5deb8a", func := "loop.example/g01061/laws.FnExactBowMass", spec := "fnExactBowMass", unfollowed := true, recurses := true, apart := false }
def FnExactBowMassSaid : Prop := fnExactBowMassRow.holds Try.pinned (OpenSpec.ofChange fnExactBowMassSpec)

/-- ITS FALSE NEIGHBOUR: 'it returns false'. Refute it at one input. -/
def fnExactBowMassWrong : ChangeSpec := { name := "fnExactBowMass", fn := fun _ => fun
  | [d] => { results := [.lit (.bool false)], args := [d] }
  | _ => none }
def FnExactBowMassWrongFalsely : Prop := fnExactBowMassRow.holds Try.pinned (OpenSpec.ofChange fnExactBowMassWrong)

/-- 'laws.FnExactBalanceOf': WHATEVER THE INPUT: true; the input reads as it did. -/
def fnExactBalanceOfSpec : ChangeSpec := { name := "fnExactBalanceOf", fn := fun _ => fun
  | [d] => { results := [.lit (.bool true)], args := [d] }
  | _ => none }
def fnExactBalanceOfRow : OpenClaim := { program := "ytmhiekfnkbldeaa", sum := "59747302a69d7a99fa6a14901e1a33a2c7e98350cc637719cc0850fa8e5deb8a", func := "loop.example/g01061/laws.FnExactBalanceOf", spec := "fnExactBalanceOf", unfollowed := true, recurses := true, apart := false }
def FnExactBalanceOfSaid : Prop := fnExactBalanceOfRow.holds Try.pinned (OpenSpec.ofChange fnExactBalanceOfSpec)

/-- ITS FALSE NEIGHBOUR: 'it returns false'. Refute it at one input. -/
def fnExactBalanceOfWrong : ChangeSpec := { name := "fnExactBalanceOf", fn := fun _ => fun
  | [d] => { results := [.lit (.bool false)], args := [d] }
  | _ => none }
def FnExactBalanceOfWrongFalsely : Prop := fnExactBalanceOfRow.holds Try.pinned (OpenSpec.ofChange fnExactBalanceOfWrong)

/-- 'laws.FnExactInertiaOf': WHATEVER THE INPUT: true; the input reads as it did. -/
def fnExactInertiaOfSpec : ChangeSpec := { name := "fnExactInertiaOf", fn := fun _ => fun
  | [d1, d2] => { results := [.lit (.bool true)], args := [d1, d2] }
  | _ => none }
def fnExactInertiaOfRow : OpenClaim := { program := "ytmhiekfnkbldeaa", sum := "59747302a69d7a99fa6a14901e1a33a2c7e98350cc637719cc0850fa8e5deb8a", func := "loop.example/g01061/laws.FnExactInertiaOf", spec := "fnExactInertiaOf", unfollowed := true, recurses := true, apart := false }
def FnExactInertiaOfSaid : Prop := fnExactInertiaOfRow.holds Try.pinned (OpenSpec.ofChange fnExactInertiaOfSpec)

/-- ITS FALSE NEIGHBOUR: 'it returns false'. Refute it at one input. -/
def fnExactInertiaOfWrong : ChangeSpec := { name := "fnExactInertiaOf", fn := fun _ => fun
  | [d1, d2] => { results := [.lit (.bool false)], args := [d1, d2] }
  | _ => none }
def FnExactInertiaOfWrongFalsely : Prop := fnExactInertiaOfRow.holds Try.pinned (OpenSpec.ofChange fnExactInertiaOfWrong)

/-- 'laws.FnExactCamberOf': WHATEVER THE INPUT: true; the input reads as it did. -/
def fnExactCamberOfSpec : ChangeSpec := { name := "fnExactCamberOf", fn := fun _ => fun
  | [d] => { results := [.lit (.bool true)], args := [d] }
  | _ => none }
def fnExactCamberOfRow : OpenClaim := { program := "ytmhiekfnkbldeaa", sum := "59747302a69d7a99fa6a14901e1a33a2c7e98350cc637719cc0850fa8e5deb8a", func := "loop.example/g01061/laws.FnExactCamberOf", spec := "fnExactCamberOf", unfollowed := true, recurses := true, apart := false }
def FnExactCamberOfSaid : Prop := fnExactCamberOfRow.holds Try.pinned (OpenSpec.ofChange fnExactCamberOfSpec)

/-- ITS FALSE NEIGHBOUR: 'it returns false'. Refute it at one input. -/
def fnExactCamberOfWrong : ChangeSpec := { name := "fnExactCamberOf", fn := fun _ => fun
  | [d] => { results := [.lit (.bool false)], args := [d] }
  | _ => none }
def FnExactCamberOfWrongFalsely : Prop := fnExactCamberOfRow.holds Try.pinned (OpenSpec.ofChange fnExactCamberOfWrong)

/-- 'laws.FnExactCamberGap': WHATEVER THE INPUT: true; the input reads as it did. -/
def fnExactCamberGapSpec : ChangeSpec := { name := "fnExactCamberGap", fn := fun _ => fun
  | [d] => { results := [.lit (.bool true)], args := [d] }
  | _ => none }
def fnExactCamberGapRow : OpenClaim := { program := "ytmhiekfnkbldeaa", sum := "59747302a69d7a99fa6a14901e1a33a2c7e98350cc637719cc0850fa8e5deb8a", func := "loop.example/g01061/laws.FnExactCamberGap", spec := "fnExactCamberGap", unfollowed := true, recurses := true, apart := false }
def FnExactCamberGapSaid : Prop := fnExactCamberGapRow.holds Try.pinned (OpenSpec.ofChange fnExactCamberGapSpec)

/-- ITS FALSE NEIGHBOUR: 'it returns false'. Refute it at one input. -/
def fnExactCamberGapWrong : ChangeSpec := { name := "fnExactCamberGap", fn := fun _ => fun
  | [d] => { results := [.lit (.bool false)], args := [d] }
  | _ => none }
def FnExactCamberGapWrongFalsely : Prop := fnExactCamberGapRow.holds Try.pinned (OpenSpec.ofChange fnExactCamberGapWrong)

/-- 'laws.FnExactHeaviestPart': WHATEVER THE INPUT: true; the input reads as it did. -/
def fnExactHeaviestPartSpec : ChangeSpec := { name := "fnExactHeaviestPart", fn := fun _ => fun
  | [d] => { results := [.lit (.bool true)], args := [d] }
  | _ => none }
def fnExactHeaviestPartRow : OpenClaim := { program := "ytmhiekfnkbldeaa", sum := "59747302a69d7a99fa6a14901e1a33a2c7e98350cc637719cc0850fa8e5deb8a", func := "loop.example/g01061/laws.FnExactHeaviestPart", spec := "fnExactHeaviestPart", unfollowed := true, recurses := true, apart := false }
def FnExactHeaviestPartSaid : Prop := fnExactHeaviestPartRow.holds Try.pinned (OpenSpec.ofChange fnExactHeaviestPartSpec)

/-- ITS FALSE NEIGHBOUR: 'it returns false'. Refute it at one input. -/
def fnExactHeaviestPartWrong : ChangeSpec := { name := "fnExactHeaviestPart", fn := fun _ => fun
  | [d] => { results := [.lit (.bool false)], args := [d] }
  | _ => none }
def FnExactHeaviestPartWrongFalsely : Prop := fnExactHeaviestPartRow.holds Try.pinned (OpenSpec.ofChange fnExactHeaviestPartWrong)

/-- 'laws.FnExactBendSteps': WHATEVER THE INPUT: true; the input reads as it did. -/
def fnExactBendStepsSpec : ChangeSpec := { name := "fnExactBendSteps", fn := fun _ => fun
  | [d1, d2, d3] => { results := [.lit (.bool true)], args := [d1, d2, d3] }
  | _ => none }
def fnExactBendStepsRow : OpenClaim := { program := "ytmhiekfnkbldeaa", sum := "59747302a69d7a99fa6a14901e1a33a2c7e98350cc637719cc0850fa8e5deb8a", func := "loop.example/g01061/laws.FnExactBendSteps", spec := "fnExactBendSteps", apart := false }
def FnExactBendStepsSaid : Prop := fnExactBendStepsRow.holds Try.pinned (OpenSpec.ofChange fnExactBendStepsSpec)

/-- ITS FALSE NEIGHBOUR: 'it returns false'. Refute it at one input. -/
def fnExactBendStepsWrong : ChangeSpec := { name := "fnExactBendSteps", fn := fun _ => fun
  | [d1, d2, d3] => { results := [.lit (.bool false)], args := [d1, d2, d3] }
  | _ => none }
def FnExactBendStepsWrongFalsely : Prop := fnExactBendStepsRow.holds Try.pinned (OpenSpec.ofChange fnExactBendStepsWrong)

/- THE SECOND FORM. 'bulk': how many values and letters a reading holds, each counted each time it is reached (what is shared counts as often as it is met; a slice's spare places count too). A statement '..UptoSaid' is the law's where the arguments, and the package variables that the reading takes, are together of bulk at most 1048576: NARROWER than '..Said'. Prove '..Said' where nothing that the law and all that it calls make is longer than what came in: it says more and counts as full. Else prove '..UptoSaid'. A law counts once. -/
mutual
def uptoBulk {H : Type} : DataW H → Nat
  | .lit (.string bytes) => bytes.length + 1
  | .lit _ => 1
  | .nil => 1
  | .ptr d => uptoBulk d + 1
  | .slice elems spare => uptoBulkAll elems + uptoBulkAll spare + 1
  | .agg parts => uptoBulkAll parts + 1
  | .iface _ d => uptoBulk d + 1
  | .map entries => uptoBulkEntries entries + 1
  | .held _ => 1
def uptoBulkAll {H : Type} : List (DataW H) → Nat
  | [] => 0
  | d :: r => uptoBulk d + uptoBulkAll r
def uptoBulkEntries {H : Type} : List (Lit × DataW H) → Nat
  | [] => 0
  | x :: r => uptoBulkEntry x + uptoBulkEntries r
def uptoBulkEntry {H : Type} : Lit × DataW H → Nat
  | (.string bytes, d) => bytes.length + uptoBulk d + 1
  | (_, d) => uptoBulk d + 1
 end
def uptoSmall : (H : Type) → List (DataW H) → Bool := fun _ ds => decide (uptoBulkAll ds ≤ 1048576)
def OpenSpec.upto (s : _root_.Go.ChangeSpec) : _root_.Go.OpenSpec := { _root_.Go.OpenSpec.ofChange s with cond := some uptoSmall }

/-- 'laws.FnExactValidBow', WHERE WHAT IT READS IS OF BULK AT MOST 1048576: true; the input reads as it did. -/
def fnExactValidBowUptoRow : OpenClaim := { program := "ytmhiekfnkbldeaa", sum := "59747302a69d7a99fa6a14901e1a33a2c7e98350cc637719cc0850fa8e5deb8a", func := "loop.example/g01061/laws.FnExactValidBow", spec := "fnExactValidBow", unfollowed := true, recurses := true, apart := false, narrowed := true }
def FnExactValidBowUptoSaid : Prop := fnExactValidBowUptoRow.holds Try.pinned (OpenSpec.upto fnExactValidBowSpec)

/-- 'laws.FnExactBowMass', WHERE WHAT IT READS IS OF BULK AT MOST 1048576: true; the input reads as it did. -/
def fnExactBowMassUptoRow : OpenClaim := { program := "ytmhiekfnkbldeaa", sum := "59747302a69d7a99fa6a14901e1a33a2c7e98350cc637719cc0850fa8e5deb8a", func := "loop.example/g01061/laws.FnExactBowMass", spec := "fnExactBowMass", unfollowed := true, recurses := true, apart := false, narrowed := true }
def FnExactBowMassUptoSaid : Prop := fnExactBowMassUptoRow.holds Try.pinned (OpenSpec.upto fnExactBowMassSpec)

/-- 'laws.FnExactBalanceOf', WHERE WHAT IT READS IS OF BULK AT MOST 1048576: true; the input reads as it did. -/
def fnExactBalanceOfUptoRow : OpenClaim := { program := "ytmhiekfnkbldeaa", sum := "59747302a69d7a99fa6a14901e1a33a2c7e98350cc637719cc0850fa8e5deb8a", func := "loop.example/g01061/laws.FnExactBalanceOf", spec := "fnExactBalanceOf", unfollowed := true, recurses := true, apart := false, narrowed := true }
def FnExactBalanceOfUptoSaid : Prop := fnExactBalanceOfUptoRow.holds Try.pinned (OpenSpec.upto fnExactBalanceOfSpec)

/-- 'laws.FnExactInertiaOf', WHERE WHAT IT READS IS OF BULK AT MOST 1048576: true; the input reads as it did. -/
def fnExactInertiaOfUptoRow : OpenClaim := { program := "ytmhiekfnkbldeaa", sum := "59747302a69d7a99fa6a14901e1a33a2c7e98350cc637719cc0850fa8e5deb8a", func := "loop.example/g01061/laws.FnExactInertiaOf", spec := "fnExactInertiaOf", unfollowed := true, recurses := true, apart := false, narrowed := true }
def FnExactInertiaOfUptoSaid : Prop := fnExactInertiaOfUptoRow.holds Try.pinned (OpenSpec.upto fnExactInertiaOfSpec)

/-- 'laws.FnExactCamberOf', WHERE WHAT IT READS IS OF BULK AT MOST 1048576: true; the input reads as it did. -/
def fnExactCamberOfUptoRow : OpenClaim := { program := "ytmhiekfnkbldeaa", sum := "59747302a69d7a99fa6a14901e1a33a2c7e98350cc637719cc0850fa8e5deb8a", func := "loop.example/g01061/laws.FnExactCamberOf", spec := "fnExactCamberOf", unfollowed := true, recurses := true, apart := false, narrowed := true }
def FnExactCamberOfUptoSaid : Prop := fnExactCamberOfUptoRow.holds Try.pinned (OpenSpec.upto fnExactCamberOfSpec)

/-- 'laws.FnExactCamberGap', WHERE WHAT IT READS IS OF BULK AT MOST 1048576: true; the input reads as it did. -/
def fnExactCamberGapUptoRow : OpenClaim := { program := "ytmhiekfnkbldeaa", sum := "59747302a69d7a99fa6a14901e1a33a2c7e98350cc637719cc0850fa8e5deb8a", func := "loop.example/g01061/laws.FnExactCamberGap", spec := "fnExactCamberGap", unfollowed := true, recurses := true, apart := false, narrowed := true }
def FnExactCamberGapUptoSaid : Prop := fnExactCamberGapUptoRow.holds Try.pinned (OpenSpec.upto fnExactCamberGapSpec)

/-- 'laws.FnExactHeaviestPart', WHERE WHAT IT READS IS OF BULK AT MOST 1048576: true; the input reads as it did. -/
def fnExactHeaviestPartUptoRow : OpenClaim := { program := "ytmhiekfnkbldeaa", sum := "59747302a69d7a99fa6a14901e1a33a2c7e98350cc637719cc0850fa8e5deb8a", func := "loop.example/g01061/laws.FnExactHeaviestPart", spec := "fnExactHeaviestPart", unfollowed := true, recurses := true, apart := false, narrowed := true }
def FnExactHeaviestPartUptoSaid : Prop := fnExactHeaviestPartUptoRow.holds Try.pinned (OpenSpec.upto fnExactHeaviestPartSpec)

/-- 'laws.FnExactBendSteps', WHERE WHAT IT READS IS OF BULK AT MOST 1048576: true; the input reads as it did. -/
def fnExactBendStepsUptoRow : OpenClaim := { program := "ytmhiekfnkbldeaa", sum := "59747302a69d7a99fa6a14901e1a33a2c7e98350cc637719cc0850fa8e5deb8a", func := "loop.example/g01061/laws.FnExactBendSteps", spec := "fnExactBendSteps", apart := false, narrowed := true }
def FnExactBendStepsUptoSaid : Prop := fnExactBendStepsUptoRow.holds Try.pinned (OpenSpec.upto fnExactBendStepsSpec)

end Rows
end Go.Proofs.Ytmhiekfnkbldeaa
