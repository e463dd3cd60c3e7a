/-
  No cell of these rows narrows 'for every input' (looked for: loops, veiled, ifaces, maps, wideKeys, modest, calm, conditions, laid).
  DERIVED. THE GIVEN ROWS OF THIS SEAT. 3 by the template 'for every input the law returns true; each argument reads behind the call as it read before'; 0 by the template 'total and deterministic' (their statements: YtilnnhmpdjhdlaaTotals.lean).
  GIVEN WITH THE SEED: the statements are not yours to turn. If you find one false, say at which input.
  Laid BY PROGRAM, IN A SANDBOX (cutbox-rows.mjs): the forced cells as the released guide's own fill.sh prints them over the translation 01d25aa5e1390a90… (all of the seat's roots in one cut). By AI agents, Wed Nov 11 2026. No macro, syntax, notation, axiom, sorry.
-/
import Derived.Test.YtilnnhmpdjhdlaaChecked
import GoSem.Claim
import GoSem.ClaimJoined
import GoSem.ClaimMapViews
import Derived.JoinedTies
import Derived.KernelRfl
namespace Go.Proofs.Ytilnnhmpdjhdlaa
/- THE CELL 'sum', in the pinned program and in every row, IS THE sha256 OF THE DUMP (.gsa) THAT YtilnnhmpdjhdlaaProg.lean LOADS. Nothing in Lean hashes anything: it is a label: what it is worth is what the hold of that sum in a sandbox is worth. -/
noncomputable def Try.pinned : Pinned := { name := "ytilnnhmpdjhdlaa", sum := "01d25aa5e1390a90600e872588333c5b1008b783499e1c536453c6f208e62ec4", checked := Try.checked }
namespace Rows
def none {H : Type} : Left H := { results := [], args := [] }

/-- 'laws.FnExactCutRibs': WHATEVER THE INPUT: true; the input reads as it did. -/
def fnExactCutRibsSpec : ChangeSpec := { name := "fnExactCutRibs", fn := fun _ => fun
  | [d1, d2, d3, d4] => { results := [.lit (.bool true)], args := [d1, d2, d3, d4] }
  | _ => none }
def fnExactCutRibsRow : OpenClaim := { program := "ytilnnhmpdjhdlaa", sum := "01d25aa5e1390a90600e872588333c5b1008b783499e1c536453c6f208e62ec4", func := "loop.example/g01061/laws.FnExactCutRibs", spec := "fnExactCutRibs", unfollowed := true, recurses := true, apart := false }
def FnExactCutRibsSaid : Prop := fnExactCutRibsRow.holds Try.pinned (OpenSpec.ofChange fnExactCutRibsSpec)

/-- ITS FALSE NEIGHBOUR: 'it returns false'. Refute it at one input. -/
def fnExactCutRibsWrong : ChangeSpec := { name := "fnExactCutRibs", fn := fun _ => fun
  | [d1, d2, d3, d4] => { results := [.lit (.bool false)], args := [d1, d2, d3, d4] }
  | _ => none }
def FnExactCutRibsWrongFalsely : Prop := fnExactCutRibsRow.holds Try.pinned (OpenSpec.ofChange fnExactCutRibsWrong)

/-- 'laws.FnExactFirstCuts': WHATEVER THE INPUT: true; the input reads as it did. -/
def fnExactFirstCutsSpec : ChangeSpec := { name := "fnExactFirstCuts", fn := fun _ => fun
  | [d1, d2, d3] => { results := [.lit (.bool true)], args := [d1, d2, d3] }
  | _ => none }
def fnExactFirstCutsRow : OpenClaim := { program := "ytilnnhmpdjhdlaa", sum := "01d25aa5e1390a90600e872588333c5b1008b783499e1c536453c6f208e62ec4", func := "loop.example/g01061/laws.FnExactFirstCuts", spec := "fnExactFirstCuts", unfollowed := true, recurses := true, apart := false }
def FnExactFirstCutsSaid : Prop := fnExactFirstCutsRow.holds Try.pinned (OpenSpec.ofChange fnExactFirstCutsSpec)

/-- ITS FALSE NEIGHBOUR: 'it returns false'. Refute it at one input. -/
def fnExactFirstCutsWrong : ChangeSpec := { name := "fnExactFirstCuts", fn := fun _ => fun
  | [d1, d2, d3] => { results := [.lit (.bool false)], args := [d1, d2, d3] }
  | _ => none }
def FnExactFirstCutsWrongFalsely : Prop := fnExactFirstCutsRow.holds Try.pinned (OpenSpec.ofChange fnExactFirstCutsWrong)

/-- 'laws.FnExactStripsLeft': WHATEVER THE INPUT: true; the input reads as it did. -/
def fnExactStripsLeftSpec : ChangeSpec := { name := "fnExactStripsLeft", fn := fun _ => fun
  | [d1, d2, d3, d4] => { results := [.lit (.bool true)], args := [d1, d2, d3, d4] }
  | _ => none }
def fnExactStripsLeftRow : OpenClaim := { program := "ytilnnhmpdjhdlaa", sum := "01d25aa5e1390a90600e872588333c5b1008b783499e1c536453c6f208e62ec4", func := "loop.example/g01061/laws.FnExactStripsLeft", spec := "fnExactStripsLeft", unfollowed := true, recurses := true, apart := false }
def FnExactStripsLeftSaid : Prop := fnExactStripsLeftRow.holds Try.pinned (OpenSpec.ofChange fnExactStripsLeftSpec)

/-- ITS FALSE NEIGHBOUR: 'it returns false'. Refute it at one input. -/
def fnExactStripsLeftWrong : ChangeSpec := { name := "fnExactStripsLeft", fn := fun _ => fun
  | [d1, d2, d3, d4] => { results := [.lit (.bool false)], args := [d1, d2, d3, d4] }
  | _ => none }
def FnExactStripsLeftWrongFalsely : Prop := fnExactStripsLeftRow.holds Try.pinned (OpenSpec.ofChange fnExactStripsLeftWrong)

/- THE SECOND FORM. 'bulk': how many values and letters a reading holds, each counted each time it is reached (what is shared counts as often as it is met; a slice's spare places count too). A statement '..UptoSaid' is the law's where the arguments, and the package variables that the reading takes, are together of bulk at most 1048576: NARROWER than '..Said'. Prove '..Said' where nothing that the law and all that it calls make is longer than what came in: it says more and counts as full. Else prove '..UptoSaid'. A law counts once. -/
mutual
def uptoBulk {H : Type} : DataW H → Nat
  | .lit (.string bytes) => bytes.length + 1
  | .lit _ => 1
  | .nil => 1
  | .ptr d => uptoBulk d + 1
  | .slice elems spare => uptoBulkAll elems + uptoBulkAll spare + 1
  | .agg parts => uptoBulkAll parts + 1
  | .iface _ d => uptoBulk d + 1
  | .map entries => uptoBulkEntries entries + 1
  | .held _ => 1
def uptoBulkAll {H : Type} : List (DataW H) → Nat
  | [] => 0
  | d :: r => uptoBulk d + uptoBulkAll r
def uptoBulkEntries {H : Type} : List (Lit × DataW H) → Nat
  | [] => 0
  | x :: r => uptoBulkEntry x + uptoBulkEntries r
def uptoBulkEntry {H : Type} : Lit × DataW H → Nat
  | (.string bytes, d) => bytes.length + uptoBulk d + 1
  | (_, d) => uptoBulk d + 1
 end
def uptoSmall : (H : Type) → List (DataW H) → Bool := fun _ ds => decide (uptoBulkAll ds ≤ 1048576)
def OpenSpec.upto (s : _root_.Go.ChangeSpec) : _root_.Go.OpenSpec := { _root_.Go.OpenSpec.ofChange s with cond := some uptoSmall }

/-- 'laws.FnExactCutRibs', WHERE WHAT IT READS IS OF BULK AT MOST 1048576: true; the input reads as it did. -/
def fnExactCutRibsUptoRow : OpenClaim := { program := "ytilnnhmpdjhdlaa", sum := "01d25aa5e1390a90600e872588333c5b1008b783499e1c536453c6f208e62ec4", func := "loop.example/g01061/laws.FnExactCutRibs", spec := "fnExactCutRibs", unfollowed := true, recurses := true, apart := false, narrowed := true }
def FnExactCutRibsUptoSaid : Prop := fnExactCutRibsUptoRow.holds Try.pinned (OpenSpec.upto fnExactCutRibsSpec)

/-- 'laws.FnExactFirstCuts', WHERE WHAT IT READS IS OF BULK AT MOST 1048576: true; the input reads as it did. -/
def fnExactFirstCutsUptoRow : OpenClaim := { program := "ytilnnhmpdjhdlaa", sum := "01d25aa5e1390a90600e872588333c5b1008b783499e1c536453c6f208e62ec4", func := "loop.example/g01061/laws.FnExactFirstCuts", spec := "fnExactFirstCuts", unfollowed := true, recurses := true, apart := false, narrowed := true }
def FnExactFirstCutsUptoSaid : Prop := fnExactFirstCutsUptoRow.holds Try.pinned (OpenSpec.upto fnExactFirstCutsSpec)

/-- 'laws.FnExactStripsLeft', WHERE WHAT IT READS IS OF BULK AT MOST 1048576: true; the input reads as it did. -/
def fnExactStripsLeftUptoRow : OpenClaim := { program := "ytilnnhmpdjhdlaa", sum := "01d25aa5e1390a90600e872588333c5b1008b783499e1c536453c6f208e62ec4", func := "loop.example/g01061/laws.FnExactStripsLeft", spec := "fnExactStripsLeft", unfollowed := true, recurses := true, apart := false, narrowed := true }
def FnExactStripsLeftUptoSaid : Prop := fnExactStripsLeftUptoRow.holds Try.pinned (OpenSpec.upto fnExactStripsLeftSpec)

end Rows
end Go.Proofs.Ytilnnhmpdjhdlaa
