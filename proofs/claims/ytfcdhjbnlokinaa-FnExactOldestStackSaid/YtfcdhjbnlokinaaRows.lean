/-
  No cell of these rows narrows 'for every input' (looked for: loops, veiled, ifaces, maps, wideKeys, modest, calm, conditions, laid).
  DERIVED. THE GIVEN ROWS OF THIS SEAT. 5 by the template 'for every input the law returns true; each argument reads behind the call as it read before'; 0 by the template 'total and deterministic' (their statements: YtfcdhjbnlokinaaTotals.lean).
  GIVEN WITH THE SEED: the statements are not yours to turn. If you find one false, say at which input.
  Laid BY PROGRAM, IN A SANDBOX (cutbox-rows.mjs): the forced cells as the released guide's own fill.sh prints them over the translation d25783fd4fa355b8… (all of the seat's roots in one cut). By AI agents, Wed Nov 11 2026. No macro, syntax, notation, axiom, sorry.
-/
import Derived.Test.YtfcdhjbnlokinaaChecked
import GoSem.Claim
import GoSem.ClaimJoined
import GoSem.ClaimMapViews
import Derived.JoinedTies
import Derived.KernelRfl
namespace Go.Proofs.Ytfcdhjbnlokinaa
/- THE CELL 'sum', in the pinned program and in every row, IS THE sha256 OF THE DUMP (.gsa) THAT YtfcdhjbnlokinaaProg.lean LOADS. Nothing in Lean hashes anything: it is a label: what it is worth is what the hold of that sum in a sandbox is worth. -/
noncomputable def Try.pinned : Pinned := { name := "ytfcdhjbnlokinaa", sum := "d25783fd4fa355b8f8ef995c81ae5425a78311b6f30763ed7e6b18dd55e16110", checked := Try.checked }
namespace Rows
def none {H : Type} : Left H := { results := [], args := [] }

/-- 'laws.FnExactValidPlanks': WHATEVER THE INPUT: true; the input reads as it did. -/
def fnExactValidPlanksSpec : ChangeSpec := { name := "fnExactValidPlanks", fn := fun _ => fun
  | [d] => { results := [.lit (.bool true)], args := [d] }
  | _ => none }
def fnExactValidPlanksRow : OpenClaim := { program := "ytfcdhjbnlokinaa", sum := "d25783fd4fa355b8f8ef995c81ae5425a78311b6f30763ed7e6b18dd55e16110", func := "loop.example/g01061/laws.FnExactValidPlanks", spec := "fnExactValidPlanks", unfollowed := true, recurses := true, apart := false }
def FnExactValidPlanksSaid : Prop := fnExactValidPlanksRow.holds Try.pinned (OpenSpec.ofChange fnExactValidPlanksSpec)

/-- ITS FALSE NEIGHBOUR: 'it returns false'. Refute it at one input. -/
def fnExactValidPlanksWrong : ChangeSpec := { name := "fnExactValidPlanks", fn := fun _ => fun
  | [d] => { results := [.lit (.bool false)], args := [d] }
  | _ => none }
def FnExactValidPlanksWrongFalsely : Prop := fnExactValidPlanksRow.holds Try.pinned (OpenSpec.ofChange fnExactValidPlanksWrong)

/-- 'laws.FnExactLightestFor': WHATEVER THE INPUT: true; the input reads as it did. -/
def fnExactLightestForSpec : ChangeSpec := { name := "fnExactLightestFor", fn := fun _ => fun
  | [d1, d2, d3, d4] => { results := [.lit (.bool true)], args := [d1, d2, d3, d4] }
  | _ => none }
def fnExactLightestForRow : OpenClaim := { program := "ytfcdhjbnlokinaa", sum := "d25783fd4fa355b8f8ef995c81ae5425a78311b6f30763ed7e6b18dd55e16110", func := "loop.example/g01061/laws.FnExactLightestFor", spec := "fnExactLightestFor", unfollowed := true, recurses := true, apart := false }
def FnExactLightestForSaid : Prop := fnExactLightestForRow.holds Try.pinned (OpenSpec.ofChange fnExactLightestForSpec)

/-- ITS FALSE NEIGHBOUR: 'it returns false'. Refute it at one input. -/
def fnExactLightestForWrong : ChangeSpec := { name := "fnExactLightestFor", fn := fun _ => fun
  | [d1, d2, d3, d4] => { results := [.lit (.bool false)], args := [d1, d2, d3, d4] }
  | _ => none }
def FnExactLightestForWrongFalsely : Prop := fnExactLightestForRow.holds Try.pinned (OpenSpec.ofChange fnExactLightestForWrong)

/-- 'laws.FnExactBestPair': WHATEVER THE INPUT: true; the input reads as it did. -/
def fnExactBestPairSpec : ChangeSpec := { name := "fnExactBestPair", fn := fun _ => fun
  | [d] => { results := [.lit (.bool true)], args := [d] }
  | _ => none }
def fnExactBestPairRow : OpenClaim := { program := "ytfcdhjbnlokinaa", sum := "d25783fd4fa355b8f8ef995c81ae5425a78311b6f30763ed7e6b18dd55e16110", func := "loop.example/g01061/laws.FnExactBestPair", spec := "fnExactBestPair", unfollowed := true, recurses := true, apart := false }
def FnExactBestPairSaid : Prop := fnExactBestPairRow.holds Try.pinned (OpenSpec.ofChange fnExactBestPairSpec)

/-- ITS FALSE NEIGHBOUR: 'it returns false'. Refute it at one input. -/
def fnExactBestPairWrong : ChangeSpec := { name := "fnExactBestPair", fn := fun _ => fun
  | [d] => { results := [.lit (.bool false)], args := [d] }
  | _ => none }
def FnExactBestPairWrongFalsely : Prop := fnExactBestPairRow.holds Try.pinned (OpenSpec.ofChange fnExactBestPairWrong)

/-- 'laws.FnExactValidStacks': WHATEVER THE INPUT: true; the input reads as it did. -/
def fnExactValidStacksSpec : ChangeSpec := { name := "fnExactValidStacks", fn := fun _ => fun
  | [d] => { results := [.lit (.bool true)], args := [d] }
  | _ => none }
def fnExactValidStacksRow : OpenClaim := { program := "ytfcdhjbnlokinaa", sum := "d25783fd4fa355b8f8ef995c81ae5425a78311b6f30763ed7e6b18dd55e16110", func := "loop.example/g01061/laws.FnExactValidStacks", spec := "fnExactValidStacks", unfollowed := true, recurses := true, apart := false }
def FnExactValidStacksSaid : Prop := fnExactValidStacksRow.holds Try.pinned (OpenSpec.ofChange fnExactValidStacksSpec)

/-- ITS FALSE NEIGHBOUR: 'it returns false'. Refute it at one input. -/
def fnExactValidStacksWrong : ChangeSpec := { name := "fnExactValidStacks", fn := fun _ => fun
  | [d] => { results := [.lit (.bool false)], args := [d] }
  | _ => none }
def FnExactValidStacksWrongFalsely : Prop := fnExactValidStacksRow.holds Try.pinned (OpenSpec.ofChange fnExactValidStacksWrong)

/-- 'laws.FnExactOldestStack': WHATEVER THE INPUT: true; the input reads as it did. -/
def fnExactOldestStackSpec : ChangeSpec := { name := "fnExactOldestStack", fn := fun _ => fun
  | [d1, d2] => { results := [.lit (.bool true)], args := [d1, d2] }
  | _ => none }
def fnExactOldestStackRow : OpenClaim := { program := "ytfcdhjbnlokinaa", sum := "d25783fd4fa355b8f8ef995c81ae5425a78311b6f30763ed7e6b18dd55e16110", func := "loop.example/g01061/laws.FnExactOldestStack", spec := "fnExactOldestStack", unfollowed := true, recurses := true, apart := false }
def FnExactOldestStackSaid : Prop := fnExactOldestStackRow.holds Try.pinned (OpenSpec.ofChange fnExactOldestStackSpec)

/-- ITS FALSE NEIGHBOUR: 'it returns false'. Refute it at one input. -/
def fnExactOldestStackWrong : ChangeSpec := { name := "fnExactOldestStack", fn := fun _ => fun
  | [d1, d2] => { results := [.lit (.bool false)], args := [d1, d2] }
  | _ => none }
def FnExactOldestStackWrongFalsely : Prop := fnExactOldestStackRow.holds Try.pinned (OpenSpec.ofChange fnExactOldestStackWrong)

/- THE SECOND FORM. 'bulk': how many values and letters a reading holds, each counted each time it is reached (what is shared counts as often as it is met; a slice's spare places count too). A statement '..UptoSaid' is the law's where the arguments, and the package variables that the reading takes, are together of bulk at most 1048576: NARROWER than '..Said'. Prove '..Said' where nothing that the law and all that it calls make is longer than what came in: it says more and counts as full. Else prove '..UptoSaid'. A law counts once. -/
mutual
def uptoBulk {H : Type} : DataW H → Nat
  | .lit (.string bytes) => bytes.length + 1
  | .lit _ => 1
  | .nil => 1
  | .ptr d => uptoBulk d + 1
  | .slice elems spare => uptoBulkAll elems + uptoBulkAll spare + 1
  | .agg parts => uptoBulkAll parts + 1
  | .iface _ d => uptoBulk d + 1
  | .map entries => uptoBulkEntries entries + 1
  | .held _ => 1
def uptoBulkAll {H : Type} : List (DataW H) → Nat
  | [] => 0
  | d :: r => uptoBulk d + uptoBulkAll r
def uptoBulkEntries {H : Type} : List (Lit × DataW H) → Nat
  | [] => 0
  | x :: r => uptoBulkEntry x + uptoBulkEntries r
def uptoBulkEntry {H : Type} : Lit × DataW H → Nat
  | (.string bytes, d) => bytes.length + uptoBulk d + 1
  | (_, d) => uptoBulk d + 1
 end
def uptoSmall : (H : Type) → List (DataW H) → Bool := fun _ ds => decide (uptoBulkAll ds ≤ 1048576)
def OpenSpec.upto (s : _root_.Go.ChangeSpec) : _root_.Go.OpenSpec := { _root_.Go.OpenSpec.ofChange s with cond := some uptoSmall }

/-- 'laws.FnExactValidPlanks', WHERE WHAT IT READS IS OF BULK AT MOST 1048576: true; the input reads as it did. -/
def fnExactValidPlanksUptoRow : OpenClaim := { program := "ytfcdhjbnlokinaa", sum := "d25783fd4fa355b8f8ef995c81ae5425a78311b6f30763ed7e6b18dd55e16110", func := "loop.example/g01061/laws.FnExactValidPlanks", spec := "fnExactValidPlanks", unfollowed := true, recurses := true, apart := false, narrowed := true }
def FnExactValidPlanksUptoSaid : Prop := fnExactValidPlanksUptoRow.holds Try.pinned (OpenSpec.upto fnExactValidPlanksSpec)

/-- 'laws.FnExactLightestFor', WHERE WHAT IT READS IS OF BULK AT MOST 1048576: true; the input reads as it did. -/
def fnExactLightestForUptoRow : OpenClaim := { program := "ytfcdhjbnlokinaa", sum := "d25783fd4fa355b8f8ef995c81ae5425a78311b6f30763ed7e6b18dd55e16110", func := "loop.example/g01061/laws.FnExactLightestFor", spec := "fnExactLightestFor", unfollowed := true, recurses := true, apart := false, narrowed := true }
def FnExactLightestForUptoSaid : Prop := fnExactLightestForUptoRow.holds Try.pinned (OpenSpec.upto fnExactLightestForSpec)

/-- 'laws.FnExactBestPair', WHERE WHAT IT READS IS OF BULK AT MOST 1048576: true; the input reads as it did. -/
def fnExactBestPairUptoRow : OpenClaim := { program := "ytfcdhjbnlokinaa", sum := "d25783fd4fa355b8f8ef995c81ae5425a78311b6f30763ed7e6b18dd55e16110", func := "loop.example/g01061/laws.FnExactBestPair", spec := "fnExactBestPair", unfollowed := true, recurses := true, apart := false, narrowed := true }
def FnExactBestPairUptoSaid : Prop := fnExactBestPairUptoRow.holds Try.pinned (OpenSpec.upto fnExactBestPairSpec)

/-- 'laws.FnExactValidStacks', WHERE WHAT IT READS IS OF BULK AT MOST 1048576: true; the input reads as it did. -/
def fnExactValidStacksUptoRow : OpenClaim := { program := "ytfcdhjbnlokinaa", sum := "d25783fd4fa355b8f8ef995c81ae5425a78311b6f30763ed7e6b18dd55e16110", func := "loop.example/g01061/laws.FnExactValidStacks", spec := "fnExactValidStacks", unfollowed := true, recurses := true, apart := false, narrowed := true }
def FnExactValidStacksUptoSaid : Prop := fnExactValidStacksUptoRow.holds Try.pinned (OpenSpec.upto fnExactValidStacksSpec)

/-- 'laws.FnExactOldestStack', WHERE WHAT IT READS IS OF BULK AT MOST 1048576: true; the input reads as it did. -/
def fnExactOldestStackUptoRow : OpenClaim := { program := "ytfcdhjbnlokinaa", sum := "d25783fd4fa355b8f8ef995c81ae5425a78311b6f30763ed7e6b18dd55e16110", func := "loop.example/g01061/laws.FnExactOldestStack", spec := "fnExactOldestStack", unfollowed := true, recurses := true, apart := false, narrowed := true }
def FnExactOldestStackUptoSaid : Prop := fnExactOldestStackUptoRow.holds Try.pinned (OpenSpec.upto fnExactOldestStackSpec)

end Rows
end Go.Proofs.Ytfcdhjbnlokinaa
