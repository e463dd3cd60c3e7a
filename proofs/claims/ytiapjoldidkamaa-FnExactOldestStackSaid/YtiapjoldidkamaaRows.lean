/-
  No cell of these rows narrows 'for every input' (looked for: loops, veiled, ifaces, maps, wideKeys, modest, calm, conditions, laid).
  DERIVED. THE GIVEN ROWS OF THIS SEAT. 3 by the template 'for every input the law returns true; each argument reads behind the call as it read before'; 0 by the template 'total and deterministic' (their statements: YtiapjoldidkamaaTotals.lean).
  GIVEN WITH THE SEED: the statements are not yours to turn. If you find one false, say at which input.
  Laid BY PROGRAM, IN A SANDBOX (cutbox-rows.mjs): the forced cells as the released guide's own fill.sh prints them over the translation 47702c9343992428… (all of the seat's roots in one cut). By AI agents, Wed Nov 11 2026. No macro, syntax, notation, axiom, sorry.
-/
import Derived.Test.YtiapjoldidkamaaChecked
import GoSem.Claim
import GoSem.ClaimJoined
import GoSem.ClaimMapViews
import Derived.JoinedTies
import Derived.KernelRfl
namespace Go.Proofs.Ytiapjoldidkamaa
/- THE CELL 'sum', in the pinned program and in every row, IS THE sha256 OF THE DUMP (.gsa) THAT YtiapjoldidkamaaProg.lean LOADS. Nothing in Lean hashes anything: it is a label: what it is worth is what the hold of that sum in a sandbox is worth. -/
noncomputable def Try.pinned : Pinned := { name := "ytiapjoldidkamaa", sum := "47702c93439924280b972181328cf4b091c44327aea7b8455af95b8a2d8518ab", checked := Try.checked }
namespace Rows
def none {H : Type} : Left H := { results := [], args := [] }

/-- 'laws.FnExactShrunkTo': WHATEVER THE INPUT: true; the input reads as it did. -/
def fnExactShrunkToSpec : ChangeSpec := { name := "fnExactShrunkTo", fn := fun _ => fun
  | [d1, d2, d3, d4] => { results := [.lit (.bool true)], args := [d1, d2, d3, d4] }
  | _ => none }
def fnExactShrunkToRow : OpenClaim := { program := "ytiapjoldidkamaa", sum := "47702c93439924280b972181328cf4b091c44327aea7b8455af95b8a2d8518ab", func := "loop.example/g01061/laws.FnExactShrunkTo", spec := "fnExactShrunkTo", apart := false }
def FnExactShrunkToSaid : Prop := fnExactShrunkToRow.holds Try.pinned (OpenSpec.ofChange fnExactShrunkToSpec)

/-- ITS FALSE NEIGHBOUR: 'it returns false'. Refute it at one input. -/
def fnExactShrunkToWrong : ChangeSpec := { name := "fnExactShrunkTo", fn := fun _ => fun
  | [d1, d2, d3, d4] => { results := [.lit (.bool false)], args := [d1, d2, d3, d4] }
  | _ => none }
def FnExactShrunkToWrongFalsely : Prop := fnExactShrunkToRow.holds Try.pinned (OpenSpec.ofChange fnExactShrunkToWrong)

/-- 'laws.FnExactValidStacks': WHATEVER THE INPUT: true; the input reads as it did. -/
def fnExactValidStacksSpec : ChangeSpec := { name := "fnExactValidStacks", fn := fun _ => fun
  | [d] => { results := [.lit (.bool true)], args := [d] }
  | _ => none }
def fnExactValidStacksRow : OpenClaim := { program := "ytiapjoldidkamaa", sum := "47702c93439924280b972181328cf4b091c44327aea7b8455af95b8a2d8518ab", func := "loop.example/g01061/laws.FnExactValidStacks", spec := "fnExactValidStacks", unfollowed := true, recurses := true, apart := false }
def FnExactValidStacksSaid : Prop := fnExactValidStacksRow.holds Try.pinned (OpenSpec.ofChange fnExactValidStacksSpec)

/-- ITS FALSE NEIGHBOUR: 'it returns false'. Refute it at one input. -/
def fnExactValidStacksWrong : ChangeSpec := { name := "fnExactValidStacks", fn := fun _ => fun
  | [d] => { results := [.lit (.bool false)], args := [d] }
  | _ => none }
def FnExactValidStacksWrongFalsely : Prop := fnExactValidStacksRow.holds Try.pinned (OpenSpec.ofChange fnExactValidStacksWrong)

/-- 'laws.FnExactOldestStack': WHATEVER THE INPUT: true; the input reads as it did. -/
def fnExactOldestStackSpec : ChangeSpec := { name := "fnExactOldestStack", fn := fun _ => fun
  | [d1, d2] => { results := [.lit (.bool true)], args := [d1, d2] }
  | _ => none }
def fnExactOldestStackRow : OpenClaim := { program := "ytiapjoldidkamaa", sum := "47702c93439924280b972181328cf4b091c44327aea7b8455af95b8a2d8518ab", func := "loop.example/g01061/laws.FnExactOldestStack", spec := "fnExactOldestStack", unfollowed := true, recurses := true, apart := false }
def FnExactOldestStackSaid : Prop := fnExactOldestStackRow.holds Try.pinned (OpenSpec.ofChange fnExactOldestStackSpec)

/-- ITS FALSE NEIGHBOUR: 'it returns false'. Refute it at one input. -/
def fnExactOldestStackWrong : ChangeSpec := { name := "fnExactOldestStack", fn := fun _ => fun
  | [d1, d2] => { results := [.lit (.bool false)], args := [d1, d2] }
  | _ => none }
def FnExactOldestStackWrongFalsely : Prop := fnExactOldestStackRow.holds Try.pinned (OpenSpec.ofChange fnExactOldestStackWrong)

/- THE SECOND FORM. 'bulk': how many values and letters a reading holds, each counted each time it is reached (what is shared counts as often as it is met; a slice's spare places count too). A statement '..UptoSaid' is the law's where the arguments, and the package variables that the reading takes, are together of bulk at most 1048576: NARROWER than '..Said'. Prove '..Said' where nothing that the law and all that it calls make is longer than what came in: it says more and counts as full. Else prove '..UptoSaid'. A law counts once. -/
mutual
def uptoBulk {H : Type} : DataW H → Nat
  | .lit (.string bytes) => bytes.length + 1
  | .lit _ => 1
  | .nil => 1
  | .ptr d => uptoBulk d + 1
  | .slice elems spare => uptoBulkAll elems + uptoBulkAll spare + 1
  | .agg parts => uptoBulkAll parts + 1
  | .iface _ d => uptoBulk d + 1
  | .map entries => uptoBulkEntries entries + 1
  | .held _ => 1
def uptoBulkAll {H : Type} : List (DataW H) → Nat
  | [] => 0
  | d :: r => uptoBulk d + uptoBulkAll r
def uptoBulkEntries {H : Type} : List (Lit × DataW H) → Nat
  | [] => 0
  | x :: r => uptoBulkEntry x + uptoBulkEntries r
def uptoBulkEntry {H : Type} : Lit × DataW H → Nat
  | (.string bytes, d) => bytes.length + uptoBulk d + 1
  | (_, d) => uptoBulk d + 1
 end
def uptoSmall : (H : Type) → List (DataW H) → Bool := fun _ ds => decide (uptoBulkAll ds ≤ 1048576)
def OpenSpec.upto (s : _root_.Go.ChangeSpec) : _root_.Go.OpenSpec := { _root_.Go.OpenSpec.ofChange s with cond := some uptoSmall }

/-- 'laws.FnExactShrunkTo', WHERE WHAT IT READS IS OF BULK AT MOST 1048576: true; the input reads as it did. -/
def fnExactShrunkToUptoRow : OpenClaim := { program := "ytiapjoldidkamaa", sum := "47702c93439924280b972181328cf4b091c44327aea7b8455af95b8a2d8518ab", func := "loop.example/g01061/laws.FnExactShrunkTo", spec := "fnExactShrunkTo", apart := false, narrowed := true }
def FnExactShrunkToUptoSaid : Prop := fnExactShrunkToUptoRow.holds Try.pinned (OpenSpec.upto fnExactShrunkToSpec)

/-- 'laws.FnExactValidStacks', WHERE WHAT IT READS IS OF BULK AT MOST 1048576: true; the input reads as it did. -/
def fnExactValidStacksUptoRow : OpenClaim := { program := "ytiapjoldidkamaa", sum := "47702c93439924280b972181328cf4b091c44327aea7b8455af95b8a2d8518ab", func := "loop.example/g01061/laws.FnExactValidStacks", spec := "fnExactValidStacks", unfollowed := true, recurses := true, apart := false, narrowed := true }
def FnExactValidStacksUptoSaid : Prop := fnExactValidStacksUptoRow.holds Try.pinned (OpenSpec.upto fnExactValidStacksSpec)

/-- 'laws.FnExactOldestStack', WHERE WHAT IT READS IS OF BULK AT MOST 1048576: true; the input reads as it did. -/
def fnExactOldestStackUptoRow : OpenClaim := { program := "ytiapjoldidkamaa", sum := "47702c93439924280b972181328cf4b091c44327aea7b8455af95b8a2d8518ab", func := "loop.example/g01061/laws.FnExactOldestStack", spec := "fnExactOldestStack", unfollowed := true, recurses := true, apart := false, narrowed := true }
def FnExactOldestStackUptoSaid : Prop := fnExactOldestStackUptoRow.holds Try.pinned (OpenSpec.upto fnExactOldestStackSpec)

end Rows
end Go.Proofs.Ytiapjoldidkamaa
