/-
  NARROWER THAN 'FOR EVERY INPUT', by the rows' own cells (each row's printed sentence says how): FnExactAddedMass: ifaces, laid · FnExactMovedPart: ifaces, laid · FnExactWithoutPart: ifaces, laid.
  DERIVED. THE GIVEN ROWS OF THIS SEAT. 3 by the template 'for every input the law returns true; each argument reads behind the call as it read before'; 0 by the template 'total and deterministic' (their statements: YtmhiekfnkbldeaaDoorTotals.lean).
  GIVEN WITH THE SEED: the statements are not yours to turn. If you find one false, say at which input.
  Laid BY PROGRAM, IN A SANDBOX (cutbox-rows.mjs): the forced cells as the released guide's own fill.sh prints them over the translation 7bd9cdbc7424a923… (all of the seat's roots in one cut). By AI agents, Wed Nov 11 2026. No macro, syntax, notation, axiom, sorry.
-/
import Derived.Test.YtmhiekfnkbldeaaDoorChecked
import GoSem.Claim
import GoSem.ClaimJoined
import GoSem.ClaimMapViews
import Derived.JoinedTies
import Derived.KernelRfl
namespace Go.Proofs.YtmhiekfnkbldeaaDoor
/- THE CELL 'sum', in the pinned program and in every row, IS THE sha256 OF THE DUMP (.gsa) THAT YtmhiekfnkbldeaaDoorProg.lean LOADS. Nothing in Lean hashes anything: it is a label: what it is worth is what the hold of that sum in a sandbox is worth. -/
noncomputable def Tryd.pinned : Pinned := { name := "ytmhiekfnkbldeaadoor", sum := "7bd9cdbc7424a923bb55b7e0496fe0473a8099d17781a4638f5e4959fd70c97d", checked := Tryd.checked }
namespace Rows
def none {H : Type} : Left H := { results := [], args := [] }

/- WHAT THE LISTED PACKAGE-LEVEL VARIABLES READ AS WHEN THE CALL BEGINS. Each datum BY PROGRAM (the guide's laid-datum.mjs) off the statement by which the dump's own 'gosem.cut.vars' lays the variable. In a bare row this is a premise. The card (YtmhiekfnkbldeaaDoorCards.lean) ties it to the program's text. -/
def laid_loop_example_g01061_impl_errNoPart {H : Type} : DataW H := .iface "*errors.errorString" (.ptr (.agg [.lit (.string [110, 111, 32, 112, 97, 114, 116, 32, 104, 97, 115, 32, 116, 104, 101, 32, 73, 100])]))
def laid_loop_example_g01061_impl_errNoMass {H : Type} : DataW H := .iface "*errors.errorString" (.ptr (.agg [.lit (.string [110, 111, 32, 109, 97, 115, 115, 32, 97, 116, 32, 116, 104, 101, 32, 112, 108, 97, 99, 101, 32, 105, 115, 32, 101, 110, 111, 117, 103, 104])]))
def laid_loop_example_g01061_impl_errTooHeavy {H : Type} : DataW H := .iface "*errors.errorString" (.ptr (.agg [.lit (.string [116, 104, 101, 32, 109, 97, 115, 115, 32, 105, 115, 32, 116, 111, 111, 32, 103, 114, 101, 97, 116])]))
def laid_loop_example_g01061_impl_errTooFar {H : Type} : DataW H := .iface "*errors.errorString" (.ptr (.agg [.lit (.string [110, 111, 32, 112, 108, 97, 99, 101, 32, 111, 110, 32, 116, 104, 101, 32, 115, 116, 105, 99, 107, 32, 105, 115, 32, 102, 97, 114, 32, 101, 110, 111, 117, 103, 104])]))
def laid_loop_example_g01061_impl_errLastPart {H : Type} : DataW H := .iface "*errors.errorString" (.ptr (.agg [.lit (.string [116, 104, 101, 32, 112, 97, 114, 116, 32, 105, 115, 32, 116, 104, 101, 32, 111, 110, 108, 121, 32, 111, 110, 101])]))

/-- 'laws.FnExactAddedMass': WHATEVER THE INPUT: true; the input reads as it did. -/
def fnExactAddedMassSpec : ChangeSpec := { name := "fnExactAddedMass", vars := ["loop.example/g01061/impl.errNoMass", "loop.example/g01061/impl.errTooHeavy", "loop.example/g01061/impl.errNoPart"], fn := fun _ => fun
  | [d1, d2, d3, g1, g2, g3] => { results := [.lit (.bool true)], args := [d1, d2, d3], vars := [g1, g2, g3] }
  | _ => none }
def fnExactAddedMassRow : OpenClaim := { program := "ytmhiekfnkbldeaadoor", sum := "7bd9cdbc7424a923bb55b7e0496fe0473a8099d17781a4638f5e4959fd70c97d", func := "loop.example/g01061/laws.FnExactAddedMass", spec := "fnExactAddedMass", inPlace := ["internal/reflectlite.TypeOf"], unfollowed := true, recurses := true, named := ["loop.example/g01061/impl.errNoMass", "loop.example/g01061/impl.errTooHeavy", "loop.example/g01061/impl.errNoPart"], ifaces := true, apart := false, laid := [("loop.example/g01061/impl.errNoPart", laid_loop_example_g01061_impl_errNoPart), ("loop.example/g01061/impl.errNoMass", laid_loop_example_g01061_impl_errNoMass), ("loop.example/g01061/impl.errTooHeavy", laid_loop_example_g01061_impl_errTooHeavy)] }
def FnExactAddedMassSaid : Prop := fnExactAddedMassRow.holds Tryd.pinned (OpenSpec.ofChange fnExactAddedMassSpec)

/-- ITS FALSE NEIGHBOUR: 'it returns false'. Refute it at one input. -/
def fnExactAddedMassWrong : ChangeSpec := { name := "fnExactAddedMass", vars := ["loop.example/g01061/impl.errNoMass", "loop.example/g01061/impl.errTooHeavy", "loop.example/g01061/impl.errNoPart"], fn := fun _ => fun
  | [d1, d2, d3, g1, g2, g3] => { results := [.lit (.bool false)], args := [d1, d2, d3], vars := [g1, g2, g3] }
  | _ => none }
def FnExactAddedMassWrongFalsely : Prop := fnExactAddedMassRow.holds Tryd.pinned (OpenSpec.ofChange fnExactAddedMassWrong)

/-- 'laws.FnExactMovedPart': WHATEVER THE INPUT: true; the input reads as it did. -/
def fnExactMovedPartSpec : ChangeSpec := { name := "fnExactMovedPart", vars := ["loop.example/g01061/impl.errTooFar", "loop.example/g01061/impl.errNoPart", "loop.example/g01061/impl.errNoMass", "loop.example/g01061/impl.errTooHeavy"], fn := fun _ => fun
  | [d1, d2, d3, g1, g2, g3, g4] => { results := [.lit (.bool true)], args := [d1, d2, d3], vars := [g1, g2, g3, g4] }
  | _ => none }
def fnExactMovedPartRow : OpenClaim := { program := "ytmhiekfnkbldeaadoor", sum := "7bd9cdbc7424a923bb55b7e0496fe0473a8099d17781a4638f5e4959fd70c97d", func := "loop.example/g01061/laws.FnExactMovedPart", spec := "fnExactMovedPart", inPlace := ["internal/reflectlite.TypeOf"], unfollowed := true, recurses := true, named := ["loop.example/g01061/impl.errTooFar", "loop.example/g01061/impl.errNoPart", "loop.example/g01061/impl.errNoMass", "loop.example/g01061/impl.errTooHeavy"], ifaces := true, apart := false, laid := [("loop.example/g01061/impl.errNoPart", laid_loop_example_g01061_impl_errNoPart), ("loop.example/g01061/impl.errNoMass", laid_loop_example_g01061_impl_errNoMass), ("loop.example/g01061/impl.errTooHeavy", laid_loop_example_g01061_impl_errTooHeavy), ("loop.example/g01061/impl.errTooFar", laid_loop_example_g01061_impl_errTooFar)] }
def FnExactMovedPartSaid : Prop := fnExactMovedPartRow.holds Tryd.pinned (OpenSpec.ofChange fnExactMovedPartSpec)

/-- ITS FALSE NEIGHBOUR: 'it returns false'. Refute it at one input. -/
def fnExactMovedPartWrong : ChangeSpec := { name := "fnExactMovedPart", vars := ["loop.example/g01061/impl.errTooFar", "loop.example/g01061/impl.errNoPart", "loop.example/g01061/impl.errNoMass", "loop.example/g01061/impl.errTooHeavy"], fn := fun _ => fun
  | [d1, d2, d3, g1, g2, g3, g4] => { results := [.lit (.bool false)], args := [d1, d2, d3], vars := [g1, g2, g3, g4] }
  | _ => none }
def FnExactMovedPartWrongFalsely : Prop := fnExactMovedPartRow.holds Tryd.pinned (OpenSpec.ofChange fnExactMovedPartWrong)

/-- 'laws.FnExactWithoutPart': WHATEVER THE INPUT: true; the input reads as it did. -/
def fnExactWithoutPartSpec : ChangeSpec := { name := "fnExactWithoutPart", vars := ["loop.example/g01061/impl.errLastPart", "loop.example/g01061/impl.errNoPart", "loop.example/g01061/impl.errNoMass", "loop.example/g01061/impl.errTooHeavy"], fn := fun _ => fun
  | [d1, d2, g1, g2, g3, g4] => { results := [.lit (.bool true)], args := [d1, d2], vars := [g1, g2, g3, g4] }
  | _ => none }
def fnExactWithoutPartRow : OpenClaim := { program := "ytmhiekfnkbldeaadoor", sum := "7bd9cdbc7424a923bb55b7e0496fe0473a8099d17781a4638f5e4959fd70c97d", func := "loop.example/g01061/laws.FnExactWithoutPart", spec := "fnExactWithoutPart", inPlace := ["internal/reflectlite.TypeOf"], unfollowed := true, recurses := true, named := ["loop.example/g01061/impl.errLastPart", "loop.example/g01061/impl.errNoPart", "loop.example/g01061/impl.errNoMass", "loop.example/g01061/impl.errTooHeavy"], ifaces := true, apart := false, laid := [("loop.example/g01061/impl.errNoPart", laid_loop_example_g01061_impl_errNoPart), ("loop.example/g01061/impl.errLastPart", laid_loop_example_g01061_impl_errLastPart), ("loop.example/g01061/impl.errNoMass", laid_loop_example_g01061_impl_errNoMass), ("loop.example/g01061/impl.errTooHeavy", laid_loop_example_g01061_impl_errTooHeavy)] }
def FnExactWithoutPartSaid : Prop := fnExactWithoutPartRow.holds Tryd.pinned (OpenSpec.ofChange fnExactWithoutPartSpec)

/-- ITS FALSE NEIGHBOUR: 'it returns false'. Refute it at one input. -/
def fnExactWithoutPartWrong : ChangeSpec := { name := "fnExactWithoutPart", vars := ["loop.example/g01061/impl.errLastPart", "loop.example/g01061/impl.errNoPart", "loop.example/g01061/impl.errNoMass", "loop.example/g01061/impl.errTooHeavy"], fn := fun _ => fun
  | [d1, d2, g1, g2, g3, g4] => { results := [.lit (.bool false)], args := [d1, d2], vars := [g1, g2, g3, g4] }
  | _ => none }
def FnExactWithoutPartWrongFalsely : Prop := fnExactWithoutPartRow.holds Tryd.pinned (OpenSpec.ofChange fnExactWithoutPartWrong)

/- THE SECOND FORM. 'bulk': how many values and letters a reading holds, each counted each time it is reached (what is shared counts as often as it is met; a slice's spare places count too). A statement '..UptoSaid' is the law's where the arguments, and the package variables that the reading takes, are together of bulk at most 1048576: NARROWER than '..Said'. Prove '..Said' where nothing that the law and all that it calls make is longer than what came in: it says more and counts as full. Else prove '..UptoSaid'. A law counts once. -/
mutual
def uptoBulk {H : Type} : DataW H → Nat
  | .lit (.string bytes) => bytes.length + 1
  | .lit _ => 1
  | .nil => 1
  | .ptr d => uptoBulk d + 1
  | .slice elems spare => uptoBulkAll elems + uptoBulkAll spare + 1
  | .agg parts => uptoBulkAll parts + 1
  | .iface _ d => uptoBulk d + 1
  | .map entries => uptoBulkEntries entries + 1
  | .held _ => 1
def uptoBulkAll {H : Type} : List (DataW H) → Nat
  | [] => 0
  | d :: r => uptoBulk d + uptoBulkAll r
def uptoBulkEntries {H : Type} : List (Lit × DataW H) → Nat
  | [] => 0
  | x :: r => uptoBulkEntry x + uptoBulkEntries r
def uptoBulkEntry {H : Type} : Lit × DataW H → Nat
  | (.string bytes, d) => bytes.length + uptoBulk d + 1
  | (_, d) => uptoBulk d + 1
 end
def uptoSmall : (H : Type) → List (DataW H) → Bool := fun _ ds => decide (uptoBulkAll ds ≤ 1048576)
def OpenSpec.upto (s : _root_.Go.ChangeSpec) : _root_.Go.OpenSpec := { _root_.Go.OpenSpec.ofChange s with cond := some uptoSmall }

/-- 'laws.FnExactAddedMass', WHERE WHAT IT READS IS OF BULK AT MOST 1048576: true; the input reads as it did. -/
def fnExactAddedMassUptoRow : OpenClaim := { program := "ytmhiekfnkbldeaadoor", sum := "7bd9cdbc7424a923bb55b7e0496fe0473a8099d17781a4638f5e4959fd70c97d", func := "loop.example/g01061/laws.FnExactAddedMass", spec := "fnExactAddedMass", inPlace := ["internal/reflectlite.TypeOf"], unfollowed := true, recurses := true, named := ["loop.example/g01061/impl.errNoMass", "loop.example/g01061/impl.errTooHeavy", "loop.example/g01061/impl.errNoPart"], ifaces := true, apart := false, laid := [("loop.example/g01061/impl.errNoPart", laid_loop_example_g01061_impl_errNoPart), ("loop.example/g01061/impl.errNoMass", laid_loop_example_g01061_impl_errNoMass), ("loop.example/g01061/impl.errTooHeavy", laid_loop_example_g01061_impl_errTooHeavy)], narrowed := true }
def FnExactAddedMassUptoSaid : Prop := fnExactAddedMassUptoRow.holds Tryd.pinned (OpenSpec.upto fnExactAddedMassSpec)

/-- 'laws.FnExactMovedPart', WHERE WHAT IT READS IS OF BULK AT MOST 1048576: true; the input reads as it did. -/
def fnExactMovedPartUptoRow : OpenClaim := { program := "ytmhiekfnkbldeaadoor", sum := "7bd9cdbc7424a923bb55b7e0496fe0473a8099d17781a4638f5e4959fd70c97d", func := "loop.example/g01061/laws.FnExactMovedPart", spec := "fnExactMovedPart", inPlace := ["internal/reflectlite.TypeOf"], unfollowed := true, recurses := true, named := ["loop.example/g01061/impl.errTooFar", "loop.example/g01061/impl.errNoPart", "loop.example/g01061/impl.errNoMass", "loop.example/g01061/impl.errTooHeavy"], ifaces := true, apart := false, laid := [("loop.example/g01061/impl.errNoPart", laid_loop_example_g01061_impl_errNoPart), ("loop.example/g01061/impl.errNoMass", laid_loop_example_g01061_impl_errNoMass), ("loop.example/g01061/impl.errTooHeavy", laid_loop_example_g01061_impl_errTooHeavy), ("loop.example/g01061/impl.errTooFar", laid_loop_example_g01061_impl_errTooFar)], narrowed := true }
def FnExactMovedPartUptoSaid : Prop := fnExactMovedPartUptoRow.holds Tryd.pinned (OpenSpec.upto fnExactMovedPartSpec)

/-- 'laws.FnExactWithoutPart', WHERE WHAT IT READS IS OF BULK AT MOST 1048576: true; the input reads as it did. -/
def fnExactWithoutPartUptoRow : OpenClaim := { program := "ytmhiekfnkbldeaadoor", sum := "7bd9cdbc7424a923bb55b7e0496fe0473a8099d17781a4638f5e4959fd70c97d", func := "loop.example/g01061/laws.FnExactWithoutPart", spec := "fnExactWithoutPart", inPlace := ["internal/reflectlite.TypeOf"], unfollowed := true, recurses := true, named := ["loop.example/g01061/impl.errLastPart", "loop.example/g01061/impl.errNoPart", "loop.example/g01061/impl.errNoMass", "loop.example/g01061/impl.errTooHeavy"], ifaces := true, apart := false, laid := [("loop.example/g01061/impl.errNoPart", laid_loop_example_g01061_impl_errNoPart), ("loop.example/g01061/impl.errLastPart", laid_loop_example_g01061_impl_errLastPart), ("loop.example/g01061/impl.errNoMass", laid_loop_example_g01061_impl_errNoMass), ("loop.example/g01061/impl.errTooHeavy", laid_loop_example_g01061_impl_errTooHeavy)], narrowed := true }
def FnExactWithoutPartUptoSaid : Prop := fnExactWithoutPartUptoRow.holds Tryd.pinned (OpenSpec.upto fnExactWithoutPartSpec)

end Rows
end Go.Proofs.YtmhiekfnkbldeaaDoor
