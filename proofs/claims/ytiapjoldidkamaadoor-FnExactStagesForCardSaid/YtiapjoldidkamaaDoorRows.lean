/-
  NARROWER THAN 'FOR EVERY INPUT', by the rows' own cells (each row's printed sentence says how): FnExactEvenMoisture: laid · FnExactMoistureAfter: laid · FnExactDaysToDry: laid · FnExactThickToDry: laid · FnExactCrackDays: laid · FnExactSafeHumidity: laid · FnExactReadyStacks: laid · FnExactStagesFor: laid.
  DERIVED. THE GIVEN ROWS OF THIS SEAT. 8 by the template 'for every input the law returns true; each argument reads behind the call as it read before'; 0 by the template 'total and deterministic' (their statements: YtiapjoldidkamaaDoorTotals.lean).
  GIVEN WITH THE SEED: the statements are not yours to turn. If you find one false, say at which input.
  Laid BY PROGRAM, IN A SANDBOX (cutbox-rows.mjs): the forced cells as the released guide's own fill.sh prints them over the translation f121aaa8d9b464b5… (all of the seat's roots in one cut). By AI agents, Wed Nov 11 2026. No macro, syntax, notation, axiom, sorry.
-/
import Derived.Test.YtiapjoldidkamaaDoorChecked
import GoSem.Claim
import GoSem.ClaimJoined
import GoSem.ClaimMapViews
import Derived.JoinedTies
import Derived.KernelRfl
namespace Go.Proofs.YtiapjoldidkamaaDoor
/- THE CELL 'sum', in the pinned program and in every row, IS THE sha256 OF THE DUMP (.gsa) THAT YtiapjoldidkamaaDoorProg.lean LOADS. Nothing in Lean hashes anything: it is a label: what it is worth is what the hold of that sum in a sandbox is worth. -/
noncomputable def Tryd.pinned : Pinned := { name := "ytiapjoldidkamaadoor", sum := "f121aaa8d9b464b50ab24b64ad12d2437107be062baf331a4845283322234554", checked := Tryd.checked }
namespace Rows
def none {H : Type} : Left H := { results := [], args := [] }

/- WHAT THE LISTED PACKAGE-LEVEL VARIABLES READ AS WHEN THE CALL BEGINS. Each datum BY PROGRAM (the guide's laid-datum.mjs) off the statement by which the dump's own 'gosem.cut.vars' lays the variable. In a bare row this is a premise. The card (YtiapjoldidkamaaDoorCards.lean) ties it to the program's text. -/
def laid_loop_example_g01061_impl_evenPoints {H : Type} : DataW H := .agg [.agg [.lit (.int .i64 0), .lit (.int .i64 0)], .agg [.lit (.int .i64 300), .lit (.int .i64 60)], .agg [.lit (.int .i64 600), .lit (.int .i64 110)], .agg [.lit (.int .i64 800), .lit (.int .i64 160)], .agg [.lit (.int .i64 1000), .lit (.int .i64 280)]]

/-- 'laws.FnExactEvenMoisture': WHATEVER THE INPUT: true; the input reads as it did. -/
def fnExactEvenMoistureSpec : ChangeSpec := { name := "fnExactEvenMoisture", vars := ["loop.example/g01061/impl.evenPoints"], fn := fun _ => fun
  | [d, g1] => { results := [.lit (.bool true)], args := [d], vars := [g1] }
  | _ => none }
def fnExactEvenMoistureRow : OpenClaim := { program := "ytiapjoldidkamaadoor", sum := "f121aaa8d9b464b50ab24b64ad12d2437107be062baf331a4845283322234554", func := "loop.example/g01061/laws.FnExactEvenMoisture", spec := "fnExactEvenMoisture", named := ["loop.example/g01061/impl.evenPoints"], apart := false, laid := [("loop.example/g01061/impl.evenPoints", laid_loop_example_g01061_impl_evenPoints)] }
def FnExactEvenMoistureSaid : Prop := fnExactEvenMoistureRow.holds Tryd.pinned (OpenSpec.ofChange fnExactEvenMoistureSpec)

/-- ITS FALSE NEIGHBOUR: 'it returns false'. Refute it at one input. -/
def fnExactEvenMoistureWrong : ChangeSpec := { name := "fnExactEvenMoisture", vars := ["loop.example/g01061/impl.evenPoints"], fn := fun _ => fun
  | [d, g1] => { results := [.lit (.bool false)], args := [d], vars := [g1] }
  | _ => none }
def FnExactEvenMoistureWrongFalsely : Prop := fnExactEvenMoistureRow.holds Tryd.pinned (OpenSpec.ofChange fnExactEvenMoistureWrong)

/-- 'laws.FnExactMoistureAfter': WHATEVER THE INPUT: true; the input reads as it did. -/
def fnExactMoistureAfterSpec : ChangeSpec := { name := "fnExactMoistureAfter", vars := ["loop.example/g01061/impl.evenPoints"], fn := fun _ => fun
  | [d1, d2, d3, g1] => { results := [.lit (.bool true)], args := [d1, d2, d3], vars := [g1] }
  | _ => none }
def fnExactMoistureAfterRow : OpenClaim := { program := "ytiapjoldidkamaadoor", sum := "f121aaa8d9b464b50ab24b64ad12d2437107be062baf331a4845283322234554", func := "loop.example/g01061/laws.FnExactMoistureAfter", spec := "fnExactMoistureAfter", unfollowed := true, recurses := true, named := ["loop.example/g01061/impl.evenPoints"], apart := false, laid := [("loop.example/g01061/impl.evenPoints", laid_loop_example_g01061_impl_evenPoints)] }
def FnExactMoistureAfterSaid : Prop := fnExactMoistureAfterRow.holds Tryd.pinned (OpenSpec.ofChange fnExactMoistureAfterSpec)

/-- ITS FALSE NEIGHBOUR: 'it returns false'. Refute it at one input. -/
def fnExactMoistureAfterWrong : ChangeSpec := { name := "fnExactMoistureAfter", vars := ["loop.example/g01061/impl.evenPoints"], fn := fun _ => fun
  | [d1, d2, d3, g1] => { results := [.lit (.bool false)], args := [d1, d2, d3], vars := [g1] }
  | _ => none }
def FnExactMoistureAfterWrongFalsely : Prop := fnExactMoistureAfterRow.holds Tryd.pinned (OpenSpec.ofChange fnExactMoistureAfterWrong)

/-- 'laws.FnExactDaysToDry': WHATEVER THE INPUT: true; the input reads as it did. -/
def fnExactDaysToDrySpec : ChangeSpec := { name := "fnExactDaysToDry", vars := ["loop.example/g01061/impl.evenPoints"], fn := fun _ => fun
  | [d1, d2, d3, g1] => { results := [.lit (.bool true)], args := [d1, d2, d3], vars := [g1] }
  | _ => none }
def fnExactDaysToDryRow : OpenClaim := { program := "ytiapjoldidkamaadoor", sum := "f121aaa8d9b464b50ab24b64ad12d2437107be062baf331a4845283322234554", func := "loop.example/g01061/laws.FnExactDaysToDry", spec := "fnExactDaysToDry", unfollowed := true, recurses := true, named := ["loop.example/g01061/impl.evenPoints"], apart := false, laid := [("loop.example/g01061/impl.evenPoints", laid_loop_example_g01061_impl_evenPoints)] }
def FnExactDaysToDrySaid : Prop := fnExactDaysToDryRow.holds Tryd.pinned (OpenSpec.ofChange fnExactDaysToDrySpec)

/-- ITS FALSE NEIGHBOUR: 'it returns false'. Refute it at one input. -/
def fnExactDaysToDryWrong : ChangeSpec := { name := "fnExactDaysToDry", vars := ["loop.example/g01061/impl.evenPoints"], fn := fun _ => fun
  | [d1, d2, d3, g1] => { results := [.lit (.bool false)], args := [d1, d2, d3], vars := [g1] }
  | _ => none }
def FnExactDaysToDryWrongFalsely : Prop := fnExactDaysToDryRow.holds Tryd.pinned (OpenSpec.ofChange fnExactDaysToDryWrong)

/-- 'laws.FnExactThickToDry': WHATEVER THE INPUT: true; the input reads as it did. -/
def fnExactThickToDrySpec : ChangeSpec := { name := "fnExactThickToDry", vars := ["loop.example/g01061/impl.evenPoints"], fn := fun _ => fun
  | [d1, d2, d3, d4, g1] => { results := [.lit (.bool true)], args := [d1, d2, d3, d4], vars := [g1] }
  | _ => none }
def fnExactThickToDryRow : OpenClaim := { program := "ytiapjoldidkamaadoor", sum := "f121aaa8d9b464b50ab24b64ad12d2437107be062baf331a4845283322234554", func := "loop.example/g01061/laws.FnExactThickToDry", spec := "fnExactThickToDry", unfollowed := true, recurses := true, named := ["loop.example/g01061/impl.evenPoints"], apart := false, laid := [("loop.example/g01061/impl.evenPoints", laid_loop_example_g01061_impl_evenPoints)] }
def FnExactThickToDrySaid : Prop := fnExactThickToDryRow.holds Tryd.pinned (OpenSpec.ofChange fnExactThickToDrySpec)

/-- ITS FALSE NEIGHBOUR: 'it returns false'. Refute it at one input. -/
def fnExactThickToDryWrong : ChangeSpec := { name := "fnExactThickToDry", vars := ["loop.example/g01061/impl.evenPoints"], fn := fun _ => fun
  | [d1, d2, d3, d4, g1] => { results := [.lit (.bool false)], args := [d1, d2, d3, d4], vars := [g1] }
  | _ => none }
def FnExactThickToDryWrongFalsely : Prop := fnExactThickToDryRow.holds Tryd.pinned (OpenSpec.ofChange fnExactThickToDryWrong)

/-- 'laws.FnExactCrackDays': WHATEVER THE INPUT: true; the input reads as it did. -/
def fnExactCrackDaysSpec : ChangeSpec := { name := "fnExactCrackDays", vars := ["loop.example/g01061/impl.evenPoints"], fn := fun _ => fun
  | [d1, d2, d3, d4, g1] => { results := [.lit (.bool true)], args := [d1, d2, d3, d4], vars := [g1] }
  | _ => none }
def fnExactCrackDaysRow : OpenClaim := { program := "ytiapjoldidkamaadoor", sum := "f121aaa8d9b464b50ab24b64ad12d2437107be062baf331a4845283322234554", func := "loop.example/g01061/laws.FnExactCrackDays", spec := "fnExactCrackDays", unfollowed := true, recurses := true, named := ["loop.example/g01061/impl.evenPoints"], apart := false, laid := [("loop.example/g01061/impl.evenPoints", laid_loop_example_g01061_impl_evenPoints)] }
def FnExactCrackDaysSaid : Prop := fnExactCrackDaysRow.holds Tryd.pinned (OpenSpec.ofChange fnExactCrackDaysSpec)

/-- ITS FALSE NEIGHBOUR: 'it returns false'. Refute it at one input. -/
def fnExactCrackDaysWrong : ChangeSpec := { name := "fnExactCrackDays", vars := ["loop.example/g01061/impl.evenPoints"], fn := fun _ => fun
  | [d1, d2, d3, d4, g1] => { results := [.lit (.bool false)], args := [d1, d2, d3, d4], vars := [g1] }
  | _ => none }
def FnExactCrackDaysWrongFalsely : Prop := fnExactCrackDaysRow.holds Tryd.pinned (OpenSpec.ofChange fnExactCrackDaysWrong)

/-- 'laws.FnExactSafeHumidity': WHATEVER THE INPUT: true; the input reads as it did. -/
def fnExactSafeHumiditySpec : ChangeSpec := { name := "fnExactSafeHumidity", vars := ["loop.example/g01061/impl.evenPoints"], fn := fun _ => fun
  | [d1, d2, g1] => { results := [.lit (.bool true)], args := [d1, d2], vars := [g1] }
  | _ => none }
def fnExactSafeHumidityRow : OpenClaim := { program := "ytiapjoldidkamaadoor", sum := "f121aaa8d9b464b50ab24b64ad12d2437107be062baf331a4845283322234554", func := "loop.example/g01061/laws.FnExactSafeHumidity", spec := "fnExactSafeHumidity", unfollowed := true, recurses := true, named := ["loop.example/g01061/impl.evenPoints"], apart := false, laid := [("loop.example/g01061/impl.evenPoints", laid_loop_example_g01061_impl_evenPoints)] }
def FnExactSafeHumiditySaid : Prop := fnExactSafeHumidityRow.holds Tryd.pinned (OpenSpec.ofChange fnExactSafeHumiditySpec)

/-- ITS FALSE NEIGHBOUR: 'it returns false'. Refute it at one input. -/
def fnExactSafeHumidityWrong : ChangeSpec := { name := "fnExactSafeHumidity", vars := ["loop.example/g01061/impl.evenPoints"], fn := fun _ => fun
  | [d1, d2, g1] => { results := [.lit (.bool false)], args := [d1, d2], vars := [g1] }
  | _ => none }
def FnExactSafeHumidityWrongFalsely : Prop := fnExactSafeHumidityRow.holds Tryd.pinned (OpenSpec.ofChange fnExactSafeHumidityWrong)

/-- 'laws.FnExactReadyStacks': WHATEVER THE INPUT: true; the input reads as it did. -/
def fnExactReadyStacksSpec : ChangeSpec := { name := "fnExactReadyStacks", vars := ["loop.example/g01061/impl.evenPoints"], fn := fun _ => fun
  | [d1, d2, d3, d4, g1] => { results := [.lit (.bool true)], args := [d1, d2, d3, d4], vars := [g1] }
  | _ => none }
def fnExactReadyStacksRow : OpenClaim := { program := "ytiapjoldidkamaadoor", sum := "f121aaa8d9b464b50ab24b64ad12d2437107be062baf331a4845283322234554", func := "loop.example/g01061/laws.FnExactReadyStacks", spec := "fnExactReadyStacks", unfollowed := true, recurses := true, named := ["loop.example/g01061/impl.evenPoints"], apart := false, laid := [("loop.example/g01061/impl.evenPoints", laid_loop_example_g01061_impl_evenPoints)] }
def FnExactReadyStacksSaid : Prop := fnExactReadyStacksRow.holds Tryd.pinned (OpenSpec.ofChange fnExactReadyStacksSpec)

/-- ITS FALSE NEIGHBOUR: 'it returns false'. Refute it at one input. -/
def fnExactReadyStacksWrong : ChangeSpec := { name := "fnExactReadyStacks", vars := ["loop.example/g01061/impl.evenPoints"], fn := fun _ => fun
  | [d1, d2, d3, d4, g1] => { results := [.lit (.bool false)], args := [d1, d2, d3, d4], vars := [g1] }
  | _ => none }
def FnExactReadyStacksWrongFalsely : Prop := fnExactReadyStacksRow.holds Tryd.pinned (OpenSpec.ofChange fnExactReadyStacksWrong)

/-- 'laws.FnExactStagesFor': WHATEVER THE INPUT: true; the input reads as it did. -/
def fnExactStagesForSpec : ChangeSpec := { name := "fnExactStagesFor", vars := ["loop.example/g01061/impl.evenPoints"], fn := fun _ => fun
  | [d1, d2, d3, g1] => { results := [.lit (.bool true)], args := [d1, d2, d3], vars := [g1] }
  | _ => none }
def fnExactStagesForRow : OpenClaim := { program := "ytiapjoldidkamaadoor", sum := "f121aaa8d9b464b50ab24b64ad12d2437107be062baf331a4845283322234554", func := "loop.example/g01061/laws.FnExactStagesFor", spec := "fnExactStagesFor", unfollowed := true, recurses := true, named := ["loop.example/g01061/impl.evenPoints"], apart := false, laid := [("loop.example/g01061/impl.evenPoints", laid_loop_example_g01061_impl_evenPoints)] }
def FnExactStagesForSaid : Prop := fnExactStagesForRow.holds Tryd.pinned (OpenSpec.ofChange fnExactStagesForSpec)

/-- ITS FALSE NEIGHBOUR: 'it returns false'. Refute it at one input. -/
def fnExactStagesForWrong : ChangeSpec := { name := "fnExactStagesFor", vars := ["loop.example/g01061/impl.evenPoints"], fn := fun _ => fun
  | [d1, d2, d3, g1] => { results := [.lit (.bool false)], args := [d1, d2, d3], vars := [g1] }
  | _ => none }
def FnExactStagesForWrongFalsely : Prop := fnExactStagesForRow.holds Tryd.pinned (OpenSpec.ofChange fnExactStagesForWrong)

/- THE SECOND FORM. 'bulk': how many values and letters a reading holds, each counted each time it is reached (what is shared counts as often as it is met; a slice's spare places count too). A statement '..UptoSaid' is the law's where the arguments, and the package variables that the reading takes, are together of bulk at most 1048576: NARROWER than '..Said'. Prove '..Said' where nothing that the law and all that it calls make is longer than what came in: it says more and counts as full. Else prove '..UptoSaid'. A law counts once. -/
mutual
def uptoBulk {H : Type} : DataW H → Nat
  | .lit (.string bytes) => bytes.length + 1
  | .lit _ => 1
  | .nil => 1
  | .ptr d => uptoBulk d + 1
  | .slice elems spare => uptoBulkAll elems + uptoBulkAll spare + 1
  | .agg parts => uptoBulkAll parts + 1
  | .iface _ d => uptoBulk d + 1
  | .map entries => uptoBulkEntries entries + 1
  | .held _ => 1
def uptoBulkAll {H : Type} : List (DataW H) → Nat
  | [] => 0
  | d :: r => uptoBulk d + uptoBulkAll r
def uptoBulkEntries {H : Type} : List (Lit × DataW H) → Nat
  | [] => 0
  | x :: r => uptoBulkEntry x + uptoBulkEntries r
def uptoBulkEntry {H : Type} : Lit × DataW H → Nat
  | (.string bytes, d) => bytes.length + uptoBulk d + 1
  | (_, d) => uptoBulk d + 1
 end
def uptoSmall : (H : Type) → List (DataW H) → Bool := fun _ ds => decide (uptoBulkAll ds ≤ 1048576)
def OpenSpec.upto (s : _root_.Go.ChangeSpec) : _root_.Go.OpenSpec := { _root_.Go.OpenSpec.ofChange s with cond := some uptoSmall }

/-- 'laws.FnExactEvenMoisture', WHERE WHAT IT READS IS OF BULK AT MOST 1048576: true; the input reads as it did. -/
def fnExactEvenMoistureUptoRow : OpenClaim := { program := "ytiapjoldidkamaadoor", sum := "f121aaa8d9b464b50ab24b64ad12d2437107be062baf331a4845283322234554", func := "loop.example/g01061/laws.FnExactEvenMoisture", spec := "fnExactEvenMoisture", named := ["loop.example/g01061/impl.evenPoints"], apart := false, laid := [("loop.example/g01061/impl.evenPoints", laid_loop_example_g01061_impl_evenPoints)], narrowed := true }
def FnExactEvenMoistureUptoSaid : Prop := fnExactEvenMoistureUptoRow.holds Tryd.pinned (OpenSpec.upto fnExactEvenMoistureSpec)

/-- 'laws.FnExactMoistureAfter', WHERE WHAT IT READS IS OF BULK AT MOST 1048576: true; the input reads as it did. -/
def fnExactMoistureAfterUptoRow : OpenClaim := { program := "ytiapjoldidkamaadoor", sum := "f121aaa8d9b464b50ab24b64ad12d2437107be062baf331a4845283322234554", func := "loop.example/g01061/laws.FnExactMoistureAfter", spec := "fnExactMoistureAfter", unfollowed := true, recurses := true, named := ["loop.example/g01061/impl.evenPoints"], apart := false, laid := [("loop.example/g01061/impl.evenPoints", laid_loop_example_g01061_impl_evenPoints)], narrowed := true }
def FnExactMoistureAfterUptoSaid : Prop := fnExactMoistureAfterUptoRow.holds Tryd.pinned (OpenSpec.upto fnExactMoistureAfterSpec)

/-- 'laws.FnExactDaysToDry', WHERE WHAT IT READS IS OF BULK AT MOST 1048576: true; the input reads as it did. -/
def fnExactDaysToDryUptoRow : OpenClaim := { program := "ytiapjoldidkamaadoor", sum := "f121aaa8d9b464b50ab24b64ad12d2437107be062baf331a4845283322234554", func := "loop.example/g01061/laws.FnExactDaysToDry", spec := "fnExactDaysToDry", unfollowed := true, recurses := true, named := ["loop.example/g01061/impl.evenPoints"], apart := false, laid := [("loop.example/g01061/impl.evenPoints", laid_loop_example_g01061_impl_evenPoints)], narrowed := true }
def FnExactDaysToDryUptoSaid : Prop := fnExactDaysToDryUptoRow.holds Tryd.pinned (OpenSpec.upto fnExactDaysToDrySpec)

/-- 'laws.FnExactThickToDry', WHERE WHAT IT READS IS OF BULK AT MOST 1048576: true; the input reads as it did. -/
def fnExactThickToDryUptoRow : OpenClaim := { program := "ytiapjoldidkamaadoor", sum := "f121aaa8d9b464b50ab24b64ad12d2437107be062baf331a4845283322234554", func := "loop.example/g01061/laws.FnExactThickToDry", spec := "fnExactThickToDry", unfollowed := true, recurses := true, named := ["loop.example/g01061/impl.evenPoints"], apart := false, laid := [("loop.example/g01061/impl.evenPoints", laid_loop_example_g01061_impl_evenPoints)], narrowed := true }
def FnExactThickToDryUptoSaid : Prop := fnExactThickToDryUptoRow.holds Tryd.pinned (OpenSpec.upto fnExactThickToDrySpec)

/-- 'laws.FnExactCrackDays', WHERE WHAT IT READS IS OF BULK AT MOST 1048576: true; the input reads as it did. -/
def fnExactCrackDaysUptoRow : OpenClaim := { program := "ytiapjoldidkamaadoor", sum := "f121aaa8d9b464b50ab24b64ad12d2437107be062baf331a4845283322234554", func := "loop.example/g01061/laws.FnExactCrackDays", spec := "fnExactCrackDays", unfollowed := true, recurses := true, named := ["loop.example/g01061/impl.evenPoints"], apart := false, laid := [("loop.example/g01061/impl.evenPoints", laid_loop_example_g01061_impl_evenPoints)], narrowed := true }
def FnExactCrackDaysUptoSaid : Prop := fnExactCrackDaysUptoRow.holds Tryd.pinned (OpenSpec.upto fnExactCrackDaysSpec)

/-- 'laws.FnExactSafeHumidity', WHERE WHAT IT READS IS OF BULK AT MOST 1048576: true; the input reads as it did. -/
def fnExactSafeHumidityUptoRow : OpenClaim := { program := "ytiapjoldidkamaadoor", sum := "f121aaa8d9b464b50ab24b64ad12d2437107be062baf331a4845283322234554", func := "loop.example/g01061/laws.FnExactSafeHumidity", spec := "fnExactSafeHumidity", unfollowed := true, recurses := true, named := ["loop.example/g01061/impl.evenPoints"], apart := false, laid := [("loop.example/g01061/impl.evenPoints", laid_loop_example_g01061_impl_evenPoints)], narrowed := true }
def FnExactSafeHumidityUptoSaid : Prop := fnExactSafeHumidityUptoRow.holds Tryd.pinned (OpenSpec.upto fnExactSafeHumiditySpec)

/-- 'laws.FnExactReadyStacks', WHERE WHAT IT READS IS OF BULK AT MOST 1048576: true; the input reads as it did. -/
def fnExactReadyStacksUptoRow : OpenClaim := { program := "ytiapjoldidkamaadoor", sum := "f121aaa8d9b464b50ab24b64ad12d2437107be062baf331a4845283322234554", func := "loop.example/g01061/laws.FnExactReadyStacks", spec := "fnExactReadyStacks", unfollowed := true, recurses := true, named := ["loop.example/g01061/impl.evenPoints"], apart := false, laid := [("loop.example/g01061/impl.evenPoints", laid_loop_example_g01061_impl_evenPoints)], narrowed := true }
def FnExactReadyStacksUptoSaid : Prop := fnExactReadyStacksUptoRow.holds Tryd.pinned (OpenSpec.upto fnExactReadyStacksSpec)

/-- 'laws.FnExactStagesFor', WHERE WHAT IT READS IS OF BULK AT MOST 1048576: true; the input reads as it did. -/
def fnExactStagesForUptoRow : OpenClaim := { program := "ytiapjoldidkamaadoor", sum := "f121aaa8d9b464b50ab24b64ad12d2437107be062baf331a4845283322234554", func := "loop.example/g01061/laws.FnExactStagesFor", spec := "fnExactStagesFor", unfollowed := true, recurses := true, named := ["loop.example/g01061/impl.evenPoints"], apart := false, laid := [("loop.example/g01061/impl.evenPoints", laid_loop_example_g01061_impl_evenPoints)], narrowed := true }
def FnExactStagesForUptoSaid : Prop := fnExactStagesForUptoRow.holds Tryd.pinned (OpenSpec.upto fnExactStagesForSpec)

end Rows
end Go.Proofs.YtiapjoldidkamaaDoor
