/-
  No cell of these rows narrows 'for every input' (looked for: loops, veiled, ifaces, maps, wideKeys, modest, calm, conditions, laid).
  DERIVED. THE GIVEN ROWS OF THIS SEAT. 4 by the template 'for every input the law returns true; each argument reads behind the call as it read before'; 0 by the template 'total and deterministic' (their statements: YtmppaimcejcoiaaTotals.lean).
  GIVEN WITH THE SEED: the statements are not yours to turn. If you find one false, say at which input.
  Laid BY PROGRAM, IN A SANDBOX (cutbox-rows.mjs): the forced cells as the released guide's own fill.sh prints them over the translation e59a4f2c61dc5c25… (all of the seat's roots in one cut). By AI agents, Wed Nov 11 2026. No macro, syntax, notation, axiom, sorry.
-/
import Derived.Test.YtmppaimcejcoiaaChecked
import GoSem.Claim
import GoSem.ClaimJoined
import GoSem.ClaimMapViews
import Derived.JoinedTies
import Derived.KernelRfl
namespace Go.Proofs.Ytmppaimcejcoiaa
/- THE CELL 'sum', in the pinned program and in every row, IS THE sha256 OF THE DUMP (.gsa) THAT YtmppaimcejcoiaaProg.lean LOADS. Nothing in Lean hashes anything: it is a label: what it is worth is what the hold of that sum in a sandbox is worth. -/
noncomputable def Try.pinned : Pinned := { name := "ytmppaimcejcoiaa", sum := "e59a4f2c61dc5c25ce1af744eabef1cf362df5a87a87792177ed8785d53fc6df", checked := Try.checked }
namespace Rows
def none {H : Type} : Left H := { results := [], args := [] }

/-- 'laws.FnExactThinTo': WHATEVER THE INPUT: true; the input reads as it did. -/
def fnExactThinToSpec : ChangeSpec := { name := "fnExactThinTo", fn := fun _ => fun
  | [d1, d2, d3, d4, d5] => { results := [.lit (.bool true)], args := [d1, d2, d3, d4, d5] }
  | _ => none }
def fnExactThinToRow : OpenClaim := { program := "ytmppaimcejcoiaa", sum := "e59a4f2c61dc5c25ce1af744eabef1cf362df5a87a87792177ed8785d53fc6df", func := "loop.example/g01061/laws.FnExactThinTo", spec := "fnExactThinTo", unfollowed := true, recurses := true, apart := false }
def FnExactThinToSaid : Prop := fnExactThinToRow.holds Try.pinned (OpenSpec.ofChange fnExactThinToSpec)

/-- ITS FALSE NEIGHBOUR: 'it returns false'. Refute it at one input. -/
def fnExactThinToWrong : ChangeSpec := { name := "fnExactThinTo", fn := fun _ => fun
  | [d1, d2, d3, d4, d5] => { results := [.lit (.bool false)], args := [d1, d2, d3, d4, d5] }
  | _ => none }
def FnExactThinToWrongFalsely : Prop := fnExactThinToRow.holds Try.pinned (OpenSpec.ofChange fnExactThinToWrong)

/-- 'laws.FnExactScrapeRow': WHATEVER THE INPUT: true; the input reads as it did. -/
def fnExactScrapeRowSpec : ChangeSpec := { name := "fnExactScrapeRow", fn := fun _ => fun
  | [d1, d2, d3, d4] => { results := [.lit (.bool true)], args := [d1, d2, d3, d4] }
  | _ => none }
def fnExactScrapeRowRow : OpenClaim := { program := "ytmppaimcejcoiaa", sum := "e59a4f2c61dc5c25ce1af744eabef1cf362df5a87a87792177ed8785d53fc6df", func := "loop.example/g01061/laws.FnExactScrapeRow", spec := "fnExactScrapeRow", unfollowed := true, recurses := true, apart := false }
def FnExactScrapeRowSaid : Prop := fnExactScrapeRowRow.holds Try.pinned (OpenSpec.ofChange fnExactScrapeRowSpec)

/-- ITS FALSE NEIGHBOUR: 'it returns false'. Refute it at one input. -/
def fnExactScrapeRowWrong : ChangeSpec := { name := "fnExactScrapeRow", fn := fun _ => fun
  | [d1, d2, d3, d4] => { results := [.lit (.bool false)], args := [d1, d2, d3, d4] }
  | _ => none }
def FnExactScrapeRowWrongFalsely : Prop := fnExactScrapeRowRow.holds Try.pinned (OpenSpec.ofChange fnExactScrapeRowWrong)

/-- 'laws.FnExactThinAll': WHATEVER THE INPUT: true; the input reads as it did. -/
def fnExactThinAllSpec : ChangeSpec := { name := "fnExactThinAll", fn := fun _ => fun
  | [d1, d2, d3] => { results := [.lit (.bool true)], args := [d1, d2, d3] }
  | _ => none }
def fnExactThinAllRow : OpenClaim := { program := "ytmppaimcejcoiaa", sum := "e59a4f2c61dc5c25ce1af744eabef1cf362df5a87a87792177ed8785d53fc6df", func := "loop.example/g01061/laws.FnExactThinAll", spec := "fnExactThinAll", unfollowed := true, recurses := true, apart := false }
def FnExactThinAllSaid : Prop := fnExactThinAllRow.holds Try.pinned (OpenSpec.ofChange fnExactThinAllSpec)

/-- ITS FALSE NEIGHBOUR: 'it returns false'. Refute it at one input. -/
def fnExactThinAllWrong : ChangeSpec := { name := "fnExactThinAll", fn := fun _ => fun
  | [d1, d2, d3] => { results := [.lit (.bool false)], args := [d1, d2, d3] }
  | _ => none }
def FnExactThinAllWrongFalsely : Prop := fnExactThinAllRow.holds Try.pinned (OpenSpec.ofChange fnExactThinAllWrong)

/-- 'laws.FnExactPlateMass': WHATEVER THE INPUT: true; the input reads as it did. -/
def fnExactPlateMassSpec : ChangeSpec := { name := "fnExactPlateMass", fn := fun _ => fun
  | [d1, d2, d3] => { results := [.lit (.bool true)], args := [d1, d2, d3] }
  | _ => none }
def fnExactPlateMassRow : OpenClaim := { program := "ytmppaimcejcoiaa", sum := "e59a4f2c61dc5c25ce1af744eabef1cf362df5a87a87792177ed8785d53fc6df", func := "loop.example/g01061/laws.FnExactPlateMass", spec := "fnExactPlateMass", unfollowed := true, recurses := true, apart := false }
def FnExactPlateMassSaid : Prop := fnExactPlateMassRow.holds Try.pinned (OpenSpec.ofChange fnExactPlateMassSpec)

/-- ITS FALSE NEIGHBOUR: 'it returns false'. Refute it at one input. -/
def fnExactPlateMassWrong : ChangeSpec := { name := "fnExactPlateMass", fn := fun _ => fun
  | [d1, d2, d3] => { results := [.lit (.bool false)], args := [d1, d2, d3] }
  | _ => none }
def FnExactPlateMassWrongFalsely : Prop := fnExactPlateMassRow.holds Try.pinned (OpenSpec.ofChange fnExactPlateMassWrong)

/- THE SECOND FORM. 'bulk': how many values and letters a reading holds, each counted each time it is reached (what is shared counts as often as it is met; a slice's spare places count too). A statement '..UptoSaid' is the law's where the arguments, and the package variables that the reading takes, are together of bulk at most 1048576: NARROWER than '..Said'. Prove '..Said' where nothing that the law and all that it calls make is longer than what came in: it says more and counts as full. Else prove '..UptoSaid'. A law counts once. -/
mutual
def uptoBulk {H : Type} : DataW H → Nat
  | .lit (.string bytes) => bytes.length + 1
  | .lit _ => 1
  | .nil => 1
  | .ptr d => uptoBulk d + 1
  | .slice elems spare => uptoBulkAll elems + uptoBulkAll spare + 1
  | .agg parts => uptoBulkAll parts + 1
  | .iface _ d => uptoBulk d + 1
  | .map entries => uptoBulkEntries entries + 1
  | .held _ => 1
def uptoBulkAll {H : Type} : List (DataW H) → Nat
  | [] => 0
  | d :: r => uptoBulk d + uptoBulkAll r
def uptoBulkEntries {H : Type} : List (Lit × DataW H) → Nat
  | [] => 0
  | x :: r => uptoBulkEntry x + uptoBulkEntries r
def uptoBulkEntry {H : Type} : Lit × DataW H → Nat
  | (.string bytes, d) => bytes.length + uptoBulk d + 1
  | (_, d) => uptoBulk d + 1
 end
def uptoSmall : (H : Type) → List (DataW H) → Bool := fun _ ds => decide (uptoBulkAll ds ≤ 1048576)
def OpenSpec.upto (s : _root_.Go.ChangeSpec) : _root_.Go.OpenSpec := { _root_.Go.OpenSpec.ofChange s with cond := some uptoSmall }

/-- 'laws.FnExactThinTo', WHERE WHAT IT READS IS OF BULK AT MOST 1048576: true; the input reads as it did. -/
def fnExactThinToUptoRow : OpenClaim := { program := "ytmppaimcejcoiaa", sum := "e59a4f2c61dc5c25ce1af744eabef1cf362df5a87a87792177ed8785d53fc6df", func := "loop.example/g01061/laws.FnExactThinTo", spec := "fnExactThinTo", unfollowed := true, recurses := true, apart := false, narrowed := true }
def FnExactThinToUptoSaid : Prop := fnExactThinToUptoRow.holds Try.pinned (OpenSpec.upto fnExactThinToSpec)

/-- 'laws.FnExactScrapeRow', WHERE WHAT IT READS IS OF BULK AT MOST 1048576: true; the input reads as it did. -/
def fnExactScrapeRowUptoRow : OpenClaim := { program := "ytmppaimcejcoiaa", sum := "e59a4f2c61dc5c25ce1af744eabef1cf362df5a87a87792177ed8785d53fc6df", func := "loop.example/g01061/laws.FnExactScrapeRow", spec := "fnExactScrapeRow", unfollowed := true, recurses := true, apart := false, narrowed := true }
def FnExactScrapeRowUptoSaid : Prop := fnExactScrapeRowUptoRow.holds Try.pinned (OpenSpec.upto fnExactScrapeRowSpec)

/-- 'laws.FnExactThinAll', WHERE WHAT IT READS IS OF BULK AT MOST 1048576: true; the input reads as it did. -/
def fnExactThinAllUptoRow : OpenClaim := { program := "ytmppaimcejcoiaa", sum := "e59a4f2c61dc5c25ce1af744eabef1cf362df5a87a87792177ed8785d53fc6df", func := "loop.example/g01061/laws.FnExactThinAll", spec := "fnExactThinAll", unfollowed := true, recurses := true, apart := false, narrowed := true }
def FnExactThinAllUptoSaid : Prop := fnExactThinAllUptoRow.holds Try.pinned (OpenSpec.upto fnExactThinAllSpec)

/-- 'laws.FnExactPlateMass', WHERE WHAT IT READS IS OF BULK AT MOST 1048576: true; the input reads as it did. -/
def fnExactPlateMassUptoRow : OpenClaim := { program := "ytmppaimcejcoiaa", sum := "e59a4f2c61dc5c25ce1af744eabef1cf362df5a87a87792177ed8785d53fc6df", func := "loop.example/g01061/laws.FnExactPlateMass", spec := "fnExactPlateMass", unfollowed := true, recurses := true, apart := false, narrowed := true }
def FnExactPlateMassUptoSaid : Prop := fnExactPlateMassUptoRow.holds Try.pinned (OpenSpec.upto fnExactPlateMassSpec)

end Rows
end Go.Proofs.Ytmppaimcejcoiaa
