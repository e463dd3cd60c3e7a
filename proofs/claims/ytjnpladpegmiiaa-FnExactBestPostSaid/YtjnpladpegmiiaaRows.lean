/-
  No cell of these rows narrows 'for every input' (looked for: loops, veiled, ifaces, maps, wideKeys, modest, calm, conditions, laid).
  DERIVED. THE GIVEN ROWS OF THIS SEAT. 10 by the template 'for every input the law returns true; each argument reads behind the call as it read before'; 0 by the template 'total and deterministic' (their statements: YtjnpladpegmiiaaTotals.lean).
  GIVEN WITH THE SEED: the statements are not yours to turn. If you find one false, say at which input.
  Laid BY PROGRAM, IN A SANDBOX (cutbox-rows.mjs): the forced cells as the released guide's own fill.sh prints them over the translation 857aa3c0590d448a… (all of the seat's roots in one cut). By AI agents, Wed Nov 11 2026. No macro, syntax, notation, axiom, sorry.
-/
import Derived.Test.YtjnpladpegmiiaaChecked
import GoSem.Claim
import GoSem.ClaimJoined
import GoSem.ClaimMapViews
import Derived.JoinedTies
import Derived.KernelRfl
namespace Go.Proofs.Ytjnpladpegmiiaa
/- THE CELL 'sum', in the pinned program and in every row, IS THE sha256 OF THE DUMP (.gsa) THAT YtjnpladpegmiiaaProg.lean LOADS. Nothing in Lean hashes anything: it is a label: what it is worth is what the hold of that sum in a sandbox is worth. -/
noncomputable def Try.pinned : Pinned := { name := "ytjnpladpegmiiaa", sum := "857aa3c0590d448aa415af03dc459e22929578e4a84c756fb4433fdf0f456a20", checked := Try.checked }
namespace Rows
def none {H : Type} : Left H := { results := [], args := [] }

/-- 'laws.FnExactValidCoats': WHATEVER THE INPUT: true; the input reads as it did. -/
def fnExactValidCoatsSpec : ChangeSpec := { name := "fnExactValidCoats", fn := fun _ => fun
  | [d] => { results := [.lit (.bool true)], args := [d] }
  | _ => none }
def fnExactValidCoatsRow : OpenClaim := { program := "ytjnpladpegmiiaa", sum := "857aa3c0590d448aa415af03dc459e22929578e4a84c756fb4433fdf0f456a20", func := "loop.example/g01061/laws.FnExactValidCoats", spec := "fnExactValidCoats", unfollowed := true, recurses := true, apart := false }
def FnExactValidCoatsSaid : Prop := fnExactValidCoatsRow.holds Try.pinned (OpenSpec.ofChange fnExactValidCoatsSpec)

/-- ITS FALSE NEIGHBOUR: 'it returns false'. Refute it at one input. -/
def fnExactValidCoatsWrong : ChangeSpec := { name := "fnExactValidCoats", fn := fun _ => fun
  | [d] => { results := [.lit (.bool false)], args := [d] }
  | _ => none }
def FnExactValidCoatsWrongFalsely : Prop := fnExactValidCoatsRow.holds Try.pinned (OpenSpec.ofChange fnExactValidCoatsWrong)

/-- 'laws.FnExactDryingDays': WHATEVER THE INPUT: true; the input reads as it did. -/
def fnExactDryingDaysSpec : ChangeSpec := { name := "fnExactDryingDays", fn := fun _ => fun
  | [d1, d2] => { results := [.lit (.bool true)], args := [d1, d2] }
  | _ => none }
def fnExactDryingDaysRow : OpenClaim := { program := "ytjnpladpegmiiaa", sum := "857aa3c0590d448aa415af03dc459e22929578e4a84c756fb4433fdf0f456a20", func := "loop.example/g01061/laws.FnExactDryingDays", spec := "fnExactDryingDays", unfollowed := true, recurses := true, apart := false }
def FnExactDryingDaysSaid : Prop := fnExactDryingDaysRow.holds Try.pinned (OpenSpec.ofChange fnExactDryingDaysSpec)

/-- ITS FALSE NEIGHBOUR: 'it returns false'. Refute it at one input. -/
def fnExactDryingDaysWrong : ChangeSpec := { name := "fnExactDryingDays", fn := fun _ => fun
  | [d1, d2] => { results := [.lit (.bool false)], args := [d1, d2] }
  | _ => none }
def FnExactDryingDaysWrongFalsely : Prop := fnExactDryingDaysRow.holds Try.pinned (OpenSpec.ofChange fnExactDryingDaysWrong)

/-- 'laws.FnExactColourAfter': WHATEVER THE INPUT: true; the input reads as it did. -/
def fnExactColourAfterSpec : ChangeSpec := { name := "fnExactColourAfter", fn := fun _ => fun
  | [d1, d2, d3] => { results := [.lit (.bool true)], args := [d1, d2, d3] }
  | _ => none }
def fnExactColourAfterRow : OpenClaim := { program := "ytjnpladpegmiiaa", sum := "857aa3c0590d448aa415af03dc459e22929578e4a84c756fb4433fdf0f456a20", func := "loop.example/g01061/laws.FnExactColourAfter", spec := "fnExactColourAfter", unfollowed := true, recurses := true, apart := false }
def FnExactColourAfterSaid : Prop := fnExactColourAfterRow.holds Try.pinned (OpenSpec.ofChange fnExactColourAfterSpec)

/-- ITS FALSE NEIGHBOUR: 'it returns false'. Refute it at one input. -/
def fnExactColourAfterWrong : ChangeSpec := { name := "fnExactColourAfter", fn := fun _ => fun
  | [d1, d2, d3] => { results := [.lit (.bool false)], args := [d1, d2, d3] }
  | _ => none }
def FnExactColourAfterWrongFalsely : Prop := fnExactColourAfterRow.holds Try.pinned (OpenSpec.ofChange fnExactColourAfterWrong)

/-- 'laws.FnExactColourGap': WHATEVER THE INPUT: true; the input reads as it did. -/
def fnExactColourGapSpec : ChangeSpec := { name := "fnExactColourGap", fn := fun _ => fun
  | [d1, d2] => { results := [.lit (.bool true)], args := [d1, d2] }
  | _ => none }
def fnExactColourGapRow : OpenClaim := { program := "ytjnpladpegmiiaa", sum := "857aa3c0590d448aa415af03dc459e22929578e4a84c756fb4433fdf0f456a20", func := "loop.example/g01061/laws.FnExactColourGap", spec := "fnExactColourGap", unfollowed := true, recurses := true, apart := false }
def FnExactColourGapSaid : Prop := fnExactColourGapRow.holds Try.pinned (OpenSpec.ofChange fnExactColourGapSpec)

/-- ITS FALSE NEIGHBOUR: 'it returns false'. Refute it at one input. -/
def fnExactColourGapWrong : ChangeSpec := { name := "fnExactColourGap", fn := fun _ => fun
  | [d1, d2] => { results := [.lit (.bool false)], args := [d1, d2] }
  | _ => none }
def FnExactColourGapWrongFalsely : Prop := fnExactColourGapRow.holds Try.pinned (OpenSpec.ofChange fnExactColourGapWrong)

/-- 'laws.FnExactFewestCoats': WHATEVER THE INPUT: true; the input reads as it did. -/
def fnExactFewestCoatsSpec : ChangeSpec := { name := "fnExactFewestCoats", fn := fun _ => fun
  | [d1, d2, d3, d4] => { results := [.lit (.bool true)], args := [d1, d2, d3, d4] }
  | _ => none }
def fnExactFewestCoatsRow : OpenClaim := { program := "ytjnpladpegmiiaa", sum := "857aa3c0590d448aa415af03dc459e22929578e4a84c756fb4433fdf0f456a20", func := "loop.example/g01061/laws.FnExactFewestCoats", spec := "fnExactFewestCoats", unfollowed := true, recurses := true, apart := false }
def FnExactFewestCoatsSaid : Prop := fnExactFewestCoatsRow.holds Try.pinned (OpenSpec.ofChange fnExactFewestCoatsSpec)

/-- ITS FALSE NEIGHBOUR: 'it returns false'. Refute it at one input. -/
def fnExactFewestCoatsWrong : ChangeSpec := { name := "fnExactFewestCoats", fn := fun _ => fun
  | [d1, d2, d3, d4] => { results := [.lit (.bool false)], args := [d1, d2, d3, d4] }
  | _ => none }
def FnExactFewestCoatsWrongFalsely : Prop := fnExactFewestCoatsRow.holds Try.pinned (OpenSpec.ofChange fnExactFewestCoatsWrong)

/-- 'laws.FnExactMixColours': WHATEVER THE INPUT: true; the input reads as it did. -/
def fnExactMixColoursSpec : ChangeSpec := { name := "fnExactMixColours", fn := fun _ => fun
  | [d1, d2] => { results := [.lit (.bool true)], args := [d1, d2] }
  | _ => none }
def fnExactMixColoursRow : OpenClaim := { program := "ytjnpladpegmiiaa", sum := "857aa3c0590d448aa415af03dc459e22929578e4a84c756fb4433fdf0f456a20", func := "loop.example/g01061/laws.FnExactMixColours", spec := "fnExactMixColours", unfollowed := true, recurses := true, apart := false }
def FnExactMixColoursSaid : Prop := fnExactMixColoursRow.holds Try.pinned (OpenSpec.ofChange fnExactMixColoursSpec)

/-- ITS FALSE NEIGHBOUR: 'it returns false'. Refute it at one input. -/
def fnExactMixColoursWrong : ChangeSpec := { name := "fnExactMixColours", fn := fun _ => fun
  | [d1, d2] => { results := [.lit (.bool false)], args := [d1, d2] }
  | _ => none }
def FnExactMixColoursWrongFalsely : Prop := fnExactMixColoursRow.holds Try.pinned (OpenSpec.ofChange fnExactMixColoursWrong)

/-- 'laws.FnExactStrongestCoat': WHATEVER THE INPUT: true; the input reads as it did. -/
def fnExactStrongestCoatSpec : ChangeSpec := { name := "fnExactStrongestCoat", fn := fun _ => fun
  | [d] => { results := [.lit (.bool true)], args := [d] }
  | _ => none }
def fnExactStrongestCoatRow : OpenClaim := { program := "ytjnpladpegmiiaa", sum := "857aa3c0590d448aa415af03dc459e22929578e4a84c756fb4433fdf0f456a20", func := "loop.example/g01061/laws.FnExactStrongestCoat", spec := "fnExactStrongestCoat", unfollowed := true, recurses := true, apart := false }
def FnExactStrongestCoatSaid : Prop := fnExactStrongestCoatRow.holds Try.pinned (OpenSpec.ofChange fnExactStrongestCoatSpec)

/-- ITS FALSE NEIGHBOUR: 'it returns false'. Refute it at one input. -/
def fnExactStrongestCoatWrong : ChangeSpec := { name := "fnExactStrongestCoat", fn := fun _ => fun
  | [d] => { results := [.lit (.bool false)], args := [d] }
  | _ => none }
def FnExactStrongestCoatWrongFalsely : Prop := fnExactStrongestCoatRow.holds Try.pinned (OpenSpec.ofChange fnExactStrongestCoatWrong)

/-- 'laws.FnExactCamberOf': WHATEVER THE INPUT: true; the input reads as it did. -/
def fnExactCamberOfSpec : ChangeSpec := { name := "fnExactCamberOf", fn := fun _ => fun
  | [d] => { results := [.lit (.bool true)], args := [d] }
  | _ => none }
def fnExactCamberOfRow : OpenClaim := { program := "ytjnpladpegmiiaa", sum := "857aa3c0590d448aa415af03dc459e22929578e4a84c756fb4433fdf0f456a20", func := "loop.example/g01061/laws.FnExactCamberOf", spec := "fnExactCamberOf", unfollowed := true, recurses := true, apart := false }
def FnExactCamberOfSaid : Prop := fnExactCamberOfRow.holds Try.pinned (OpenSpec.ofChange fnExactCamberOfSpec)

/-- ITS FALSE NEIGHBOUR: 'it returns false'. Refute it at one input. -/
def fnExactCamberOfWrong : ChangeSpec := { name := "fnExactCamberOf", fn := fun _ => fun
  | [d] => { results := [.lit (.bool false)], args := [d] }
  | _ => none }
def FnExactCamberOfWrongFalsely : Prop := fnExactCamberOfRow.holds Try.pinned (OpenSpec.ofChange fnExactCamberOfWrong)

/-- 'laws.FnExactCamberGap': WHATEVER THE INPUT: true; the input reads as it did. -/
def fnExactCamberGapSpec : ChangeSpec := { name := "fnExactCamberGap", fn := fun _ => fun
  | [d] => { results := [.lit (.bool true)], args := [d] }
  | _ => none }
def fnExactCamberGapRow : OpenClaim := { program := "ytjnpladpegmiiaa", sum := "857aa3c0590d448aa415af03dc459e22929578e4a84c756fb4433fdf0f456a20", func := "loop.example/g01061/laws.FnExactCamberGap", spec := "fnExactCamberGap", unfollowed := true, recurses := true, apart := false }
def FnExactCamberGapSaid : Prop := fnExactCamberGapRow.holds Try.pinned (OpenSpec.ofChange fnExactCamberGapSpec)

/-- ITS FALSE NEIGHBOUR: 'it returns false'. Refute it at one input. -/
def fnExactCamberGapWrong : ChangeSpec := { name := "fnExactCamberGap", fn := fun _ => fun
  | [d] => { results := [.lit (.bool false)], args := [d] }
  | _ => none }
def FnExactCamberGapWrongFalsely : Prop := fnExactCamberGapRow.holds Try.pinned (OpenSpec.ofChange fnExactCamberGapWrong)

/-- 'laws.FnExactBestPost': WHATEVER THE INPUT: true; the input reads as it did. -/
def fnExactBestPostSpec : ChangeSpec := { name := "fnExactBestPost", fn := fun _ => fun
  | [d] => { results := [.lit (.bool true)], args := [d] }
  | _ => none }
def fnExactBestPostRow : OpenClaim := { program := "ytjnpladpegmiiaa", sum := "857aa3c0590d448aa415af03dc459e22929578e4a84c756fb4433fdf0f456a20", func := "loop.example/g01061/laws.FnExactBestPost", spec := "fnExactBestPost", unfollowed := true, recurses := true, apart := false }
def FnExactBestPostSaid : Prop := fnExactBestPostRow.holds Try.pinned (OpenSpec.ofChange fnExactBestPostSpec)

/-- ITS FALSE NEIGHBOUR: 'it returns false'. Refute it at one input. -/
def fnExactBestPostWrong : ChangeSpec := { name := "fnExactBestPost", fn := fun _ => fun
  | [d] => { results := [.lit (.bool false)], args := [d] }
  | _ => none }
def FnExactBestPostWrongFalsely : Prop := fnExactBestPostRow.holds Try.pinned (OpenSpec.ofChange fnExactBestPostWrong)

/- THE SECOND FORM. 'bulk': how many values and letters a reading holds, each counted each time it is reached (what is shared counts as often as it is met; a slice's spare places count too). A statement '..UptoSaid' is the law's where the arguments, and the package variables that the reading takes, are together of bulk at most 1048576: NARROWER than '..Said'. Prove '..Said' where nothing that the law and all that it calls make is longer than what came in: it says more and counts as full. Else prove '..UptoSaid'. A law counts once. -/
mutual
def uptoBulk {H : Type} : DataW H → Nat
  | .lit (.string bytes) => bytes.length + 1
  | .lit _ => 1
  | .nil => 1
  | .ptr d => uptoBulk d + 1
  | .slice elems spare => uptoBulkAll elems + uptoBulkAll spare + 1
  | .agg parts => uptoBulkAll parts + 1
  | .iface _ d => uptoBulk d + 1
  | .map entries => uptoBulkEntries entries + 1
  | .held _ => 1
def uptoBulkAll {H : Type} : List (DataW H) → Nat
  | [] => 0
  | d :: r => uptoBulk d + uptoBulkAll r
def uptoBulkEntries {H : Type} : List (Lit × DataW H) → Nat
  | [] => 0
  | x :: r => uptoBulkEntry x + uptoBulkEntries r
def uptoBulkEntry {H : Type} : Lit × DataW H → Nat
  | (.string bytes, d) => bytes.length + uptoBulk d + 1
  | (_, d) => uptoBulk d + 1
 end
def uptoSmall : (H : Type) → List (DataW H) → Bool := fun _ ds => decide (uptoBulkAll ds ≤ 1048576)
def OpenSpec.upto (s : _root_.Go.ChangeSpec) : _root_.Go.OpenSpec := { _root_.Go.OpenSpec.ofChange s with cond := some uptoSmall }

/-- 'laws.FnExactValidCoats', WHERE WHAT IT READS IS OF BULK AT MOST 1048576: true; the input reads as it did. -/
def fnExactValidCoatsUptoRow : OpenClaim := { program := "ytjnpladpegmiiaa", sum := "857aa3c0590d448aa415af03dc459e22929578e4a84c756fb4433fdf0f456a20", func := "loop.example/g01061/laws.FnExactValidCoats", spec := "fnExactValidCoats", unfollowed := true, recurses := true, apart := false, narrowed := true }
def FnExactValidCoatsUptoSaid : Prop := fnExactValidCoatsUptoRow.holds Try.pinned (OpenSpec.upto fnExactValidCoatsSpec)

/-- 'laws.FnExactDryingDays', WHERE WHAT IT READS IS OF BULK AT MOST 1048576: true; the input reads as it did. -/
def fnExactDryingDaysUptoRow : OpenClaim := { program := "ytjnpladpegmiiaa", sum := "857aa3c0590d448aa415af03dc459e22929578e4a84c756fb4433fdf0f456a20", func := "loop.example/g01061/laws.FnExactDryingDays", spec := "fnExactDryingDays", unfollowed := true, recurses := true, apart := false, narrowed := true }
def FnExactDryingDaysUptoSaid : Prop := fnExactDryingDaysUptoRow.holds Try.pinned (OpenSpec.upto fnExactDryingDaysSpec)

/-- 'laws.FnExactColourAfter', WHERE WHAT IT READS IS OF BULK AT MOST 1048576: true; the input reads as it did. -/
def fnExactColourAfterUptoRow : OpenClaim := { program := "ytjnpladpegmiiaa", sum := "857aa3c0590d448aa415af03dc459e22929578e4a84c756fb4433fdf0f456a20", func := "loop.example/g01061/laws.FnExactColourAfter", spec := "fnExactColourAfter", unfollowed := true, recurses := true, apart := false, narrowed := true }
def FnExactColourAfterUptoSaid : Prop := fnExactColourAfterUptoRow.holds Try.pinned (OpenSpec.upto fnExactColourAfterSpec)

/-- 'laws.FnExactColourGap', WHERE WHAT IT READS IS OF BULK AT MOST 1048576: true; the input reads as it did. -/
def fnExactColourGapUptoRow : OpenClaim := { program := "ytjnpladpegmiiaa", sum := "857aa3c0590d448aa415af03dc459e22929578e4a84c756fb4433fdf0f456a20", func := "loop.example/g01061/laws.FnExactColourGap", spec := "fnExactColourGap", unfollowed := true, recurses := true, apart := false, narrowed := true }
def FnExactColourGapUptoSaid : Prop := fnExactColourGapUptoRow.holds Try.pinned (OpenSpec.upto fnExactColourGapSpec)

/-- 'laws.FnExactFewestCoats', WHERE WHAT IT READS IS OF BULK AT MOST 1048576: true; the input reads as it did. -/
def fnExactFewestCoatsUptoRow : OpenClaim := { program := "ytjnpladpegmiiaa", sum := "857aa3c0590d448aa415af03dc459e22929578e4a84c756fb4433fdf0f456a20", func := "loop.example/g01061/laws.FnExactFewestCoats", spec := "fnExactFewestCoats", unfollowed := true, recurses := true, apart := false, narrowed := true }
def FnExactFewestCoatsUptoSaid : Prop := fnExactFewestCoatsUptoRow.holds Try.pinned (OpenSpec.upto fnExactFewestCoatsSpec)

/-- 'laws.FnExactMixColours', WHERE WHAT IT READS IS OF BULK AT MOST 1048576: true; the input reads as it did. -/
def fnExactMixColoursUptoRow : OpenClaim := { program := "ytjnpladpegmiiaa", sum := "857aa3c0590d448aa415af03dc459e22929578e4a84c756fb4433fdf0f456a20", func := "loop.example/g01061/laws.FnExactMixColours", spec := "fnExactMixColours", unfollowed := true, recurses := true, apart := false, narrowed := true }
def FnExactMixColoursUptoSaid : Prop := fnExactMixColoursUptoRow.holds Try.pinned (OpenSpec.upto fnExactMixColoursSpec)

/-- 'laws.FnExactStrongestCoat', WHERE WHAT IT READS IS OF BULK AT MOST 1048576: true; the input reads as it did. -/
def fnExactStrongestCoatUptoRow : OpenClaim := { program := "ytjnpladpegmiiaa", sum := "857aa3c0590d448aa415af03dc459e22929578e4a84c756fb4433fdf0f456a20", func := "loop.example/g01061/laws.FnExactStrongestCoat", spec := "fnExactStrongestCoat", unfollowed := true, recurses := true, apart := false, narrowed := true }
def FnExactStrongestCoatUptoSaid : Prop := fnExactStrongestCoatUptoRow.holds Try.pinned (OpenSpec.upto fnExactStrongestCoatSpec)

/-- 'laws.FnExactCamberOf', WHERE WHAT IT READS IS OF BULK AT MOST 1048576: true; the input reads as it did. -/
def fnExactCamberOfUptoRow : OpenClaim := { program := "ytjnpladpegmiiaa", sum := "857aa3c0590d448aa415af03dc459e22929578e4a84c756fb4433fdf0f456a20", func := "loop.example/g01061/laws.FnExactCamberOf", spec := "fnExactCamberOf", unfollowed := true, recurses := true, apart := false, narrowed := true }
def FnExactCamberOfUptoSaid : Prop := fnExactCamberOfUptoRow.holds Try.pinned (OpenSpec.upto fnExactCamberOfSpec)

/-- 'laws.FnExactCamberGap', WHERE WHAT IT READS IS OF BULK AT MOST 1048576: true; the input reads as it did. -/
def fnExactCamberGapUptoRow : OpenClaim := { program := "ytjnpladpegmiiaa", sum := "857aa3c0590d448aa415af03dc459e22929578e4a84c756fb4433fdf0f456a20", func := "loop.example/g01061/laws.FnExactCamberGap", spec := "fnExactCamberGap", unfollowed := true, recurses := true, apart := false, narrowed := true }
def FnExactCamberGapUptoSaid : Prop := fnExactCamberGapUptoRow.holds Try.pinned (OpenSpec.upto fnExactCamberGapSpec)

/-- 'laws.FnExactBestPost', WHERE WHAT IT READS IS OF BULK AT MOST 1048576: true; the input reads as it did. -/
def fnExactBestPostUptoRow : OpenClaim := { program := "ytjnpladpegmiiaa", sum := "857aa3c0590d448aa415af03dc459e22929578e4a84c756fb4433fdf0f456a20", func := "loop.example/g01061/laws.FnExactBestPost", spec := "fnExactBestPost", unfollowed := true, recurses := true, apart := false, narrowed := true }
def FnExactBestPostUptoSaid : Prop := fnExactBestPostUptoRow.holds Try.pinned (OpenSpec.upto fnExactBestPostSpec)

end Rows
end Go.Proofs.Ytjnpladpegmiiaa
