/-
  The law FnExactOvalOutline holds for every input: the function answers as its model; conditions: none beside the row's own.
-/
import Derived.Test.YtdgkpghecfpgoaaArcP
import Derived.Test.YtdgkpghecfpgoaaArcs3
import Derived.Lib.Hide
import Derived.Test.YtdgkpghecfpgoaaRows
import Derived.WalkKit
import Derived.ProofKit
import Derived.OpenShut
import Derived.ShutString
import Derived.ChangeOld
import Derived.Below
namespace Go.Proofs.Ytdgkpghecfpgoaa.fnExactOvalOutline
open Go.ChangeShapes Go.WideShapes Go.ChangeAt Go.RowKit
open Go.ChangeMaps (open_string shut_string)
set_option linter.unusedVariables false

theorem own : ownKnob Try.prog.godebug = none := by kernel_rfl
theorem laidOut : laidOutB Try.prog = true := by kernel_rfl

/-- WHAT THE WALK IS TOLD OF A SLICE OF INTEGERS THAT CAME IN: it is nil; or it leads to a row of 'cap' cells, the numbers 'zs' (the first 'len' are its elements, the rest its spare room), each fitting its kind. -/
def IsRow (k : IntKind) (w : World) (a : Option Addr) (len cap : Nat) (zs : List Int) : Prop :=
  (a = none ∧ len = 0 ∧ cap = 0 ∧ zs = []) ∨
  ∃ x, a = some x ∧ len ≤ cap ∧ cap ≤ maxLen ∧ zs.length = cap ∧ (∀ i, i < zs.length → w.cell? (x.add i) = some (.int k (zs.getD i 0))) ∧ ∀ n ∈ zs, (Lit.int k n).wf = true

/-! ### STEP 1: THE WALK: the Go text returns true, AND WRITES NOTHING THAT WAS THERE: 'Below w.heap.size w w'' (Derived/Below.lean: '.refl', '.alloc', '.drew', '.setCell' at a new block, '.trans'). Open each 'IsRow' by 'rcases' AHEAD of 'go_enter'; part every test ahead of the walk. -/
set_option maxHeartbeats 1000000 in
theorem walk (a0 : Int) (a1 : Int) (w : World) (w0 : (Lit.int .i64 a0).wf = true) (w1 : (Lit.int .i64 a1).wf = true) :
    Calls Try.prog 9 #[.int .i64 a0, .int .i64 a1] w fun e w' => e = .returned (.bool true) ∧ Below w.heap.size w w' := by
  have cs := fun W => specOvalOutline_any a0 a1 W
  have ci := fun W => implOvalOutline_any a0 a1 W
  have hl : (ovV a0 a1).length ≤ 1000 := by unfold ovV ovalL; split <;> simp
  generalize ovV a0 a1 = Z at cs ci hl
  generalize ovC a0 a1 = cc at cs ci
  have cs' := Lib.hid cs
  have ci' := Lib.hid ci
  clear cs ci
  go_enter Try.func9, Try.ntmps9
  go_wp2_with fail
  refine (cs'.out _).mono ?_
  rintro e y1 ⟨v1, rfl, o1, d1⟩
  go_wp2_with fail
  refine (ci'.out _).mono ?_
  rintro e y2 ⟨v2, rfl, o2, d2⟩
  have o12 := o1.below d2
  have ap := o1.apart o2
  have ge : ∀ k, v2.ownBlock = some k → w.heap.size ≤ k := fun k hk => Nat.le_trans d1.size (o2.lt k hk).1
  have G := Lib.hid ge
  have D2 := d1.trans (d2.mono d1.size)
  clear ge d1 d2 o1
  go_wp2_with fail
  refine (eqArcS_any v2 v1 Z _ (by omega) o2.1 o12.1).mono ?_
  rintro e y3 ⟨rfl, d3⟩
  have o13 := o12.below d3
  have o23 := o2.below d3
  have D3 := D2.trans (d3.mono D2.size)
  clear D2 d3 o12 o2
  go_wp2_with fail
  refine (markArcS_own v2 Z 1 _ _ (by omega) (by omega) (by omega) o23).mono ?_
  rintro e y4 ⟨rfl, m4, g4⟩
  have o14 := o13.grown g4 ap
  have D4 := Lib.hid (D3.grown g4 D3.size G.out)
  clear D3 o13 o23 g4 ap
  go_wp2_with fail
  refine (heldArcS_own v2 Z.length 1 _ (by omega) (by omega) (by omega) m4).mono ?_
  rintro e _ ⟨rfl, q5, rfl⟩
  go_wp2_with fail
  refine (ci'.out _).mono ?_
  rintro e y6 ⟨v6, rfl, o6, d6⟩
  have bN := belowN (Below.refl y4.heap.size y4) q5
  have o16 := (o14.below bN).below d6
  have m6 := (m4.below bN).below d6
  have D6 := Lib.hid ((belowN D4.out q5).trans (d6.mono (belowN D4.out q5).size))
  clear o14 m4 d6 bN D4
  go_wp2_with fail
  refine (eqArcS_any v6 v1 Z _ (by omega) o6.1 o16.1).mono ?_
  rintro e y7 ⟨rfl, d7⟩
  have m7 := m6.below d7
  have D7 := Lib.hid (D6.out.trans (d7.mono D6.out.size))
  clear o6 o16 m6 d7 D6
  go_wp2_with fail
  refine (heldArcS_own v2 Z.length 1 _ (by omega) (by omega) (by omega) m7).mono ?_
  rintro e _ ⟨rfl, q8, rfl⟩
  have D8 := belowN D7.out q8
  clear m7
  go_wp2
  go_ret
  exact ⟨rfl, D8⟩


/-! ### THE ROW's STEP: WRITTEN OUT: LEAVE IT -/
set_option maxRecDepth 100000 in
theorem lifted (os : Os) (started : os.Started) (H : Type) (enc : TypeId × Value → H) :
    ReturnsInHanded {} Try.checked os 9 .any (Rows.fnExactOvalOutlineSpec.pre6 enc Try.prog Try.f9 Rows.fnExactOvalOutlineRow.domain false) (Rows.fnExactOvalOutlineSpec.post enc Try.prog Try.f9 false true false false) := by
  refine returnsInHanded_of_change (C := Try.checked) own started (by kernel_rfl) Try.func9
    (ChangeSpec.witness6 (enc := enc) (C := Try.checked) false ⟨#[], #[.int .i64 0, .int .i64 0], []⟩ 8 (by kernel_rfl) (by kernel_rfl) (by kernel_rfl) (by kernel_rfl)) ?_
  intro W base args ds gs before hval0 hW hcnd _
  have hval : ∀ (j : Nat) t v, Try.f9.params[j]? = some t → args[j]? = some v → Value.okWide Try.prog W .any base t v := hval0
  have hW' := hW
  obtain ⟨p, q, hA0, hV, rfl, hfz, hnd⟩ := hW
  have hA : DataW.TrodAll enc Try.prog W 0 (fun _ => true) true Try.f9.params.toList args.toList ds p := hA0
  rw [Try.params9] at hA hval
  obtain ⟨v0, vs0, d0, ds0, p0, q0, hargs, rfl, rfl, h0, r0⟩ := trodAll_cons hA
  obtain ⟨v1, vs1, d1, ds1, p1, q1, rfl, rfl, rfl, h1, r1⟩ := trodAll_cons r0
  obtain ⟨rfl, rfl, rfl⟩ := trodAll_nil r1
  obtain rfl : args = #[v0, v1] := by cases args; simp_all
  obtain ⟨rfl, rfl⟩ := trodVars_none hV
  obtain ⟨a0, rfl, rfl, rfl, w0⟩ := open_int Try.underlying2 (hval 0 2 v0 rfl rfl) h0
  obtain ⟨a1, rfl, rfl, rfl, w1⟩ := open_int Try.underlying2 (hval 1 2 v1 rfl rfl) h1
  clear hA0 hval0
  refine (walk a0 a1 W w0 w1).mono fun e W' ⟨he, bel⟩ => ?_
  subst he
  exact ⟨_, rfl, _, _, _, [], _, [], hW', trodAll_mk1 (shut_bool Try.underlying4 _), (trodAll_cons_mk (shut_int Try.underlying2 w0) (trodAll_cons_mk (shut_int Try.underlying2 w1) trodAll_mk0)), rfl, bel.frame _, fun h => by cases h⟩

theorem over : Rows.fnExactOvalOutlineRow.holds Try.pinned (OpenSpec.ofChange Rows.fnExactOvalOutlineSpec) :=
  OpenClaim.holds_of_wide 9 Try.f9 rfl rfl rfl rfl rfl rfl rfl ⟨rfl, rfl, rfl, rfl, rfl⟩ rfl rfl rfl rfl rfl (by kernel_rfl) Try.func9 (by kernel_rfl)
    (of_decide_eq_true (by kernel_rfl)) (by unfold Func.isWrapper; first | (rw [if_pos (by decide +kernel)]; kernel_rfl) | (rw [if_neg (by decide +kernel)]; exact ⟨rfl, rfl⟩))
    (fun os started H enc _ => lifted os started H enc)

/-- ████ THE STATEMENT ████ -/
theorem proved : Rows.FnExactOvalOutlineSaid := over
#print axioms proved
end Go.Proofs.Ytdgkpghecfpgoaa.fnExactOvalOutline
