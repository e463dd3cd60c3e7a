/-
  The law FnExactGradedPlate holds for every input: the function answers as its model; conditions: none beside the row's own.
-/
import Derived.Test.YtndnliaahdmbmaaGpm
import Derived.Test.YtndnliaahdmbmaaGridM
import Derived.Lib.Hide
import Derived.Test.YtndnliaahdmbmaaRows
import Derived.WalkKit
import Derived.ProofKit
import Derived.OpenShut
import Derived.ShutString
import Derived.ChangeOld
import Derived.Below
namespace Go.Proofs.Ytndnliaahdmbmaa.fnExactGradedPlate
open Go.ChangeShapes Go.WideShapes Go.ChangeAt Go.RowKit
open Go.ChangeMaps (open_string shut_string)
set_option linter.unusedVariables false

theorem own : ownKnob Try.prog.godebug = none := by kernel_rfl
theorem laidOut : laidOutB Try.prog = true := by kernel_rfl

/-- WHAT THE WALK IS TOLD OF A SLICE OF INTEGERS THAT CAME IN: it is nil; or it leads to a row of 'cap' cells, the numbers 'zs' (the first 'len' are its elements, the rest its spare room), each fitting its kind. -/
def IsRow (k : IntKind) (w : World) (a : Option Addr) (len cap : Nat) (zs : List Int) : Prop :=
  (a = none ∧ len = 0 ∧ cap = 0 ∧ zs = []) ∨
  ∃ x, a = some x ∧ len ≤ cap ∧ cap ≤ maxLen ∧ zs.length = cap ∧ (∀ i, i < zs.length → w.cell? (x.add i) = some (.int k (zs.getD i 0))) ∧ ∀ n ∈ zs, (Lit.int k n).wf = true

/-! ### STEP 1: THE WALK: the Go text returns true, AND WRITES NOTHING THAT WAS THERE: 'Below w.heap.size w w'' (Derived/Below.lean: '.refl', '.alloc', '.drew', '.setCell' at a new block, '.trans'). Open each 'IsRow' by 'rcases' AHEAD of 'go_enter'; part every test ahead of the walk. -/
set_option maxHeartbeats 1000000 in
theorem walk (a0 : Int) (a1 : Int) (a2 : Int) (a3 : Int) (w : World) (w0 : (Lit.int .i64 a0).wf = true) (w1 : (Lit.int .i64 a1).wf = true) (w2 : (Lit.int .i64 a2).wf = true) (w3 : (Lit.int .i64 a3).wf = true) :
    Calls Try.prog 12 #[.int .i64 a0, .int .i64 a1, .int .i64 a2, .int .i64 a3] w fun e w' => e = .returned (.bool true) ∧ Below w.heap.size w w' := by
  go_enter Try.func12, Try.ntmps12
  have cs := fun W => specGradedPlate_any a0 a1 a2 a3 W
  have ci := fun W => implGradedPlate_any a0 a1 a2 a3 W
  have hLn := gpV_len a0 a1 a2 a3
  obtain ⟨LL, hLL⟩ : ∃ LL, LL = gpV a0 a1 a2 a3 := ⟨_, rfl⟩
  obtain ⟨cc, hcc⟩ : ∃ cc, cc = gpC a0 a1 a2 a3 := ⟨_, rfl⟩
  rw [← hLL, ← hcc] at cs ci
  rw [← hLL] at hLn
  have cs' := Lib.hid cs
  have ci' := Lib.hid ci
  have hLn' := Lib.hid hLn
  clear cs ci hLL hcc hLn
  go_wp2_with fail
  refine (cs'.out _).mono ?_
  rintro e u3 ⟨v3, vs3, rfl, o3, d3⟩
  have D3 := Lib.hid d3
  have O3 := Lib.hid o3
  clear o3 d3
  go_wp2_with fail
  refine (ci'.out _).mono ?_
  rintro e u5 ⟨v5, vs5, rfl, o5, d5⟩
  replace O3 := Lib.hid (O3.out.kept d5)
  have O5 := Lib.hid o5
  have D5 := Lib.hid (D3.out.trans (d5.mono D3.out.size))
  have h45 := Lib.hid (D3.out.size)
  have s45 := Lib.hid (d5.size)
  clear o5 d5 D3
  go_wp2_with fail
  refine (eqInt64SS_any v5 v3 LL _ hLn'.out O5.out.at O3.out.at).mono ?_
  rintro e _ ⟨rfl, m1, rfl⟩
  have O3a := Lib.hid (O3.out.drewN m1)
  have O5a := Lib.hid (O5.out.drewN m1)
  have D5a := Lib.hid (belowN D5.out m1)
  clear O3 O5 D5
  have hL2 := hLn'.out
  go_wp2_with fail
  refine (markInt64SS_any v5 LL vs5 _ _ 1 _ hLn'.out (by omega) (by omega) O5a.out).mono ?_
  rintro e u9 ⟨rfl, o9, g9⟩
  have O9 := Lib.hid o9
  replace O3a := Lib.hid (O3a.out.beside g9 (Or.inl (Nat.le_refl _)))
  replace D5a := Lib.hid (D5a.out.trans ((g9.below (Nat.le_trans s45.out O5a.out.hiW)).mono h45.out))
  clear o9 g9 O5a
  go_wp2_with fail
  refine (heldInt64SS_any v5 LL vs5 _ _ 1 _ hLn'.out (by omega) (by omega) O9.out).mono ?_
  rintro e _ ⟨rfl, m9, rfl⟩
  replace O9 := Lib.hid (O9.out.drewN m9)
  replace O3a := Lib.hid (O3a.out.drewN m9)
  replace D5a := Lib.hid (belowN D5a.out m9)
  go_wp2_with fail
  refine (ci'.out _).mono ?_
  rintro e u11 ⟨v11, vs11, rfl, o11, d11⟩
  replace O9 := Lib.hid (O9.out.kept d11)
  replace O3a := Lib.hid (O3a.out.kept d11)
  replace D5a := Lib.hid (D5a.out.trans (d11.mono D5a.out.size))
  have O11 := Lib.hid o11
  clear o11 d11
  go_wp2_with fail
  refine (eqInt64SS_any v11 v3 LL _ hLn'.out O11.out.at O3a.out.at).mono ?_
  rintro e _ ⟨rfl, m12, rfl⟩
  replace O9 := Lib.hid (O9.out.drewN m12)
  clear O11 O3a
  go_wp2_with fail
  refine (heldInt64SS_any v5 LL vs5 _ _ 1 _ hLn'.out (by omega) (by omega) O9.out).mono ?_
  rintro e _ ⟨rfl, m13, rfl⟩
  have W14 := Lib.hid (belowN D5a.out (m12 + m13))
  clear O9 D5a
  go_wp2
  go_ret
  exact ⟨rfl, W14.out⟩


/-! ### THE ROW's STEP: WRITTEN OUT: LEAVE IT -/
set_option maxRecDepth 100000 in
theorem lifted (os : Os) (started : os.Started) (H : Type) (enc : TypeId × Value → H) :
    ReturnsInHanded {} Try.checked os 12 .any (Rows.fnExactGradedPlateSpec.pre6 enc Try.prog Try.f12 Rows.fnExactGradedPlateRow.domain false) (Rows.fnExactGradedPlateSpec.post enc Try.prog Try.f12 false true false false) := by
  refine returnsInHanded_of_change (C := Try.checked) own started (by kernel_rfl) Try.func12
    (ChangeSpec.witness6 (enc := enc) (C := Try.checked) false ⟨#[], #[.int .i64 0, .int .i64 0, .int .i64 0, .int .i64 0], []⟩ 8 (by kernel_rfl) (by kernel_rfl) (by kernel_rfl) (by kernel_rfl)) ?_
  intro W base args ds gs before hval0 hW hcnd _
  have hval : ∀ (j : Nat) t v, Try.f12.params[j]? = some t → args[j]? = some v → Value.okWide Try.prog W .any base t v := hval0
  have hW' := hW
  obtain ⟨p, q, hA0, hV, rfl, hfz, hnd⟩ := hW
  have hA : DataW.TrodAll enc Try.prog W 0 (fun _ => true) true Try.f12.params.toList args.toList ds p := hA0
  rw [Try.params12] at hA hval
  obtain ⟨v0, vs0, d0, ds0, p0, q0, hargs, rfl, rfl, h0, r0⟩ := trodAll_cons hA
  obtain ⟨v1, vs1, d1, ds1, p1, q1, rfl, rfl, rfl, h1, r1⟩ := trodAll_cons r0
  obtain ⟨v2, vs2, d2, ds2, p2, q2, rfl, rfl, rfl, h2, r2⟩ := trodAll_cons r1
  obtain ⟨v3, vs3, d3, ds3, p3, q3, rfl, rfl, rfl, h3, r3⟩ := trodAll_cons r2
  obtain ⟨rfl, rfl, rfl⟩ := trodAll_nil r3
  obtain rfl : args = #[v0, v1, v2, v3] := by cases args; simp_all
  obtain ⟨rfl, rfl⟩ := trodVars_none hV
  obtain ⟨a0, rfl, rfl, rfl, w0⟩ := open_int Try.underlying2 (hval 0 2 v0 rfl rfl) h0
  obtain ⟨a1, rfl, rfl, rfl, w1⟩ := open_int Try.underlying2 (hval 1 2 v1 rfl rfl) h1
  obtain ⟨a2, rfl, rfl, rfl, w2⟩ := open_int Try.underlying2 (hval 2 2 v2 rfl rfl) h2
  obtain ⟨a3, rfl, rfl, rfl, w3⟩ := open_int Try.underlying2 (hval 3 2 v3 rfl rfl) h3
  clear hA0 hval0
  refine (walk a0 a1 a2 a3 W w0 w1 w2 w3).mono fun e W' ⟨he, bel⟩ => ?_
  subst he
  exact ⟨_, rfl, _, _, _, [], _, [], hW', trodAll_mk1 (shut_bool Try.underlying4 _), (trodAll_cons_mk (shut_int Try.underlying2 w0) (trodAll_cons_mk (shut_int Try.underlying2 w1) (trodAll_cons_mk (shut_int Try.underlying2 w2) (trodAll_cons_mk (shut_int Try.underlying2 w3) trodAll_mk0)))), rfl, bel.frame _, fun h => by cases h⟩

theorem over : Rows.fnExactGradedPlateRow.holds Try.pinned (OpenSpec.ofChange Rows.fnExactGradedPlateSpec) :=
  OpenClaim.holds_of_wide 12 Try.f12 rfl rfl rfl rfl rfl rfl rfl ⟨rfl, rfl, rfl, rfl, rfl⟩ rfl rfl rfl rfl rfl (by kernel_rfl) Try.func12 (by kernel_rfl)
    (of_decide_eq_true (by kernel_rfl)) (by unfold Func.isWrapper; first | (rw [if_pos (by decide +kernel)]; kernel_rfl) | (rw [if_neg (by decide +kernel)]; exact ⟨rfl, rfl⟩))
    (fun os started H enc _ => lifted os started H enc)

/-- ████ THE STATEMENT ████ -/
theorem proved : Rows.FnExactGradedPlateSaid := over
#print axioms proved
end Go.Proofs.Ytndnliaahdmbmaa.fnExactGradedPlate
