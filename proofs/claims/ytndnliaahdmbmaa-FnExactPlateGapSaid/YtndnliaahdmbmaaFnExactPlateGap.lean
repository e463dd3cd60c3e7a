/-
  The law FnExactPlateGap holds for every input: the function answers as its model; conditions: none beside the row's own.
-/
import Derived.Test.YtndnliaahdmbmaaPgp
import Derived.Test.YtndnliaahdmbmaaGridM
import Derived.Lib.Hide
import Derived.Test.YtndnliaahdmbmaaRows
import Derived.WalkKit
import Derived.ProofKit
import Derived.OpenShut
import Derived.ShutString
import Derived.ChangeOld
import Derived.Below
namespace Go.Proofs.Ytndnliaahdmbmaa.fnExactPlateGap
open Go.ChangeShapes Go.WideShapes Go.ChangeAt Go.RowKit
open Go.ChangeMaps (open_string shut_string)
set_option linter.unusedVariables false

theorem own : ownKnob Try.prog.godebug = none := by kernel_rfl
theorem laidOut : laidOutB Try.prog = true := by kernel_rfl

/-- WHAT THE WALK IS TOLD OF A SLICE OF INTEGERS THAT CAME IN: it is nil; or it leads to a row of 'cap' cells, the numbers 'zs' (the first 'len' are its elements, the rest its spare room), each fitting its kind. -/
def IsRow (k : IntKind) (w : World) (a : Option Addr) (len cap : Nat) (zs : List Int) : Prop :=
  (a = none ∧ len = 0 ∧ cap = 0 ∧ zs = []) ∨
  ∃ x, a = some x ∧ len ≤ cap ∧ cap ≤ maxLen ∧ zs.length = cap ∧ (∀ i, i < zs.length → w.cell? (x.add i) = some (.int k (zs.getD i 0))) ∧ ∀ n ∈ zs, (Lit.int k n).wf = true

/-! ### STEP 1: THE WALK: the Go text returns true, AND WRITES NOTHING THAT WAS THERE: 'Below w.heap.size w w'' (Derived/Below.lean: '.refl', '.alloc', '.drew', '.setCell' at a new block, '.trans'). Open each 'IsRow' by 'rcases' AHEAD of 'go_enter'; part every test ahead of the walk. -/
set_option maxHeartbeats 1000000 in
theorem walk (a0 : Value) (a1 : Value) (w : World) (w0 : GridV w a0) (w1 : GridV w a1) :
    Calls Try.prog 13 #[a0, a1] w fun e w' => e = .returned (.bool true) ∧ Below w.heap.size w w' := by
  obtain ⟨G, hG, hGl, hGr⟩ := w0
  have hG' := Lib.hid hG
  clear hG
  obtain ⟨G', hH, hHl, hHr⟩ := w1
  have hH' := Lib.hid hH
  clear hH
  go_enter Try.func13, Try.ntmps13
  go_wp2_with fail
  refine (szInt64SS_any a0 G _ hGl hGr hG'.out).mono ?_
  rintro e u1 ⟨n, rfl, hn0, hn1, hn2, rfl⟩
  by_cases hneg : n < 0
  · go_wp2
    go_ret
    exact ⟨rfl, Below.refl _ _⟩
  have hlen' := Lib.hid (hn2 (by omega))
  clear hGl hGr hn2
  go_wp2_with fail
  refine (szInt64SS_less a1 G' n _ (by omega) hn1 hHl hHr hH'.out).mono ?_
  rintro e u1 ⟨n', rfl, hn0', hn1', hn2', rfl⟩
  by_cases hneg' : n' < 0
  · go_wp2
    go_ret
    exact ⟨rfl, Below.refl _ _⟩
  have hlen2' : Hid (G'.length + totL G' ≤ 1048576) := Lib.hid (by have := hn2' (by omega); omega)
  clear hHl hHr hn2'
  go_wp2_with fail
  refine (toInt64SS_any a0 G _ hlen'.out hG'.out).mono ?_
  rintro e u2 ⟨v2, vs2, rfl, o2, d2⟩
  have p2 := Lib.hid o2.at
  have D2 := Lib.hid d2
  clear o2 d2
  go_wp2_with fail
  refine (toInt64SS_any a1 G' _ hlen2'.out (hH'.out.below D2.out)).mono ?_
  rintro e u3 ⟨v3, vs3, rfl, o3, d3⟩
  replace p2 := Lib.hid (p2.out.below d3)
  have p3 := Lib.hid o3.at
  have D3 := Lib.hid (D2.out.trans (d3.mono D2.out.size))
  clear o3 d3 D2
  go_wp2_with fail
  refine (specPlateGap_any v2 v3 G G' _ hlen'.out hlen2'.out p2.out p3.out).mono ?_
  rintro e u4 ⟨rfl, d4⟩
  have D4 := Lib.hid (D3.out.trans (d4.mono D3.out.size))
  clear d4 D3 p2 p3
  go_wp2_with fail
  refine (toInt64SS_any a0 G _ hlen'.out (hG'.out.below D4.out)).mono ?_
  rintro e u5 ⟨v5, vs5, rfl, o5, d5⟩
  have p5 := Lib.hid o5.at
  have D5 := Lib.hid (D4.out.trans (d5.mono D4.out.size))
  clear o5 d5 D4
  go_wp2_with fail
  refine (toInt64SS_any a1 G' _ hlen2'.out (hH'.out.below D5.out)).mono ?_
  rintro e u6 ⟨v6, vs6, rfl, o6, d6⟩
  replace p5 := Lib.hid (p5.out.below d6)
  have p6 := Lib.hid o6.at
  have D6 := Lib.hid (D5.out.trans (d6.mono D5.out.size))
  clear o6 d6 D5
  go_wp2_with fail
  refine (implPlateGap_any v5 v6 G G' _ hlen'.out hlen2'.out p5.out p6.out).mono ?_
  rintro e u7 ⟨rfl, d7⟩
  replace p5 := Lib.hid (p5.out.below d7)
  replace p6 := Lib.hid (p6.out.below d7)
  have D7 := Lib.hid (D6.out.trans (d7.mono D6.out.size))
  clear d7 D6
  go_wp2_with fail
  refine (toInt64SS_any a0 G _ hlen'.out (hG'.out.below D7.out)).mono ?_
  rintro e u8 ⟨v8, vs8, rfl, o8, d8⟩
  replace p5 := Lib.hid (p5.out.below d8)
  replace p6 := Lib.hid (p6.out.below d8)
  have p8 := Lib.hid o8.at
  have D8 := Lib.hid (D7.out.trans (d8.mono D7.out.size))
  clear o8 d8 D7
  go_wp2_with fail
  refine (eqInt64SS_any v5 v8 G _ hlen'.out p5.out p8.out).mono ?_
  rintro e _ ⟨rfl, m8, rfl⟩
  have p6a := Lib.hid (p6.out.below (belowN (Below.refl _ u8) m8))
  have D8a := Lib.hid (belowN D8.out m8)
  clear p5 p6 p8 D8
  go_wp2_with fail
  refine (toInt64SS_any a1 G' _ hlen2'.out (hH'.out.below D8a.out)).mono ?_
  rintro e u9 ⟨v9, vs9, rfl, o9, d9⟩
  have p6b := Lib.hid (p6a.out.below d9)
  have p9 := Lib.hid o9.at
  have D9 := Lib.hid (D8a.out.trans (d9.mono D8a.out.size))
  clear o9 d9 D8a p6a
  go_wp2_with fail
  refine (eqInt64SS_any v6 v9 G' _ hlen2'.out p6b.out p9.out).mono ?_
  rintro e _ ⟨rfl, m9, rfl⟩
  have W14 := Lib.hid (belowN D9.out m9)
  clear p6b p9 D9
  go_wp2
  go_ret
  exact ⟨rfl, W14.out⟩


/-! ### THE ROW's STEP: WRITTEN OUT: LEAVE IT -/
set_option maxRecDepth 100000 in
theorem lifted (os : Os) (started : os.Started) (H : Type) (enc : TypeId × Value → H) :
    ReturnsInHanded {} Try.checked os 13 .any (Rows.fnExactPlateGapSpec.pre6 enc Try.prog Try.f13 Rows.fnExactPlateGapRow.domain false) (Rows.fnExactPlateGapSpec.post enc Try.prog Try.f13 false true false false) := by
  refine returnsInHanded_of_change (C := Try.checked) own started (by kernel_rfl) Try.func13
    (ChangeSpec.witness6 (enc := enc) (C := Try.checked) false ⟨#[], #[.slice none 0 0, .slice none 0 0], []⟩ 8 (by kernel_rfl) (by kernel_rfl) (by kernel_rfl) (by kernel_rfl)) ?_
  intro W base args ds gs before hval0 hW hcnd _
  have hval : ∀ (j : Nat) t v, Try.f13.params[j]? = some t → args[j]? = some v → Value.okWide Try.prog W .any base t v := hval0
  have hW' := hW
  obtain ⟨p, q, hA0, hV, rfl, hfz, hnd⟩ := hW
  have hA : DataW.TrodAll enc Try.prog W 0 (fun _ => true) true Try.f13.params.toList args.toList ds p := hA0
  rw [Try.params13] at hA hval
  obtain ⟨v0, vs0, d0, ds0, p0, q0, hargs, rfl, rfl, h0, r0⟩ := trodAll_cons hA
  obtain ⟨v1, vs1, d1, ds1, p1, q1, rfl, rfl, rfl, h1, r1⟩ := trodAll_cons r0
  obtain ⟨rfl, rfl, rfl⟩ := trodAll_nil r1
  obtain rfl : args = #[v0, v1] := by cases args; simp_all
  obtain ⟨rfl, rfl⟩ := trodVars_none hV
  have k0 := h0
  have lt0 : ∀ x ∈ p0, x.block < W.heap.size := by obtain ⟨m, hm⟩ := k0; exact DataW.trod_lt m _ _ _ hm
  have w0 : GridV W v0 := grid_open (hval 0 22 v0 rfl rfl) h0
  have k1 := h1
  have lt1 : ∀ x ∈ p1, x.block < W.heap.size := by obtain ⟨m, hm⟩ := k1; exact DataW.trod_lt m _ _ _ hm
  have w1 : GridV W v1 := grid_open (hval 1 22 v1 rfl rfl) h1
  clear hA0 hval0
  refine (walk v0 v1 W w0 w1).mono fun e W' ⟨he, bel⟩ => ?_
  subst he
  exact ⟨_, rfl, _, _, _, [], _, [], hW', trodAll_mk1 (shut_bool Try.underlying4 _), (trodAll_cons_mk (Below.trod laidOut (by kernel_rfl) (of_decide_eq_true (by kernel_rfl)) k0 bel lt0) (trodAll_cons_mk (Below.trod laidOut (by kernel_rfl) (of_decide_eq_true (by kernel_rfl)) k1 bel lt1) trodAll_mk0)), rfl, bel.frame _, fun h => by cases h⟩

theorem over : Rows.fnExactPlateGapRow.holds Try.pinned (OpenSpec.ofChange Rows.fnExactPlateGapSpec) :=
  OpenClaim.holds_of_wide 13 Try.f13 rfl rfl rfl rfl rfl rfl rfl ⟨rfl, rfl, rfl, rfl, rfl⟩ rfl rfl rfl rfl rfl (by kernel_rfl) Try.func13 (by kernel_rfl)
    (of_decide_eq_true (by kernel_rfl)) (by unfold Func.isWrapper; first | (rw [if_pos (by decide +kernel)]; kernel_rfl) | (rw [if_neg (by decide +kernel)]; exact ⟨rfl, rfl⟩))
    (fun os started H enc _ => lifted os started H enc)

/-- ████ THE STATEMENT ████ -/
theorem proved : Rows.FnExactPlateGapSaid := over
#print axioms proved
end Go.Proofs.Ytndnliaahdmbmaa.fnExactPlateGap
