/-
  The law FnExactThinTo holds for every input: the function answers as its model; conditions: none beside the row's own.
-/
import Derived.Test.YtmppaimcejcoiaaTti8
import Derived.Test.YtmppaimcejcoiaaTtm8
import Derived.Test.YtmppaimcejcoiaaGridM
import Derived.Lib.Hide
import Derived.Test.YtmppaimcejcoiaaRows
import Derived.WalkKit
import Derived.ProofKit
import Derived.OpenShut
import Derived.ShutString
import Derived.ChangeOld
import Derived.Below
namespace Go.Proofs.Ytmppaimcejcoiaa.fnExactThinTo
open Go.ChangeShapes Go.WideShapes Go.ChangeAt Go.RowKit
open Go.ChangeMaps (open_string shut_string)
set_option linter.unusedVariables false

theorem own : ownKnob Try.prog.godebug = none := by kernel_rfl
theorem laidOut : laidOutB Try.prog = true := by kernel_rfl

/-- WHAT THE WALK IS TOLD OF A SLICE OF INTEGERS THAT CAME IN: it is nil; or it leads to a row of 'cap' cells, the numbers 'zs' (the first 'len' are its elements, the rest its spare room), each fitting its kind. -/
def IsRow (k : IntKind) (w : World) (a : Option Addr) (len cap : Nat) (zs : List Int) : Prop :=
  (a = none ∧ len = 0 ∧ cap = 0 ∧ zs = []) ∨
  ∃ x, a = some x ∧ len ≤ cap ∧ cap ≤ maxLen ∧ zs.length = cap ∧ (∀ i, i < zs.length → w.cell? (x.add i) = some (.int k (zs.getD i 0))) ∧ ∀ n ∈ zs, (Lit.int k n).wf = true

/-! ### STEP 1: THE WALK: the Go text returns true, AND WRITES NOTHING THAT WAS THERE: 'Below w.heap.size w w'' (Derived/Below.lean: '.refl', '.alloc', '.drew', '.setCell' at a new block, '.trans'). Open each 'IsRow' by 'rcases' AHEAD of 'go_enter'; part every test ahead of the walk. -/
set_option maxHeartbeats 1000000 in
theorem walk (a0 : Value) (a1 : Int) (a2 : Int) (a3 : Int) (a4 : Int) (w : World) (w0 : GridV w a0) (w1 : (Lit.int .i64 a1).wf = true) (w2 : (Lit.int .i64 a2).wf = true) (w3 : (Lit.int .i64 a3).wf = true) (w4 : (Lit.int .i64 a4).wf = true) :
    Calls Try.prog 3 #[a0, .int .i64 a1, .int .i64 a2, .int .i64 a3, .int .i64 a4] w fun e w' => e = .returned (.bool true) ∧ Below w.heap.size w w' := by
  obtain ⟨G, hG, hGl, hGr⟩ := w0
  have hG' := Lib.hid hG
  clear hG
  go_enter Try.func3, Try.ntmps3
  go_wp2_with fail
  refine (szInt64SS_any a0 G _ hGl hGr hG'.out).mono ?_
  rintro e u1 ⟨n, rfl, hn0, hn1, hn2, rfl⟩
  by_cases hneg : n < 0
  · go_wp2
    go_ret
    exact ⟨rfl, Below.refl _ _⟩
  have hlen' := Lib.hid (hn2 (by omega))
  clear hGl hGr hn2
  go_wp2_with fail
  refine (toInt64SS_any a0 G _ hlen'.out hG'.out).mono ?_
  rintro e u2 ⟨v2, vs2, rfl, o2, d2⟩
  have p2 := Lib.hid o2.at
  clear o2
  go_wp2_with fail
  refine (specThinTo_any v2 G a1 a2 a3 a4 _ hlen'.out p2.out).mono ?_
  rintro e u3 ⟨rfl, d3⟩
  have D3 := d2.trans (d3.mono d2.size)
  clear d2 d3 p2
  go_wp2_with fail
  refine (toInt64SS_any a0 G _ hlen'.out (hG'.out.below D3)).mono ?_
  rintro e u4 ⟨v4, vs4, rfl, o4, d4⟩
  have D4 := D3.trans (d4.mono D3.size)
  have p4 := Lib.hid o4.at
  clear d4 D3 o4
  go_wp2_with fail
  refine (implThinTo_any v4 G a1 a2 a3 a4 _ hlen'.out p4.out).mono ?_
  rintro e u5 ⟨rfl, d5⟩
  have D5 := D4.trans (d5.mono D4.size)
  have p5 := Lib.hid (p4.out.below d5)
  clear d5 D4 p4
  go_wp2_with fail
  refine (toInt64SS_any a0 G _ hlen'.out (hG'.out.below D5)).mono ?_
  rintro e u6 ⟨v6, vs6, rfl, o6, d6⟩
  have D6 := D5.trans (d6.mono D5.size)
  have p56 := Lib.hid (p5.out.below d6)
  have p6 := Lib.hid o6.at
  clear d6 D5 p5 o6
  go_wp2_with fail
  refine (eqInt64SS_any v4 v6 G _ hlen'.out p56.out p6.out).mono ?_
  rintro e u7 ⟨rfl, m7, rfl⟩
  have D7 := Lib.hid (belowN D6 m7)
  clear D6 p56 p6
  go_wp2
  go_ret
  exact ⟨rfl, D7.out⟩


/-! ### THE ROW's STEP: WRITTEN OUT: LEAVE IT -/
set_option maxRecDepth 100000 in
theorem lifted (os : Os) (started : os.Started) (H : Type) (enc : TypeId × Value → H) :
    ReturnsInHanded {} Try.checked os 3 .any (Rows.fnExactThinToSpec.pre6 enc Try.prog Try.f3 Rows.fnExactThinToRow.domain false) (Rows.fnExactThinToSpec.post enc Try.prog Try.f3 false true false false) := by
  refine returnsInHanded_of_change (C := Try.checked) own started (by kernel_rfl) Try.func3
    (ChangeSpec.witness6 (enc := enc) (C := Try.checked) false ⟨#[], #[.slice none 0 0, .int .i64 0, .int .i64 0, .int .i64 0, .int .i64 0], []⟩ 8 (by kernel_rfl) (by kernel_rfl) (by kernel_rfl) (by kernel_rfl)) ?_
  intro W base args ds gs before hval0 hW hcnd _
  have hval : ∀ (j : Nat) t v, Try.f3.params[j]? = some t → args[j]? = some v → Value.okWide Try.prog W .any base t v := hval0
  have hW' := hW
  obtain ⟨p, q, hA0, hV, rfl, hfz, hnd⟩ := hW
  have hA : DataW.TrodAll enc Try.prog W 0 (fun _ => true) true Try.f3.params.toList args.toList ds p := hA0
  rw [Try.params3] at hA hval
  obtain ⟨v0, vs0, d0, ds0, p0, q0, hargs, rfl, rfl, h0, r0⟩ := trodAll_cons hA
  obtain ⟨v1, vs1, d1, ds1, p1, q1, rfl, rfl, rfl, h1, r1⟩ := trodAll_cons r0
  obtain ⟨v2, vs2, d2, ds2, p2, q2, rfl, rfl, rfl, h2, r2⟩ := trodAll_cons r1
  obtain ⟨v3, vs3, d3, ds3, p3, q3, rfl, rfl, rfl, h3, r3⟩ := trodAll_cons r2
  obtain ⟨v4, vs4, d4, ds4, p4, q4, rfl, rfl, rfl, h4, r4⟩ := trodAll_cons r3
  obtain ⟨rfl, rfl, rfl⟩ := trodAll_nil r4
  obtain rfl : args = #[v0, v1, v2, v3, v4] := by cases args; simp_all
  obtain ⟨rfl, rfl⟩ := trodVars_none hV
  have k0 := h0
  have lt0 : ∀ x ∈ p0, x.block < W.heap.size := by obtain ⟨m, hm⟩ := k0; exact DataW.trod_lt m _ _ _ hm
  have w0 : GridV W v0 := grid_open (hval 0 22 v0 rfl rfl) h0
  obtain ⟨a1, rfl, rfl, rfl, w1⟩ := open_int Try.underlying2 (hval 1 2 v1 rfl rfl) h1
  obtain ⟨a2, rfl, rfl, rfl, w2⟩ := open_int Try.underlying2 (hval 2 2 v2 rfl rfl) h2
  obtain ⟨a3, rfl, rfl, rfl, w3⟩ := open_int Try.underlying2 (hval 3 2 v3 rfl rfl) h3
  obtain ⟨a4, rfl, rfl, rfl, w4⟩ := open_int Try.underlying2 (hval 4 2 v4 rfl rfl) h4
  clear hA0 hval0
  refine (walk v0 a1 a2 a3 a4 W w0 w1 w2 w3 w4).mono fun e W' ⟨he, bel⟩ => ?_
  subst he
  exact ⟨_, rfl, _, _, _, [], _, [], hW', trodAll_mk1 (shut_bool Try.underlying4 _), (trodAll_cons_mk (Below.trod laidOut (by kernel_rfl) (of_decide_eq_true (by kernel_rfl)) k0 bel lt0) (trodAll_cons_mk (shut_int Try.underlying2 w1) (trodAll_cons_mk (shut_int Try.underlying2 w2) (trodAll_cons_mk (shut_int Try.underlying2 w3) (trodAll_cons_mk (shut_int Try.underlying2 w4) trodAll_mk0))))), rfl, bel.frame _, fun h => by cases h⟩

theorem over : Rows.fnExactThinToRow.holds Try.pinned (OpenSpec.ofChange Rows.fnExactThinToSpec) :=
  OpenClaim.holds_of_wide 3 Try.f3 rfl rfl rfl rfl rfl rfl rfl ⟨rfl, rfl, rfl, rfl, rfl⟩ rfl rfl rfl rfl rfl (by kernel_rfl) Try.func3 (by kernel_rfl)
    (of_decide_eq_true (by kernel_rfl)) (by unfold Func.isWrapper; first | (rw [if_pos (by decide +kernel)]; kernel_rfl) | (rw [if_neg (by decide +kernel)]; exact ⟨rfl, rfl⟩))
    (fun os started H enc _ => lifted os started H enc)

/-- ████ THE STATEMENT ████ -/
theorem proved : Rows.FnExactThinToSaid := over
#print axioms proved
end Go.Proofs.Ytmppaimcejcoiaa.fnExactThinTo
