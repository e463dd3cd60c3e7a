/-
  The law FnExactHollowFor holds for every input: the function answers as its model; conditions: none beside the row's own.
-/
import Derived.Test.YtagjpldfafablaaHoG
import Derived.Test.YtagjpldfafablaaHoS8
import Derived.Test.YtagjpldfafablaaGridM
import Derived.Lib.Hide
import Derived.Test.YtagjpldfafablaaRows
import Derived.WalkKit
import Derived.ProofKit
import Derived.OpenShut
import Derived.ShutString
import Derived.ChangeOld
import Derived.Below
namespace Go.Proofs.Ytagjpldfafablaa.fnExactHollowFor
open Go.ChangeShapes Go.WideShapes Go.ChangeAt Go.RowKit
open Go.ChangeMaps (open_string shut_string)
set_option linter.unusedVariables false

theorem own : ownKnob Try.prog.godebug = none := by kernel_rfl
theorem laidOut : laidOutB Try.prog = true := by kernel_rfl

/-- WHAT THE WALK IS TOLD OF A SLICE OF INTEGERS THAT CAME IN: it is nil; or it leads to a row of 'cap' cells, the numbers 'zs' (the first 'len' are its elements, the rest its spare room), each fitting its kind. -/
def IsRow (k : IntKind) (w : World) (a : Option Addr) (len cap : Nat) (zs : List Int) : Prop :=
  (a = none ∧ len = 0 ∧ cap = 0 ∧ zs = []) ∨
  ∃ x, a = some x ∧ len ≤ cap ∧ cap ≤ maxLen ∧ zs.length = cap ∧ (∀ i, i < zs.length → w.cell? (x.add i) = some (.int k (zs.getD i 0))) ∧ ∀ n ∈ zs, (Lit.int k n).wf = true

/-! ### STEP 1: THE WALK: the Go text returns true, AND WRITES NOTHING THAT WAS THERE: 'Below w.heap.size w w'' (Derived/Below.lean: '.refl', '.alloc', '.drew', '.setCell' at a new block, '.trans'). Open each 'IsRow' by 'rcases' AHEAD of 'go_enter'; part every test ahead of the walk. -/
set_option maxHeartbeats 1000000 in
theorem walk (a0 : Value) (a1 : Int) (w : World) (w0 : GridV w a0) (w1 : (Lit.int .i64 a1).wf = true) :
    Calls Try.prog 4 #[a0, .int .i64 a1] w fun e w' => e = .returned (.bool true) ∧ Below w.heap.size w w' := by
  obtain ⟨G, hG, hGl, hGr⟩ := w0
  have hG' := Lib.hid hG
  clear hG
  go_enter Try.func4, Try.ntmps4
  go_wp2_with fail
  refine (szInt64SS_any a0 G _ hGl hGr hG'.out).mono ?_
  rintro e u1 ⟨n, rfl, hn0, hn1, hn2, rfl⟩
  by_cases hneg : n < 0
  · go_wp2
    go_ret
    exact ⟨rfl, Below.refl _ _⟩
  have hlen' := Lib.hid (hn2 (by omega))
  clear hGl hGr hn2
  have cs := fun W V (h : GridAt W V G) => specHollowFor_any V G a1 W hlen'.out h
  have ci := fun W V (h : GridAt W V G) => implHollowFor_any V G a1 W hlen'.out h
  have hLn := hoV_len G a1
  obtain ⟨LL, hLL⟩ : ∃ LL, LL = hoV G a1 := ⟨_, rfl⟩
  obtain ⟨cc, hcc⟩ : ∃ cc, cc = hoC G a1 := ⟨_, rfl⟩
  rw [← hLL, ← hcc] at cs ci
  rw [← hLL] at hLn
  have cs' := Lib.hid cs
  have ci' := Lib.hid ci
  have hLn' := Lib.hid hLn
  clear cs ci hLL hcc hLn
  go_wp2_with fail
  refine (toInt64SS_any a0 G _ hlen'.out hG'.out).mono ?_
  rintro e u2 ⟨v2, vs2, rfl, o2, d2⟩
  have p2 := Lib.hid o2.at
  have D2 := Lib.hid d2
  clear o2 d2
  go_wp2_with fail
  refine (cs'.out _ _ p2.out).mono ?_
  rintro e u3 ⟨v3, vs3, rfl, o3, d3⟩
  have D3 := Lib.hid (D2.out.trans (d3.mono D2.out.size))
  have O3 := Lib.hid o3
  clear p2 D2 o3 d3 
  go_wp2_with fail
  refine (toInt64SS_any a0 G _ hlen'.out (hG'.out.below D3.out)).mono ?_
  rintro e u4 ⟨v4, vs4, rfl, o4, d4⟩
  have hx3 := Lib.hid (D3.out.size)
  replace O3 := Lib.hid (O3.out.kept d4)
  have O4 := Lib.hid o4
  have s34 := Lib.hid (d4.size)
  have D4 := Lib.hid (D3.out.trans (d4.mono D3.out.size))
  clear o4 d4 D3
  go_wp2_with fail
  refine (ci'.out _ _ O4.out.at).mono ?_
  rintro e u5 ⟨v5, vs5, rfl, o5, d5⟩
  replace O3 := Lib.hid (O3.out.kept d5)
  replace O4 := Lib.hid (O4.out.kept d5)

  have O5 := Lib.hid o5
  have D5 := Lib.hid (D4.out.trans (d5.mono D4.out.size))
  have h45 := Lib.hid (D4.out.size)
  have s45 := Lib.hid (d5.size)
  clear o5 d5 D4
  go_wp2_with fail
  refine (eqInt64SS_any v5 v3 LL _ hLn'.out O5.out.at O3.out.at).mono ?_
  rintro e _ ⟨rfl, m1, rfl⟩
  have O3a := Lib.hid (O3.out.drewN m1)
  have O4a := Lib.hid (O4.out.drewN m1)

  have O5a := Lib.hid (O5.out.drewN m1)
  have D5a := Lib.hid (belowN D5.out m1)
  clear O3 O4 O5 D5 
  go_wp2_with fail
  refine (toInt64SS_any a0 G _ hlen'.out (hG'.out.below D5a.out)).mono ?_
  rintro e u6a ⟨v6a, vs6a, rfl, o6a, d6a⟩
  replace O3a := Lib.hid (O3a.out.kept d6a)
  replace O4a := Lib.hid (O4a.out.kept d6a)
  replace O5a := Lib.hid (O5a.out.kept d6a)
  replace D5a := Lib.hid (D5a.out.trans (d6a.mono D5a.out.size))
  have p6a := Lib.hid o6a.at
  clear o6a d6a
  go_wp2_with fail
  refine (eqInt64SS_any v4 v6a G _ hlen'.out O4a.out.at p6a.out).mono ?_
  rintro e _ ⟨rfl, m6a, rfl⟩
  replace O3a := Lib.hid (O3a.out.drewN m6a)
  replace O4a := Lib.hid (O4a.out.drewN m6a)
  replace O5a := Lib.hid (O5a.out.drewN m6a)
  replace D5a := Lib.hid (belowN D5a.out m6a)
  clear p6a
  go_wp2_with fail
  refine (markInt64SS_any v4 G vs4 _ _ 1 _ hlen'.out (by omega) (by omega) O4a.out).mono ?_
  rintro e u7 ⟨rfl, o7, g7⟩
  replace O3a := Lib.hid (O3a.out.beside g7 (Or.inl (Nat.le_refl _)))
  replace O5a := Lib.hid (O5a.out.beside g7 (Or.inr (Nat.le_refl _)))

  replace D5a := Lib.hid (D5a.out.trans ((g7.below (Nat.le_trans s34.out O4a.out.hiW)).mono hx3.out))
  clear o7 g7 O4a
  have hL2 := hLn'.out
  go_wp2_with fail
  refine (eqInt64SS_any v5 v3 LL _ hLn'.out O5a.out.at O3a.out.at).mono ?_
  rintro e _ ⟨rfl, m8, rfl⟩
  replace O3a := Lib.hid (O3a.out.drewN m8)
  replace O5a := Lib.hid (O5a.out.drewN m8)
  replace D5a := Lib.hid (belowN D5a.out m8)
  go_wp2_with fail
  refine (markInt64SS_any v5 LL vs5 _ _ 1 _ hLn'.out (by omega) (by omega) O5a.out).mono ?_
  rintro e u9 ⟨rfl, o9, g9⟩
  have O9 := Lib.hid o9
  replace O3a := Lib.hid (O3a.out.beside g9 (Or.inl (s34.out)))
  replace D5a := Lib.hid (D5a.out.trans ((g9.below (Nat.le_trans s45.out O5a.out.hiW)).mono h45.out))
  clear o9 g9 O5a
  go_wp2_with fail
  refine (heldInt64SS_any v5 LL vs5 _ _ 1 _ hLn'.out (by omega) (by omega) O9.out).mono ?_
  rintro e _ ⟨rfl, m9, rfl⟩
  replace O9 := Lib.hid (O9.out.drewN m9)
  replace O3a := Lib.hid (O3a.out.drewN m9)
  replace D5a := Lib.hid (belowN D5a.out m9)
  go_wp2_with fail
  refine (toInt64SS_any a0 G _ hlen'.out (hG'.out.below D5a.out)).mono ?_
  rintro e u10 ⟨v10, vs10, rfl, o10, d10⟩
  replace O9 := Lib.hid (O9.out.kept d10)
  replace O3a := Lib.hid (O3a.out.kept d10)
  replace D5a := Lib.hid (D5a.out.trans (d10.mono D5a.out.size))
  have p10 := Lib.hid o10.at
  clear o10 d10
  go_wp2_with fail
  refine (ci'.out _ _ p10.out).mono ?_
  rintro e u11 ⟨v11, vs11, rfl, o11, d11⟩
  replace O9 := Lib.hid (O9.out.kept d11)
  replace O3a := Lib.hid (O3a.out.kept d11)
  replace D5a := Lib.hid (D5a.out.trans (d11.mono D5a.out.size))
  have O11 := Lib.hid o11
  clear o11 d11 p10 
  go_wp2_with fail
  refine (eqInt64SS_any v11 v3 LL _ hLn'.out O11.out.at O3a.out.at).mono ?_
  rintro e _ ⟨rfl, m12, rfl⟩
  replace O9 := Lib.hid (O9.out.drewN m12)
  clear O11 O3a
  go_wp2_with fail
  refine (heldInt64SS_any v5 LL vs5 _ _ 1 _ hLn'.out (by omega) (by omega) O9.out).mono ?_
  rintro e _ ⟨rfl, m13, rfl⟩
  have W14 := Lib.hid (belowN D5a.out (m12 + m13))
  clear O9 D5a
  go_wp2
  go_ret
  exact ⟨rfl, W14.out⟩


/-! ### THE ROW's STEP: WRITTEN OUT: LEAVE IT -/
set_option maxRecDepth 100000 in
theorem lifted (os : Os) (started : os.Started) (H : Type) (enc : TypeId × Value → H) :
    ReturnsInHanded {} Try.checked os 4 .any (Rows.fnExactHollowForSpec.pre6 enc Try.prog Try.f4 Rows.fnExactHollowForRow.domain false) (Rows.fnExactHollowForSpec.post enc Try.prog Try.f4 false true false false) := by
  refine returnsInHanded_of_change (C := Try.checked) own started (by kernel_rfl) Try.func4
    (ChangeSpec.witness6 (enc := enc) (C := Try.checked) false ⟨#[], #[.slice none 0 0, .int .i64 0], []⟩ 8 (by kernel_rfl) (by kernel_rfl) (by kernel_rfl) (by kernel_rfl)) ?_
  intro W base args ds gs before hval0 hW hcnd _
  have hval : ∀ (j : Nat) t v, Try.f4.params[j]? = some t → args[j]? = some v → Value.okWide Try.prog W .any base t v := hval0
  have hW' := hW
  obtain ⟨p, q, hA0, hV, rfl, hfz, hnd⟩ := hW
  have hA : DataW.TrodAll enc Try.prog W 0 (fun _ => true) true Try.f4.params.toList args.toList ds p := hA0
  rw [Try.params4] at hA hval
  obtain ⟨v0, vs0, d0, ds0, p0, q0, hargs, rfl, rfl, h0, r0⟩ := trodAll_cons hA
  obtain ⟨v1, vs1, d1, ds1, p1, q1, rfl, rfl, rfl, h1, r1⟩ := trodAll_cons r0
  obtain ⟨rfl, rfl, rfl⟩ := trodAll_nil r1
  obtain rfl : args = #[v0, v1] := by cases args; simp_all
  obtain ⟨rfl, rfl⟩ := trodVars_none hV
  have k0 := h0
  have lt0 : ∀ x ∈ p0, x.block < W.heap.size := by obtain ⟨m, hm⟩ := k0; exact DataW.trod_lt m _ _ _ hm
  have w0 : GridV W v0 := grid_open (hval 0 22 v0 rfl rfl) h0
  obtain ⟨a1, rfl, rfl, rfl, w1⟩ := open_int Try.underlying2 (hval 1 2 v1 rfl rfl) h1
  clear hA0 hval0
  refine (walk v0 a1 W w0 w1).mono fun e W' ⟨he, bel⟩ => ?_
  subst he
  exact ⟨_, rfl, _, _, _, [], _, [], hW', trodAll_mk1 (shut_bool Try.underlying4 _), (trodAll_cons_mk (Below.trod laidOut (by kernel_rfl) (of_decide_eq_true (by kernel_rfl)) k0 bel lt0) (trodAll_cons_mk (shut_int Try.underlying2 w1) trodAll_mk0)), rfl, bel.frame _, fun h => by cases h⟩

theorem over : Rows.fnExactHollowForRow.holds Try.pinned (OpenSpec.ofChange Rows.fnExactHollowForSpec) :=
  OpenClaim.holds_of_wide 4 Try.f4 rfl rfl rfl rfl rfl rfl rfl ⟨rfl, rfl, rfl, rfl, rfl⟩ rfl rfl rfl rfl rfl (by kernel_rfl) Try.func4 (by kernel_rfl)
    (of_decide_eq_true (by kernel_rfl)) (by unfold Func.isWrapper; first | (rw [if_pos (by decide +kernel)]; kernel_rfl) | (rw [if_neg (by decide +kernel)]; exact ⟨rfl, rfl⟩))
    (fun os started H enc _ => lifted os started H enc)

/-- ████ THE STATEMENT ████ -/
theorem proved : Rows.FnExactHollowForSaid := over
#print axioms proved
end Go.Proofs.Ytagjpldfafablaa.fnExactHollowFor
