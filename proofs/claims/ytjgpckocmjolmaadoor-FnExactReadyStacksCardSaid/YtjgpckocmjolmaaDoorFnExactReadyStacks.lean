/-
  The law FnExactReadyStacks holds for every input: the function answers as its model; the listed package-level variables are tied to the program's text.
-/
import Derived.Test.YtjgpckocmjolmaaDoorRdy2
import Derived.Test.YtjgpckocmjolmaaDoorStksM
import Derived.Test.YtjgpckocmjolmaaDoorStks3
import Derived.Test.YtjgpckocmjolmaaDoorCards
import Derived.Test.YtjgpckocmjolmaaDoorTie
import Derived.Lib.Hide
import Derived.WalkKit
import Derived.ProofKit
import Derived.OpenShut
import Derived.ShutString
import Derived.ChangeOld
import Derived.Below
import Derived.Deep.DeepHandedRow
import Derived.Deep.DeepWitnessRowRef
import Derived.Lib.LaidIn
import Derived.Lib.LaidTab
import Derived.SevenTiedAt
import Derived.OpenVars
import Derived.ChangeVars
namespace Go.Proofs.YtjgpckocmjolmaaDoor.fnExactReadyStacks
open Go.ChangeShapes Go.WideShapes Go.ChangeAt Go.RowKit
open Go.ChangeMaps (open_string shut_string)
set_option linter.unusedVariables false
set_option linter.unusedSimpArgs false

theorem own : ownKnob Tryd.prog.godebug = none := by kernel_rfl
theorem laidOut : laidOutB Tryd.prog = true := by kernel_rfl
/-- WHAT THE WALK IS TOLD OF A SLICE OF INTEGERS THAT CAME IN: it is nil; or it leads to a row of 'cap' cells, the numbers 'zs' (the first 'len' are its elements, the rest its spare room), each fitting its kind. -/
def IsRow (k : IntKind) (w : World) (a : Option Addr) (len cap : Nat) (zs : List Int) : Prop :=
  (a = none ∧ len = 0 ∧ cap = 0 ∧ zs = []) ∨
  ∃ x, a = some x ∧ len ≤ cap ∧ cap ≤ maxLen ∧ zs.length = cap ∧ (∀ i, i < zs.length → w.cell? (x.add i) = some (.int k (zs.getD i 0))) ∧ ∀ n ∈ zs, (Lit.int k n).wf = true

set_option maxRecDepth 1000000 in
set_option maxHeartbeats 3200000 in
theorem walk (a0 : Value) (a1 : Int) (a2 : Int) (a3 : Int) (w : World) (w0 : StksV w a0) (w1 : (Lit.int .i64 a1).wf = true) (w2 : (Lit.int .i64 a2).wf = true) (w3 : (Lit.int .i64 a3).wf = true) (hE : EvP w) :
    Calls Tryd.prog 3 #[a0, .int .i64 a1, .int .i64 a2, .int .i64 a3] w fun e w' => e = .returned (.bool true) ∧ Below w.heap.size w w' := by
  obtain ⟨Z, hZ, hZl⟩ := w0
  have hZ' := Lib.hid hZ
  have hE' := Lib.hid hE
  clear hZ hE
  go_enter Tryd.func3, Tryd.ntmps3
  go_wp2_with fail
  refine (szStackS_any a0 Z _ hZl hZ'.out).mono ?_
  rintro e u1 ⟨n, rfl, hn0, hn1, hn2, d1⟩
  by_cases hneg : n < 0
  · go_wp2
    go_ret
    exact ⟨rfl, d1⟩
  obtain ⟨hlen, hids⟩ := hn2 (by omega)
  have hlen' := Lib.hid hlen
  obtain ⟨hin, hl12⟩ := rdyV_in (Z := Z) (h := a1) (d := a2) (g := a3)
  have cs := fun W V (h : StksAt W V Z) => specReadyStacks_any V Z a1 a2 a3 W hlen h
  have ci := fun W V (h : StksAt W V Z) (hw : EvP W) => implReadyStacks_any V Z a1 a2 a3 W hw hlen h
  obtain ⟨LL, hLL⟩ : ∃ LL, LL = rdyV Z a1 a2 a3 := ⟨_, rfl⟩
  obtain ⟨cc, hcc⟩ : ∃ cc, cc = rdyC Z a1 a2 a3 := ⟨_, rfl⟩
  rw [← hLL, ← hcc] at cs ci
  rw [← hLL] at hin hl12
  have cs' := Lib.hid cs
  have ci' := Lib.hid ci
  have hin' := Lib.hid hin
  clear hids hZl cs ci hLL hcc hin hlen
  go_wp2_with fail
  refine (toStackS_any a0 Z _ hlen'.out (hZ'.out.below d1)).mono ?_
  rintro e u2 ⟨v2, rfl, p2, d2⟩
  have D2 := d1.trans (d2.mono d1.size)
  go_wp2_with fail
  refine (cs'.out _ _ p2).mono ?_
  rintro e u3 ⟨v3, rfl, o3, d3⟩
  have D3 := D2.trans (d3.mono D2.size)
  clear d1 d2 d3 D2 p2
  go_wp2_with fail
  refine (toStackS_new a0 Z _ hlen'.out (hZ'.out.below D3)).mono ?_
  rintro e u4 ⟨rfl, p4, th4, lt4, d4⟩
  have o34 := own_kept o3 d4
  have ap3x : v3.ownBlock = none ∨ v3.ownBlock ≠ some u3.heap.size := Or.inr (fun h => by have := (o3.lt _ h).2; omega)
  have hx3 : w.heap.size ≤ u3.heap.size := D3.size
  have D4 := D3.trans (d4.mono D3.size)
  clear d4 D3 o3
  go_wp2_with fail
  refine (ci'.out _ _ p4 (hE'.out.below D4)).mono ?_
  rintro e u5 ⟨v5, rfl, o5, d5⟩
  have o35 := own_kept o34 d5
  have ap35 := own_apart o34 o5
  have ap5x : v5.ownBlock = none ∨ v5.ownBlock ≠ some u3.heap.size := Or.inr (fun h => by have := (o5.lt _ h).1; omega)
  have ge5 : ∀ k, v5.ownBlock = some k → w.heap.size ≤ k := fun k hk => Nat.le_trans D4.size (o5.lt k hk).1
  have G5 := Lib.hid ge5
  have D5 := D4.trans (d5.mono D4.size)
  have p5 := p4.below d5
  have r5 := Lib.hid (ints_own o5 hin'.out)
  have r3 := Lib.hid (ints_own o35 hin'.out)
  clear D4 o34 ge5 p4
  go_wp2_with fail
  refine (eqInt64S_any v5 v3 LL _ (by omega) r5.out r3.out).mono ?_
  rintro e _ ⟨rfl, m1, rfl⟩
  clear r5 r3
  go_wp2_with fail
  refine (toStackS_any a0 Z _ hlen'.out (hZ'.out.below (belowN D5 m1))).mono ?_
  rintro e u6 ⟨v6, rfl, p6, d6⟩
  have E5 := belowN d5 m1
  have E6 := E5.trans (d6.mono E5.size)
  have p56 := (p5.below (belowN (Below.refl _ _) m1)).below d6
  have o36 := own_kept (w := u5.drewN m1) o35 d6
  have o56 := own_kept (w := u5.drewN m1) o5 d6
  have D6 := (belowN D5 m1).trans (d6.mono (belowN D5 m1).size)
  clear d5 d6 D5 E5 p5 o35 o5
  go_wp2_with fail
  refine (eqStackS_any _ v6 Z _ hlen'.out p56 p6).mono ?_
  rintro e u7 ⟨rfl, d7⟩
  have E7 := E6.trans (d7.mono E6.size)
  have th7 := there_below th4 lt4 E7
  have lt7 := Nat.lt_of_lt_of_le lt4 E7.size
  have o37 := own_kept o36 d7
  have o57 := own_kept o56 d7
  have D7 := D6.trans (d7.mono D6.size)
  clear d7 D6 E6 E7 p56 p6 o36 o56 th4 lt4
  have hlen2 := hlen'.out
  go_wp2_with fail
  refine (markStackS_any u3.heap.size Z.length Z.length 1 u7 (by omega) (by omega) (by omega) lt7 th7).mono ?_
  rintro e u8 ⟨rfl, g8⟩
  have o38 := o37.kept (w' := u8) ⟨g8.os, g8.tape, g8.output, g8.size, g8.block⟩ ap3x
  have o58 := o57.kept (w' := u8) ⟨g8.os, g8.tape, g8.output, g8.size, g8.block⟩ ap5x
  have D8 := Lib.hid (D7.grown g8 D7.size (fun k hk => by cases hk; exact hx3))
  have r5 := Lib.hid (ints_own o58 hin'.out)
  have r3 := Lib.hid (ints_own o38 hin'.out)
  clear o37 o57 g8 D7 ap3x ap5x hx3 th7 lt7
  go_wp2_with fail
  refine (eqInt64S_any v5 v3 LL _ (by omega) r5.out r3.out).mono ?_
  rintro e _ ⟨rfl, m2, rfl⟩
  clear r5 r3
  go_wp2_with fail
  refine (markInt64S_row v5 1 _ LL (u8.drewN m2) (by omega) (by omega) (by omega) o58).mono ?_
  rintro e u9 ⟨rfl, o59, g9⟩
  have o39 := o38.kept (w' := u9) ⟨g9.os, g9.tape, g9.output, g9.size, g9.block⟩ ap35
  have D9 := Lib.hid ((belowN D8.out m2).grown g9 (belowN D8.out m2).size G5.out)
  clear o38 o58 g9 ap35
  go_wp2_with fail
  refine (heldInt64S_row v5 LL.length 1 _ u9 (by omega) (by omega) (by omega) o59).mono ?_
  rintro e _ ⟨rfl, m3, rfl⟩
  go_wp2_with fail
  refine (toStackS_any a0 Z _ hlen'.out (hZ'.out.below (belowN D9.out m3))).mono ?_
  rintro e u10 ⟨v10, rfl, p10, d10⟩
  have D10 := Lib.hid ((belowN D9.out m3).trans (d10.mono (belowN D9.out m3).size))
  have o510 := own_kept (w := u9.drewN m3) o59 d10
  have o310 := own_kept (w := u9.drewN m3) o39 d10
  clear d10 o59 o39
  go_wp2_with fail
  refine (ci'.out _ _ p10 (hE'.out.below D10.out)).mono ?_
  rintro e u11 ⟨v11, rfl, o11, d11⟩
  have D11 := Lib.hid (D10.out.trans (d11.mono D10.out.size))
  have o511 := own_kept o510 d11
  have o311 := own_kept o310 d11
  have r11 := Lib.hid (ints_own o11 hin'.out)
  have r3 := Lib.hid (ints_own o311 hin'.out)
  clear d11 o510 o310 o11 p10
  go_wp2_with fail
  refine (eqInt64S_any v11 v3 LL _ (by omega) r11.out r3.out).mono ?_
  rintro e _ ⟨rfl, m4, rfl⟩
  clear r11 r3
  go_wp2_with fail
  refine (heldInt64S_row v5 LL.length 1 _ (u11.drewN m4) (by omega) (by omega) (by omega) o511).mono ?_
  rintro e _ ⟨rfl, m5, rfl⟩
  have W14 := belowN D11.out (m4 + m5)
  clear o511 o311
  go_wp2
  go_ret
  exact ⟨rfl, W14⟩

/-- A world for the witness: the settled one, the listed variables holding what their initialisers lay. -/
noncomputable def laidWorld (os : Os) : World :=
  let N := (World.settled Tryd.prog os).heap.size
  let w0 := World.holding Tryd.prog os ⟨#[], #[], []⟩
  let put (h : Array Obj) (g : Nat) (cs : Array Value) : Array Obj := h.modify g fun
    | .cells _ t frozen => .cells cs t frozen
    | o => o
  let h0 := put w0.heap 0 #[.int .i64 0, .int .i64 0, .int .i64 300, .int .i64 60, .int .i64 600, .int .i64 110, .int .i64 800, .int .i64 160, .int .i64 1000, .int .i64 280]
  { w0 with heap := h0 }
theorem laid_met (os : Os) : laidMet Tryd.prog Rows.fnExactReadyStacksRow.laid ((laidWorld os).forCall (fun _ _ => 0) ⟨#[], #[.slice none 0 0, .int .i64 0, .int .i64 0, .int .i64 0], []⟩).memory :=
  laidMet_of_run' 8 (by kernel_rfl) (by kernel_rfl)
theorem reads (os : Os) {H : Type} (enc : TypeId × Value → H) : ∃ places, DataW.whole enc Tryd.prog ((laidWorld os).forCall (fun _ _ => 0) ⟨#[], #[.slice none 0 0, .int .i64 0, .int .i64 0, .int .i64 0], []⟩).memory Tryd.f3.params.toList Rows.fnExactReadyStacksSpec.vars false (#[.slice none 0 0, .int .i64 0, .int .i64 0, .int .i64 0] : Array Value).toList 8 = some ([.nil, .lit (.int .i64 0), .lit (.int .i64 0), .lit (.int .i64 0)], [Rows.laid_loop_example_g01061_impl_evenPoints], places) :=
  ⟨MemPlace.row ⟨0, 0, none⟩ 10, by kernel_rfl⟩
set_option maxRecDepth 100000 in
theorem lifted (os : Os) (started : os.Started) (H : Type) (enc : TypeId × Value → H) (F : Stop.Interp) :
    ReturnsInHanded {} Tryd.checked os 3 .any ((OpenSpec.ofChange Rows.fnExactReadyStacksSpec).preRow enc Tryd.prog Tryd.f3 Rows.fnExactReadyStacksRow.domain false Rows.fnExactReadyStacksRow.laid) (((OpenSpec.ofChange Rows.fnExactReadyStacksSpec).at F).post enc Tryd.prog Tryd.f3 false true false false) := by
  obtain ⟨places, hx⟩ := reads os enc
  refine returnsInHanded_of_row (C := Tryd.checked) (s := (OpenSpec.ofChange Rows.fnExactReadyStacksSpec)) own started (by kernel_rfl) Tryd.func3
    (witness_row_at (enc := enc) (C := Tryd.checked) false (laidWorld os) #[.slice none 0 0, .int .i64 0, .int .i64 0, .int .i64 0] rfl (by kernel_rfl) (by kernel_rfl) (by kernel_rfl)
      (OpenSpec.preRow_of_cond 8 hx (by kernel_rfl) (fun k hk => by cases hk) (by kernel_rfl) (laid_met os))) ?_
  intro W base args ds gs before hval0 hW hcnd hcond _ hL0 hShape _
  have hL : laidMet Tryd.prog Rows.fnExactReadyStacksRow.laid W := hL0
  have hval : ∀ (j : Nat) t v, Tryd.f3.params[j]? = some t → args[j]? = some v → Value.okWide Tryd.prog W .any base t v := hval0
  have hW' := hW
  obtain ⟨p, q, hA0, hV, rfl, hfz, hnd⟩ := hW
  have hA : DataW.TrodAll enc Tryd.prog W 0 (fun _ => true) true Tryd.f3.params.toList args.toList ds p := hA0
  rw [Tryd.params3] at hA hval
  obtain ⟨v0, vs0, d0, ds0, p0, q0, hargs, rfl, rfl, h0, r0⟩ := trodAll_cons hA
  obtain ⟨v1, vs1, d1, ds1, p1, q1, rfl, rfl, rfl, h1, r1⟩ := trodAll_cons r0
  obtain ⟨v2, vs2, d2, ds2, p2, q2, rfl, rfl, rfl, h2, r2⟩ := trodAll_cons r1
  obtain ⟨v3, vs3, d3, ds3, p3, q3, rfl, rfl, rfl, h3, r3⟩ := trodAll_cons r2
  obtain ⟨rfl, rfl, rfl⟩ := trodAll_nil r3
  obtain rfl : args = #[v0, v1, v2, v3] := by cases args; simp_all
  have hV2 := hV
  obtain ⟨_, _, _, _, dv, _, rfl, _⟩ := trodVars_one hV2
  have k0 := h0
  have lt0 : ∀ x ∈ p0, x.block < W.heap.size := by obtain ⟨m, hm⟩ := k0; exact DataW.trod_lt m _ _ _ hm
  have w0 : StksV W v0 := stks_open (hval 0 22 v0 rfl rfl) h0
  obtain ⟨a1, rfl, rfl, rfl, w1⟩ := open_int Tryd.underlying2 (hval 1 2 v1 rfl rfl) h1
  obtain ⟨a2, rfl, rfl, rfl, w2⟩ := open_int Tryd.underlying2 (hval 2 2 v2 rfl rfl) h2
  obtain ⟨a3, rfl, rfl, rfl, w3⟩ := open_int Tryd.underlying2 (hval 3 2 v3 rfl rfl) h3
  clear hA0 hval0
  refine (walk v0 a1 a2 a3 W w0 w1 w2 w3 (evP_head hL)).mono fun e W' ⟨he, bel⟩ => ?_
  subst he
  exact ⟨_, rfl, _, _, _, [], _, _, hW', trodAll_mk1 (shut_bool Tryd.underlying4 _), (trodAll_cons_mk (Below.trod laidOut (by kernel_rfl) (of_decide_eq_true (by kernel_rfl)) k0 bel lt0) (trodAll_cons_mk (shut_int Tryd.underlying2 w1) (trodAll_cons_mk (shut_int Tryd.underlying2 w2) (trodAll_cons_mk (shut_int Tryd.underlying2 w3) trodAll_mk0)))), Below.trodVars laidOut bel (by kernel_rfl) hV, bel.frame _, fun h => by cases h⟩

theorem said : Rows.FnExactReadyStacksSaid :=
  OpenClaim.holds_of_cond 3 Tryd.f3 rfl rfl rfl rfl rfl rfl rfl ⟨rfl, rfl, rfl, rfl, rfl⟩ rfl rfl rfl rfl rfl (by kernel_rfl) Tryd.func3 (by kernel_rfl)
    (of_decide_eq_true (by kernel_rfl)) (by unfold Func.isWrapper; first | (rw [if_pos (by decide +kernel)]; kernel_rfl) | (rw [if_neg (by decide +kernel)]; exact ⟨rfl, rfl⟩))
    (fun os started H enc _ F => by rw [OpenClaim.pre_eq_preRow]; exact lifted os started H enc F)

theorem plain (f : FuncId) (fn : Func) (hf : Tryd.pinned.checked.prog.funcNamed "loop.example/g01061/laws.FnExactReadyStacks" = some f) (hfn : Tryd.pinned.checked.prog.funcs[f]? = some fn) :
    false = Tryd.pinned.checked.prog.looks [] ∧ ∀ (j : Nat) t, fn.params[j]? = some t → Tryd.pinned.checked.prog.wantsStandIn t = false := by
  obtain rfl : f = 3 := Option.some.inj ((show Tryd.prog.funcNamed "loop.example/g01061/laws.FnExactReadyStacks" = some 3 by kernel_rfl).symm.trans hf) |>.symm
  obtain rfl : fn = Tryd.f3 := (Option.some.inj (Tryd.func3.symm.trans hfn)).symm
  refine ⟨by kernel_rfl, fun j t ht => ?_⟩
  rw [Tryd.params3] at ht
  have hm := Array.mem_of_getElem? ht
  simp only [List.mem_toArray, List.mem_cons, List.mem_nil_iff, or_false] at hm
  rcases hm with rfl | rfl | rfl | rfl
  · exact (show Tryd.prog.wantsStandIn 22 = false by kernel_rfl)
  · exact (show Tryd.prog.wantsStandIn 2 = false by kernel_rfl)
  · exact (show Tryd.prog.wantsStandIn 2 = false by kernel_rfl)
  · exact (show Tryd.prog.wantsStandIn 2 = false by kernel_rfl)

/-- the statement -/
theorem proved : Rows.FnExactReadyStacksCardSaid :=
  Claim7.holds_tied_plain_at .later [] _ _ _ _ said (fun _ h => by cases h) (by kernel_rfl) (fun _ h => by cases h) fnExactReadyStacks_row_tie rfl ⟨rfl, rfl⟩ (by kernel_rfl) rfl plain (by kernel_rfl)
#print axioms proved
end Go.Proofs.YtjgpckocmjolmaaDoor.fnExactReadyStacks
