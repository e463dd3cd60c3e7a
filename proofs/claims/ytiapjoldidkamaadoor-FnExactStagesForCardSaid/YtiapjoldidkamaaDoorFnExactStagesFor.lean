/-
  The law FnExactStagesFor holds for every input: the function answers as its model; the listed package-level variables are tied to the program's text.
-/
import Derived.Test.YtiapjoldidkamaaDoorStg2
import Derived.Test.YtiapjoldidkamaaDoorCards
import Derived.Test.YtiapjoldidkamaaDoorTie
import Derived.Lib.Hide
import Derived.WalkKit
import Derived.ProofKit
import Derived.OpenShut
import Derived.ShutString
import Derived.ChangeOld
import Derived.Below
import Derived.Deep.DeepHandedRow
import Derived.Deep.DeepWitnessRowRef
import Derived.Lib.LaidIn
import Derived.Lib.LaidTab
import Derived.SevenTiedAt
import Derived.OpenVars
import Derived.ChangeVars
namespace Go.Proofs.YtiapjoldidkamaaDoor.fnExactStagesFor
open Go.ChangeShapes Go.WideShapes Go.ChangeAt Go.RowKit
open Go.ChangeMaps (open_string shut_string)
set_option linter.unusedVariables false
set_option linter.unusedSimpArgs false

theorem own : ownKnob Tryd.prog.godebug = none := by kernel_rfl
theorem laidOut : laidOutB Tryd.prog = true := by kernel_rfl
/-- WHAT THE WALK IS TOLD OF A SLICE OF INTEGERS THAT CAME IN: it is nil; or it leads to a row of 'cap' cells, the numbers 'zs' (the first 'len' are its elements, the rest its spare room), each fitting its kind. -/
def IsRow (k : IntKind) (w : World) (a : Option Addr) (len cap : Nat) (zs : List Int) : Prop :=
  (a = none ∧ len = 0 ∧ cap = 0 ∧ zs = []) ∨
  ∃ x, a = some x ∧ len ≤ cap ∧ cap ≤ maxLen ∧ zs.length = cap ∧ (∀ i, i < zs.length → w.cell? (x.add i) = some (.int k (zs.getD i 0))) ∧ ∀ n ∈ zs, (Lit.int k n).wf = true

theorem own_apart2 {w w' : World} {B e size n m : Nat} {v u : Value} {xs ys : List Value} (h : w.ownsRow B e size v n xs) (k : w'.ownsRow w.heap.size e size u m ys) : u.ownBlock = none ∨ u.ownBlock ≠ v.ownBlock := by
  rcases own_apart h k with h1 | h1
  · cases e1 : u.ownBlock with
    | none => exact Or.inl rfl
    | some a => right; rw [h1]; exact fun h => by cases h
  · exact Or.inr (fun h => h1 h.symm)

set_option maxRecDepth 1000000 in
set_option maxHeartbeats 1600000 in
theorem walk (a0 : Value) (a1 : Option Addr) (len1 cap1 : Nat) (z1 : List Int) (a2 : Int) (w : World) (w0 : StkV w a0) (w1 : IsRow .i64 w a1 len1 cap1 z1) (w2 : (Lit.int .i64 a2).wf = true) (hE : EvP w) :
    Calls Tryd.prog 10 #[a0, .slice a1 len1 cap1, .int .i64 a2] w fun e w' => e = .returned (.bool true) ∧ Below w.heap.size w w' := by
  obtain ⟨s0, a0', b0', c0', rfl, hs0⟩ := w0
  obtain ⟨Z, hZ, hlen⟩ := ints_in w1
  by_cases hL : len1 ≤ 1048576
  rotate_left
  · clear hZ w1
    go_enter Tryd.func10, Tryd.ntmps10
    go_wp2
    go_ret
    exact ⟨rfl, ((Below.refl _ _).alloc (Nat.le_refl _) _)⟩
  have hZ1 : Z.length ≤ 1048576 := by omega
  by_cases hL0 : (s0.size : Int) ≤ 1048576
  rotate_left
  · clear hZ w1
    go_enter Tryd.func10, Tryd.ntmps10
    go_wp2_with fail
    refine (szStack_no _ _ _ _ _ (by omega) (by omega) hs0 (by omega) _).mono ?_
    rintro e u1 ⟨rfl, b1⟩
    have C1 := bcell b1
    go_wp2
    go_ret
    exact ⟨rfl, ((Below.refl _ _).alloc (Nat.le_refl _) _).trans (b1.mono (by simp <;> omega))⟩
  have hzz : ∀ n ∈ Z, inI n := by obtain ⟨_, _, _, _, h, _⟩ := hZ; exact h
  have hzz' := Lib.hid hzz
  obtain ⟨hin, hl12⟩ := stgV_in (x := ⟨s0, a0', b0', c0'⟩) (Z := Z) (d := a2)
  have cs := fun W V (h : IntsAt W V Z) => specStagesFor_any s0 a0' b0' c0' V Z a2 hs0 W hZ1 h
  have ci := fun W V (h : IntsAt W V Z) (hw : EvP W) => implStagesFor_any s0 a0' b0' c0' V Z a2 hs0 W hw hZ1 h
  obtain ⟨LL, hLL⟩ : ∃ LL, LL = stgV ⟨s0, a0', b0', c0'⟩ Z a2 := ⟨_, rfl⟩
  obtain ⟨cc, hcc⟩ : ∃ cc, cc = stgC ⟨s0, a0', b0', c0'⟩ Z a2 := ⟨_, rfl⟩
  rw [← hLL, ← hcc] at cs ci
  rw [← hLL] at hin hl12
  have cs' := Lib.hid cs
  have ci' := Lib.hid ci
  have hin' := Lib.hid hin
  have hZ' := Lib.hid hZ
  have hA : Below w.heap.size w (w.alloc (.cells #[.string s0, .int .i64 a0', .int .i64 b0', .int .i64 c0'] 26)) := ((Below.refl _ _).alloc (Nat.le_refl _) _)
  have hA' := Lib.hid hA
  have hE' := Lib.hid hE
  clear cs ci hLL hcc hin hzz w1 hZ hA hE
  go_enter Tryd.func10, Tryd.ntmps10
  go_wp2_with fail
  refine (szStack_yes _ _ _ _ _ (by omega) (by omega) (by omega) _).mono ?_
  rintro e u1 ⟨rfl, b1⟩
  have B1 := b1
  have C1 := bcell B1
  clear b1
  go_wp2_with fail
  refine (toStack_any _ _ _ _ _).mono ?_
  rintro e u2 ⟨rfl, b2⟩
  have B2 := B1.trans (b2.mono B1.size)
  have C2 := bcell B2
  clear b2 B1
  go_wp2_with fail
  refine (toInt64S_any _ Z _ hZ1 (hZ'.out.below (hA'.out.trans (B2.mono hA'.out.size)))).mono ?_
  rintro e u3 ⟨v3, rfl, o3, b3⟩
  have B3 := B2.trans (b3.mono B2.size)
  have C3 := bcell B3
  have r3 := Lib.hid (ints_own o3 hzz'.out)
  clear b3 B2 o3
  go_wp2_with fail
  refine (cs'.out _ _ r3.out).mono ?_
  rintro e u4 ⟨v4, rfl, o4, b4⟩
  have B4 := B3.trans (b4.mono B3.size)
  have C4 := bcell B4
  clear b4 B3 r3
  go_wp2_with fail
  refine (toInt64S_any _ Z _ hZ1 (hZ'.out.below (hA'.out.trans (B4.mono hA'.out.size)))).mono ?_
  rintro e u5 ⟨v5, rfl, o5, b5⟩
  have o45 := own_kept o4 b5
  have ap45 := own_apart o4 o5
  have B5 := B4.trans (b5.mono B4.size)
  have C5 := bcell B5
  have ge5 : ∀ k, v5.ownBlock = some k → w.heap.size + 1 ≤ k := fun k hk => Nat.le_trans (by have h := B4.size; rw [World.size_alloc] at h; exact h) (o5.lt k hk).1
  have G5 := Lib.hid ge5
  clear b5 B4 o4 ge5
  go_wp2_with fail
  refine (toStack_any _ _ _ _ _).mono ?_
  rintro e u6 ⟨rfl, b6⟩
  have o46 := own_kept o45 b6
  have o56 := own_kept o5 b6
  have B6 := B5.trans (b6.mono B5.size)
  have C6 := bcell B6
  have r6 := Lib.hid (ints_own o56 hzz'.out)
  clear b6 B5 o45 o5
  go_wp2_with fail
  refine (ci'.out _ _ r6.out (hE'.out.below (hA'.out.trans (B6.mono hA'.out.size)))).mono ?_
  rintro e u7 ⟨v7, rfl, o7, b7⟩
  have o47 := own_kept o46 b7
  have o57 := own_kept o56 b7
  have ap47 := own_apart o46 o7
  have ap75 := own_apart2 o56 o7
  have B7 := B6.trans (b7.mono B6.size)
  have C7 := bcell B7
  have ge7 : ∀ k, v7.ownBlock = some k → w.heap.size + 1 ≤ k := fun k hk => Nat.le_trans (by have h := B6.size; rw [World.size_alloc] at h; exact h) (o7.lt k hk).1
  have G7 := Lib.hid ge7
  have r7 := Lib.hid (ints_own o7 hin'.out)
  have r4 := Lib.hid (ints_own o47 hin'.out)
  clear b7 B6 o46 o56 r6 ge7
  go_wp2_with fail
  refine (eqInt64S_any v7 v4 LL _ (by omega) r7.out r4.out).mono ?_
  rintro e _ ⟨rfl, m1, rfl⟩
  clear r7 r4
  go_wp2_with fail
  refine (toInt64S_any _ Z _ hZ1 (hZ'.out.below (hA'.out.trans ((belowN B7 m1).mono hA'.out.size)))).mono ?_
  rintro e u8 ⟨v8, rfl, o8, b8⟩
  have o48 := own_kept (w := u7.drewN m1) o47 b8
  have o58 := own_kept (w := u7.drewN m1) o57 b8
  have o78 := own_kept (w := u7.drewN m1) o7 b8
  have B8 := (belowN B7 m1).trans (b8.mono (belowN B7 m1).size)
  have C8 := bcell B8
  have r5 := Lib.hid (ints_own o58 hzz'.out)
  have r8 := Lib.hid (ints_own o8 hzz'.out)
  clear b8 B7 o47 o57 o7 o8
  go_wp2_with fail
  refine (eqInt64S_any v5 v8 Z _ (by omega) r5.out r8.out).mono ?_
  rintro e _ ⟨rfl, m2, rfl⟩
  clear r5 r8
  go_wp2_with fail
  refine (markInt64S_row v5 1 _ Z (u8.drewN m2) (by omega) (by omega) (by omega) o58).mono ?_
  rintro e u9 ⟨rfl, o59, g9⟩
  have o49 := o48.kept (w' := u9) ⟨g9.os, g9.tape, g9.output, g9.size, g9.block⟩ ap45
  have o79 := o78.kept (w' := u9) ⟨g9.os, g9.tape, g9.output, g9.size, g9.block⟩ ap75
  have W8 := hA'.out.trans ((belowN B8 m2).mono hA'.out.size)
  have W9 := Lib.hid (W8.grown g9 W8.size (fun k hk => Nat.le_trans (Nat.le_succ _) (G5.out k hk)))
  have c8 : Below (w.heap.size + 1) (w.alloc (.cells #[.string s0, .int .i64 a0', .int .i64 b0', .int .i64 c0'] 26)) (u8.drewN m2) := (belowN B8 m2).mono (Nat.le_of_eq (World.size_alloc _ _).symm)
  have z8 : w.heap.size + 1 ≤ (u8.drewN m2).heap.size := by have h := B8.size; rw [World.size_alloc] at h; exact h
  have c9 := c8.grown g9 z8 G5.out
  have C9 : ∀ o, u9.cell? ⟨w.heap.size, o, none⟩ = (w.alloc (.cells #[.string s0, .int .i64 a0', .int .i64 b0', .int .i64 c0'] 26)).cell? ⟨w.heap.size, o, none⟩ := fun o => c9.cell (p := ⟨w.heap.size, o, none⟩) (Nat.lt_succ_self _)
  have r7 := Lib.hid (ints_own o79 hin'.out)
  have r4 := Lib.hid (ints_own o49 hin'.out)
  have c9' := Lib.hid c9
  have C9' : u9.heap.size = u9.heap.size := rfl
  clear o48 o78 o58 o59 g9 W8 B8 ap45 ap75 c8 c9 z8 C9' C1 C2 C3 C4 C5 C6 C7 C8
  go_wp2_with fail
  refine (eqInt64S_any v7 v4 LL _ (by omega) r7.out r4.out).mono ?_
  rintro e _ ⟨rfl, m3, rfl⟩
  clear r7 r4
  go_wp2_with fail
  refine (markInt64S_row v7 1 _ LL (u9.drewN m3) (by omega) (by omega) (by omega) o79).mono ?_
  rintro e u10 ⟨rfl, o710, g10⟩
  have o410 := o49.kept (w' := u10) ⟨g10.os, g10.tape, g10.output, g10.size, g10.block⟩ ap47
  have W10 := Lib.hid ((belowN W9.out m3).grown g10 (belowN W9.out m3).size (fun k hk => Nat.le_trans (Nat.le_succ _) (G7.out k hk)))
  have c10 := (belowN c9'.out m3).grown g10 (by have h := c9'.out.size; rw [World.size_alloc] at h; exact h) G7.out
  have C10 : ∀ o, u10.cell? ⟨w.heap.size, o, none⟩ = (w.alloc (.cells #[.string s0, .int .i64 a0', .int .i64 b0', .int .i64 c0'] 26)).cell? ⟨w.heap.size, o, none⟩ := fun o => c10.cell (p := ⟨w.heap.size, o, none⟩) (Nat.lt_succ_self _)
  clear o49 o79 g10 ap47 C9 c9' c10
  go_wp2_with fail
  refine (heldInt64S_row v7 LL.length 1 _ u10 (by omega) (by omega) (by omega) o710).mono ?_
  rintro e _ ⟨rfl, m4, rfl⟩
  go_wp2_with fail
  refine (toStack_any _ _ _ _ _).mono ?_
  rintro e u11 ⟨rfl, b11⟩
  have W11 := Lib.hid ((belowN W10.out m4).trans (b11.mono (belowN W10.out m4).size))
  have o711 := own_kept (w := u10.drewN m4) o710 b11
  have o411 := own_kept (w := u10.drewN m4) o410 b11
  clear b11 o710 o410
  go_wp2_with fail
  refine (toInt64S_any _ Z _ hZ1 (hZ'.out.below W11.out)).mono ?_
  rintro e u12 ⟨v12, rfl, o12, b12⟩
  have W12 := Lib.hid (W11.out.trans (b12.mono W11.out.size))
  have o712 := own_kept o711 b12
  have o412 := own_kept o411 b12
  have r12 := Lib.hid (ints_own o12 hzz'.out)
  clear b12 o711 o411 o12
  go_wp2_with fail
  refine (ci'.out _ _ r12.out (hE'.out.below W12.out)).mono ?_
  rintro e u13 ⟨v13, rfl, o13, b13⟩
  have W13 := Lib.hid (W12.out.trans (b13.mono W12.out.size))
  have o713 := own_kept o712 b13
  have o413 := own_kept o412 b13
  have r13 := Lib.hid (ints_own o13 hin'.out)
  have r4 := Lib.hid (ints_own o413 hin'.out)
  clear b13 o712 o412 o13 r12
  go_wp2_with fail
  refine (eqInt64S_any v13 v4 LL _ (by omega) r13.out r4.out).mono ?_
  rintro e _ ⟨rfl, m5, rfl⟩
  clear r13 r4
  go_wp2_with fail
  refine (heldInt64S_row v7 LL.length 1 _ (u13.drewN m5) (by omega) (by omega) (by omega) o713).mono ?_
  rintro e _ ⟨rfl, m6, rfl⟩
  have W14 := belowN W13.out (m5 + m6)
  clear o713 o413
  go_wp2
  go_ret
  exact ⟨rfl, W14⟩

/-- A world for the witness: the settled one, the listed variables holding what their initialisers lay. -/
noncomputable def laidWorld (os : Os) : World :=
  let N := (World.settled Tryd.prog os).heap.size
  let w0 := World.holding Tryd.prog os ⟨#[], #[], []⟩
  let put (h : Array Obj) (g : Nat) (cs : Array Value) : Array Obj := h.modify g fun
    | .cells _ t frozen => .cells cs t frozen
    | o => o
  let h0 := put w0.heap 0 #[.int .i64 0, .int .i64 0, .int .i64 300, .int .i64 60, .int .i64 600, .int .i64 110, .int .i64 800, .int .i64 160, .int .i64 1000, .int .i64 280]
  { w0 with heap := h0 }
theorem laid_met (os : Os) : laidMet Tryd.prog Rows.fnExactStagesForRow.laid ((laidWorld os).forCall (fun _ _ => 0) ⟨#[], #[.agg #[.string ByteArray.empty, .int .i64 0, .int .i64 0, .int .i64 0], .slice none 0 0, .int .i64 0], []⟩).memory :=
  laidMet_of_run' 8 (by kernel_rfl) (by kernel_rfl)
theorem reads (os : Os) {H : Type} (enc : TypeId × Value → H) : ∃ places, DataW.whole enc Tryd.prog ((laidWorld os).forCall (fun _ _ => 0) ⟨#[], #[.agg #[.string ByteArray.empty, .int .i64 0, .int .i64 0, .int .i64 0], .slice none 0 0, .int .i64 0], []⟩).memory Tryd.f10.params.toList Rows.fnExactStagesForSpec.vars false (#[.agg #[.string ByteArray.empty, .int .i64 0, .int .i64 0, .int .i64 0], .slice none 0 0, .int .i64 0] : Array Value).toList 8 = some ([.agg [.lit (.string []), .lit (.int .i64 0), .lit (.int .i64 0), .lit (.int .i64 0)], .nil, .lit (.int .i64 0)], [Rows.laid_loop_example_g01061_impl_evenPoints], places) :=
  ⟨MemPlace.row ⟨0, 0, none⟩ 10, by kernel_rfl⟩
set_option maxRecDepth 100000 in
theorem lifted (os : Os) (started : os.Started) (H : Type) (enc : TypeId × Value → H) (F : Stop.Interp) :
    ReturnsInHanded {} Tryd.checked os 10 .any ((OpenSpec.ofChange Rows.fnExactStagesForSpec).preRow enc Tryd.prog Tryd.f10 Rows.fnExactStagesForRow.domain false Rows.fnExactStagesForRow.laid) (((OpenSpec.ofChange Rows.fnExactStagesForSpec).at F).post enc Tryd.prog Tryd.f10 false true false false) := by
  obtain ⟨places, hx⟩ := reads os enc
  refine returnsInHanded_of_row (C := Tryd.checked) (s := (OpenSpec.ofChange Rows.fnExactStagesForSpec)) own started (by kernel_rfl) Tryd.func10
    (witness_row_at (enc := enc) (C := Tryd.checked) false (laidWorld os) #[.agg #[.string ByteArray.empty, .int .i64 0, .int .i64 0, .int .i64 0], .slice none 0 0, .int .i64 0] rfl (by kernel_rfl) (by kernel_rfl) (by kernel_rfl)
      (OpenSpec.preRow_of_cond 8 hx (by kernel_rfl) (fun k hk => by cases hk) (by kernel_rfl) (laid_met os))) ?_
  intro W base args ds gs before hval0 hW hcnd hcond _ hL0 hShape _
  have hL : laidMet Tryd.prog Rows.fnExactStagesForRow.laid W := hL0
  have hval : ∀ (j : Nat) t v, Tryd.f10.params[j]? = some t → args[j]? = some v → Value.okWide Tryd.prog W .any base t v := hval0
  have hW' := hW
  obtain ⟨p, q, hA0, hV, rfl, hfz, hnd⟩ := hW
  have hA : DataW.TrodAll enc Tryd.prog W 0 (fun _ => true) true Tryd.f10.params.toList args.toList ds p := hA0
  rw [Tryd.params10] at hA hval
  obtain ⟨v0, vs0, d0, ds0, p0, q0, hargs, rfl, rfl, h0, r0⟩ := trodAll_cons hA
  obtain ⟨v1, vs1, d1, ds1, p1, q1, rfl, rfl, rfl, h1, r1⟩ := trodAll_cons r0
  obtain ⟨v2, vs2, d2, ds2, p2, q2, rfl, rfl, rfl, h2, r2⟩ := trodAll_cons r1
  obtain ⟨rfl, rfl, rfl⟩ := trodAll_nil r2
  obtain rfl : args = #[v0, v1, v2] := by cases args; simp_all
  have hV2 := hV
  obtain ⟨_, _, _, _, dv, _, rfl, _⟩ := trodVars_one hV2
  have k0 := h0
  have lt0 : ∀ x ∈ p0, x.block < W.heap.size := by obtain ⟨m, hm⟩ := k0; exact DataW.trod_lt m _ _ _ hm
  have w0 : StkV W v0 := stk_open (hval 0 26 v0 rfl rfl) h0
  obtain ⟨a1, len1, cap1, rfl⟩ := okWide_slice Tryd.underlying40 (hval 1 40 v1 rfl rfl)
  have k1 := h1
  have lt1 : ∀ x ∈ p1, x.block < W.heap.size := by obtain ⟨m, hm⟩ := k1; exact DataW.trod_lt m _ _ _ hm
  obtain ⟨z1, w1⟩ : ∃ zs, IsRow .i64 W a1 len1 cap1 zs := by
    obtain ⟨fuel, hf⟩ := h1
    rcases open_ints Tryd.underlying40 Tryd.underlying2 (by kernel_rfl) hf with ⟨hcs, _⟩ | ⟨x, l, c, zs, hcs, _, hl, hm, hz, _, hcell, hwz⟩
    · simp [Value.cells] at hcs
      obtain ⟨rfl, rfl, rfl⟩ := hcs
      exact ⟨[], .inl ⟨rfl, rfl, rfl, rfl⟩⟩
    · simp [Value.cells] at hcs
      obtain ⟨rfl, rfl, rfl⟩ := hcs
      exact ⟨zs, .inr ⟨_, rfl, hl, hm, by simpa using hz, hcell, hwz⟩⟩
  obtain ⟨a2, rfl, rfl, rfl, w2⟩ := open_int Tryd.underlying2 (hval 2 2 v2 rfl rfl) h2
  clear hA0 hval0
  refine (walk v0 a1 len1 cap1 z1 a2 W w0 w1 w2 (evP_head hL)).mono fun e W' ⟨he, bel⟩ => ?_
  subst he
  exact ⟨_, rfl, _, _, _, [], _, _, hW', trodAll_mk1 (shut_bool Tryd.underlying4 _), (trodAll_cons_mk (Below.trod laidOut (by kernel_rfl) (of_decide_eq_true (by kernel_rfl)) k0 bel lt0) (trodAll_cons_mk (Below.trod laidOut (by kernel_rfl) (of_decide_eq_true (by kernel_rfl)) k1 bel lt1) (trodAll_cons_mk (shut_int Tryd.underlying2 w2) trodAll_mk0))), Below.trodVars laidOut bel (by kernel_rfl) hV, bel.frame _, fun h => by cases h⟩

theorem said : Rows.FnExactStagesForSaid :=
  OpenClaim.holds_of_cond 10 Tryd.f10 rfl rfl rfl rfl rfl rfl rfl ⟨rfl, rfl, rfl, rfl, rfl⟩ rfl rfl rfl rfl rfl (by kernel_rfl) Tryd.func10 (by kernel_rfl)
    (of_decide_eq_true (by kernel_rfl)) (by unfold Func.isWrapper; first | (rw [if_pos (by decide +kernel)]; kernel_rfl) | (rw [if_neg (by decide +kernel)]; exact ⟨rfl, rfl⟩))
    (fun os started H enc _ F => by rw [OpenClaim.pre_eq_preRow]; exact lifted os started H enc F)

theorem plain (f : FuncId) (fn : Func) (hf : Tryd.pinned.checked.prog.funcNamed "loop.example/g01061/laws.FnExactStagesFor" = some f) (hfn : Tryd.pinned.checked.prog.funcs[f]? = some fn) :
    false = Tryd.pinned.checked.prog.looks [] ∧ ∀ (j : Nat) t, fn.params[j]? = some t → Tryd.pinned.checked.prog.wantsStandIn t = false := by
  obtain rfl : f = 10 := Option.some.inj ((show Tryd.prog.funcNamed "loop.example/g01061/laws.FnExactStagesFor" = some 10 by kernel_rfl).symm.trans hf) |>.symm
  obtain rfl : fn = Tryd.f10 := (Option.some.inj (Tryd.func10.symm.trans hfn)).symm
  refine ⟨by kernel_rfl, fun j t ht => ?_⟩
  rw [Tryd.params10] at ht
  have hm := Array.mem_of_getElem? ht
  simp only [List.mem_toArray, List.mem_cons, List.mem_nil_iff, or_false] at hm
  rcases hm with rfl | rfl | rfl
  · exact (show Tryd.prog.wantsStandIn 26 = false by kernel_rfl)
  · exact (show Tryd.prog.wantsStandIn 40 = false by kernel_rfl)
  · exact (show Tryd.prog.wantsStandIn 2 = false by kernel_rfl)

/-- the statement -/
theorem proved : Rows.FnExactStagesForCardSaid :=
  Claim7.holds_tied_plain_at .later [] _ _ _ _ said (fun _ h => by cases h) (by kernel_rfl) (fun _ h => by cases h) fnExactStagesFor_row_tie rfl ⟨rfl, rfl⟩ (by kernel_rfl) rfl plain (by kernel_rfl)
#print axioms proved
end Go.Proofs.YtiapjoldidkamaaDoor.fnExactStagesFor
