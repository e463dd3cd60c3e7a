/-
  The law FnDrying holds for every input: the function answers as its model; the listed package-level variables are tied to the program's text.
-/
import Derived.Test.YtemccejlophmkaaDoorDrg
import Derived.Test.YtemccejlophmkaaDoorCards
import Derived.Test.YtemccejlophmkaaDoorTie
import Derived.Lib.Hide
import Derived.WalkKit
import Derived.ProofKit
import Derived.OpenShut
import Derived.ShutString
import Derived.ChangeOld
import Derived.Below
import Derived.Deep.DeepHandedRow
import Derived.Deep.DeepWitnessRowRef
import Derived.Lib.LaidIn
import Derived.Lib.LaidTab
import Derived.SevenTiedAt
import Derived.OpenVars
import Derived.ChangeVars
namespace Go.Proofs.YtemccejlophmkaaDoor.fnDrying
open Go.ChangeShapes Go.WideShapes Go.ChangeAt Go.RowKit
open Go.ChangeMaps (open_string shut_string)
set_option linter.unusedVariables false
set_option linter.unusedSimpArgs false

theorem own : ownKnob Tryd.prog.godebug = none := by kernel_rfl
theorem laidOut : laidOutB Tryd.prog = true := by kernel_rfl
/-- WHAT THE WALK IS TOLD OF A SLICE OF INTEGERS THAT CAME IN: it is nil; or it leads to a row of 'cap' cells, the numbers 'zs' (the first 'len' are its elements, the rest its spare room), each fitting its kind. -/
def IsRow (k : IntKind) (w : World) (a : Option Addr) (len cap : Nat) (zs : List Int) : Prop :=
  (a = none ∧ len = 0 ∧ cap = 0 ∧ zs = []) ∨
  ∃ x, a = some x ∧ len ≤ cap ∧ cap ≤ maxLen ∧ zs.length = cap ∧ (∀ i, i < zs.length → w.cell? (x.add i) = some (.int k (zs.getD i 0))) ∧ ∀ n ∈ zs, (Lit.int k n).wf = true

theorem maxlen_of {w : World} {k : IntKind} {a : Option Addr} {len cap : Nat} {zs : List Int} (h : IsRow k w a len cap zs) : len ≤ maxLen := by
  rcases h with ⟨_, rfl, _⟩ | ⟨x, _, h1, h2, _⟩
  · exact Nat.zero_le _
  · omega
set_option maxRecDepth 1000000 in
set_option maxHeartbeats 12800000 in
theorem walk (a0 : Option Addr) (len0 cap0 : Nat) (z0 : List Int) (a1 : Option Addr) (len1 cap1 : Nat) (z1 : List Int) (w : World) (w0 : IsRow .u8 w a0 len0 cap0 z0) (w1 : IsRow .u8 w a1 len1 cap1 z1) (hE : EvP w) :
    Calls Tryd.prog 3 #[.slice a0 len0 cap0, .slice a1 len1 cap1] w fun e w' => e = .returned (.bool true) ∧ Below w.heap.size w w' := by
  have m0 := maxlen_of w0
  have m1 := maxlen_of w1
  obtain ⟨Z0, q0, l0⟩ := u8_in w0
  obtain ⟨Z1, q1, l1⟩ := u8_in w1
  clear w0 w1
  by_cases hL0 : len0 ≤ 1048576
  rotate_left
  · have c := b10Long_yes a0 len0 cap0 hL0 m0
    clear q0 q1
    go_enter Tryd.func3, Tryd.ntmps3
    go_wp2_with fail
    refine (c _).mono ?_
    rintro e _ ⟨rfl, rfl⟩
    go_wp2
    go_ret
    exact ⟨rfl, Below.refl _ _⟩
  have cL0 := Lib.hid (b10Long_no a0 len0 cap0 hL0)
  by_cases hL1 : len1 ≤ 1048576
  rotate_left
  · have c := b10Long_yes a1 len1 cap1 hL1 m1
    clear q0 q1
    go_enter Tryd.func3, Tryd.ntmps3
    go_wp2_with fail
    refine (cL0.out _).mono ?_
    rintro e _ ⟨rfl, rfl⟩
    go_wp2_with fail
    refine (c _).mono ?_
    rintro e _ ⟨rfl, rfl⟩
    go_wp2
    go_ret
    exact ⟨rfl, Below.refl _ _⟩
  have cL1 := Lib.hid (b10Long_no a1 len1 cap1 hL1)
  have cD1 := Lib.hid (DrawMoistureAfter_any (.slice a0 len0 cap0) Z0 w (by omega) q0)
  have cD2 := Lib.hid (fun W (h : Below w.heap.size w W) => DrawDaysToDry_any (.slice a1 len1 cap1) Z1 W (by omega) (u8_at q1 h.size h))
  have cD3 := Lib.hid (fun W (h : Below w.heap.size w W) => DrawCrackDays_any (.slice a0 len0 cap0) Z0 W (by omega) (u8_at q0 h.size h))
  have hE' := Lib.hid hE
  clear q0 q1 hE
  go_enter Tryd.func3, Tryd.ntmps3
  go_wp2_with fail
  refine (cL0.out _).mono ?_
  rintro e _ ⟨rfl, rfl⟩
  go_wp2_with fail
  refine (cL1.out _).mono ?_
  rintro e _ ⟨rfl, rfl⟩
  go_wp2_with fail
  refine cD1.out.mono ?_
  rintro e p1 ⟨a, b, c, h, d, rfl, xa, xb, xc, xh, xd, b1⟩
  have B1 := Lib.hid b1
  obtain ⟨A, c1, E, c2, cM, cE, hF⟩ := part1 ⟨#[115, 97]⟩ a b c h d (by decide)
  clear b1 cD1 cL0 cL1
  go_wp2_with fail
  have hat0 := stk_box ⟨#[115, 97]⟩ a b c p1
  have hz0 : p1.heap.size < (p1.alloc (.cells #[.string ⟨#[115, 97]⟩, .int .i64 a, .int .i64 b, .int .i64 c] 25)).heap.size := by simp
  have hU0 : Below w.heap.size w (p1.alloc (.cells #[.string ⟨#[115, 97]⟩, .int .i64 a, .int .i64 b, .int .i64 c] 25)) := B1.out.alloc B1.out.size _
  generalize p1.alloc (.cells #[.string ⟨#[115, 97]⟩, .int .i64 a, .int .i64 b, .int .i64 c] 25) = p2 at hat0 hz0 hU0 ⊢
  generalize p1.heap.size = R at hat0 hz0 ⊢
  have U0 := Lib.hid hU0
  refine (cM.out _ (hE'.out.below U0.out)).mono ?_
  rintro e p3 ⟨rfl, b3⟩
  have U3 := Lib.hid (below2 U0.out b3)
  have hat3 := Lib.hid (hat0.below hz0 b3)
  have hz3 := Nat.lt_of_lt_of_le hz0 b3.size
  clear b3 hat0 hz0 hU0 U0 cM B1
  go_wp2_with fail
  refine (cE.out _ (hE'.out.below U3.out)).mono ?_
  rintro e p4 ⟨rfl, b4⟩
  have U4 := Lib.hid (below2 U3.out b4)
  have hat4 := Lib.hid (hat3.out.below hz3 b4)
  have hz4 := Nat.lt_of_lt_of_le hz3 b4.size
  clear b4 hat3 hz3 U3 cE
  go_upto_if 56 with fail
  go_cut [12, 13] from 57 to 120 (fun s12 s13 wx => Hid (Below w.heap.size w wx))
  case first =>
    by_cases hc : c1 = 0
    rotate_left
    · have e1 : (c1 == 0) = false := beq_eq_false_iff_ne.2 hc
      clear hc hF
      go_wp2_with fail
      go_meet
      exact U4
    · obtain ⟨e2, G, P, Q, cS, cP, cQ, fE, fA, fG, fPQ, fa, side⟩ := hF.out hc
      subst hc e2
      have hv : IntsAt (p4.alloc (.cells #[.int .i64 h, .int .i64 h] 2)) (.slice (some ⟨p4.heap.size, 0, none⟩) 2 2) [h, h] :=
        ⟨_, _, rfl, Nat.le_refl _, fun n hn => (by simp at hn; unfold inI; omega), Or.inr ⟨p4.heap.size, 0, rfl, by simp, fun i hi => by
          have hi2 : i < 2 := hi
          match i, hi2 with
          | 0, _ => exact cellB (heap_alloc_new _ _) 0 _ rfl
          | 1, _ => exact cellB (heap_alloc_new _ _) 1 _ rfl⟩⟩
      have hv' := Lib.hid hv
      have hA4 : Below p4.heap.size p4 (p4.alloc (.cells #[.int .i64 h, .int .i64 h] 2)) := (Below.refl _ _).alloc (Nat.le_refl _) _
      have hA4' := Lib.hid hA4
      obtain ⟨k0, k1, k2, k3⟩ := id hat4.out
      simp only [Nat.zero_add] at k0 k1 k2 k3
      clear hv hF hA4
      go_wp2_with fail
      clear k0 k1 k2 k3
      refine (cS.out _ _ (hE'.out.below (below2 U4.out hA4'.out)) hv'.out).mono ?_
      rintro e p5 ⟨v5, rfl, o5, b5⟩
      have U5 := Lib.hid (below2 (below2 U4.out hA4'.out) b5)
      have hat5 := (hat4.out.below hz4 hA4'.out).below (Nat.lt_of_lt_of_le hz4 hA4'.out.size) b5
      obtain ⟨_, k1, _, _⟩ := hat5
      simp only [Nat.zero_add] at k1
      obtain ⟨pv, cap, rfl, hcap, _, hread⟩ := ints_own o5 (fun n hn => by simp at hn; unfold inI; omega)
      rcases hread with hh | ⟨g, o, rfl, hg, hcl⟩
      · cases hh
      have r0 : p5.cell? ⟨g, o, none⟩ = some (.int .i64 A) := hcl 0 (by simp)
      have r1 : p5.cell? ⟨g, o + 1, none⟩ = some (.int .i64 G) := hcl 1 (by simp)
      have cP' := cP
      clear o5 b5 hcl hv' hA4' hat4 U4 cS hg
      rcases side with ⟨s1, s2, s3⟩ | ⟨s1, s2, s3⟩
      · go_wp2_with (go_at_call 9; (first | (with_reducible refine (cP.out _).mono ?_) | (with_reducible refine (cQ.out _).mono ?_)); rintro e w' ⟨rfl, rfl⟩)
        all_goals go_meet
        all_goals exact U5
      · go_wp2_with (go_at_call 9; (first | (with_reducible refine (cP.out _).mono ?_) | (with_reducible refine (cQ.out _).mono ?_)); rintro e w' ⟨rfl, rfl⟩)
        all_goals go_meet
        all_goals exact U5
  case rest =>
    have X1 := hcut
    clear hcut hF U4 hat4 hz4 xa xb xc xh xd
    go_wp2_with fail
    refine (cD2.out _ X1.out).mono ?_
    rintro e p6 ⟨a2, b2, c2', h2, z2, rfl, xa, xb, xc, xh, xd, b6⟩
    have B6 := Lib.hid (below2 X1.out b6)
    obtain ⟨n, c4, cN, hF2⟩ := part2 ⟨#[115, 97]⟩ a2 b2 c2' h2 z2 (by decide)
    clear b6 cD2 X1
    go_wp2_with fail
    have hat0 := stk_box ⟨#[115, 97]⟩ a2 b2 c2' p6
    have hz0 : p6.heap.size < (p6.alloc (.cells #[.string ⟨#[115, 97]⟩, .int .i64 a2, .int .i64 b2, .int .i64 c2'] 25)).heap.size := by simp
    have hU0 : Below w.heap.size w (p6.alloc (.cells #[.string ⟨#[115, 97]⟩, .int .i64 a2, .int .i64 b2, .int .i64 c2'] 25)) := B6.out.alloc B6.out.size _
    generalize p6.alloc (.cells #[.string ⟨#[115, 97]⟩, .int .i64 a2, .int .i64 b2, .int .i64 c2'] 25) = p7 at hat0 hz0 hU0 ⊢
    generalize p6.heap.size = R2 at hat0 hz0 ⊢
    have U7 := Lib.hid hU0
    refine (cN.out _ (hE'.out.below U7.out)).mono ?_
    rintro e p8 ⟨rfl, b8⟩
    have U8 := Lib.hid (below2 U7.out b8)
    have hat8 := Lib.hid (hat0.below hz0 b8)
    have hz8 := Nat.lt_of_lt_of_le hz0 b8.size
    clear b8 hat0 hz0 hU0 U7 cN B6
    go_upto_if 135 with fail
    go_cut [19, 20, 21, 22] from 136 to 170 (fun s19 s20 s21 s22 wx => Hid (Below w.heap.size w wx))
    case first =>
      by_cases hc : c4 = 0
      rotate_left
      · have e1 : (c4 == 0) = false := beq_eq_false_iff_ne.2 hc
        clear hc hF2
        go_wp2_with fail
        go_meet
        exact U8
      · obtain ⟨B, D, c6, cB, cC, fB, fn, fD⟩ := hF2.out hc
        subst hc
        obtain ⟨k0, k1, k2, k3⟩ := id hat8.out
        simp only [Nat.zero_add] at k0 k1 k2 k3
        have fD' := Lib.hid fD
        clear hF2 fD
        go_wp2_with fail
        clear k0 k1 k2 k3
        refine (cB.out _ (hE'.out.below U8.out)).mono ?_
        rintro e p9 ⟨rfl, b9⟩
        have U9 := Lib.hid (below2 U8.out b9)
        have hat9 := Lib.hid (hat8.out.below hz8 b9)
        have hz9 := Nat.lt_of_lt_of_le hz8 b9.size
        obtain ⟨k0, k1, k2, k3⟩ := id hat9.out
        simp only [Nat.zero_add] at k0 k1 k2 k3
        clear b9 hat8 hz8 U8 cB
        go_wp2_with fail
        clear k0 k1 k2 k3
        refine (cC.out _ (hE'.out.below U9.out)).mono ?_
        rintro e p10 ⟨rfl, b10⟩
        have U10 := Lib.hid (below2 U9.out b10)
        clear b10 hat9 hz9 U9 cC
        by_cases hn0 : 0 < n
        · obtain ⟨f6, fz⟩ := fD'.out hn0
          subst f6
          clear fD'
          go_wp2_with fail
          go_meet
          exact U10
        · clear fD'
          go_wp2_with fail
          go_meet
          exact U10
    case rest =>
      have X2 := hcut
      clear hcut hF2 U8 hat8 hz8 xa xb xc xh xd
      go_wp2_with fail
      refine (cD3.out _ X2.out).mono ?_
      rintro e p11 ⟨a3, b3, c3, h3, q3, d3, rfl, xa, xb, xc, xh, xq, xd, b11⟩
      have B11 := Lib.hid (below2 X2.out b11)
      obtain ⟨K, c7, Fv, c8, cK, cF, hno, hyes⟩ := part3 ⟨#[115, 97]⟩ a3 b3 c3 h3 q3 d3 (by decide)
      clear b11 cD3 X2
      go_wp2_with fail
      have hat0 := stk_box ⟨#[115, 97]⟩ a3 b3 c3 p11
      have hz0 : p11.heap.size < (p11.alloc (.cells #[.string ⟨#[115, 97]⟩, .int .i64 a3, .int .i64 b3, .int .i64 c3] 25)).heap.size := by simp
      have hU0 : Below w.heap.size w (p11.alloc (.cells #[.string ⟨#[115, 97]⟩, .int .i64 a3, .int .i64 b3, .int .i64 c3] 25)) := B11.out.alloc B11.out.size _
      generalize p11.alloc (.cells #[.string ⟨#[115, 97]⟩, .int .i64 a3, .int .i64 b3, .int .i64 c3] 25) = p12 at hat0 hz0 hU0 ⊢
      generalize p11.heap.size = R3 at hat0 hz0 ⊢
      have U12 := Lib.hid hU0
      refine (cK.out _ (hE'.out.below U12.out)).mono ?_
      rintro e p13 ⟨rfl, b13⟩
      have U13 := Lib.hid (below2 U12.out b13)
      have hat13 := Lib.hid (hat0.below hz0 b13)
      have hz13 := Nat.lt_of_lt_of_le hz0 b13.size
      clear b13 hat0 hz0 hU0 U12 cK B11
      by_cases hc : c7 = 0
      rotate_left
      · obtain rfl := hno.out hc
        have e1 : (c7 == 0) = false := beq_eq_false_iff_ne.2 hc
        have e2 : (c7 != 0) = true := by unfold bne; rw [e1]; rfl
        clear hc hno hyes
        go_wp2
        go_ret
        exact ⟨rfl, U13.out⟩
      · obtain ⟨e8, P3, cP3, fF, fa3, fK, fKP⟩ := hyes.out hc
        subst hc e8
        obtain ⟨k0, k1, k2, k3⟩ := id hat13.out
        simp only [Nat.zero_add] at k0 k1 k2 k3
        have fKP' := Lib.hid fKP
        clear hno hyes fKP
        go_wp2_with fail
        clear k0 k1 k2 k3
        refine (cF.out _).mono ?_
        rintro e p14 ⟨rfl, b14⟩
        have U14 := Lib.hid (below2 U13.out b14)
        obtain ⟨_, k1, _, _⟩ := hat13.out.below hz13 b14
        simp only [Nat.zero_add] at k1
        clear b14 hat13 hz13 U13 cF
        by_cases hd0 : d3 = 0
        · subst hd0
          clear fKP'
          go_wp2
          go_ret
          exact ⟨rfl, U14.out⟩
        have hdB : (d3 == 0) = false := beq_eq_false_iff_ne.2 hd0
        have hkp := fKP'.out (by omega)
        by_cases hK0 : 0 < K
        · have hP0 : q3 < P3 := hkp.1 hK0
          have e5 : (decide (0 < K) == decide (q3 < P3)) = true := by rw [decide_eq_true hK0, decide_eq_true hP0]; rfl
          have e5' := Lib.hid e5
          clear e5
          clear fKP' hkp hd0
          go_wp2_with (go_at_call 9; (with_reducible refine (cP3.out _).mono ?_); rintro e w' ⟨rfl, rfl⟩)
          go_ret
          exact ⟨by first | rfl | exact ret_bool e5'.out, U14.out⟩
        · have hP0 : P3 ≤ q3 := by
            rcases Int.lt_or_le q3 P3 with hq | hq
            · exact absurd (hkp.2 hq) hK0
            · exact hq
          have hK1 : K ≤ 0 := by omega
          have e5 : (decide (0 < K) == decide (q3 < P3)) = true := by rw [decide_eq_false hK0, decide_eq_false (by omega : ¬ q3 < P3)]; rfl
          have e5' := Lib.hid e5
          clear e5
          clear fKP' hkp hd0 hK0
          go_wp2_with (go_at_call 9; (with_reducible refine (cP3.out _).mono ?_); rintro e w' ⟨rfl, rfl⟩)
          go_ret
          exact ⟨by first | rfl | exact ret_bool e5'.out, U14.out⟩

/-- A world for the witness: the settled one, the listed variables holding what their initialisers lay. -/
noncomputable def laidWorld (os : Os) : World :=
  let N := (World.settled Tryd.prog os).heap.size
  let w0 := World.holding Tryd.prog os ⟨#[], #[], []⟩
  let put (h : Array Obj) (g : Nat) (cs : Array Value) : Array Obj := h.modify g fun
    | .cells _ t frozen => .cells cs t frozen
    | o => o
  let h0 := put w0.heap 0 #[.int .i64 0, .int .i64 0, .int .i64 300, .int .i64 60, .int .i64 600, .int .i64 110, .int .i64 800, .int .i64 160, .int .i64 1000, .int .i64 280]
  { w0 with heap := h0 }
theorem laid_met (os : Os) : laidMet Tryd.prog Rows.fnDryingRow.laid ((laidWorld os).forCall (fun _ _ => 0) ⟨#[], #[.slice none 0 0, .slice none 0 0], []⟩).memory :=
  laidMet_of_run' 8 (by kernel_rfl) (by kernel_rfl)
theorem reads (os : Os) {H : Type} (enc : TypeId × Value → H) : ∃ places, DataW.whole enc Tryd.prog ((laidWorld os).forCall (fun _ _ => 0) ⟨#[], #[.slice none 0 0, .slice none 0 0], []⟩).memory Tryd.f3.params.toList Rows.fnDryingSpec.vars false (#[.slice none 0 0, .slice none 0 0] : Array Value).toList 8 = some ([.nil, .nil], [Rows.laid_loop_example_g01061_impl_evenPoints], places) :=
  ⟨MemPlace.row ⟨0, 0, none⟩ 10, by kernel_rfl⟩
set_option maxRecDepth 100000 in
theorem lifted (os : Os) (started : os.Started) (H : Type) (enc : TypeId × Value → H) (F : Stop.Interp) :
    ReturnsInHanded {} Tryd.checked os 3 .any ((OpenSpec.ofChange Rows.fnDryingSpec).preRow enc Tryd.prog Tryd.f3 Rows.fnDryingRow.domain false Rows.fnDryingRow.laid) (((OpenSpec.ofChange Rows.fnDryingSpec).at F).post enc Tryd.prog Tryd.f3 false true false false) := by
  obtain ⟨places, hx⟩ := reads os enc
  refine returnsInHanded_of_row (C := Tryd.checked) (s := (OpenSpec.ofChange Rows.fnDryingSpec)) own started (by kernel_rfl) Tryd.func3
    (witness_row_at (enc := enc) (C := Tryd.checked) false (laidWorld os) #[.slice none 0 0, .slice none 0 0] rfl (by kernel_rfl) (by kernel_rfl) (by kernel_rfl)
      (OpenSpec.preRow_of_cond 8 hx (by kernel_rfl) (fun k hk => by cases hk) (by kernel_rfl) (laid_met os))) ?_
  intro W base args ds gs before hval0 hW hcnd hcond _ hL0 hShape _
  have hL : laidMet Tryd.prog Rows.fnDryingRow.laid W := hL0
  have hval : ∀ (j : Nat) t v, Tryd.f3.params[j]? = some t → args[j]? = some v → Value.okWide Tryd.prog W .any base t v := hval0
  have hW' := hW
  obtain ⟨p, q, hA0, hV, rfl, hfz, hnd⟩ := hW
  have hA : DataW.TrodAll enc Tryd.prog W 0 (fun _ => true) true Tryd.f3.params.toList args.toList ds p := hA0
  rw [Tryd.params3] at hA hval
  obtain ⟨v0, vs0, d0, ds0, p0, q0, hargs, rfl, rfl, h0, r0⟩ := trodAll_cons hA
  obtain ⟨v1, vs1, d1, ds1, p1, q1, rfl, rfl, rfl, h1, r1⟩ := trodAll_cons r0
  obtain ⟨rfl, rfl, rfl⟩ := trodAll_nil r1
  obtain rfl : args = #[v0, v1] := by cases args; simp_all
  have hV2 := hV
  obtain ⟨_, _, _, _, dv, _, rfl, _⟩ := trodVars_one hV2
  obtain ⟨a0, len0, cap0, rfl⟩ := okWide_slice Tryd.underlying22 (hval 0 22 v0 rfl rfl)
  have k0 := h0
  have lt0 : ∀ x ∈ p0, x.block < W.heap.size := by obtain ⟨m, hm⟩ := k0; exact DataW.trod_lt m _ _ _ hm
  obtain ⟨z0, w0⟩ : ∃ zs, IsRow .u8 W a0 len0 cap0 zs := by
    obtain ⟨fuel, hf⟩ := h0
    rcases open_ints Tryd.underlying22 Tryd.underlying5 (by kernel_rfl) hf with ⟨hcs, _⟩ | ⟨x, l, c, zs, hcs, _, hl, hm, hz, _, hcell, hwz⟩
    · simp [Value.cells] at hcs
      obtain ⟨rfl, rfl, rfl⟩ := hcs
      exact ⟨[], .inl ⟨rfl, rfl, rfl, rfl⟩⟩
    · simp [Value.cells] at hcs
      obtain ⟨rfl, rfl, rfl⟩ := hcs
      exact ⟨zs, .inr ⟨_, rfl, hl, hm, by simpa using hz, hcell, hwz⟩⟩
  obtain ⟨a1, len1, cap1, rfl⟩ := okWide_slice Tryd.underlying22 (hval 1 22 v1 rfl rfl)
  have k1 := h1
  have lt1 : ∀ x ∈ p1, x.block < W.heap.size := by obtain ⟨m, hm⟩ := k1; exact DataW.trod_lt m _ _ _ hm
  obtain ⟨z1, w1⟩ : ∃ zs, IsRow .u8 W a1 len1 cap1 zs := by
    obtain ⟨fuel, hf⟩ := h1
    rcases open_ints Tryd.underlying22 Tryd.underlying5 (by kernel_rfl) hf with ⟨hcs, _⟩ | ⟨x, l, c, zs, hcs, _, hl, hm, hz, _, hcell, hwz⟩
    · simp [Value.cells] at hcs
      obtain ⟨rfl, rfl, rfl⟩ := hcs
      exact ⟨[], .inl ⟨rfl, rfl, rfl, rfl⟩⟩
    · simp [Value.cells] at hcs
      obtain ⟨rfl, rfl, rfl⟩ := hcs
      exact ⟨zs, .inr ⟨_, rfl, hl, hm, by simpa using hz, hcell, hwz⟩⟩
  clear hA0 hval0
  refine (walk a0 len0 cap0 z0 a1 len1 cap1 z1 W w0 w1 (evP_head hL)).mono fun e W' ⟨he, bel⟩ => ?_
  subst he
  exact ⟨_, rfl, _, _, _, [], _, _, hW', trodAll_mk1 (shut_bool Tryd.underlying4 _), (trodAll_cons_mk (Below.trod laidOut (by kernel_rfl) (of_decide_eq_true (by kernel_rfl)) k0 bel lt0) (trodAll_cons_mk (Below.trod laidOut (by kernel_rfl) (of_decide_eq_true (by kernel_rfl)) k1 bel lt1) trodAll_mk0)), Below.trodVars laidOut bel (by kernel_rfl) hV, bel.frame _, fun h => by cases h⟩

theorem said : Rows.FnDryingSaid :=
  OpenClaim.holds_of_cond 3 Tryd.f3 rfl rfl rfl rfl rfl rfl rfl ⟨rfl, rfl, rfl, rfl, rfl⟩ rfl rfl rfl rfl rfl (by kernel_rfl) Tryd.func3 (by kernel_rfl)
    (of_decide_eq_true (by kernel_rfl)) (by unfold Func.isWrapper; first | (rw [if_pos (by decide +kernel)]; kernel_rfl) | (rw [if_neg (by decide +kernel)]; exact ⟨rfl, rfl⟩))
    (fun os started H enc _ F => by rw [OpenClaim.pre_eq_preRow]; exact lifted os started H enc F)

theorem plain (f : FuncId) (fn : Func) (hf : Tryd.pinned.checked.prog.funcNamed "loop.example/g01061/laws.FnDrying" = some f) (hfn : Tryd.pinned.checked.prog.funcs[f]? = some fn) :
    false = Tryd.pinned.checked.prog.looks [] ∧ ∀ (j : Nat) t, fn.params[j]? = some t → Tryd.pinned.checked.prog.wantsStandIn t = false := by
  obtain rfl : f = 3 := Option.some.inj ((show Tryd.prog.funcNamed "loop.example/g01061/laws.FnDrying" = some 3 by kernel_rfl).symm.trans hf) |>.symm
  obtain rfl : fn = Tryd.f3 := (Option.some.inj (Tryd.func3.symm.trans hfn)).symm
  refine ⟨by kernel_rfl, fun j t ht => ?_⟩
  rw [Tryd.params3] at ht
  have hm := Array.mem_of_getElem? ht
  simp only [List.mem_toArray, List.mem_cons, List.mem_nil_iff, or_false] at hm
  rcases hm with rfl | rfl
  · exact (show Tryd.prog.wantsStandIn 22 = false by kernel_rfl)
  · exact (show Tryd.prog.wantsStandIn 22 = false by kernel_rfl)

/-- the statement -/
theorem proved : Rows.FnDryingCardSaid :=
  Claim7.holds_tied_plain_at .later [] _ _ _ _ said (fun _ h => by cases h) (by kernel_rfl) (fun _ h => by cases h) fnDrying_row_tie rfl ⟨rfl, rfl⟩ (by kernel_rfl) rfl plain (by kernel_rfl)
#print axioms proved
end Go.Proofs.YtemccejlophmkaaDoor.fnDrying
