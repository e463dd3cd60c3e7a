/-
  The law FnStrings holds for every input: the function answers as its model; the listed package-level variables are tied to the program's text.
-/
import Derived.Test.YtnenccfmopjcjaaGreatDoorCks
import Derived.Test.YtnenccfmopjcjaaGreatDoorCards
import Derived.Test.YtnenccfmopjcjaaGreatDoorTie
import Derived.Lib.Hide
import Derived.WalkKit
import Derived.ProofKit
import Derived.OpenShut
import Derived.ShutString
import Derived.ChangeOld
import Derived.Below
import Derived.Deep.DeepHandedRow
import Derived.Deep.DeepWitnessRowRef
import Derived.Lib.LaidIn
import Derived.Lib.LaidTab
import Derived.SevenTiedAt
namespace Go.Proofs.YtnenccfmopjcjaaGreatDoor.fnStrings
open Go.ChangeShapes Go.WideShapes Go.ChangeAt Go.RowKit
open Go.ChangeMaps (open_string shut_string)
set_option linter.unusedVariables false
set_option linter.unusedSimpArgs false

theorem own : ownKnob Tryz.prog.godebug = none := by kernel_rfl
theorem laidOut : laidOutB Tryz.prog = true := by kernel_rfl
/-- WHAT THE WALK IS TOLD OF A SLICE OF INTEGERS THAT CAME IN: it is nil; or it leads to a row of 'cap' cells, the numbers 'zs' (the first 'len' are its elements, the rest its spare room), each fitting its kind. -/
def IsRow (k : IntKind) (w : World) (a : Option Addr) (len cap : Nat) (zs : List Int) : Prop :=
  (a = none ∧ len = 0 ∧ cap = 0 ∧ zs = []) ∨
  ∃ x, a = some x ∧ len ≤ cap ∧ cap ≤ maxLen ∧ zs.length = cap ∧ (∀ i, i < zs.length → w.cell? (x.add i) = some (.int k (zs.getD i 0))) ∧ ∀ n ∈ zs, (Lit.int k n).wf = true

theorem maxlen_of {w : World} {k : IntKind} {a : Option Addr} {len cap : Nat} {zs : List Int} (h : IsRow k w a len cap zs) : len ≤ maxLen := by
  rcases h with ⟨_, rfl, _⟩ | ⟨x, _, h1, h2, _⟩
  · exact Nat.zero_le _
  · omega
set_option maxRecDepth 1000000 in
set_option maxHeartbeats 12800000 in
theorem walk (a0 : Option Addr) (len0 cap0 : Nat) (z0 : List Int) (a1 : Option Addr) (len1 cap1 : Nat) (z1 : List Int) (w : World) (w0 : IsRow .u8 w a0 len0 cap0 z0) (w1 : IsRow .u8 w a1 len1 cap1 z1) (hT : TabP w) (hE : ErrsAt w) (hSh : w.ShapedOpen Tryz.prog) :
    Calls Tryz.prog 3 #[.slice a0 len0 cap0, .slice a1 len1 cap1] w fun e w' => e = .returned (.bool true) ∧ Below w.heap.size w w' := by
  have m0 := maxlen_of w0
  have m1 := maxlen_of w1
  obtain ⟨Z0, q0, l0⟩ := u8_in w0
  obtain ⟨Z1, q1, l1⟩ := u8_in w1
  clear w0 w1
  by_cases hL0 : len0 ≤ 1048576
  rotate_left
  · have c := r8Long_first a0 len0 cap0 a1 len1 cap1 hL0 m0
    clear q0 q1
    go_enter Tryz.func3, Tryz.ntmps3
    go_wp2_with fail
    refine (c _).mono ?_
    rintro e _ ⟨rfl, rfl⟩
    go_wp2
    go_ret
    exact ⟨rfl, Below.refl _ _⟩
  by_cases hL1 : len1 ≤ 1048576
  rotate_left
  · have c := r8Long_second a0 len0 cap0 a1 len1 cap1 hL0 hL1 m1
    clear q0 q1
    go_enter Tryz.func3, Tryz.ntmps3
    go_wp2_with fail
    refine (c _).mono ?_
    rintro e _ ⟨rfl, rfl⟩
    go_wp2
    go_ret
    exact ⟨rfl, Below.refl _ _⟩
  have cL := Lib.hid (r8Long_no a0 len0 cap0 a1 len1 cap1 hL0 hL1)
  have cN := Lib.hid (R8String_any (.slice a0 len0 cap0) Z0 w (by omega) q0)
  have hq1 := Lib.hid (fun W (h : Below w.heap.size w W) => q1.below h)
  have hT' := Lib.hid hT
  have hE' := Lib.hid hE
  have hSh' := Lib.hid hSh
  have hZ1 : Z1.length ≤ 1048576 := by omega
  clear q0 q1 hE hT hSh
  go_enter Tryz.func3, Tryz.ntmps3
  go_wp2_with fail
  refine (cL.out _).mono ?_
  rintro e _ ⟨rfl, rfl⟩
  go_wp2_with fail
  refine cN.out.mono ?_
  rintro e p1 ⟨a, b, c, d, rfl, ha, hb, hc, hd, b1⟩
  have B1 := Lib.hid b1
  obtain ⟨t, u, v, sf, D, cT, cU, cV, cS, cOK, cX, cY, ft, fu, fv, fsf, bsf⟩ := sA a b c d ha hb hc hd
  clear b1 cN cL
  go_wp2_with fail
  have hat0 := crd_box a b c d p1
  have hz0 : p1.heap.size < (p1.alloc (.cells #[.int .i64 a, .int .i64 b, .int .i64 c, .int .i64 d] 25)).heap.size := by simp
  have hU0 : Below w.heap.size w (p1.alloc (.cells #[.int .i64 a, .int .i64 b, .int .i64 c, .int .i64 d] 25)) := B1.out.alloc B1.out.size _
  generalize p1.alloc (.cells #[.int .i64 a, .int .i64 b, .int .i64 c, .int .i64 d] 25) = p2 at hat0 hz0 hU0 ⊢
  generalize p1.heap.size = R at hat0 hz0 ⊢
  have U2 := Lib.hid hU0
  have hcell : Hid (∀ W, Below p2.heap.size p2 W → CrdAt W R 0 ⟨a, b, c, d⟩) := Lib.hid (fun W hb => hat0.below hz0 hb)
  clear hat0 hz0 hU0 B1
  refine (cT.out _).mono ?_
  rintro e p3 ⟨rfl, b3⟩
  have V3 := Lib.hid b3
  obtain ⟨k0, k1, k2, k3⟩ := id (hcell.out _ V3.out)
  simp only [Nat.zero_add] at k0 k1 k2 k3
  clear b3 cT
  go_wp2_with fail
  clear k0 k1 k2 k3
  refine (cX.out _ (hT'.out.below (below2 U2.out V3.out))).mono ?_
  rintro e p4 ⟨rfl, b4⟩
  have V4 := Lib.hid (below2 V3.out b4)
  clear b4 V3 cX
  go_wp2_with fail
  have M4 := below2 U2.out V4.out
  refine (cY.out _ (hT'.out.below M4) (hE'.out.below M4) (shape_below hSh'.out M4)).mono ?_
  rintro e p5 ⟨rfl, b5⟩
  have V5 := Lib.hid (below2 V4.out b5)
  clear b5 V4 cY M4
  go_upto_region 6 with fail
  have hq6 := heap_alloc_new p5 (.cells #[.int .i64 a, .int .i64 b, .int .i64 c, .int .i64 d] 25)
  have V6 := Lib.hid (V5.out.alloc V5.out.size (.cells #[.int .i64 a, .int .i64 b, .int .i64 c, .int .i64 d] 25))
  obtain ⟨Q, hQ⟩ : ∃ Q, Q = p5.heap.size := ⟨_, rfl⟩
  have hQ6 : Q < (p5.alloc (.cells #[.int .i64 a, .int .i64 b, .int .i64 c, .int .i64 d] 25)).heap.size := by rw [hQ]; simp
  rw [← hQ] at hq6 ⊢
  generalize p5.alloc (.cells #[.int .i64 a, .int .i64 b, .int .i64 c, .int .i64 d] 25) = p6 at hq6 V6 hQ6 ⊢
  obtain ⟨k0, k1, k2, k3⟩ := id (hcell.out _ V6.out)
  simp only [Nat.zero_add] at k0 k1 k2 k3
  clear hQ V5
  go_upto_region 7 with fail
  clear k0 k1 k2 k3
  have hy7 := heap_alloc_new p6 (.cells #[.int .i64 a, .int .i64 b, .int .i64 c, .int .i64 d] 25)
  have hq7 := (Below.heap_alloc p6 (.cells #[.int .i64 a, .int .i64 b, .int .i64 c, .int .i64 d] 25) _ hQ6).trans hq6
  have V7 := Lib.hid (V6.out.alloc V6.out.size (.cells #[.int .i64 a, .int .i64 b, .int .i64 c, .int .i64 d] 25))
  obtain ⟨Y, hY⟩ : ∃ Y, Y = p6.heap.size := ⟨_, rfl⟩
  have hYp : p2.heap.size ≤ Y := by rw [hY]; exact V6.out.size
  have hQY : Q ≠ Y := by omega
  rw [← hY] at hy7 ⊢
  generalize p6.alloc (.cells #[.int .i64 a, .int .i64 b, .int .i64 c, .int .i64 d] 25) = p7 at hy7 hq7 V7 ⊢
  have d0 := cellB hy7 0 _ rfl
  have f0 := freeB hy7 0
  have hy8 := set_at hy7 0 (.int .i64 (a + 1)) _ rfl
  have hq8 := (Below.heap_setCell p7 ⟨Y, 0, none⟩ (.int .i64 (a + 1)) _ hQY).trans hq7
  have V8 : Hid (Below p2.heap.size p2 (p7.setCell ⟨Y, 0, none⟩ (.int .i64 (a + 1)))) := Lib.hid (V7.out.setCell (p := ⟨Y, 0, none⟩) hYp _)
  clear hq6 hQ6 hY hy7 hq7 V6 V7
  go_upto_region 8 with fail
  clear d0 f0
  generalize p7.setCell ⟨Y, 0, none⟩ (.int .i64 (a + 1)) = p8 at hy8 hq8 V8 ⊢
  obtain ⟨k0, k1, k2, k3⟩ := id (hcell.out _ V8.out)
  simp only [Nat.zero_add] at k0 k1 k2 k3
  have hY8 := lt_some hy8
  have hQ8 := lt_some hq8
  go_upto_region 9 with fail
  clear k0 k1 k2 k3
  obtain ⟨Z, hZ⟩ : ∃ Z, Z = p8.heap.size := ⟨_, rfl⟩
  have H9 : YZ p2 Q Y Z a b c d (a + 1) b c d a b c d (p8.alloc (.cells #[.int .i64 a, .int .i64 b, .int .i64 c, .int .i64 d] 25)) := ⟨V8.out.alloc V8.out.size _, (Below.heap_alloc p8 _ _ hQ8).trans hq8, (Below.heap_alloc p8 _ _ hY8).trans hy8, by rw [hZ]; exact heap_alloc_new p8 _, hYp, by rw [hZ]; exact V8.out.size, by omega, hQY, by omega⟩
  rw [← hZ]
  generalize p8.alloc (.cells #[.int .i64 a, .int .i64 b, .int .i64 c, .int .i64 d] 25) = p9 at H9 ⊢
  have d2 := cellB H9.z 2 _ rfl
  have f2 := freeB H9.z 2
  have H10 := Lib.hid (H9.setZ (c + 1))
  clear hZ hY8 hQ8 hy8 hq8 V8 H9 hYp hQY
  go_upto_region 10 with fail
  clear d2 f2
  generalize p9.setCell ⟨Z, 2, none⟩ (.int .i64 (c + 1)) = p10 at H10 ⊢
  have d0 := cellB H10.out.y 0 _ rfl
  have d1 := cellB H10.out.y 1 _ rfl
  have d2 := cellB H10.out.y 2 _ rfl
  have d3 := cellB H10.out.y 3 _ rfl
  go_wp2_with fail
  clear d0 d1 d2 d3
  refine (cU.out _).mono ?_
  rintro e p11 ⟨rfl, b11⟩
  have H11 := Lib.hid (H10.out.call b11)
  clear b11 H10 cU
  have d0 := cellB H11.out.z 0 _ rfl
  have d1 := cellB H11.out.z 1 _ rfl
  have d2 := cellB H11.out.z 2 _ rfl
  have d3 := cellB H11.out.z 3 _ rfl
  go_wp2_with fail
  clear d0 d1 d2 d3
  refine (cV.out _).mono ?_
  rintro e p12 ⟨rfl, b12⟩
  have H12 := Lib.hid (H11.out.call b12)
  clear b12 H11 cV
  obtain ⟨k0, k1, k2, k3⟩ := id (hcell.out _ H12.out.v)
  simp only [Nat.zero_add] at k0 k1 k2 k3
  go_wp2_with fail
  clear k0 k1 k2 k3
  refine (cS.out _).mono ?_
  rintro e p13 ⟨rfl, b13⟩
  have H13 := Lib.hid (H12.out.call b13)
  clear b13 H12 cS
  obtain ⟨k0, k1, k2, k3⟩ := id (hcell.out _ H13.out.v)
  simp only [Nat.zero_add] at k0 k1 k2 k3
  have d0 := cellB H13.out.q 0 _ rfl
  have d1 := cellB H13.out.q 1 _ rfl
  have d2 := cellB H13.out.q 2 _ rfl
  have d3 := cellB H13.out.q 3 _ rfl
  have e3 : (t == 0) = false := by simpa using (show ¬ t = 0 by omega)
  have e4 : IntKind.i64.wrap sf = sf := IntWalk.i64_in _ (by omega)
  go_wp2_with (go_at_call 10; refine (cOK.out _).mono ?_; rintro e p14 ⟨rfl, b14⟩; have H14 := Lib.hid (H13.out.call b14))
  clear k0 k1 k2 k3
  clear d0 d1 d2 d3
  clear H13 b14 cOK e3 e4 fu fv fsf bsf ft
  refine (r8AtN_any 0 w.heap.size 10 _ Z1 _ (by omega) (by omega) (by omega) hZ1 (hq1.out _ (below2 U2.out H14.out.v))).mono ?_
  rintro e _ ⟨r, rfl, hr0, hr1, m15, rfl⟩
  have H15 := Lib.hid (H14.out.call (belowN (Below.refl _ _) m15))
  generalize p14.drewN m15 = p15 at H15 ⊢
  clear H14
  go_upto_region 16 with fail
  obtain ⟨z, hz⟩ : ∃ z, z = 100 * (1 + r) := ⟨_, rfl⟩
  have hzb : 0 ≤ z ∧ z ≤ 1000 := by omega
  rw [← hz]
  clear hz hr0 hr1
  obtain ⟨hi, e5, cH, he5, hy5⟩ := sB a b c d z ha hb hc hd hzb
  obtain ⟨k0, k1, k2, k3⟩ := id (hcell.out _ H15.out.v)
  simp only [Nat.zero_add] at k0 k1 k2 k3
  go_wp2_with fail
  clear k0 k1 k2 k3
  refine (cH.out _).mono ?_
  rintro e p16 ⟨rfl, b16⟩
  have H16 := Lib.hid (H15.out.call b16)
  clear b16 H15 cH
  go_upto_if 140 with fail
  go_cut [21, 22, 23, 24] from 141 to 181 (fun s21 s22 s23 s24 wx => Hid (∃ u1 : Int, YZ p2 Q Y Z a b c d u1 b c d a b (c + 1) d wx))
  case first =>
    by_cases hc5 : e5 = 0
    rotate_left
    · obtain rfl : e5 = 3 := by omega
      clear hc5 hy5 he5
      go_wp2_with fail
      go_meet
      exact Lib.hid ⟨_, H16.out⟩
    · obtain ⟨p, q, g, cP, cQ, f1, f2, fhi, bp, bq, w1', w2', w3'⟩ := hy5.out hc5
      subst hc5
      clear hy5 he5
      have d0 := cellB H16.out.y 0 _ rfl
      have g0 := freeB H16.out.y 0
      have H17 := Lib.hid (H16.out.setY hi)
      clear H16
      go_upto_region 19 with fail
      clear d0 g0
      generalize p16.setCell ⟨Y, 0, none⟩ (.int .i64 hi) = p17 at H17 ⊢
      have d0 := cellB H17.out.y 0 _ rfl
      have d1 := cellB H17.out.y 1 _ rfl
      have d2 := cellB H17.out.y 2 _ rfl
      have d3 := cellB H17.out.y 3 _ rfl
      go_wp2_with fail
      clear d0 d1 d2 d3
      refine (cP.out _).mono ?_
      rintro e p18 ⟨rfl, b18⟩
      have H18 := Lib.hid (H17.out.call b18)
      clear b18 H17 cP
      have d0 := cellB H18.out.y 0 _ rfl
      have g0 := freeB H18.out.y 0
      have H19 := Lib.hid (H18.out.setY (hi + 1))
      clear H18
      go_upto_region 21 with fail
      clear d0 g0
      generalize p18.setCell ⟨Y, 0, none⟩ (.int .i64 (hi + 1)) = p19 at H19 ⊢
      have d0 := cellB H19.out.y 0 _ rfl
      have d1 := cellB H19.out.y 1 _ rfl
      have d2 := cellB H19.out.y 2 _ rfl
      have d3 := cellB H19.out.y 3 _ rfl
      go_wp2_with fail
      clear d0 d1 d2 d3
      refine (cQ.out _).mono ?_
      rintro e p20 ⟨rfl, b20⟩
      have H20 := Lib.hid (H19.out.call b20)
      clear b20 H19 cQ
      obtain ⟨k0, k1, k2, k3⟩ := id (hcell.out _ H20.out.v)
      simp only [Nat.zero_add] at k0 k1 k2 k3
      rcases f2 with ⟨rfl, f2⟩ | ⟨rfl, rfl⟩
      all_goals
        go_wp2_with fail
        go_meet
        exact Lib.hid ⟨_, H20.out⟩
  case rest =>
    have HX := hcut
    clear hcut hy5 he5 H16 hzb
    obtain ⟨u1, hX0⟩ := HX.out
    have H21 := Lib.hid hX0
    clear HX hX0
    go_wp2_with fail
    refine (r8AtN_any 1 w.heap.size 120 _ Z1 _ (by omega) (by omega) (by omega) hZ1 (hq1.out _ (below2 U2.out H21.out.v))).mono ?_
    rintro e _ ⟨r2, rfl, hr0, hr1, m22, rfl⟩
    have H22 := Lib.hid (H21.out.call (belowN (Below.refl _ _) m22))
    generalize World.drewN _ m22 = p22 at H22 ⊢
    clear H21
    go_upto_region 27 with fail
    obtain ⟨f, hf⟩ : ∃ f, f = 1000 * r2 := ⟨_, rfl⟩
    have hfb : 0 ≤ f ∧ f ≤ 500000 := by omega
    rw [← hf]
    clear hf hr0 hr1
    obtain ⟨le, e6, cG, he6, hy6⟩ := sC a b c d f ha hb hc hd hfb
    obtain ⟨k0, k1, k2, k3⟩ := id (hcell.out _ H22.out.v)
    simp only [Nat.zero_add] at k0 k1 k2 k3
    go_wp2_with fail
    clear k0 k1 k2 k3
    refine (cG.out _).mono ?_
    rintro e p23 ⟨rfl, b23⟩
    have H23 := Lib.hid (H22.out.call b23)
    clear b23 H22 cG
    go_upto_if 192 with fail
    go_cut [28, 29, 30, 31] from 193 to 225 (fun s28 s29 s30 s31 wx => Hid (Below p2.heap.size p2 wx))
    case first =>
      by_cases hc6 : e6 = 0
      rotate_left
      · obtain rfl : e6 = 3 := by omega
        clear hc6 hy6 he6
        go_wp2_with fail
        go_meet
        exact Lib.hid H23.out.v
      · obtain ⟨p, q, g, cP, cQ, f1, f2, fle⟩ := hy6.out hc6
        subst hc6
        clear hy6 he6
        have d2 := cellB H23.out.z 2 _ rfl
        have g2 := freeB H23.out.z 2
        have H24 := Lib.hid (H23.out.setZ le)
        clear H23
        go_upto_region 30 with fail
        clear d2 g2
        generalize p23.setCell ⟨Z, 2, none⟩ (.int .i64 le) = p24 at H24 ⊢
        have d0 := cellB H24.out.z 0 _ rfl
        have d1 := cellB H24.out.z 1 _ rfl
        have d2 := cellB H24.out.z 2 _ rfl
        have d3 := cellB H24.out.z 3 _ rfl
        go_wp2_with fail
        clear d0 d1 d2 d3
        refine (cP.out _).mono ?_
        rintro e p25 ⟨rfl, b25⟩
        have H25 := Lib.hid (H24.out.call b25)
        clear b25 H24 cP
        have d2 := cellB H25.out.z 2 _ rfl
        have g2 := freeB H25.out.z 2
        have H26 := Lib.hid (H25.out.setZ (le - 1))
        clear H25
        go_upto_region 32 with fail
        clear d2 g2
        generalize p25.setCell ⟨Z, 2, none⟩ (.int .i64 (le - 1)) = p26 at H26 ⊢
        have d0 := cellB H26.out.z 0 _ rfl
        have d1 := cellB H26.out.z 1 _ rfl
        have d2 := cellB H26.out.z 2 _ rfl
        have d3 := cellB H26.out.z 3 _ rfl
        go_wp2_with fail
        clear d0 d1 d2 d3
        refine (cQ.out _).mono ?_
        rintro e p27 ⟨rfl, b27⟩
        have H27 := Lib.hid (H26.out.call b27)
        clear b27 H26 cQ
        rcases f2 with ⟨rfl, f2⟩ | ⟨rfl, rfl⟩
        all_goals
          go_wp2_with fail
          go_meet
          exact Lib.hid H27.out.v
    case rest =>
      have HX := hcut
      clear hcut hy6 he6 H23 hfb
      obtain ⟨y, hy⟩ : ∃ y, y = wide8 Z1 2 3000 := ⟨_, rfl⟩
      have hyb := wide8_in Z1 2 3000 (by omega)
      rw [← hy] at hyb
      have cW : Hid (∀ n, Calls Tryz.prog 15 #[.slice a1 len1 cap1, .int .i64 2, .int .i64 3000] (wc.drewN n) fun e w' => e = .returned (.int .i64 y) ∧ ∃ m, w' = wc.drewN m) := Lib.hid (fun n => by
        have h9 := r8Wide_any 2 w.heap.size 3000 _ Z1 (wc.drewN n) (by omega) (by omega) (by omega) hZ1 (hq1.out _ (below2 U2.out (belowN HX.out n)))
        rw [← hy] at h9
        exact h9.mono (by rintro e w' ⟨rfl, m, rfl⟩; exact ⟨rfl, n + m, by rw [World.drewN_drewN]⟩))
      obtain ⟨k0, k1, k2, k3⟩ := id (hcell.out _ HX.out)
      simp only [Nat.zero_add] at k0 k1 k2 k3
      clear hy
      go_wp2_with fail
      go_quiet ((go_at_call 15; (with_reducible exact cW.out _)))
      go_upto_region 38 with fail
      clear k0 k1 k2 k3
      generalize hg : World.drewN wc _ = p29
      have V29 : Hid (Below p2.heap.size p2 p29) := Lib.hid (by rw [← hg]; exact belowN HX.out _)
      obtain ⟨P, hP⟩ : ∃ P, P = a + y := ⟨_, rfl⟩
      have hPb : a ≤ P ∧ P ≤ 10000 := by omega
      rw [← hP]
      clear hg hP HX cW hyb
      obtain ⟨at', v9, cA, cB, cAb, fat, fv9, bv, w1', w2', w3'⟩ := sD a b c d P ha hb hc hd hPb
      obtain ⟨k0, k1, k2, k3⟩ := id (hcell.out _ V29.out)
      simp only [Nat.zero_add] at k0 k1 k2 k3
      go_wp2_with fail
      clear k0 k1 k2 k3
      refine (cA.out _).mono ?_
      rintro e p30 ⟨rfl, b30⟩
      have V30 := Lib.hid (below2 V29.out b30)
      clear b30 V29 cA
      obtain ⟨k0, k1, k2, k3⟩ := id (hcell.out _ V30.out)
      simp only [Nat.zero_add] at k0 k1 k2 k3
      go_wp2_with fail
      clear k0 k1 k2 k3
      refine (cB.out _).mono ?_
      rintro e p31 ⟨rfl, b31⟩
      have V31 := Lib.hid (below2 V30.out b31)
      clear b31 V30 cB
      obtain ⟨k0, k1, k2, k3⟩ := id (hcell.out _ V31.out)
      simp only [Nat.zero_add] at k0 k1 k2 k3
      go_wp2_with (go_at_call 17; (with_reducible refine (cAb.out _).mono ?_); rintro e w' ⟨rfl, rfl⟩)
      go_ret
      exact ⟨by first | rfl | simp, below2 U2.out V31.out⟩

/-- A world for the witness: the settled one, the listed variables holding what their initialisers lay. -/
noncomputable def laidWorld (os : Os) : World :=
  let N := (World.settled Tryz.prog os).heap.size
  let w0 := World.holding Tryz.prog os ⟨#[.cells #[.string ⟨([118, 97, 108, 117, 101, 32, 111, 117, 116, 32, 111, 102, 32, 114, 97, 110, 103, 101] : List UInt8).toArray⟩] 126, .cells #[.string ⟨([105, 110, 118, 97, 108, 105, 100, 32, 115, 121, 110, 116, 97, 120] : List UInt8).toArray⟩] 126], #[], []⟩
  let put (h : Array Obj) (g : Nat) (cs : Array Value) : Array Obj := h.modify g fun
    | .cells _ t frozen => .cells cs t frozen
    | o => o
  let h0 := put w0.heap 6 #[.int .u8 0, .int .u8 1, .int .u8 28, .int .u8 2, .int .u8 29, .int .u8 14, .int .u8 24, .int .u8 3, .int .u8 30, .int .u8 22, .int .u8 20, .int .u8 15, .int .u8 25, .int .u8 17, .int .u8 4, .int .u8 8, .int .u8 31, .int .u8 27, .int .u8 13, .int .u8 23, .int .u8 21, .int .u8 19, .int .u8 16, .int .u8 7, .int .u8 26, .int .u8 12, .int .u8 18, .int .u8 6, .int .u8 11, .int .u8 5, .int .u8 10, .int .u8 9]
  let h1 := put h0 7 #[.int .u8 0, .int .u8 1, .int .u8 56, .int .u8 2, .int .u8 57, .int .u8 49, .int .u8 28, .int .u8 3, .int .u8 61, .int .u8 58, .int .u8 42, .int .u8 50, .int .u8 38, .int .u8 29, .int .u8 17, .int .u8 4, .int .u8 62, .int .u8 47, .int .u8 59, .int .u8 36, .int .u8 45, .int .u8 43, .int .u8 51, .int .u8 22, .int .u8 53, .int .u8 39, .int .u8 33, .int .u8 30, .int .u8 24, .int .u8 18, .int .u8 12, .int .u8 5, .int .u8 63, .int .u8 55, .int .u8 48, .int .u8 27, .int .u8 60, .int .u8 41, .int .u8 37, .int .u8 16, .int .u8 46, .int .u8 35, .int .u8 44, .int .u8 21, .int .u8 52, .int .u8 32, .int .u8 23, .int .u8 11, .int .u8 54, .int .u8 26, .int .u8 40, .int .u8 15, .int .u8 34, .int .u8 20, .int .u8 31, .int .u8 10, .int .u8 25, .int .u8 14, .int .u8 19, .int .u8 9, .int .u8 13, .int .u8 8, .int .u8 7, .int .u8 6]
  let h2 := put h1 0 #[.int .u64 1, .int .u64 10, .int .u64 100, .int .u64 1000, .int .u64 10000, .int .u64 100000, .int .u64 1000000, .int .u64 10000000, .int .u64 100000000, .int .u64 1000000000, .int .u64 10000000000, .int .u64 100000000000, .int .u64 1000000000000, .int .u64 10000000000000, .int .u64 100000000000000, .int .u64 1000000000000000, .int .u64 10000000000000000, .int .u64 100000000000000000, .int .u64 1000000000000000000, .int .u64 10000000000000000000]
  let h3 := put h2 5 #[.int .u8 128, .int .u8 191, .int .u8 160, .int .u8 191, .int .u8 128, .int .u8 159, .int .u8 144, .int .u8 191, .int .u8 128, .int .u8 143, .int .u8 0, .int .u8 0, .int .u8 0, .int .u8 0, .int .u8 0, .int .u8 0, .int .u8 0, .int .u8 0, .int .u8 0, .int .u8 0, .int .u8 0, .int .u8 0, .int .u8 0, .int .u8 0, .int .u8 0, .int .u8 0, .int .u8 0, .int .u8 0, .int .u8 0, .int .u8 0, .int .u8 0, .int .u8 0]
  let h4 := put h3 3 #[.iface 124 (.pointer (some ⟨N + 0, 0, none⟩))]
  let h5 := put h4 2 #[.iface 124 (.pointer (some ⟨N + 1, 0, none⟩))]
  let h6 := put h5 4 (Lib.firstTab.map fun z => Value.int .u8 z).toArray
  { w0 with heap := h6 }
noncomputable abbrev N0 : Nat := (World.settled Tryz.prog default).heap.size
set_option maxRecDepth 1000000 in
theorem laid_met (os : Os) : laidMet Tryz.prog Rows.fnStringsRow.laid ((laidWorld os).forCall (fun _ _ => 0) ⟨#[], #[.slice none 0 0, .slice none 0 0], []⟩).memory :=
  (LaidIn.of_run (l := Rows.fnStringsRow.laid) [6, 7, 0, 5, 3, N0 + 0, 2, N0 + 1, 4] 10 (by kernel_rfl) (by kernel_rfl) (by kernel_rfl) (by kernel_rfl)).met
theorem reads (os : Os) {H : Type} (enc : TypeId × Value → H) : ∃ places, DataW.whole enc Tryz.prog ((laidWorld os).forCall (fun _ _ => 0) ⟨#[], #[.slice none 0 0, .slice none 0 0], []⟩).memory Tryz.f3.params.toList Rows.fnStringsSpec.vars false (#[.slice none 0 0, .slice none 0 0] : Array Value).toList 8 = some ([.nil, .nil], [], places) :=
  ⟨[], by kernel_rfl⟩
set_option maxRecDepth 100000 in
theorem lifted (os : Os) (started : os.Started) (H : Type) (enc : TypeId × Value → H) (F : Stop.Interp) :
    ReturnsInHanded {} Tryz.checked os 3 .any ((OpenSpec.ofChange Rows.fnStringsSpec).preRow enc Tryz.prog Tryz.f3 Rows.fnStringsRow.domain false Rows.fnStringsRow.laid) (((OpenSpec.ofChange Rows.fnStringsSpec).at F).post enc Tryz.prog Tryz.f3 false true false false) := by
  obtain ⟨places, hx⟩ := reads os enc
  refine returnsInHanded_of_row (C := Tryz.checked) (s := (OpenSpec.ofChange Rows.fnStringsSpec)) own started (by kernel_rfl) Tryz.func3
    (witness_row_atRef (enc := enc) (C := Tryz.checked) false (laidWorld os) #[.slice none 0 0, .slice none 0 0] rfl (by kernel_rfl) (by kernel_rfl) (by kernel_rfl)
      (OpenSpec.preRow_of_cond 8 hx (by kernel_rfl) (fun k hk => by cases hk) (by kernel_rfl) (laid_met os))) ?_
  intro W base args ds gs before hval0 hW hcnd hcond _ hL0 hShape _
  have hL : laidMet Tryz.prog Rows.fnStringsRow.laid W := hL0
  have hval : ∀ (j : Nat) t v, Tryz.f3.params[j]? = some t → args[j]? = some v → Value.okWide Tryz.prog W .any base t v := hval0
  have hW' := hW
  obtain ⟨p, q, hA0, hV, rfl, hfz, hnd⟩ := hW
  have hA : DataW.TrodAll enc Tryz.prog W 0 (fun _ => true) true Tryz.f3.params.toList args.toList ds p := hA0
  rw [Tryz.params3] at hA hval
  obtain ⟨v0, vs0, d0, ds0, p0, q0, hargs, rfl, rfl, h0, r0⟩ := trodAll_cons hA
  obtain ⟨v1, vs1, d1, ds1, p1, q1, rfl, rfl, rfl, h1, r1⟩ := trodAll_cons r0
  obtain ⟨rfl, rfl, rfl⟩ := trodAll_nil r1
  obtain rfl : args = #[v0, v1] := by cases args; simp_all
  obtain ⟨rfl, rfl⟩ := trodVars_none hV
  obtain ⟨a0, len0, cap0, rfl⟩ := okWide_slice Tryz.underlying22 (hval 0 22 v0 rfl rfl)
  have k0 := h0
  have lt0 : ∀ x ∈ p0, x.block < W.heap.size := by obtain ⟨m, hm⟩ := k0; exact DataW.trod_lt m _ _ _ hm
  obtain ⟨z0, w0⟩ : ∃ zs, IsRow .u8 W a0 len0 cap0 zs := by
    obtain ⟨fuel, hf⟩ := h0
    rcases open_ints Tryz.underlying22 Tryz.underlying5 (by kernel_rfl) hf with ⟨hcs, _⟩ | ⟨x, l, c, zs, hcs, _, hl, hm, hz, _, hcell, hwz⟩
    · simp [Value.cells] at hcs
      obtain ⟨rfl, rfl, rfl⟩ := hcs
      exact ⟨[], .inl ⟨rfl, rfl, rfl, rfl⟩⟩
    · simp [Value.cells] at hcs
      obtain ⟨rfl, rfl, rfl⟩ := hcs
      exact ⟨zs, .inr ⟨_, rfl, hl, hm, by simpa using hz, hcell, hwz⟩⟩
  obtain ⟨a1, len1, cap1, rfl⟩ := okWide_slice Tryz.underlying22 (hval 1 22 v1 rfl rfl)
  have k1 := h1
  have lt1 : ∀ x ∈ p1, x.block < W.heap.size := by obtain ⟨m, hm⟩ := k1; exact DataW.trod_lt m _ _ _ hm
  obtain ⟨z1, w1⟩ : ∃ zs, IsRow .u8 W a1 len1 cap1 zs := by
    obtain ⟨fuel, hf⟩ := h1
    rcases open_ints Tryz.underlying22 Tryz.underlying5 (by kernel_rfl) hf with ⟨hcs, _⟩ | ⟨x, l, c, zs, hcs, _, hl, hm, hz, _, hcell, hwz⟩
    · simp [Value.cells] at hcs
      obtain ⟨rfl, rfl, rfl⟩ := hcs
      exact ⟨[], .inl ⟨rfl, rfl, rfl, rfl⟩⟩
    · simp [Value.cells] at hcs
      obtain ⟨rfl, rfl, rfl⟩ := hcs
      exact ⟨zs, .inr ⟨_, rfl, hl, hm, by simpa using hz, hcell, hwz⟩⟩
  clear hA0 hval0
  refine (walk a0 len0 cap0 z0 a1 len1 cap1 z1 W w0 w1 (tabP_head hL.tail.tail) (errs_of_laid hL.tail.tail.tail.tail) (hShape)).mono fun e W' ⟨he, bel⟩ => ?_
  subst he
  exact ⟨_, rfl, _, _, _, [], _, [], hW', trodAll_mk1 (shut_bool Tryz.underlying4 _), (trodAll_cons_mk (Below.trod laidOut (by kernel_rfl) (of_decide_eq_true (by kernel_rfl)) k0 bel lt0) (trodAll_cons_mk (Below.trod laidOut (by kernel_rfl) (of_decide_eq_true (by kernel_rfl)) k1 bel lt1) trodAll_mk0)), rfl, bel.frame _, fun h => by cases h⟩

theorem said : Rows.FnStringsSaid :=
  OpenClaim.holds_of_cond 3 Tryz.f3 rfl rfl rfl rfl rfl rfl rfl ⟨rfl, rfl, rfl, rfl, rfl⟩ rfl rfl rfl rfl rfl (by kernel_rfl) Tryz.func3 (by kernel_rfl)
    (of_decide_eq_true (by kernel_rfl)) (by unfold Func.isWrapper; first | (rw [if_pos (by decide +kernel)]; kernel_rfl) | (rw [if_neg (by decide +kernel)]; exact ⟨rfl, rfl⟩))
    (fun os started H enc _ F => by rw [OpenClaim.pre_eq_preRow]; exact lifted os started H enc F)

theorem plain (f : FuncId) (fn : Func) (hf : Tryz.pinned.checked.prog.funcNamed "loop.example/g01061/laws.FnStrings" = some f) (hfn : Tryz.pinned.checked.prog.funcs[f]? = some fn) :
    true = Tryz.pinned.checked.prog.looks [] ∧ ∀ (j : Nat) t, fn.params[j]? = some t → Tryz.pinned.checked.prog.wantsStandIn t = false := by
  obtain rfl : f = 3 := Option.some.inj ((show Tryz.prog.funcNamed "loop.example/g01061/laws.FnStrings" = some 3 by kernel_rfl).symm.trans hf) |>.symm
  obtain rfl : fn = Tryz.f3 := (Option.some.inj (Tryz.func3.symm.trans hfn)).symm
  refine ⟨by kernel_rfl, fun j t ht => ?_⟩
  rw [Tryz.params3] at ht
  have hm := Array.mem_of_getElem? ht
  simp only [List.mem_toArray, List.mem_cons, List.mem_nil_iff, or_false] at hm
  rcases hm with rfl | rfl
  · exact (show Tryz.prog.wantsStandIn 22 = false by kernel_rfl)
  · exact (show Tryz.prog.wantsStandIn 22 = false by kernel_rfl)

/-- the statement -/
theorem proved : Rows.FnStringsCardSaid :=
  Claim7.holds_tied_plain_at .later [] _ _ _ _ said (fun _ h => by cases h) (by kernel_rfl) (fun _ h => by cases h) fnStrings_row_tie rfl ⟨rfl, rfl⟩ (by kernel_rfl) rfl plain (by kernel_rfl)
#print axioms proved
end Go.Proofs.YtnenccfmopjcjaaGreatDoor.fnStrings
