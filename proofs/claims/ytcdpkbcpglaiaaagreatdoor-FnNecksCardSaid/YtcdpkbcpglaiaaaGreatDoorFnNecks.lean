/-
  The law FnNecks holds for every input: the function answers as its model; the listed package-level variables are tied to the program's text.
-/
import Derived.Test.YtcdpkbcpglaiaaaGreatDoorNks
import Derived.Test.YtcdpkbcpglaiaaaGreatDoorCards
import Derived.Test.YtcdpkbcpglaiaaaGreatDoorTie
import Derived.Lib.Hide
import Derived.WalkKit
import Derived.ProofKit
import Derived.OpenShut
import Derived.ShutString
import Derived.ChangeOld
import Derived.Below
import Derived.Deep.DeepHandedRow
import Derived.Deep.DeepWitnessRowRef
import Derived.Lib.LaidIn
import Derived.Lib.LaidTab
import Derived.SevenTiedAt
namespace Go.Proofs.YtcdpkbcpglaiaaaGreatDoor.fnNecks
open Go.ChangeShapes Go.WideShapes Go.ChangeAt Go.RowKit
open Go.ChangeMaps (open_string shut_string)
set_option linter.unusedVariables false
set_option linter.unusedSimpArgs false

theorem own : ownKnob Tryz.prog.godebug = none := by kernel_rfl
theorem laidOut : laidOutB Tryz.prog = true := by kernel_rfl
/-- WHAT THE WALK IS TOLD OF A SLICE OF INTEGERS THAT CAME IN: it is nil; or it leads to a row of 'cap' cells, the numbers 'zs' (the first 'len' are its elements, the rest its spare room), each fitting its kind. -/
def IsRow (k : IntKind) (w : World) (a : Option Addr) (len cap : Nat) (zs : List Int) : Prop :=
  (a = none ∧ len = 0 ∧ cap = 0 ∧ zs = []) ∨
  ∃ x, a = some x ∧ len ≤ cap ∧ cap ≤ maxLen ∧ zs.length = cap ∧ (∀ i, i < zs.length → w.cell? (x.add i) = some (.int k (zs.getD i 0))) ∧ ∀ n ∈ zs, (Lit.int k n).wf = true

theorem maxlen_of {w : World} {k : IntKind} {a : Option Addr} {len cap : Nat} {zs : List Int} (h : IsRow k w a len cap zs) : len ≤ maxLen := by
  rcases h with ⟨_, rfl, _⟩ | ⟨x, _, h1, h2, _⟩
  · exact Nat.zero_le _
  · omega
set_option maxRecDepth 1000000 in
set_option maxHeartbeats 12800000 in
theorem walk (a0 : Option Addr) (len0 cap0 : Nat) (z0 : List Int) (a1 : Option Addr) (len1 cap1 : Nat) (z1 : List Int) (w : World) (w0 : IsRow .u8 w a0 len0 cap0 z0) (w1 : IsRow .u8 w a1 len1 cap1 z1) (hT : TabP w) (hE : ErrsAt w) (hSh : w.ShapedOpen Tryz.prog) :
    Calls Tryz.prog 3 #[.slice a0 len0 cap0, .slice a1 len1 cap1] w fun e w' => e = .returned (.bool true) ∧ Below w.heap.size w w' := by
  have m0 := maxlen_of w0
  have m1 := maxlen_of w1
  obtain ⟨Z0, q0, l0⟩ := u8_in w0
  obtain ⟨Z1, q1, l1⟩ := u8_in w1
  clear w0 w1
  by_cases hL0 : len0 ≤ 1048576
  rotate_left
  · have c := b10Long_yes a0 len0 cap0 hL0 m0
    clear q0 q1
    go_enter Tryz.func3, Tryz.ntmps3
    go_wp2_with fail
    refine (c _).mono ?_
    rintro e _ ⟨rfl, rfl⟩
    go_wp2
    go_ret
    exact ⟨rfl, Below.refl _ _⟩
  have cL0 := Lib.hid (b10Long_no a0 len0 cap0 hL0)
  by_cases hL1 : len1 ≤ 1048576
  rotate_left
  · have c := b10Long_yes a1 len1 cap1 hL1 m1
    clear q0 q1
    go_enter Tryz.func3, Tryz.ntmps3
    go_wp2_with fail
    refine (cL0.out _).mono ?_
    rintro e _ ⟨rfl, rfl⟩
    go_wp2_with fail
    refine (c _).mono ?_
    rintro e _ ⟨rfl, rfl⟩
    go_wp2
    go_ret
    exact ⟨rfl, Below.refl _ _⟩
  have cL1 := Lib.hid (b10Long_no a1 len1 cap1 hL1)
  have cD1 := Lib.hid (DrawAngleFor_any (.slice a0 len0 cap0) Z0 w (by omega) q0)
  have cD2 := Lib.hid (fun W (h : Below w.heap.size w W) => DrawShimFor_any (.slice a1 len1 cap1) Z1 W (by omega) (u8_at q1 h.size h))
  have cD3 := Lib.hid (fun W (h : Below w.heap.size w W) => DrawBridgeFor_any (.slice a0 len0 cap0) Z0 W (by omega) (u8_at q0 h.size h))
  have hT' := Lib.hid hT
  have hE' := Lib.hid hE
  have hSh' := Lib.hid hSh
  clear q0 q1 hE hT hSh
  go_enter Tryz.func3, Tryz.ntmps3
  go_wp2_with fail
  refine (cL0.out _).mono ?_
  rintro e _ ⟨rfl, rfl⟩
  go_wp2_with fail
  refine (cL1.out _).mono ?_
  rintro e _ ⟨rfl, rfl⟩
  go_wp2_with fail
  refine cD1.out.mono ?_
  rintro e p1 ⟨x1, x2, x3, x4, h, rfl, xa, xb, xc, xd, xh, b1⟩
  have B1 := Lib.hid b1
  obtain ⟨k, c1, cA, hz1, hy1⟩ := part1 x1 x2 x3 x4 h
  clear b1 cD1 cL0 cL1
  go_wp2_with fail
  have hat0 := nck_box x1 x2 x3 x4 p1
  have hz0 : p1.heap.size < (p1.alloc (.cells #[.int .i64 x1, .int .i64 x2, .int .i64 x3, .int .i64 x4] 25)).heap.size := by simp
  have hU0 : Below w.heap.size w (p1.alloc (.cells #[.int .i64 x1, .int .i64 x2, .int .i64 x3, .int .i64 x4] 25)) := B1.out.alloc B1.out.size _
  generalize p1.alloc (.cells #[.int .i64 x1, .int .i64 x2, .int .i64 x3, .int .i64 x4] 25) = p2 at hat0 hz0 hU0 ⊢
  generalize p1.heap.size = R at hat0 hz0 ⊢
  have U0 := Lib.hid hU0
  refine (cA.out _).mono ?_
  rintro e p3 ⟨rfl, b3⟩
  have U3 := Lib.hid (below2 U0.out b3)
  have hat3 := Lib.hid (hat0.below hz0 b3)
  have hz3 := Nat.lt_of_lt_of_le hz0 b3.size
  clear b3 hat0 hz0 hU0 U0 cA B1
  go_upto_if 51 with fail
  go_cut [9, 10, 11, 12, 13] from 52 to 85 (fun s9 s10 s11 s12 s13 wx => Hid (Below w.heap.size w wx))
  case first =>
    by_cases hc : c1 = 0
    rotate_left
    · have e1 : (c1 == 0) = false := beq_eq_false_iff_ne.2 hc
      obtain rfl := hz1.out hc
      clear hc hz1 hy1
      go_wp2_with fail
      go_meet
      exact U3
    · obtain ⟨A, B, c3, cP, cQ, fA, fB, fk0, fk1⟩ := hy1.out hc
      subst hc
      obtain ⟨k0, k1, k2, k3⟩ := id hat3.out
      simp only [Nat.zero_add] at k0 k1 k2 k3
      have hA4 : Below p3.heap.size p3 (p3.alloc (.cells #[.int .i64 x1, .int .i64 x2, .int .i64 x3, .int .i64 x4] 25)) := (Below.refl _ _).alloc (Nat.le_refl _) _
      have hbx := heap_alloc_new p3 (.cells #[.int .i64 x1, .int .i64 x2, .int .i64 x3, .int .i64 x4] 25)
      clear hy1 hz1
      have hY : p3.heap.size < (p3.alloc (.cells #[.int .i64 x1, .int .i64 x2, .int .i64 x3, .int .i64 x4] 25)).heap.size := by simp
      have hU4 := Lib.hid (below2 U3.out hA4)
      have hw3 := Lib.hid U3.out.size
      clear hA4
      go_upto_region 7 with fail
      clear k0 k1 k2 k3
      generalize p3.alloc (.cells #[.int .i64 x1, .int .i64 x2, .int .i64 x3, .int .i64 x4] 25) = W4 at hbx hY hU4 ⊢
      obtain ⟨Y, hYe⟩ : ∃ Y, Y = p3.heap.size := ⟨_, rfl⟩
      rw [← hYe] at hbx hY hw3 ⊢
      have d3 := cellB hbx 3 _ rfl
      have f3 := freeB hbx 3
      have hb5 := set_at hbx 3 (.int .i64 k) _ rfl
      have hU5 : Hid (Below w.heap.size w (W4.setCell ⟨Y, 3, none⟩ (.int .i64 k))) := Lib.hid (hU4.out.setCell (p := ⟨Y, 3, none⟩) hw3.out _)
      clear hbx hYe hY hU4
      go_upto_region 8 with fail
      generalize W4.setCell ⟨Y, 3, none⟩ (.int .i64 k) = W5 at hb5 hU5 ⊢
      clear d3 f3
      have d0 := cellB hb5 0 _ rfl
      have d1 := cellB hb5 1 _ rfl
      have d2 := cellB hb5 2 _ rfl
      have d3 := cellB hb5 3 _ rfl
      go_wp2_with fail
      refine (cP.out _).mono ?_
      rintro e W6 ⟨rfl, b6⟩
      have hb6 := (b6.block _ (lt_some hb5)).trans hb5
      have hU6 := Lib.hid (below2 hU5.out b6)
      clear d0 d1 d2 d3 b6 hb5 hU5 cP
      have d3 := cellB hb6 3 _ rfl
      have f3 := freeB hb6 3
      have hb7 := set_at hb6 3 (.int .i64 (k - 1)) _ rfl
      have hU7 : Hid (Below w.heap.size w (W6.setCell ⟨Y, 3, none⟩ (.int .i64 (k - 1)))) := Lib.hid (hU6.out.setCell (p := ⟨Y, 3, none⟩) hw3.out _)
      clear hb6 hU6
      go_upto_region 10 with fail
      generalize W6.setCell ⟨Y, 3, none⟩ (.int .i64 (k - 1)) = W7 at hb7 hU7 ⊢
      clear d3 f3
      have d0 := cellB hb7 0 _ rfl
      have d1 := cellB hb7 1 _ rfl
      have d2 := cellB hb7 2 _ rfl
      have d3 := cellB hb7 3 _ rfl
      go_wp2_with fail
      refine (cQ.out _).mono ?_
      rintro e W8 ⟨rfl, b8⟩
      have U8 := Lib.hid (below2 hU7.out b8)
      clear d0 d1 d2 d3 b8 hb7 hU7 cQ
      rcases fB with ⟨rfl, fB⟩ | ⟨rfl, rfl⟩
      all_goals
        go_wp2_with fail
        go_meet
        exact U8
  case rest =>
    have X1 := hcut
    clear hcut hz1 hy1 U3 hat3 hz3 xa xb xc xd xh
    go_wp2_with fail
    refine (cD2.out _ X1.out).mono ?_
    rintro e p6 ⟨y1, y2, y3, y4, h2, j, rfl, xa, xb, xc, xd, xh, xj, b6⟩
    have B6 := Lib.hid (below2 X1.out b6)
    obtain ⟨s, c4, cS, hz2, hy2⟩ := part2 y1 y2 y3 y4 h2 j
    clear b6 cD2 X1
    go_wp2_with fail
    have hat0 := nck_box y1 y2 y3 y4 p6
    have hz0 : p6.heap.size < (p6.alloc (.cells #[.int .i64 y1, .int .i64 y2, .int .i64 y3, .int .i64 y4] 25)).heap.size := by simp
    have hU0 : Below w.heap.size w (p6.alloc (.cells #[.int .i64 y1, .int .i64 y2, .int .i64 y3, .int .i64 y4] 25)) := B6.out.alloc B6.out.size _
    generalize p6.alloc (.cells #[.int .i64 y1, .int .i64 y2, .int .i64 y3, .int .i64 y4] 25) = p7 at hat0 hz0 hU0 ⊢
    generalize p6.heap.size = R2 at hat0 hz0 ⊢
    have U7 := Lib.hid hU0
    refine (cS.out _).mono ?_
    rintro e p8 ⟨rfl, b8⟩
    have U8 := Lib.hid (below2 U7.out b8)
    have hat8 := Lib.hid (hat0.below hz0 b8)
    clear b8 hat0 hz0 hU0 U7 cS B6
    go_upto_if 100 with fail
    go_cut [19, 20] from 101 to 147 (fun s19 s20 wx => Hid (Below w.heap.size w wx))
    case first =>
      by_cases hc : c4 = 0
      rotate_left
      · have e1 : (c4 == 0) = false := beq_eq_false_iff_ne.2 hc
        obtain rfl := hz2.out hc
        clear hc hz2 hy2
        go_wp2_with fail
        go_meet
        exact U8
      · obtain ⟨r1, q1, r2, q2, cA1, cA2, cB1, cB2, fs, f1, f2, fd, fr1, fr2, e1, e2, e3, e4⟩ := hy2.out hc
        subst hc
        have f2' := Lib.hid f2
        obtain ⟨k0, k1, k2, k3⟩ := id hat8.out
        simp only [Nat.zero_add] at k0 k1 k2 k3
        clear hy2 hz2 f2
        go_wp2_with fail
        go_quiet ((first
          | (go_at_call 10; (with_reducible exact Qs (cA1.out _)))
          | (go_at_call 10; (with_reducible exact Qs (cA2.out _)))))
        go_wp2_with fail
        clear k0 k1 k2 k3
        generalize hg9 : World.drewN p8 _ = p9
        have hat9 : NckAt p9 R2 0 ⟨y1, y2, y3, y4⟩ := by rw [← hg9]; exact hat8.out
        have U9 : Hid (Below w.heap.size w p9) := Lib.hid (by rw [← hg9]; exact belowN U8.out _)
        obtain ⟨k0, k1, k2, k3⟩ := hat9
        simp only [Nat.zero_add] at k0 k1 k2 k3
        clear hg9 U8 hat8
        go_quiet ((first
          | (go_at_call 10; (with_reducible exact Qs (cB1.out _)))
          | (go_at_call 10; (with_reducible exact Qs (cB2.out _)))))
        by_cases hs0 : 0 < s
        · have f2 := f2'.out hs0
          go_wp2_with fail
          go_meet
          exact Lib.hid (belowN U9.out _)
        · go_wp2_with fail
          go_meet
          exact Lib.hid (belowN U9.out _)
    case rest =>
      have X2 := hcut
      clear hcut hz2 hy2 U8 hat8 xa xb xc xd xh xj
      go_wp2_with fail
      refine (cD3.out _ X2.out).mono ?_
      rintro e p11 ⟨a, b, c, d, g, rfl, xa, xb, xc, xd, xg, b11⟩
      have B11 := Lib.hid (below2 X2.out b11)
      obtain ⟨p, c5, S, c6, cB, cS, hz3, hy3⟩ := part3 a b c d g
      clear b11 cD3 X2
      go_wp2_with fail
      have hat0 := nck_box a b c d p11
      have hz0 : p11.heap.size < (p11.alloc (.cells #[.int .i64 a, .int .i64 b, .int .i64 c, .int .i64 d] 25)).heap.size := by simp
      have hU0 : Below w.heap.size w (p11.alloc (.cells #[.int .i64 a, .int .i64 b, .int .i64 c, .int .i64 d] 25)) := B11.out.alloc B11.out.size _
      generalize p11.alloc (.cells #[.int .i64 a, .int .i64 b, .int .i64 c, .int .i64 d] 25) = p12 at hat0 hz0 hU0 ⊢
      generalize p11.heap.size = R3 at hat0 hz0 ⊢
      have hcell : Hid (∀ W, Below p12.heap.size p12 W → NckAt W R3 0 ⟨a, b, c, d⟩) := Lib.hid (fun W hb => hat0.below hz0 hb)
      have U12 := Lib.hid hU0
      clear hat0 hz0 hU0 B11
      refine (cB.out _).mono ?_
      rintro e p13 ⟨rfl, b13⟩
      have V13 := Lib.hid b13
      obtain ⟨k0, k1, k2, k3⟩ := id (hcell.out _ V13.out)
      simp only [Nat.zero_add] at k0 k1 k2 k3
      clear b13 cB
      go_wp2_with fail
      clear k0 k1 k2 k3
      refine (cS.out _).mono ?_
      rintro e p14 ⟨rfl, b14⟩
      have V14 := Lib.hid (below2 V13.out b14)
      clear b14 V13 cS
      by_cases hc : c5 = 0
      rotate_left
      · have e1 : (c5 == 0) = false := beq_eq_false_iff_ne.2 hc
        have e2 : (c5 != 0) = true := by unfold bne; rw [e1]; rfl
        obtain rfl := hz3.out hc
        clear hc hz3 hy3
        go_wp2
        go_ret
        exact ⟨rfl, below2 U12.out V14.out⟩
      · obtain ⟨T, R, v1, v2, D, g1, g2, w0', cT, cR, cX, cY, cA1, cA2, fv1, fv2, gv1, gv2, gg, ga, gb, w1', w2', w3', w4'⟩ := hy3.out hc
        subst hc g1 g2
        clear hz3 hy3
        obtain ⟨k0, k1, k2, k3⟩ := id (hcell.out _ V14.out)
        simp only [Nat.zero_add] at k0 k1 k2 k3
        go_wp2_with fail
        clear k0 k1 k2 k3
        refine (cT.out _).mono ?_
        rintro e p15 ⟨rfl, b15⟩
        have V15 := Lib.hid (below2 V14.out b15)
        obtain ⟨k0, k1, k2, k3⟩ := id (hcell.out _ V15.out)
        simp only [Nat.zero_add] at k0 k1 k2 k3
        clear b15 V14 cT
        go_wp2_with fail
        clear k0 k1 k2 k3
        refine (cR.out _).mono ?_
        rintro e p16 ⟨rfl, b16⟩
        have V16 := Lib.hid (below2 V15.out b16)
        obtain ⟨k0, k1, k2, k3⟩ := id (hcell.out _ V16.out)
        simp only [Nat.zero_add] at k0 k1 k2 k3
        clear b16 V15 cR
        go_wp2_with fail
        clear k0 k1 k2 k3
        have M16 := Lib.hid (below2 U12.out V16.out)
        refine (cX.out _ (hT'.out.below M16.out)).mono ?_
        rintro e p17 ⟨rfl, b17⟩
        have V17 := Lib.hid (below2 V16.out b17)
        have M17 := Lib.hid (below2 M16.out b17)
        clear b17 V16 M16 cX
        go_wp2_with fail
        refine (cY.out _ (hT'.out.below M17.out) (hE'.out.below M17.out) (shape_below hSh'.out M17.out)).mono ?_
        rintro e p18 ⟨rfl, b18⟩
        have V18 := Lib.hid (below2 V17.out b18)
        have M18 := Lib.hid (below2 M17.out b18)
        clear b18 V17 M17 cY
        go_upto_region 32 with fail
        have hA9 : Below p18.heap.size p18 (p18.alloc (.cells #[.int .i64 a, .int .i64 b, .int .i64 c, .int .i64 d] 25)) := (Below.refl _ _).alloc (Nat.le_refl _) _
        have hr9 := heap_alloc_new p18 (.cells #[.int .i64 a, .int .i64 b, .int .i64 c, .int .i64 d] 25)
        have M19 := Lib.hid (below2 M18.out hA9)
        obtain ⟨k0, k1, k2, k3⟩ := id (hcell.out _ (below2 V18.out hA9))
        simp only [Nat.zero_add] at k0 k1 k2 k3
        generalize p18.alloc (.cells #[.int .i64 a, .int .i64 b, .int .i64 c, .int .i64 d] 25) = p19 at hr9 M19 k0 k1 k2 k3 ⊢
        have d0 := cellB hr9 0 _ rfl
        have d1 := cellB hr9 1 _ rfl
        have d2 := cellB hr9 2 _ rfl
        have d3 := cellB hr9 3 _ rfl
        have hb1 : decide (2 * v1 ≤ a + b) = true := decide_eq_true fv1
        have hb2 : decide (2 * v2 ≤ b) = true := decide_eq_true fv2
        clear hA9 hr9 V18 M18 hcell U12
        go_quiet ((first
          | (go_at_call 18; (with_reducible exact Qs (cA1.out _)))
          | (go_at_call 18; (with_reducible exact Qs (cA2.out _)))))
        go_wp2
        go_ret
        exact ⟨by first | rfl | simp, belowN M19.out _⟩

/-- A world for the witness: the settled one, the listed variables holding what their initialisers lay. -/
noncomputable def laidWorld (os : Os) : World :=
  let N := (World.settled Tryz.prog os).heap.size
  let w0 := World.holding Tryz.prog os ⟨#[.cells #[.string ⟨([118, 97, 108, 117, 101, 32, 111, 117, 116, 32, 111, 102, 32, 114, 97, 110, 103, 101] : List UInt8).toArray⟩] 133, .cells #[.string ⟨([105, 110, 118, 97, 108, 105, 100, 32, 115, 121, 110, 116, 97, 120] : List UInt8).toArray⟩] 133], #[], []⟩
  let put (h : Array Obj) (g : Nat) (cs : Array Value) : Array Obj := h.modify g fun
    | .cells _ t frozen => .cells cs t frozen
    | o => o
  let h0 := put w0.heap 6 #[.int .u8 0, .int .u8 1, .int .u8 28, .int .u8 2, .int .u8 29, .int .u8 14, .int .u8 24, .int .u8 3, .int .u8 30, .int .u8 22, .int .u8 20, .int .u8 15, .int .u8 25, .int .u8 17, .int .u8 4, .int .u8 8, .int .u8 31, .int .u8 27, .int .u8 13, .int .u8 23, .int .u8 21, .int .u8 19, .int .u8 16, .int .u8 7, .int .u8 26, .int .u8 12, .int .u8 18, .int .u8 6, .int .u8 11, .int .u8 5, .int .u8 10, .int .u8 9]
  let h1 := put h0 7 #[.int .u8 0, .int .u8 1, .int .u8 56, .int .u8 2, .int .u8 57, .int .u8 49, .int .u8 28, .int .u8 3, .int .u8 61, .int .u8 58, .int .u8 42, .int .u8 50, .int .u8 38, .int .u8 29, .int .u8 17, .int .u8 4, .int .u8 62, .int .u8 47, .int .u8 59, .int .u8 36, .int .u8 45, .int .u8 43, .int .u8 51, .int .u8 22, .int .u8 53, .int .u8 39, .int .u8 33, .int .u8 30, .int .u8 24, .int .u8 18, .int .u8 12, .int .u8 5, .int .u8 63, .int .u8 55, .int .u8 48, .int .u8 27, .int .u8 60, .int .u8 41, .int .u8 37, .int .u8 16, .int .u8 46, .int .u8 35, .int .u8 44, .int .u8 21, .int .u8 52, .int .u8 32, .int .u8 23, .int .u8 11, .int .u8 54, .int .u8 26, .int .u8 40, .int .u8 15, .int .u8 34, .int .u8 20, .int .u8 31, .int .u8 10, .int .u8 25, .int .u8 14, .int .u8 19, .int .u8 9, .int .u8 13, .int .u8 8, .int .u8 7, .int .u8 6]
  let h2 := put h1 0 #[.int .u64 1, .int .u64 10, .int .u64 100, .int .u64 1000, .int .u64 10000, .int .u64 100000, .int .u64 1000000, .int .u64 10000000, .int .u64 100000000, .int .u64 1000000000, .int .u64 10000000000, .int .u64 100000000000, .int .u64 1000000000000, .int .u64 10000000000000, .int .u64 100000000000000, .int .u64 1000000000000000, .int .u64 10000000000000000, .int .u64 100000000000000000, .int .u64 1000000000000000000, .int .u64 10000000000000000000]
  let h3 := put h2 5 #[.int .u8 128, .int .u8 191, .int .u8 160, .int .u8 191, .int .u8 128, .int .u8 159, .int .u8 144, .int .u8 191, .int .u8 128, .int .u8 143, .int .u8 0, .int .u8 0, .int .u8 0, .int .u8 0, .int .u8 0, .int .u8 0, .int .u8 0, .int .u8 0, .int .u8 0, .int .u8 0, .int .u8 0, .int .u8 0, .int .u8 0, .int .u8 0, .int .u8 0, .int .u8 0, .int .u8 0, .int .u8 0, .int .u8 0, .int .u8 0, .int .u8 0, .int .u8 0]
  let h4 := put h3 3 #[.iface 131 (.pointer (some ⟨N + 0, 0, none⟩))]
  let h5 := put h4 2 #[.iface 131 (.pointer (some ⟨N + 1, 0, none⟩))]
  let h6 := put h5 4 (Lib.firstTab.map fun z => Value.int .u8 z).toArray
  { w0 with heap := h6 }
noncomputable abbrev N0 : Nat := (World.settled Tryz.prog default).heap.size
set_option maxRecDepth 1000000 in
theorem laid_met (os : Os) : laidMet Tryz.prog Rows.fnNecksRow.laid ((laidWorld os).forCall (fun _ _ => 0) ⟨#[], #[.slice none 0 0, .slice none 0 0], []⟩).memory :=
  (LaidIn.of_run (l := Rows.fnNecksRow.laid) [6, 7, 0, 5, 3, N0 + 0, 2, N0 + 1, 4] 10 (by kernel_rfl) (by kernel_rfl) (by kernel_rfl) (by kernel_rfl)).met
theorem reads (os : Os) {H : Type} (enc : TypeId × Value → H) : ∃ places, DataW.whole enc Tryz.prog ((laidWorld os).forCall (fun _ _ => 0) ⟨#[], #[.slice none 0 0, .slice none 0 0], []⟩).memory Tryz.f3.params.toList Rows.fnNecksSpec.vars false (#[.slice none 0 0, .slice none 0 0] : Array Value).toList 8 = some ([.nil, .nil], [], places) :=
  ⟨[], by kernel_rfl⟩
set_option maxRecDepth 100000 in
theorem lifted (os : Os) (started : os.Started) (H : Type) (enc : TypeId × Value → H) (F : Stop.Interp) :
    ReturnsInHanded {} Tryz.checked os 3 .any ((OpenSpec.ofChange Rows.fnNecksSpec).preRow enc Tryz.prog Tryz.f3 Rows.fnNecksRow.domain false Rows.fnNecksRow.laid) (((OpenSpec.ofChange Rows.fnNecksSpec).at F).post enc Tryz.prog Tryz.f3 false true false false) := by
  obtain ⟨places, hx⟩ := reads os enc
  refine returnsInHanded_of_row (C := Tryz.checked) (s := (OpenSpec.ofChange Rows.fnNecksSpec)) own started (by kernel_rfl) Tryz.func3
    (witness_row_atRef (enc := enc) (C := Tryz.checked) false (laidWorld os) #[.slice none 0 0, .slice none 0 0] rfl (by kernel_rfl) (by kernel_rfl) (by kernel_rfl)
      (OpenSpec.preRow_of_cond 8 hx (by kernel_rfl) (fun k hk => by cases hk) (by kernel_rfl) (laid_met os))) ?_
  intro W base args ds gs before hval0 hW hcnd hcond _ hL0 hShape _
  have hL : laidMet Tryz.prog Rows.fnNecksRow.laid W := hL0
  have hval : ∀ (j : Nat) t v, Tryz.f3.params[j]? = some t → args[j]? = some v → Value.okWide Tryz.prog W .any base t v := hval0
  have hW' := hW
  obtain ⟨p, q, hA0, hV, rfl, hfz, hnd⟩ := hW
  have hA : DataW.TrodAll enc Tryz.prog W 0 (fun _ => true) true Tryz.f3.params.toList args.toList ds p := hA0
  rw [Tryz.params3] at hA hval
  obtain ⟨v0, vs0, d0, ds0, p0, q0, hargs, rfl, rfl, h0, r0⟩ := trodAll_cons hA
  obtain ⟨v1, vs1, d1, ds1, p1, q1, rfl, rfl, rfl, h1, r1⟩ := trodAll_cons r0
  obtain ⟨rfl, rfl, rfl⟩ := trodAll_nil r1
  obtain rfl : args = #[v0, v1] := by cases args; simp_all
  obtain ⟨rfl, rfl⟩ := trodVars_none hV
  obtain ⟨a0, len0, cap0, rfl⟩ := okWide_slice Tryz.underlying22 (hval 0 22 v0 rfl rfl)
  have k0 := h0
  have lt0 : ∀ x ∈ p0, x.block < W.heap.size := by obtain ⟨m, hm⟩ := k0; exact DataW.trod_lt m _ _ _ hm
  obtain ⟨z0, w0⟩ : ∃ zs, IsRow .u8 W a0 len0 cap0 zs := by
    obtain ⟨fuel, hf⟩ := h0
    rcases open_ints Tryz.underlying22 Tryz.underlying5 (by kernel_rfl) hf with ⟨hcs, _⟩ | ⟨x, l, c, zs, hcs, _, hl, hm, hz, _, hcell, hwz⟩
    · simp [Value.cells] at hcs
      obtain ⟨rfl, rfl, rfl⟩ := hcs
      exact ⟨[], .inl ⟨rfl, rfl, rfl, rfl⟩⟩
    · simp [Value.cells] at hcs
      obtain ⟨rfl, rfl, rfl⟩ := hcs
      exact ⟨zs, .inr ⟨_, rfl, hl, hm, by simpa using hz, hcell, hwz⟩⟩
  obtain ⟨a1, len1, cap1, rfl⟩ := okWide_slice Tryz.underlying22 (hval 1 22 v1 rfl rfl)
  have k1 := h1
  have lt1 : ∀ x ∈ p1, x.block < W.heap.size := by obtain ⟨m, hm⟩ := k1; exact DataW.trod_lt m _ _ _ hm
  obtain ⟨z1, w1⟩ : ∃ zs, IsRow .u8 W a1 len1 cap1 zs := by
    obtain ⟨fuel, hf⟩ := h1
    rcases open_ints Tryz.underlying22 Tryz.underlying5 (by kernel_rfl) hf with ⟨hcs, _⟩ | ⟨x, l, c, zs, hcs, _, hl, hm, hz, _, hcell, hwz⟩
    · simp [Value.cells] at hcs
      obtain ⟨rfl, rfl, rfl⟩ := hcs
      exact ⟨[], .inl ⟨rfl, rfl, rfl, rfl⟩⟩
    · simp [Value.cells] at hcs
      obtain ⟨rfl, rfl, rfl⟩ := hcs
      exact ⟨zs, .inr ⟨_, rfl, hl, hm, by simpa using hz, hcell, hwz⟩⟩
  clear hA0 hval0
  refine (walk a0 len0 cap0 z0 a1 len1 cap1 z1 W w0 w1 (tabP_head hL.tail.tail) (errs_of_laid hL.tail.tail.tail.tail) (hShape)).mono fun e W' ⟨he, bel⟩ => ?_
  subst he
  exact ⟨_, rfl, _, _, _, [], _, [], hW', trodAll_mk1 (shut_bool Tryz.underlying4 _), (trodAll_cons_mk (Below.trod laidOut (by kernel_rfl) (of_decide_eq_true (by kernel_rfl)) k0 bel lt0) (trodAll_cons_mk (Below.trod laidOut (by kernel_rfl) (of_decide_eq_true (by kernel_rfl)) k1 bel lt1) trodAll_mk0)), rfl, bel.frame _, fun h => by cases h⟩

theorem said : Rows.FnNecksSaid :=
  OpenClaim.holds_of_cond 3 Tryz.f3 rfl rfl rfl rfl rfl rfl rfl ⟨rfl, rfl, rfl, rfl, rfl⟩ rfl rfl rfl rfl rfl (by kernel_rfl) Tryz.func3 (by kernel_rfl)
    (of_decide_eq_true (by kernel_rfl)) (by unfold Func.isWrapper; first | (rw [if_pos (by decide +kernel)]; kernel_rfl) | (rw [if_neg (by decide +kernel)]; exact ⟨rfl, rfl⟩))
    (fun os started H enc _ F => by rw [OpenClaim.pre_eq_preRow]; exact lifted os started H enc F)

theorem plain (f : FuncId) (fn : Func) (hf : Tryz.pinned.checked.prog.funcNamed "loop.example/g01061/laws.FnNecks" = some f) (hfn : Tryz.pinned.checked.prog.funcs[f]? = some fn) :
    true = Tryz.pinned.checked.prog.looks [] ∧ ∀ (j : Nat) t, fn.params[j]? = some t → Tryz.pinned.checked.prog.wantsStandIn t = false := by
  obtain rfl : f = 3 := Option.some.inj ((show Tryz.prog.funcNamed "loop.example/g01061/laws.FnNecks" = some 3 by kernel_rfl).symm.trans hf) |>.symm
  obtain rfl : fn = Tryz.f3 := (Option.some.inj (Tryz.func3.symm.trans hfn)).symm
  refine ⟨by kernel_rfl, fun j t ht => ?_⟩
  rw [Tryz.params3] at ht
  have hm := Array.mem_of_getElem? ht
  simp only [List.mem_toArray, List.mem_cons, List.mem_nil_iff, or_false] at hm
  rcases hm with rfl | rfl
  · exact (show Tryz.prog.wantsStandIn 22 = false by kernel_rfl)
  · exact (show Tryz.prog.wantsStandIn 22 = false by kernel_rfl)

/-- the statement -/
theorem proved : Rows.FnNecksCardSaid :=
  Claim7.holds_tied_plain_at .later [] _ _ _ _ said (fun _ h => by cases h) (by kernel_rfl) (fun _ h => by cases h) fnNecks_row_tie rfl ⟨rfl, rfl⟩ (by kernel_rfl) rfl plain (by kernel_rfl)
#print axioms proved
end Go.Proofs.YtcdpkbcpglaiaaaGreatDoor.fnNecks
