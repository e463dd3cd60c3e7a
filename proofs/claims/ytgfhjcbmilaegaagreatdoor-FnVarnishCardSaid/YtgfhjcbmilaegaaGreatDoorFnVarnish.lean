/-
  The law FnVarnish holds for every input: the function answers as its model; the listed package-level variables are tied to the program's text.
-/
import Derived.Test.YtgfhjcbmilaegaaGreatDoorMg21
import Derived.Test.YtgfhjcbmilaegaaGreatDoorCards
import Derived.Test.YtgfhjcbmilaegaaGreatDoorTie
import Derived.Lib.Hide
import Derived.WalkKit
import Derived.ProofKit
import Derived.OpenShut
import Derived.ShutString
import Derived.ChangeOld
import Derived.Below
import Derived.Deep.DeepHandedRow
import Derived.Deep.DeepWitnessRowRef
import Derived.Lib.LaidIn
import Derived.Lib.LaidTab
import Derived.SevenTiedAt
namespace Go.Proofs.YtgfhjcbmilaegaaGreatDoor.fnVarnish
open Go.ChangeShapes Go.WideShapes Go.ChangeAt Go.RowKit
open Go.ChangeMaps (open_string shut_string)
set_option linter.unusedVariables false
set_option linter.unusedSimpArgs false

theorem own : ownKnob Tryz.prog.godebug = none := by kernel_rfl
theorem laidOut : laidOutB Tryz.prog = true := by kernel_rfl
/-- WHAT THE WALK IS TOLD OF A SLICE OF INTEGERS THAT CAME IN: it is nil; or it leads to a row of 'cap' cells, the numbers 'zs' (the first 'len' are its elements, the rest its spare room), each fitting its kind. -/
def IsRow (k : IntKind) (w : World) (a : Option Addr) (len cap : Nat) (zs : List Int) : Prop :=
  (a = none ∧ len = 0 ∧ cap = 0 ∧ zs = []) ∨
  ∃ x, a = some x ∧ len ≤ cap ∧ cap ≤ maxLen ∧ zs.length = cap ∧ (∀ i, i < zs.length → w.cell? (x.add i) = some (.int k (zs.getD i 0))) ∧ ∀ n ∈ zs, (Lit.int k n).wf = true

theorem maxlen_of {w : World} {k : IntKind} {a : Option Addr} {len cap : Nat} {zs : List Int} (h : IsRow k w a len cap zs) : len ≤ maxLen := by
  rcases h with ⟨_, rfl, _⟩ | ⟨x, _, h1, h2, _⟩
  · exact Nat.zero_le _
  · omega
set_option maxRecDepth 1000000 in
set_option maxHeartbeats 12800000 in
theorem walk (a0 : Option Addr) (len0 cap0 : Nat) (z0 : List Int) (a1 : Option Addr) (len1 cap1 : Nat) (z1 : List Int) (w : World) (w0 : IsRow .u8 w a0 len0 cap0 z0) (w1 : IsRow .u8 w a1 len1 cap1 z1) (hT : TabP w) (hE : ErrsAt w) (hSh : w.ShapedOpen Tryz.prog) :
    Calls Tryz.prog 3 #[.slice a0 len0 cap0, .slice a1 len1 cap1] w fun e w' => e = .returned (.bool true) ∧ Below w.heap.size w w' := by
  have m0 := maxlen_of w0
  have m1 := maxlen_of w1
  obtain ⟨Z0, q0, l0⟩ := u8_in w0
  obtain ⟨Z1, q1, l1⟩ := u8_in w1
  clear w0 w1
  by_cases hL0 : len0 ≤ 1048576
  rotate_left
  · have c := r8Long_first a0 len0 cap0 a1 len1 cap1 hL0 m0
    clear q0 q1
    go_enter Tryz.func3, Tryz.ntmps3
    go_wp2_with fail
    refine (c _).mono ?_
    rintro e _ ⟨rfl, rfl⟩
    go_wp2
    go_ret
    exact ⟨rfl, Below.refl _ _⟩
  by_cases hL1 : len1 ≤ 1048576
  rotate_left
  · have c := r8Long_second a0 len0 cap0 a1 len1 cap1 hL0 hL1 m1
    clear q0 q1
    go_enter Tryz.func3, Tryz.ntmps3
    go_wp2_with fail
    refine (c _).mono ?_
    rintro e _ ⟨rfl, rfl⟩
    go_wp2
    go_ret
    exact ⟨rfl, Below.refl _ _⟩
  have cL := Lib.hid (r8Long_no a0 len0 cap0 a1 len1 cap1 hL0 hL1)
  have cN := Lib.hid (R8Coats_any (.slice a0 len0 cap0) Z0 w (by omega) q0)
  have cG := Lib.hid (fun W (h : Below w.heap.size w W) => R8Colour_any (.slice a1 len1 cap1) Z1 W (by omega) (u8_up q1 h))
  have cH := Lib.hid (fun W (h : Below w.heap.size w W) => R8Colour_any (.slice a0 len0 cap0) Z0 W (by omega) (u8_up q0 h))
  have hq1 := Lib.hid (fun W (h : Below w.heap.size w W) => q1.below h)
  have hT' := Lib.hid hT
  have hE' := Lib.hid hE
  have hSh' := Lib.hid hSh
  have hZ1 : Z1.length ≤ 1048576 := by omega
  have c8 := Lib.hid (fun (k : Nat) (n : Int) (hk : k ≤ 100) (h0 : 0 ≤ n) (h1 : n ≤ 1000) W (h : Below w.heap.size w W) => r8AtN_any k w.heap.size n (.slice a1 len1 cap1) Z1 W hk h0 h1 hZ1 (q1.below h))
  clear q0 q1 hE hT hSh
  go_enter Tryz.func3, Tryz.ntmps3
  go_wp2_with fail
  refine (cL.out _).mono ?_
  rintro e _ ⟨rfl, rfl⟩
  go_wp2_with fail
  refine cN.out.mono ?_
  rintro e p1 ⟨vy, Y, rfl, hY0, hyv, hyl, b1⟩
  have B1 := Lib.hid b1
  have hY1 := Lib.hid hY0
  obtain ⟨ya, yc, rfl⟩ : ∃ a cap, vy = .slice a Y.length cap := by obtain ⟨a, cap, h, _⟩ := hY0; exact ⟨a, cap, h⟩
  clear b1 cN cL hY0
  go_wp2_with fail
  refine (cG.out _ B1.out).mono ?_
  rintro e p2 ⟨vg, gx, gy, gz, rfl, gb0, gb1, gb2, og, b2⟩
  have hGc : Hid (col3 [gx, gy, gz]) := Lib.hid ⟨gx, gy, gz, rfl, gb0, gb1, gb2⟩
  have hG2 := Lib.hid (ints_own (Z := [gx, gy, gz]) og (col3_inn hGc.out).1)
  have B2 := Lib.hid (below2 B1.out b2)
  have hY2 := Lib.hid (hY1.out.below b2)
  clear b2 B1 hY1 cG og gb0 gb1 gb2
  go_wp2_with fail
  refine (cH.out _ B2.out).mono ?_
  rintro e p3 ⟨vh, hx, hy, hz, rfl, hb0, hb1, hb2, oh, b3⟩
  have hHc : Hid (col3 [hx, hy, hz]) := Lib.hid ⟨hx, hy, hz, rfl, hb0, hb1, hb2⟩
  have hH3 := Lib.hid (ints_own (Z := [hx, hy, hz]) oh (col3_inn hHc.out).1)
  have hG3 := Lib.hid (hG2.out.below b3)
  have B3 := Lib.hid (below2 B2.out b3)
  have hY3 := Lib.hid (hY2.out.below b3)
  obtain ⟨gg, go9, gc, rfl, _⟩ := row3 hG3.out
  obtain ⟨hg, ho9, hc9, rfl, _⟩ := row3 hH3.out
  clear b3 B2 hY2 cH oh hb0 hb1 hb2 hG2
  have hyv' := Lib.hid hyv
  clear hyv
  obtain ⟨i0, hi, hz0, hz1, hz2⟩ := info_parts infoI
  go_upto_if 58 with fail
  obtain ⟨qn, hqn⟩ : ∃ q, q = decide (0 < Y.length) := ⟨_, rfl⟩
  first | rw [← hqn] | rw [show decide ((0 : Int) < (Y.length : Int)) = qn by rw [hqn]; exact decide_eq_decide.2 (by omega)]
  go_cut [8, 9] from 59 to 73 (fun s8 s9 wx => ∃ (O : List Int) (oa : Option Addr) (oc : Nat), s8 = .slice oa O.length oc ∧ O.length ≤ 5 ∧ Hid (∀ x ∈ O, 0 ≤ x ∧ x < (Y.length : Int)) ∧ Hid (IntsAt wx (.slice oa O.length oc) O) ∧ Hid (Below p3.heap.size p3 wx))
  case first =>
    cases qn
    · go_wp2_with fail
      go_meet
      exact ⟨[], _, _, rfl, by simp, Lib.hid (fun x hx => by cases hx), Lib.hid ⟨_, _, rfl, Nat.le_refl _, fun n hn => (by cases hn), Or.inl rfl⟩, Lib.hid ((Below.refl _ _).alloc (Nat.le_refl _) _)⟩
    · have hpos : 0 < Y.length := of_decide_eq_true hqn.symm
      clear hqn
      have hn6 := at8n_in Z1 40 (n := 6) (by decide)
      obtain ⟨n6, hn6e⟩ : ∃ n6, n6 = at8n Z1 40 6 := ⟨_, rfl⟩
      rw [← hn6e] at hn6
      have c40 : Hid (∀ W, Below w.heap.size w W → Calls Tryz.prog 7 #[.slice a1 len1 cap1, .int .i64 40, .int .i64 6] W fun e w' => e = .returned (.int .i64 n6) ∧ W = w') := Lib.hid (fun W h => by
        have := c8.out 40 6 (by decide) (by decide) (by decide) W h
        rw [← hn6e] at this
        exact this)
      clear hn6e
      have hO0 : Hid ((p3.alloc (.cells #[] 2)).ownsRow p3.heap.size 2 1 (.slice (some ⟨p3.heap.size, 0, none⟩) 0 0) 0 []) := Lib.hid ⟨rfl, Or.inr ⟨p3.heap.size, 0, #[], rfl, Nat.le_refl _, heap_alloc_new _ _, Nat.le_refl 0, by unfold maxLen; omega, rfl, rfl⟩⟩
      have hBa := Lib.hid ((Below.refl p3.heap.size p3).alloc (Nat.le_refl _) (.cells #[] 2))
      go_wp2
      go_loopw [8, 9] (fun u i wr => ∃ (k : Nat) (O : List Int), (k : Int) ≤ n6 ∧ O.length = k ∧ i = .int .i64 k ∧ Hid (∀ x ∈ O, 0 ≤ x ∧ x < (Y.length : Int)) ∧ Hid (wr.ownsRow p3.heap.size 2 1 u O.length (O.map encI)) ∧ Hid (Below p3.heap.size p3 wr)) (fun _ i _ => 6 - (intOf i).toNat)
      case atStart => exact ⟨0, [], by omega, rfl, rfl, Lib.hid (fun x hx => by cases hx), hO0, hBa⟩
      case round =>
        obtain ⟨k, O, hk, hOl, rfl, hOb, hOw, hB⟩ := hrel
        have B9 := Lib.hid (B3.out.trans (hB.out.mono B3.out.size))
        have c40' := Lib.hid (c40.out wr B9.out)
        by_cases hlt : (k : Int) < n6
        · have hbd := at8n_in Z1 (41 + k) (n := (Y.length : Int)) (by omega)
          have c41 := Lib.hid (c8.out (41 + k) (Y.length : Int) (by omega) (by omega) (by omega) wr B9.out)
          obtain ⟨x, hx⟩ : ∃ x, x = at8n Z1 (41 + k) (Y.length : Int) := ⟨_, rfl⟩
          rw [← hx] at hbd c41
          clear hx
          rw [show (((41 + k : Nat)) : Int) = 41 + (k : Int) by omega] at c41
          go_wp2_with fail
          refine c40'.out.mono ?_
          rintro e _ ⟨rfl, rfl⟩
          go_wp2_with fail
          refine c41.out.mono ?_
          rintro e _ ⟨rfl, rfl⟩
          go_wp2_with (at_builtin; refine wpList_append_own _ rfl _ _ 26 rfl p3.heap.size 2 i0 (.int .i64 0) 1 8 Tryz.underlying26 hi hz0 hz1 hz2 rfl (by decide) _ _ _ rfl (World.ownsRow.alloc hOw.out _) ⟨wr.heap.size, 0, none⟩ 1 1 [.int .i64 x] rfl rfl ?c1A ?c2A ?c3A ?c4A ?c5A ?_)
          case c1A =>
            intro j u hj
            match j, hj with
            | 0, hj => simp at hj; subst hj; simp [Addr.add]
          case c2A => intro u hu; simp at hu; rcases hu with rfl; rfl
          case c3A => unfold maxLen; omega
          case c4A => omega
          case c5A => have := hB.out.size; simp at this ⊢; omega
          intro v' w3 hown' hgrow' _
          have hO3 : Hid (w3.ownsRow p3.heap.size 2 1 v' (O ++ [x]).length ((O ++ [x]).map encI)) := Lib.hid (by rw [List.length_append, List.map_append, hOl]; exact hown')
          have hB3 : Hid (Below p3.heap.size p3 w3) := Lib.hid ((hB.out.alloc hB.out.size _).grown hgrow' (by have := hB.out.size; simp; omega) (fun j hj => World.ownsRow.own_ge hOw.out j hj))
          have hOb3 : Hid (∀ y ∈ O ++ [x], 0 ≤ y ∧ y < (Y.length : Int)) := Lib.hid (fun y hy => by
            rcases List.mem_append.1 hy with hy | hy
            · exact hOb.out y hy
            · simp only [List.mem_cons, List.mem_nil_iff, or_false] at hy; subst hy; exact hbd)
          clear hown' hgrow' hOw hB B9 hOb c41 c40'
          go_wp2
          go_roundw
          case rel => exact ⟨k + 1, O ++ [x], by omega, by rw [List.length_append]; simp [hOl], by go_num, hOb3, hO3, hB3⟩
          case measure => simp [intOf]; omega
        · go_wp2_with fail
          refine c40'.out.mono ?_
          rintro e _ ⟨rfl, rfl⟩
          obtain ⟨ua, uc, hu⟩ := ownShape hOw.out
          have hIn : Hid (IntsAt wr (.slice ua O.length uc) O) := Lib.hid (by
            have := ints_own hOw.out (fun n hn => by have := hOb.out n hn; unfold inI; omega)
            rw [hu] at this; exact this)
          subst hu
          clear hOw B9 c40'
          go_wp2_with fail
          go_meet
          exact ⟨O, _, _, by rw [hOl], by omega, hOb, hIn, hB⟩
  case rest =>
    clear hqn
    obtain ⟨O, oa, oc, rfl, hOl5, hOb, hOI, hBO⟩ := hcut
    have hord := Lib.hid (vr_ord hOb.out (by omega))
    have hKc : Hid (∀ W, Below wc.heap.size wc W → CtsAt W (.slice ya Y.length yc) Y ∧ IntsAt W (.slice oa O.length oc) O ∧ IntsAt W (.slice (some ⟨gg, go9, none⟩) 3 gc) [gx, gy, gz] ∧ IntsAt W (.slice (some ⟨hg, ho9, none⟩) 3 hc9) [hx, hy, hz]) :=
      Lib.hid (fun W h => ⟨(hY3.out.below hBO.out).below h, hOI.out.below h, (hG3.out.below hBO.out).below h, (hH3.out.below hBO.out).below h⟩)
    have Bc := Lib.hid (below2 B3.out hBO.out)
    clear hY3 hG3 hH3 hOI hBO B3 hOb
    have cA := Lib.hid (vAft hyv'.out hyl hord.out hGc.out wc (hKc.out wc (Below.refl _ _)).1 (hKc.out wc (Below.refl _ _)).2.1 (hKc.out wc (Below.refl _ _)).2.2.1)
    go_wp2_with fail
    refine cA.out.mono ?_
    rintro e p4 ⟨ax, ay, az, ag, ao, ac, hAe, -, -, -, rfl, hAI, b4⟩
    have hAI' := Lib.hid hAI
    have B4 := Lib.hid b4
    have hAe' := Lib.hid hAe
    have cD := Lib.hid (vDay hyv'.out hyl hord.out p4 (hKc.out p4 b4).1 (hKc.out p4 b4).2.1)
    obtain ⟨dd, hdd⟩ : ∃ dd, dd = sumK (dayF Y O) O.length := ⟨_, rfl⟩
    rw [← hdd] at cD
    replace hdd := Lib.hid hdd
    clear b4 cA hAI hAe
    go_wp2_with fail
    refine cD.out.mono ?_
    rintro e p5 ⟨rfl, b5⟩
    have B5 := Lib.hid (below2 B4.out b5)
    have hA5 := Lib.hid (hAI'.out.below b5)
    have cg1 := Lib.hid (vGap hGc.out hHc.out p5 (hKc.out p5 B5.out).2.2.1 (hKc.out p5 B5.out).2.2.2)
    obtain ⟨g9, hg9⟩ : ∃ g9, g9 = gapL [gx, gy, gz] [hx, hy, hz] := ⟨_, rfl⟩
    rw [← hg9] at cg1
    clear b5 cD hAI' B4
    go_wp2_with fail
    refine cg1.out.mono ?_
    rintro e p6 ⟨rfl, b6⟩
    have B6 := Lib.hid (below2 B5.out b6)
    have hA6 := Lib.hid (hA5.out.below b6)
    have cg2 := Lib.hid (vGap hHc.out hGc.out p6 (hKc.out p6 B6.out).2.2.2 (hKc.out p6 B6.out).2.2.1)
    rw [gapL_comm, ← hg9] at cg2
    clear b6 cg1 hA5 B5 hg9
    go_wp2_with fail
    refine cg2.out.mono ?_
    rintro e p7 ⟨rfl, b7⟩
    have B7 := Lib.hid (below2 B6.out b7)
    have hA7 := Lib.hid (hA6.out.below b7)
    have cV := Lib.hid (implValidCoats_any (.slice ya Y.length yc) Y p7 (by omega) (hKc.out p7 B7.out).1)
    rw [hyv'.out] at cV
    clear b7 cg2 hA6 B6
    go_wp2_with fail
    refine cV.out.mono ?_
    rintro e p8 ⟨rfl, b8⟩
    have B8 := Lib.hid (below2 B7.out b8)
    have hA8 := Lib.hid (hA7.out.below b8)
    clear b8 cV hA7 B7
    have hSN := Lib.hid (app3 (hKc.out p8 B8.out).2.2.1 (.cells #[] 2))
    go_wp2_with (at_builtin; refine wpList_append_own _ rfl _ _ 26 rfl p8.heap.size 2 i0 (.int .i64 0) 1 8 Tryz.underlying26 hi hz0 hz1 hz2 rfl (by decide) _ 0 [] rfl (own3_start p8) ⟨gg, go9, none⟩ 3 gc [.int .i64 gx, .int .i64 gy, .int .i64 gz] rfl rfl ?c1N ?c2N ?c3N ?c4N ?c5N ?_)
    case c1N => exact hSN.out
    case c2N => intro u hu; simp at hu; rcases hu with rfl | rfl | rfl <;> rfl
    case c3N => unfold maxLen; omega
    case c4N => omega
    case c5N => simp
    intro vn' p9 hownN hgrowN _
    obtain ⟨vng, vno, vnc, rfl, hIN, hbN⟩ := app3_end (x := gx) (y := gy) (z := gz) (hKc.out p8 B8.out).2.2.1 hownN hgrowN
    replace hIN := Lib.hid hIN
    replace hbN := Lib.hid hbN
    clear hownN hgrowN hSN

    have B9 := Lib.hid (below2 Bc.out (below2 B8.out hbN.out))
    have hA9 := Lib.hid (hA8.out.below hbN.out)
    have hbN9 := Lib.hid (below2 B8.out hbN.out)
    clear hbN hA8 B8
    have h0N : Hid (aftK Y O [gx, gy, gz] 0 = [gx, gy, gz]) := Lib.hid rfl
    go_wp2
    go_loopw [18, 19, 20] (fun n s i wr => ∃ (j : Nat) (x y z : Int) (ng no nc : Nat), j ≤ O.length ∧ i = .int .i64 j ∧ s = .int .i64 (sumK (dayF Y O) j) ∧ n = .slice (some ⟨ng, no, none⟩) 3 nc ∧ Hid (aftK Y O [gx, gy, gz] j = [x, y, z]) ∧ Hid (IntsAt wr (.slice (some ⟨ng, no, none⟩) 3 nc) [x, y, z]) ∧ Hid (Below p9.heap.size p9 wr)) (fun _ _ i _ => O.length - (intOf i).toNat)
    case atStart => exact ⟨0, gx, gy, gz, _, _, _, by omega, rfl, rfl, rfl, h0N, hIN, Lib.hid (Below.refl _ _)⟩
    case round =>
      obtain ⟨j, x, y, z, ng, no, nc, hj, rfl, rfl, rfl, hNe, hNI, hBr⟩ := hrel
      have Br := Lib.hid (below2 B9.out hBr.out)
      by_cases hlt : j < O.length
      · --<B
        have hK := hKc.out wr (below2 hbN9.out hBr.out)
        obtain ⟨ya2, yc2, ey, -, -, hyr⟩ := hK.1
        obtain ⟨oa2, oc2, eo, hoc2, -, hor⟩ := hK.2.1
        injection eo with eo1 _ eo3
        injection ey with ey1 _ ey3
        subst eo1 eo3 ey1 ey3
        clear hK
        rcases hor with h | ⟨og, oo, rfl, hog, hor⟩
        · subst h; simp at hlt
        have hoj := ordC_at hord.out hlt
        obtain ⟨m, hm⟩ : ∃ m, m = (O.getD j 0).toNat := ⟨_, rfl⟩
        rw [← hm] at hoj
        rcases hyr with h | ⟨yg, yo, rfl, hyg, hyr⟩
        · subst h; simp at hoj
        have hcell := hor j hlt
        rw [← getD_of (Z := O) 0 hlt, hoj.2.2] at hcell
        have hmY := hoj.2.1
        obtain ⟨u, hu, hui⟩ := hyr m hmY
        obtain ⟨xx, hxx⟩ : ∃ xx, xx = Y[m]'hmY := ⟨_, rfl⟩
        have hxv : Hid (ctB xx = true) := Lib.hid (by rw [hxx]; exact cts_one hyv'.out hmY)
        rw [← hxx] at hu hui
        obtain ⟨s, a, b, L⟩ := xx
        obtain ⟨hsa, hsb, hscol⟩ := ctB_bd hxv.out
        obtain ⟨cx, cy, cz, hLe, hcb0, hcb1, hcb2⟩ := colB_iff hscol
        simp only at hLe hsa hsb
        subst hLe
        obtain ⟨ug, uo, ucc, rfl, hugl, k0, k1, k2⟩ := row3 hui
        have hcol : Hid (col3 [cx, cy, cz]) := Lib.hid ⟨cx, cy, cz, rfl, hcb0, hcb1, hcb2⟩
        clear hscol hcb0 hcb1 hcb2 k0 k1 k2
        have hsl : Hid (IntsAt wr (.slice (some ⟨og, oo + j, none⟩) 1 (oc - j)) [O.getD j 0]) := Lib.hid (by
          refine ⟨_, _, rfl, by simp; omega, fun n hn => ?_, Or.inr ⟨og, oo + j, rfl, hog, fun i hi => ?_⟩⟩
          · simp only [List.mem_cons, List.mem_nil_iff, or_false] at hn
            subst hn; unfold inI; omega
          · obtain rfl : i = 0 := by simp at hi; omega
            rw [Nat.add_zero, hcell]
            show _ = some (Value.int .i64 (O.getD j 0))
            rw [hoj.2.2])
        have hr' : wr.rangeAt yg (yo + m * 4) [.string s, .int .i64 a, .int .i64 b, .slice (some ⟨ug, uo, none⟩) 3 ucc] := hu
        have huI := Lib.hid hui
        have hxx' := Lib.hid hxx
        have hm' := Lib.hid hm
        clear hor hyr hu hui hxx hm hoj
        go_wp2_with (refine wpList_load_mid rfl _ _ rfl yg (yo + m * 4) rfl _ _ hr' Tryz.underlying36 rfl rfl ?_)
        have hNc : Hid (col3 [x, y, z]) := Lib.hid (by rw [← hNe.out]; exact aft_col hyv'.out hord.out (colB_of hGc.out) j (by omega))
        have hbx := ctU_box s a b (.slice (some ⟨ug, uo, none⟩) 3 ucc) wr
        have hBx : Below wr.heap.size wr (wr.alloc (.cells #[.string s, .int .i64 a, .int .i64 b, .slice (some ⟨ug, uo, none⟩) 3 ucc] 36)) := (Below.refl _ _).alloc (Nat.le_refl _) _
        have hzx : wr.heap.size < (wr.alloc (.cells #[.string s, .int .i64 a, .int .i64 b, .slice (some ⟨ug, uo, none⟩) 3 ucc] 36)).heap.size := by simp
        generalize wr.alloc (.cells #[.string s, .int .i64 a, .int .i64 b, .slice (some ⟨ug, uo, none⟩) 3 ucc] 36) = W0 at hbx hBx hzx ⊢
        have hone : Hid (ordC Y.length [O.getD j 0] = true) := Lib.hid (one_ord (by have := ordC_at hord.out hlt; omega))
        have cAf := Lib.hid (vAft hyv'.out hyl hone.out hNc.out W0 (hKc.out W0 (below2 (below2 hbN9.out hBr.out) hBx)).1 (hsl.out.below hBx) (hNI.out.below hBx))
        have hbxH := Lib.hid hbx
        have hBxH := Lib.hid hBx
        clear hbx hBx hr'
        refine cAf.out.mono ?_
        rintro e W1 ⟨nx, ny, nz, rg, ro, rc, hRe, -, -, -, rfl, hRI, bR⟩
        have hnext : aftK Y O [gx, gy, gz] (j + 1) = [nx, ny, nz] := by rw [← hRe, ← aft_step, hNe.out]; rfl
        have hov : [nx, ny, nz] = ov3 [cx, cy, cz] b [x, y, z] := by
          rw [← hnext]
          show ov3 (Y.getD (O.getD j 0).toNat ct0).col (Y.getD (O.getD j 0).toNat ct0).cover (aftK Y O [gx, gy, gz] j) = _
          rw [hNe.out, ← hm'.out, cts_getD hmY, ← hxx'.out]
        have hsum : sumK (dayF Y O) (j + 1) = sumK (dayF Y O) j + a := by
          show sumK (dayF Y O) j + (Y.getD (O.getD j 0).toNat ct0).days = _
          rw [← hm'.out, cts_getD hmY, ← hxx'.out]
        have hsumH := Lib.hid hsum
        have hsbd := dayS_bd hyv'.out hord.out j (by omega)
        have hnextH := Lib.hid hnext
        have hzW1 := Nat.lt_of_lt_of_le hzx bR.size
        have hF : Hid (∀ q, q < 3 → ∃ (nk nn cc : Int), W1.cell? ⟨rg, ro + q, none⟩ = some (.int .i64 nk) ∧ W1.cell? ⟨ng, no + q, none⟩ = some (.int .i64 nn) ∧ W1.cell? ⟨ug, uo + q, none⟩ = some (.int .i64 cc) ∧ rg < W1.heap.size ∧ ng < W1.heap.size ∧ ug < W1.heap.size ∧ (0 ≤ nk ∧ nk ≤ 255) ∧ (0 ≤ nn ∧ nn ≤ 255) ∧ (0 ≤ cc ∧ cc ≤ 255) ∧ min nn cc ≤ nk ∧ nk ≤ max nn cc ∧ 2 * (1000 * nk - nn * (1000 - b) - cc * b) ≤ 1000 ∧ -1000 ≤ 2 * (1000 * nk - nn * (1000 - b) - cc * b)) := Lib.hid (fun q hq => by
          have i1 := cell3 hRI rfl hq
          have i2 := cell3 ((hNI.out.below hBxH.out).below bR) rfl hq
          have i3 := cell3 ((huI.out.below hBxH.out).below bR) rfl hq
          have o1 := ov_between (col3_getD hNc.out hq) (col3_getD hcol.out hq) hsb
          rw [← ov3_getD hq, ← hov] at o1
          have o2 : 0 ≤ ([nx, ny, nz] : List Int).getD q 0 ∧ ([nx, ny, nz] : List Int).getD q 0 ≤ 255 := by
            have := col3_getD hNc.out hq
            have := col3_getD hcol.out hq
            omega
          exact ⟨_, _, _, i1.1, i2.1, i3.1, i1.2, i2.2, i3.2, o2, col3_getD hNc.out hq, col3_getD hcol.out hq, o1⟩)
        have hbx1 := Lib.hid (hbxH.out.below hzx bR)
        have hRIH := Lib.hid hRI
        have BR := Lib.hid (below2 hBxH.out bR)
        clear hRe hnext hov hsum hsl hNI huI hxx' hm' hone cAf hbxH hRI bR hBxH hcol
        go_wp2_with fail
        go_loopw [24] (fun k wk => ∃ q : Nat, q ≤ 3 ∧ k = .int .i64 q ∧ Hid (Below W1.heap.size W1 wk)) (fun k _ => 3 - (intOf k).toNat)
        case atStart => exact ⟨0, by omega, rfl, Lib.hid (Below.refl _ _)⟩
        case round =>
          obtain ⟨q, hq, rfl, hBk⟩ := hrel
          by_cases hq3 : q < 3
          · obtain ⟨nk, nn, cc, i1, i2, i3, j1, j2, j3, n0, n1, n2, t1, t2, t3, t4⟩ := hF.out q hq3
            have c1 := (hBk.out.cell (p := ⟨rg, ro + q, none⟩) j1).trans i1
            have c2 := (hBk.out.cell (p := ⟨ng, no + q, none⟩) j2).trans i2
            have c3 := (hBk.out.cell (p := ⟨ug, uo + q, none⟩) j3).trans i3
            have hbk := hbx1.out.below hzW1 hBk.out
            obtain ⟨b0, b1, b2, b3⟩ := hbk
            simp only [Nat.zero_add] at b0 b1 b2 b3
            clear i1 i2 i3 j1 j2 j3
            go_wp2_with fail
            obtain ⟨w1, w2, w3, w4, w5, w6, w7, d1, d2, d3, cAb⟩ := ov_walk n0 n1 n2 hsb t1 t2 t3 t4
            have cAb' := Lib.hid cAb
            clear n0 n1 n2 t1 t2 t3 t4 cAb
            go_quiet ((go_at_call 12; (with_reducible exact Qs (cAb'.out _))))
            go_wp2_with fail
            exact ⟨⟨q + 1, by omega, by go_num, Lib.hid (belowN hBk.out _)⟩, by simp [intOf]; omega⟩
          · obtain rfl : q = 3 := by omega
            have hRk := Lib.hid (hRIH.out.below hBk.out)
            have hbk := Lib.hid (hbx1.out.below hzW1 hBk.out)
            have hzk := Nat.lt_of_lt_of_le hzW1 hBk.out.size
            have BRk := Lib.hid (below2 BR.out hBk.out)
            clear hF hq3 hq
            have hSM := Lib.hid (app3 hRk.out (.cells #[] 2))
            go_wp2_with (at_builtin; refine wpList_append_own _ rfl _ _ 26 rfl wr.heap.size 2 i0 (.int .i64 0) 1 8 Tryz.underlying26 hi hz0 hz1 hz2 rfl (by decide) _ 0 [] rfl (own3_start wr) ⟨rg, ro, none⟩ 3 rc [.int .i64 nx, .int .i64 ny, .int .i64 nz] rfl rfl ?c1M ?c2M ?c3M ?c4M ?c5M ?_)
            case c1M => exact hSM.out
            case c2M => intro u hu; simp at hu; rcases hu with rfl | rfl | rfl <;> rfl
            case c3M => unfold maxLen; omega
            case c4M => omega
            case c5M => simp
            intro vm' w6 hownM hgrowM _
            obtain ⟨vmg, vmo, vmc, rfl, hIM, hbM⟩ := app3_end (x := nx) (y := ny) (z := nz) hRk.out hownM hgrowM
            replace hIM := Lib.hid hIM
            replace hbM := Lib.hid hbM
            clear hownM hgrowM hSM
            have BR6 := Lib.hid (below2 BRk.out hbM.out)
            obtain ⟨b0, b1, b2, b3⟩ := hbk.out.below hzk hbM.out
            simp only [Nat.zero_add] at b0 b1 b2 b3
            have ew : IntKind.i64.wrap (sumK (dayF Y O) j + a) = sumK (dayF Y O) j + a := IntWalk.i64_in _ (by omega)
            clear b0 b2 b3 hRk hbk hbM hbx1 hRIH BRk BR hsbd hBk
            go_wp2
            go_roundw
            case rel => exact ⟨j + 1, nx, ny, nz, vmg, vmo, vmc, by omega, by go_num, by rw [hsumH.out], rfl, hnextH, hIM, Lib.hid (below2 hBr.out BR6.out)⟩
            case measure => simp [intOf]; omega
      · have hjO : j = O.length := by omega
        subst hjO
        have hEq : [x, y, z] = [ax, ay, az] := by rw [← hNe.out, ← hAe'.out]
        injection hEq with q1 hEq
        injection hEq with q2 hEq
        injection hEq with q3
        subst q1 q2 q3
        have cS := Lib.hid (r8Same_any _ _ [x, y, z] wr (by simp) hNI.out (hA9.out.below hBr.out))
        have hdd' := hdd.out
        rw [← hdd']
        clear hdd' hdd hj hlt hNe hAe' hA9
        go_wp2_with fail
        refine cS.out.mono ?_
        rintro e _ ⟨rfl, md, rfl⟩
        have Bq9 : Below p9.heap.size p9 (wr.drewN md) := belowN hBr.out md
        generalize wr.drewN md = wq at Bq9 ⊢
        have Bq := Lib.hid (below2 hbN9.out Bq9)
        have Bw := Lib.hid (below2 B9.out Bq9)
        clear Bq9 cS hNI hBr B9 hbN9 Br
        have U1 := hq1.out w (Below.refl _ _)
        go_upto_region 36 with fail
        exact tail36 ⟨hyv'.out, hyl, hZ1, U1, hT'.out, hE'.out, hSh'.out, hGc.out, hHc.out, Bw.out, (hKc.out wq Bq.out).1, (hKc.out wq Bq.out).2.2.1, (hKc.out wq Bq.out).2.2.2⟩ (by assumption)

/-- A world for the witness: the settled one, the listed variables holding what their initialisers lay. -/
noncomputable def laidWorld (os : Os) : World :=
  let N := (World.settled Tryz.prog os).heap.size
  let w0 := World.holding Tryz.prog os ⟨#[.cells #[.string ⟨([118, 97, 108, 117, 101, 32, 111, 117, 116, 32, 111, 102, 32, 114, 97, 110, 103, 101] : List UInt8).toArray⟩] 153, .cells #[.string ⟨([105, 110, 118, 97, 108, 105, 100, 32, 115, 121, 110, 116, 97, 120] : List UInt8).toArray⟩] 153], #[], []⟩
  let put (h : Array Obj) (g : Nat) (cs : Array Value) : Array Obj := h.modify g fun
    | .cells _ t frozen => .cells cs t frozen
    | o => o
  let h0 := put w0.heap 6 #[.int .u8 0, .int .u8 1, .int .u8 28, .int .u8 2, .int .u8 29, .int .u8 14, .int .u8 24, .int .u8 3, .int .u8 30, .int .u8 22, .int .u8 20, .int .u8 15, .int .u8 25, .int .u8 17, .int .u8 4, .int .u8 8, .int .u8 31, .int .u8 27, .int .u8 13, .int .u8 23, .int .u8 21, .int .u8 19, .int .u8 16, .int .u8 7, .int .u8 26, .int .u8 12, .int .u8 18, .int .u8 6, .int .u8 11, .int .u8 5, .int .u8 10, .int .u8 9]
  let h1 := put h0 7 #[.int .u8 0, .int .u8 1, .int .u8 56, .int .u8 2, .int .u8 57, .int .u8 49, .int .u8 28, .int .u8 3, .int .u8 61, .int .u8 58, .int .u8 42, .int .u8 50, .int .u8 38, .int .u8 29, .int .u8 17, .int .u8 4, .int .u8 62, .int .u8 47, .int .u8 59, .int .u8 36, .int .u8 45, .int .u8 43, .int .u8 51, .int .u8 22, .int .u8 53, .int .u8 39, .int .u8 33, .int .u8 30, .int .u8 24, .int .u8 18, .int .u8 12, .int .u8 5, .int .u8 63, .int .u8 55, .int .u8 48, .int .u8 27, .int .u8 60, .int .u8 41, .int .u8 37, .int .u8 16, .int .u8 46, .int .u8 35, .int .u8 44, .int .u8 21, .int .u8 52, .int .u8 32, .int .u8 23, .int .u8 11, .int .u8 54, .int .u8 26, .int .u8 40, .int .u8 15, .int .u8 34, .int .u8 20, .int .u8 31, .int .u8 10, .int .u8 25, .int .u8 14, .int .u8 19, .int .u8 9, .int .u8 13, .int .u8 8, .int .u8 7, .int .u8 6]
  let h2 := put h1 3 #[.int .u64 1, .int .u64 10, .int .u64 100, .int .u64 1000, .int .u64 10000, .int .u64 100000, .int .u64 1000000, .int .u64 10000000, .int .u64 100000000, .int .u64 1000000000, .int .u64 10000000000, .int .u64 100000000000, .int .u64 1000000000000, .int .u64 10000000000000, .int .u64 100000000000000, .int .u64 1000000000000000, .int .u64 10000000000000000, .int .u64 100000000000000000, .int .u64 1000000000000000000, .int .u64 10000000000000000000]
  let h3 := put h2 5 #[.int .u8 128, .int .u8 191, .int .u8 160, .int .u8 191, .int .u8 128, .int .u8 159, .int .u8 144, .int .u8 191, .int .u8 128, .int .u8 143, .int .u8 0, .int .u8 0, .int .u8 0, .int .u8 0, .int .u8 0, .int .u8 0, .int .u8 0, .int .u8 0, .int .u8 0, .int .u8 0, .int .u8 0, .int .u8 0, .int .u8 0, .int .u8 0, .int .u8 0, .int .u8 0, .int .u8 0, .int .u8 0, .int .u8 0, .int .u8 0, .int .u8 0, .int .u8 0]
  let h4 := put h3 2 #[.iface 151 (.pointer (some ⟨N + 0, 0, none⟩))]
  let h5 := put h4 1 #[.iface 151 (.pointer (some ⟨N + 1, 0, none⟩))]
  let h6 := put h5 4 (Lib.firstTab.map fun z => Value.int .u8 z).toArray
  { w0 with heap := h6 }
noncomputable abbrev N0 : Nat := (World.settled Tryz.prog default).heap.size
set_option maxRecDepth 1000000 in
theorem laid_met (os : Os) : laidMet Tryz.prog Rows.fnVarnishRow.laid ((laidWorld os).forCall (fun _ _ => 0) ⟨#[], #[.slice none 0 0, .slice none 0 0], []⟩).memory :=
  (LaidIn.of_run (l := Rows.fnVarnishRow.laid) [6, 7, 3, 5, 2, N0 + 0, 1, N0 + 1, 4] 10 (by kernel_rfl) (by kernel_rfl) (by kernel_rfl) (by kernel_rfl)).met
theorem reads (os : Os) {H : Type} (enc : TypeId × Value → H) : ∃ places, DataW.whole enc Tryz.prog ((laidWorld os).forCall (fun _ _ => 0) ⟨#[], #[.slice none 0 0, .slice none 0 0], []⟩).memory Tryz.f3.params.toList Rows.fnVarnishSpec.vars false (#[.slice none 0 0, .slice none 0 0] : Array Value).toList 8 = some ([.nil, .nil], [], places) :=
  ⟨[], by kernel_rfl⟩
set_option maxRecDepth 100000 in
theorem lifted (os : Os) (started : os.Started) (H : Type) (enc : TypeId × Value → H) (F : Stop.Interp) :
    ReturnsInHanded {} Tryz.checked os 3 .any ((OpenSpec.ofChange Rows.fnVarnishSpec).preRow enc Tryz.prog Tryz.f3 Rows.fnVarnishRow.domain false Rows.fnVarnishRow.laid) (((OpenSpec.ofChange Rows.fnVarnishSpec).at F).post enc Tryz.prog Tryz.f3 false true false false) := by
  obtain ⟨places, hx⟩ := reads os enc
  refine returnsInHanded_of_row (C := Tryz.checked) (s := (OpenSpec.ofChange Rows.fnVarnishSpec)) own started (by kernel_rfl) Tryz.func3
    (witness_row_atRef (enc := enc) (C := Tryz.checked) false (laidWorld os) #[.slice none 0 0, .slice none 0 0] rfl (by kernel_rfl) (by kernel_rfl) (by kernel_rfl)
      (OpenSpec.preRow_of_cond 8 hx (by kernel_rfl) (fun k hk => by cases hk) (by kernel_rfl) (laid_met os))) ?_
  intro W base args ds gs before hval0 hW hcnd hcond _ hL0 hShape _
  have hL : laidMet Tryz.prog Rows.fnVarnishRow.laid W := hL0
  have hval : ∀ (j : Nat) t v, Tryz.f3.params[j]? = some t → args[j]? = some v → Value.okWide Tryz.prog W .any base t v := hval0
  have hW' := hW
  obtain ⟨p, q, hA0, hV, rfl, hfz, hnd⟩ := hW
  have hA : DataW.TrodAll enc Tryz.prog W 0 (fun _ => true) true Tryz.f3.params.toList args.toList ds p := hA0
  rw [Tryz.params3] at hA hval
  obtain ⟨v0, vs0, d0, ds0, p0, q0, hargs, rfl, rfl, h0, r0⟩ := trodAll_cons hA
  obtain ⟨v1, vs1, d1, ds1, p1, q1, rfl, rfl, rfl, h1, r1⟩ := trodAll_cons r0
  obtain ⟨rfl, rfl, rfl⟩ := trodAll_nil r1
  obtain rfl : args = #[v0, v1] := by cases args; simp_all
  obtain ⟨rfl, rfl⟩ := trodVars_none hV
  obtain ⟨a0, len0, cap0, rfl⟩ := okWide_slice Tryz.underlying22 (hval 0 22 v0 rfl rfl)
  have k0 := h0
  have lt0 : ∀ x ∈ p0, x.block < W.heap.size := by obtain ⟨m, hm⟩ := k0; exact DataW.trod_lt m _ _ _ hm
  obtain ⟨z0, w0⟩ : ∃ zs, IsRow .u8 W a0 len0 cap0 zs := by
    obtain ⟨fuel, hf⟩ := h0
    rcases open_ints Tryz.underlying22 Tryz.underlying5 (by kernel_rfl) hf with ⟨hcs, _⟩ | ⟨x, l, c, zs, hcs, _, hl, hm, hz, _, hcell, hwz⟩
    · simp [Value.cells] at hcs
      obtain ⟨rfl, rfl, rfl⟩ := hcs
      exact ⟨[], .inl ⟨rfl, rfl, rfl, rfl⟩⟩
    · simp [Value.cells] at hcs
      obtain ⟨rfl, rfl, rfl⟩ := hcs
      exact ⟨zs, .inr ⟨_, rfl, hl, hm, by simpa using hz, hcell, hwz⟩⟩
  obtain ⟨a1, len1, cap1, rfl⟩ := okWide_slice Tryz.underlying22 (hval 1 22 v1 rfl rfl)
  have k1 := h1
  have lt1 : ∀ x ∈ p1, x.block < W.heap.size := by obtain ⟨m, hm⟩ := k1; exact DataW.trod_lt m _ _ _ hm
  obtain ⟨z1, w1⟩ : ∃ zs, IsRow .u8 W a1 len1 cap1 zs := by
    obtain ⟨fuel, hf⟩ := h1
    rcases open_ints Tryz.underlying22 Tryz.underlying5 (by kernel_rfl) hf with ⟨hcs, _⟩ | ⟨x, l, c, zs, hcs, _, hl, hm, hz, _, hcell, hwz⟩
    · simp [Value.cells] at hcs
      obtain ⟨rfl, rfl, rfl⟩ := hcs
      exact ⟨[], .inl ⟨rfl, rfl, rfl, rfl⟩⟩
    · simp [Value.cells] at hcs
      obtain ⟨rfl, rfl, rfl⟩ := hcs
      exact ⟨zs, .inr ⟨_, rfl, hl, hm, by simpa using hz, hcell, hwz⟩⟩
  clear hA0 hval0
  refine (walk a0 len0 cap0 z0 a1 len1 cap1 z1 W w0 w1 (tabP_head hL.tail.tail) (errs_of_laid hL.tail.tail.tail.tail) (hShape)).mono fun e W' ⟨he, bel⟩ => ?_
  subst he
  exact ⟨_, rfl, _, _, _, [], _, [], hW', trodAll_mk1 (shut_bool Tryz.underlying4 _), (trodAll_cons_mk (Below.trod laidOut (by kernel_rfl) (of_decide_eq_true (by kernel_rfl)) k0 bel lt0) (trodAll_cons_mk (Below.trod laidOut (by kernel_rfl) (of_decide_eq_true (by kernel_rfl)) k1 bel lt1) trodAll_mk0)), rfl, bel.frame _, fun h => by cases h⟩

theorem said : Rows.FnVarnishSaid :=
  OpenClaim.holds_of_cond 3 Tryz.f3 rfl rfl rfl rfl rfl rfl rfl ⟨rfl, rfl, rfl, rfl, rfl⟩ rfl rfl rfl rfl rfl (by kernel_rfl) Tryz.func3 (by kernel_rfl)
    (of_decide_eq_true (by kernel_rfl)) (by unfold Func.isWrapper; first | (rw [if_pos (by decide +kernel)]; kernel_rfl) | (rw [if_neg (by decide +kernel)]; exact ⟨rfl, rfl⟩))
    (fun os started H enc _ F => by rw [OpenClaim.pre_eq_preRow]; exact lifted os started H enc F)

theorem plain (f : FuncId) (fn : Func) (hf : Tryz.pinned.checked.prog.funcNamed "loop.example/g01061/laws.FnVarnish" = some f) (hfn : Tryz.pinned.checked.prog.funcs[f]? = some fn) :
    true = Tryz.pinned.checked.prog.looks [] ∧ ∀ (j : Nat) t, fn.params[j]? = some t → Tryz.pinned.checked.prog.wantsStandIn t = false := by
  obtain rfl : f = 3 := Option.some.inj ((show Tryz.prog.funcNamed "loop.example/g01061/laws.FnVarnish" = some 3 by kernel_rfl).symm.trans hf) |>.symm
  obtain rfl : fn = Tryz.f3 := (Option.some.inj (Tryz.func3.symm.trans hfn)).symm
  refine ⟨by kernel_rfl, fun j t ht => ?_⟩
  rw [Tryz.params3] at ht
  have hm := Array.mem_of_getElem? ht
  simp only [List.mem_toArray, List.mem_cons, List.mem_nil_iff, or_false] at hm
  rcases hm with rfl | rfl
  · exact (show Tryz.prog.wantsStandIn 22 = false by kernel_rfl)
  · exact (show Tryz.prog.wantsStandIn 22 = false by kernel_rfl)

/-- the statement -/
theorem proved : Rows.FnVarnishCardSaid :=
  Claim7.holds_tied_plain_at .later [] _ _ _ _ said (fun _ h => by cases h) (by kernel_rfl) (fun _ h => by cases h) fnVarnish_row_tie rfl ⟨rfl, rfl⟩ (by kernel_rfl) rfl plain (by kernel_rfl)
#print axioms proved
end Go.Proofs.YtgfhjcbmilaegaaGreatDoor.fnVarnish
