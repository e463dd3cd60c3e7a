/-
  The law FnSetNecks holds for every input: the function answers as its model; conditions: none beside the row's own.
-/
import Derived.Test.YtcdpkbcpglaiaaaSnp
import Derived.Test.YtcdpkbcpglaiaaaDnm
import Derived.Test.YtcdpkbcpglaiaaaTen
import Derived.Lib.Hide
import Derived.Test.YtcdpkbcpglaiaaaRows
import Derived.WalkKit
import Derived.ProofKit
import Derived.OpenShut
import Derived.ShutString
import Derived.ChangeOld
import Derived.Below
namespace Go.Proofs.Ytcdpkbcpglaiaaa.fnSetNecks
open Go.ChangeShapes Go.WideShapes Go.ChangeAt Go.RowKit
open Go.ChangeMaps (open_string shut_string)
set_option linter.unusedVariables false

theorem own : ownKnob Try.prog.godebug = none := by kernel_rfl
theorem laidOut : laidOutB Try.prog = true := by kernel_rfl

/-- WHAT THE WALK IS TOLD OF A SLICE OF INTEGERS THAT CAME IN: it is nil; or it leads to a row of 'cap' cells, the numbers 'zs' (the first 'len' are its elements, the rest its spare room), each fitting its kind. -/
def IsRow (k : IntKind) (w : World) (a : Option Addr) (len cap : Nat) (zs : List Int) : Prop :=
  (a = none ∧ len = 0 ∧ cap = 0 ∧ zs = []) ∨
  ∃ x, a = some x ∧ len ≤ cap ∧ cap ≤ maxLen ∧ zs.length = cap ∧ (∀ i, i < zs.length → w.cell? (x.add i) = some (.int k (zs.getD i 0))) ∧ ∀ n ∈ zs, (Lit.int k n).wf = true

/-! ### STEP 1: THE WALK: the Go text returns true, AND WRITES NOTHING THAT WAS THERE: 'Below w.heap.size w w'' (Derived/Below.lean: '.refl', '.alloc', '.drew', '.setCell' at a new block, '.trans'). Open each 'IsRow' by 'rcases' AHEAD of 'go_enter'; part every test ahead of the walk. -/
theorem maxlen_of {w : World} {k : IntKind} {a : Option Addr} {len cap : Nat} {zs : List Int} (h : IsRow k w a len cap zs) : len ≤ maxLen := by
  rcases h with ⟨_, rfl, _⟩ | ⟨x, _, h1, h2, _⟩
  · exact Nat.zero_le _
  · omega
set_option maxHeartbeats 12800000 in
set_option maxRecDepth 1000000 in
theorem walk (a0 : Option Addr) (len0 cap0 : Nat) (z0 : List Int) (a1 : Option Addr) (len1 cap1 : Nat) (z1 : List Int) (w : World) (w0 : IsRow .u8 w a0 len0 cap0 z0) (w1 : IsRow .u8 w a1 len1 cap1 z1) :
    Calls Try.prog 3 #[.slice a0 len0 cap0, .slice a1 len1 cap1] w fun e w' => e = .returned (.bool true) ∧ Below w.heap.size w w' := by
  have m0 := maxlen_of w0
  have m1 := maxlen_of w1
  obtain ⟨Z0, q0, l0⟩ := u8_in w0
  obtain ⟨Z1, q1, l1⟩ := u8_in w1
  clear w0 w1
  by_cases hL0 : len0 ≤ 1048576
  rotate_left
  · have c := b10Long_yes a0 len0 cap0 hL0 m0
    clear q0 q1
    go_enter Try.func3, Try.ntmps3
    go_wp2_with fail
    refine (c _).mono ?_
    rintro e _ ⟨rfl, rfl⟩
    go_wp2
    go_ret
    exact ⟨rfl, Below.refl _ _⟩
  have cL0 := Lib.hid (b10Long_no a0 len0 cap0 hL0)
  by_cases hL1 : len1 ≤ 1048576
  rotate_left
  · have c := b10Long_yes a1 len1 cap1 hL1 m1
    clear q0 q1
    go_enter Try.func3, Try.ntmps3
    go_wp2_with fail
    refine (cL0.out _).mono ?_
    rintro e _ ⟨rfl, rfl⟩
    go_wp2_with fail
    refine (c _).mono ?_
    rintro e _ ⟨rfl, rfl⟩
    go_wp2
    go_ret
    exact ⟨rfl, Below.refl _ _⟩
  have cL1 := Lib.hid (b10Long_no a1 len1 cap1 hL1)
  have cD1 := Lib.hid (DrawNearestNeck_any (.slice a0 len0 cap0) Z0 w (by omega) q0)
  have cD2 := Lib.hid (fun W (h : Below w.heap.size w W) => DrawSetNecks_any (.slice a1 len1 cap1) Z1 W (by omega) (u8_at q1 h.size h))
  have cD3 := Lib.hid (fun W (h : Below w.heap.size w W) => DrawHeightsAlong_any (.slice a0 len0 cap0) Z0 W (by omega) (u8_at q0 h.size h))
  clear q0 q1
  go_enter Try.func3, Try.ntmps3
  go_wp2_with fail
  refine (cL0.out _).mono ?_
  rintro e _ ⟨rfl, rfl⟩
  go_wp2_with fail
  refine (cL1.out _).mono ?_
  rintro e _ ⟨rfl, rfl⟩
  go_wp2_with fail
  refine cD1.out.mono ?_
  rintro e p1 ⟨u, Y, x1, x2, x3, x4, rfl, hYl, xa, xb, xc, xd, hO, b1⟩
  obtain ⟨k, far, c1, cA, hz1, hy1⟩ := snA Y x1 x2 x3 x4 (by omega)
  have hNk := hO.ncks
  obtain ⟨au, capu, rfl, hcapu, -, hread⟩ := id hNk
  have hread' := Lib.hid hread
  have hat0 := nck_box x1 x2 x3 x4 p1
  have hz0 : p1.heap.size < (p1.alloc (.cells #[.int .i64 x1, .int .i64 x2, .int .i64 x3, .int .i64 x4] 26)).heap.size := by simp
  have hU0 : Below w.heap.size w (p1.alloc (.cells #[.int .i64 x1, .int .i64 x2, .int .i64 x3, .int .i64 x4] 26)) := b1.alloc b1.size _
  have hA0 : Below p1.heap.size p1 (p1.alloc (.cells #[.int .i64 x1, .int .i64 x2, .int .i64 x3, .int .i64 x4] 26)) := (Below.refl _ _).alloc (Nat.le_refl _) _
  have hB1 := Lib.hid b1
  have hNkH := Lib.hid hNk
  clear b1 cD1 cL0 cL1 hO hNk hread xa xb xc xd
  go_wp2_with fail
  generalize p1.alloc (.cells #[.int .i64 x1, .int .i64 x2, .int .i64 x3, .int .i64 x4] 26) = p2 at hat0 hz0 hU0 hA0 ⊢
  obtain ⟨R, hR⟩ : ∃ R, R = p1.heap.size := ⟨_, rfl⟩
  rw [← hR] at hat0 hz0 ⊢
  clear hR
  have U0 := Lib.hid hU0
  refine (cA.out _ _ (hNkH.out.below hA0)).mono ?_
  rintro e p3 ⟨rfl, b3⟩
  have U3 := Lib.hid (below2 U0.out b3)
  have hat3 := Lib.hid (hat0.below hz0 b3)
  have hz3 := Nat.lt_of_lt_of_le hz0 b3.size
  have hT3 := Lib.hid (below2 hA0 b3)
  clear b3 hat0 hz0 hU0 U0 cA
  go_upto_if 45 with fail
  go_cut [10, 11] from 46 to 127 (fun s10 s11 wx => Hid (Below w.heap.size w wx))
  case first =>
    by_cases hc : c1 = 0
    rotate_left
    · have e1 : (c1 == 0) = false := beq_eq_false_iff_ne.2 hc
      obtain ⟨rfl, rfl⟩ := hz1.out hc
      clear hc hz1 hy1
      go_wp2_with fail
      go_meet
      exact U3
    · obtain ⟨K, rfl, hK, h64, fx1, fx2, fx3, fx4, hev⟩ := hy1.out hc
      subst hc
      rw [show ((0 : Int) == (0 : Int)) = true from rfl]
      clear hz1 hy1
      have hpos : 0 < Y.length := by omega
      rcases hread'.out with h | ⟨g, o, rfl, hg, hcl⟩
      · subst h; simp at hpos
      have hclH := Lib.hid hcl
      have hk0 : decide ((K : Int) < 0) = false := decide_eq_false (by omega)
      have hk1 : decide ((Y.length : Int) ≤ (K : Int)) = false := decide_eq_false (by omega)
      have hk2 : ¬ Y.length ≤ K := by omega
      have hk3 : decide (Y.length ≤ K) = false := decide_eq_false hk2
      clear hcl hread'
      go_wp2_with fail
      clear hk0 hk1 hk3
      go_loopw [10, 11] (fun i n wr => ∃ j : Nat, j ≤ Y.length ∧ i = .int .i64 j ∧ Hid (Below p3.heap.size p3 wr)) (fun i _ _ => Y.length - (intOf i).toNat)
      case atStart => exact ⟨0, by omega, rfl, Lib.hid (Below.refl _ _)⟩
      case round =>
        obtain ⟨j, hj, rfl, hB⟩ := hrel
        by_cases hlt : j < Y.length
        · have hltI : (j : Int) < (Y.length : Int) := by omega
          have hw := nckAt_of (range_below (range_below (hclH.out j hlt) hg hT3.out) (Nat.lt_of_lt_of_le hg hT3.out.size) hB.out)
          have hxw := hat3.out.below hz3 hB.out
          obtain ⟨s, v1, v2, v3, v4, hyb, cA1, cA2, cA3, cA4, f1, f2, f3, f4, hs, hs1, hs2, hs3⟩ := hev.out j hlt
          obtain ⟨y, hy⟩ : ∃ y, y = Y[j] := ⟨_, rfl⟩
          rw [← hy] at hw hyb cA1 cA2 cA3 cA4
          clear hy
          obtain ⟨y1, y2, y3, y4⟩ := y
          obtain ⟨k0, k1, k2, k3⟩ := hw
          obtain ⟨j0, j1, j2, j3⟩ := hxw
          simp only [Nat.zero_add] at j0 j1 j2 j3
          simp only at k0 k1 k2 k3 hyb cA1 cA2 cA3 cA4
          subst hs
          have e1 : decide (v1 + v2 + v3 + v4 < far) = false := decide_eq_false (by omega)
          have hBn := hB
          rcases Nat.lt_trichotomy j K with hjk | hjk | hjk
          · have e2 : ((j : Int) == (K : Int)) = false := beq_eq_false_iff_ne.2 (by omega)
            have e3 : decide ((j : Int) < (K : Int)) = true := decide_eq_true (by omega)
            have hs3' := hs3 hjk
            have e4 : (v1 + v2 + v3 + v4 == far) = false := beq_eq_false_iff_ne.2 (by omega)
            have hH : Hid (j < K ∧ far < v1 + v2 + v3 + v4) := Lib.hid ⟨hjk, hs3'⟩
            clear hs1 hs2 hs3 hs3' hjk
            go_wp2_with fail
            go_quiet ((first
              | (go_at_call 7; (with_reducible exact Qs (cA1.out _)))
              | (go_at_call 7; (with_reducible exact Qs (cA2.out _)))
              | (go_at_call 7; (with_reducible exact Qs (cA3.out _)))
              | (go_at_call 7; (with_reducible exact Qs (cA4.out _)))))
            go_wp2
            all_goals (have hq := hH.out; try (exfalso; omega))
            go_roundw
            case rel => exact ⟨j + 1, by omega, by go_num, Lib.hid (belowN hBn.out _)⟩
            case measure => simp [intOf]; omega
          · have hs2' := hs2 hjk
            have e2 : ((j : Int) == (K : Int)) = true := beq_iff_eq.2 (by omega)
            have e3 : decide ((j : Int) < (K : Int)) = false := decide_eq_false (by omega)
            have e4 : (v1 + v2 + v3 + v4 == far) = true := beq_iff_eq.2 hs2'
            have hH : Hid (j = K ∧ far = v1 + v2 + v3 + v4) := Lib.hid ⟨hjk, hs2'.symm⟩
            clear hs1 hs2 hs3 hs2' hjk
            go_wp2_with fail
            go_quiet ((first
              | (go_at_call 7; (with_reducible exact Qs (cA1.out _)))
              | (go_at_call 7; (with_reducible exact Qs (cA2.out _)))
              | (go_at_call 7; (with_reducible exact Qs (cA3.out _)))
              | (go_at_call 7; (with_reducible exact Qs (cA4.out _)))))
            go_wp2
            all_goals (have hq := hH.out; try (exfalso; omega))
            go_roundw
            case rel => exact ⟨j + 1, by omega, by go_num, Lib.hid (belowN hBn.out _)⟩
            case measure => simp [intOf]; omega
          · have e2 : ((j : Int) == (K : Int)) = false := beq_eq_false_iff_ne.2 (by omega)
            have e3 : decide ((j : Int) < (K : Int)) = false := decide_eq_false (by omega)
            have hH : Hid (K < j ∧ far ≤ v1 + v2 + v3 + v4) := Lib.hid ⟨hjk, hs1⟩
            clear hs1 hs2 hs3 hjk
            go_wp2_with fail
            go_quiet ((first
              | (go_at_call 7; (with_reducible exact Qs (cA1.out _)))
              | (go_at_call 7; (with_reducible exact Qs (cA2.out _)))
              | (go_at_call 7; (with_reducible exact Qs (cA3.out _)))
              | (go_at_call 7; (with_reducible exact Qs (cA4.out _)))))
            go_wp2
            all_goals (have hq := hH.out; try (exfalso; omega))
            go_roundw
            case rel => exact ⟨j + 1, by omega, by go_num, Lib.hid (belowN hBn.out _)⟩
            case measure => simp [intOf]; omega
        · have hltI : ¬ (j : Int) < (Y.length : Int) := by omega
          have hEnd := Lib.hid (below2 U3.out hB.out)
          clear hB
          go_wp2_with fail
          go_meet
          exact hEnd
  case rest =>
    have X1 := hcut
    clear hcut hz1 hy1 U3 hat3 hz3 hT3 hNkH hread' hB1 hA0
    go_wp2_with fail
    refine (cD2.out _ X1.out).mono ?_
    rintro e p6 ⟨u2, Y2, h, f, rfl, hYl2, hh, hf, hO2, b6⟩
    obtain ⟨L, c4, cS, hz2, hy2⟩ := snB Y2 h f (by omega)
    have hN2 := Lib.hid hO2.ncks
    obtain ⟨au2, capu2, rfl, hcapu2, -, hread2⟩ := id hN2.out
    have hread2' := Lib.hid hread2
    have B6 := Lib.hid (below2 X1.out b6)
    clear b6 cD2 X1 hO2 hread2
    go_wp2_with fail
    refine (cS.out _ _ hN2.out).mono ?_
    rintro e p8 ⟨v, rfl, hOL, b8⟩
    have U8 := Lib.hid (below2 B6.out b8)
    have hT8 := Lib.hid b8
    obtain ⟨av, capv, rfl⟩ : ∃ a c, v = .slice a L.length c := by
      rcases hOL.2 with ⟨rfl, h0⟩ | ⟨g, c, cur, rfl, _⟩
      · exact ⟨none, 0, by rw [h0]⟩
      · exact ⟨_, c, rfl⟩
    have hOLH := Lib.hid hOL
    clear b8 hOL B6 cS hN2 hh hf
    go_upto_if 142 with fail
    go_cut [17, 18, 19] from 143 to 178 (fun s17 s18 s19 wx => Hid (Below w.heap.size w wx))
    case first =>
      by_cases hc : c4 = 0
      rotate_left
      · have e1 : (c4 == 0) = false := beq_eq_false_iff_ne.2 hc
        have hl := hz2.out hc
        have e2 : ((L.length : Int) == 0) = true := beq_iff_eq.2 (by omega)
        clear hc hz2 hy2 hl hOLH
        go_wp2_with fail
        go_meet
        exact U8
      · obtain ⟨h64, hL64, hLin, fh, ff, cR, hev⟩ := hy2.out hc
        subst hc
        have hI8 := Lib.hid (ints_own hOLH.out hLin.out)
        clear hz2 hy2 hOLH hLin
        go_wp2_with fail
        refine (cR.out _ _ hI8.out).mono ?_
        rintro e p9 ⟨rfl, b9⟩
        have hI9 := Lib.hid (hI8.out.below b9)
        have U9 := Lib.hid (below2 U8.out b9)
        have hT9 := Lib.hid (below2 hT8.out b9)
        clear b9 hI8 hT8 U8 cR
        go_wp2_with fail
        go_loopw [17, 18, 19] (fun i _ _ wr => ∃ j : Nat, j ≤ Y2.length ∧ i = .int .i64 j ∧ Hid (Below p9.heap.size p9 wr)) (fun i _ _ _ => Y2.length - (intOf i).toNat)
        case atStart => exact ⟨0, by omega, rfl, Lib.hid (Below.refl _ _)⟩
        case round =>
          obtain ⟨j, hj, rfl, hB⟩ := hrel
          by_cases hlt : j < Y2.length
          · have hltI : (j : Int) < (Y2.length : Int) := by omega
            rcases hread2'.out with h | ⟨g, o, rfl, hg, hcl⟩
            · subst h; simp at hlt
            have hw := nckAt_of (range_below (range_below (hcl j hlt) hg hT9.out) (Nat.lt_of_lt_of_le hg hT9.out.size) hB.out)
            obtain ⟨p, a, b, cP, cH, fp, cA, fa, hb⟩ := hev.out j hlt
            obtain ⟨y, hy⟩ : ∃ y, y = Y2[j] := ⟨_, rfl⟩
            rw [← hy] at hw cP
            clear hy hcl
            obtain ⟨y1, y2, y3, y4⟩ := y
            obtain ⟨k0, k1, k2, k3⟩ := hw
            simp only at k0 k1 k2 k3 cP
            go_wp2_with fail
            refine (cP.out _).mono ?_
            rintro e p10 ⟨rfl, b10⟩
            have hI10 := Lib.hid ((hI9.out.below hB.out).below b10)
            have hB10 := Lib.hid (below2 hB.out b10)
            have hb' := hb.out
            clear k0 k1 k2 k3 b10 hB cP hb
            go_wp2_with fail
            refine (cH.out _ _ hI10.out).mono ?_
            rintro e _ ⟨rfl, rfl⟩
            go_wp2_with fail
            refine (cA.out _).mono ?_
            rintro e _ ⟨rfl, rfl⟩
            cases b
            all_goals
              go_wp2
              go_roundw
              case rel => exact ⟨j + 1, by omega, by go_num, hB10⟩
              case measure => simp [intOf]; omega
          · have hltI : ¬ (j : Int) < (Y2.length : Int) := by omega
            have hEnd := Lib.hid (below2 U9.out hB.out)
            clear hB
            go_wp2_with fail
            go_meet
            exact hEnd
    case rest =>
      have X2 := hcut
      clear hcut hz2 hy2 U8 hT8 hOLH hread2'
      go_wp2_with fail
      refine (cD3.out _ X2.out).mono ?_
      rintro e p12 ⟨f3, t3, n3, rfl, hf3, ht3, hn3, b12⟩
      obtain ⟨L3, c7, cH3, hz3', hy3⟩ := snC f3 t3 n3
      have B12 := Lib.hid (below2 X2.out b12)
      clear b12 cD3 X2
      go_wp2_with fail
      refine (cH3.out _).mono ?_
      rintro e p13 ⟨v3, rfl, hOL3, b13⟩
      have U13 := Lib.hid (below2 B12.out b13)
      have hOLH3 := Lib.hid hOL3
      clear b13 B12 cH3
      by_cases hc : c7 = 0
      rotate_left
      · have e1 : (c7 == 0) = false := beq_eq_false_iff_ne.2 hc
        have hl := hz3'.out hc
        obtain ⟨av3, capv3, rfl⟩ : ∃ a c, v3 = .slice a 0 c := by
          rcases hOL3.2 with ⟨rfl, h0⟩ | ⟨g, c, cur, rfl, _⟩
          · exact ⟨none, 0, rfl⟩
          · exact ⟨_, c, by rw [hl]⟩
        clear hc hz3' hy3 hOL3 hOLH3 hl
        go_wp2
        go_ret
        exact ⟨by first | rfl | simp, U13.out⟩
      · obtain ⟨N, rfl, hN, hLl, hLin3, ff3, ft3, hev3⟩ := hy3.out hc
        subst hc
        obtain ⟨a3, cap3, rfl, hcap3, -, hread3⟩ := ints_own hOL3 hLin3.out
        rcases hread3 with h | ⟨g3, o3, rfl, hg3, hcl3⟩
        · subst h; simp at hLl
        have c0 := hcl3 0 (by omega)
        have cN := hcl3 N (by omega)
        have q1 : L3[0]'(by omega) = f3 := by
          obtain ⟨_, _, _, _, _, q1, _⟩ := hev3.out 0 (by omega)
          exact q1 rfl
        have q2 : L3[N]'(by omega) = t3 := by
          obtain ⟨_, _, _, _, _, _, q2, _⟩ := hev3.out N (by omega)
          exact q2 rfl
        rw [q1] at c0
        rw [q2] at cN
        simp only [Nat.add_zero] at c0
        have hclH3 := Lib.hid hcl3
        have hevH3 := hev3
        have hLH := Lib.hid hLl
        rw [hLl] at hcap3 ⊢
        clear q1 q2 hz3' hy3 hOL3 hOLH3 hLin3 hcl3 hev3 hLl
        go_wp2_with fail
        clear c0 cN
        go_loopw [25] (fun i wr => ∃ j : Nat, j ≤ N + 1 ∧ i = .int .i64 j ∧ p13 = wr) (fun i _ => N + 1 - (intOf i).toNat)
        case atStart => exact ⟨0, by omega, rfl, rfl⟩
        case round =>
          obtain ⟨j, hj, rfl, rfl⟩ := hrel
          by_cases hlt : j ≤ N
          · have hltI : (j : Int) ≤ (N : Int) := by omega
            have hjl : j < L3.length := by rw [hLH.out]; omega
            obtain ⟨p, q, d, a, hx, -, -, hp, hq, hd, bp, bq, bd, cA, fa⟩ := hevH3.out j hjl
            have cj := hclH3.out j hjl
            obtain ⟨x, hxe⟩ : ∃ x, x = L3[j] := ⟨_, rfl⟩
            rw [← hxe] at hx hp cj
            have ep : IntKind.i64.wrap (x * (N : Int)) = p := by rw [hp.out]; exact IntWalk.i64_in _ (by omega)
            have eq : IntKind.i64.wrap (f3 * (N : Int)) = q := by rw [hq.out]; exact IntWalk.i64_in _ (by omega)
            have ed : IntKind.i64.wrap ((t3 - f3) * (j : Int)) = d := by rw [hd.out]; exact IntWalk.i64_in _ (by omega)
            have ea : decide ((N : Int) < a) = false := decide_eq_false (by omega)
            clear hxe hp hq hd hjl
            go_wp2_with fail
            refine (cA.out _).mono ?_
            rintro e _ ⟨rfl, rfl⟩
            go_wp2
            go_roundw
            case rel => exact ⟨j + 1, by omega, by go_num, by first | rfl | trivial⟩
            case measure => simp [intOf]; omega
          · have hltI : ¬ (j : Int) ≤ (N : Int) := by omega
            go_wp2
            go_ret
            exact ⟨rfl, U13.out⟩


/-! ### THE ROW's STEP: WRITTEN OUT: LEAVE IT -/
set_option maxRecDepth 100000 in
theorem lifted (os : Os) (started : os.Started) (H : Type) (enc : TypeId × Value → H) :
    ReturnsInHanded {} Try.checked os 3 .any (Rows.fnSetNecksSpec.pre6 enc Try.prog Try.f3 Rows.fnSetNecksRow.domain false) (Rows.fnSetNecksSpec.post enc Try.prog Try.f3 false true false false) := by
  refine returnsInHanded_of_change (C := Try.checked) own started (by kernel_rfl) Try.func3
    (ChangeSpec.witness6 (enc := enc) (C := Try.checked) false ⟨#[], #[.slice none 0 0, .slice none 0 0], []⟩ 8 (by kernel_rfl) (by kernel_rfl) (by kernel_rfl) (by kernel_rfl)) ?_
  intro W base args ds gs before hval0 hW hcnd _
  have hval : ∀ (j : Nat) t v, Try.f3.params[j]? = some t → args[j]? = some v → Value.okWide Try.prog W .any base t v := hval0
  have hW' := hW
  obtain ⟨p, q, hA0, hV, rfl, hfz, hnd⟩ := hW
  have hA : DataW.TrodAll enc Try.prog W 0 (fun _ => true) true Try.f3.params.toList args.toList ds p := hA0
  rw [Try.params3] at hA hval
  obtain ⟨v0, vs0, d0, ds0, p0, q0, hargs, rfl, rfl, h0, r0⟩ := trodAll_cons hA
  obtain ⟨v1, vs1, d1, ds1, p1, q1, rfl, rfl, rfl, h1, r1⟩ := trodAll_cons r0
  obtain ⟨rfl, rfl, rfl⟩ := trodAll_nil r1
  obtain rfl : args = #[v0, v1] := by cases args; simp_all
  obtain ⟨rfl, rfl⟩ := trodVars_none hV
  obtain ⟨a0, len0, cap0, rfl⟩ := okWide_slice Try.underlying22 (hval 0 22 v0 rfl rfl)
  have k0 := h0
  have lt0 : ∀ x ∈ p0, x.block < W.heap.size := by obtain ⟨m, hm⟩ := k0; exact DataW.trod_lt m _ _ _ hm
  obtain ⟨z0, w0⟩ : ∃ zs, IsRow .u8 W a0 len0 cap0 zs := by
    obtain ⟨fuel, hf⟩ := h0
    rcases open_ints Try.underlying22 Try.underlying5 (by kernel_rfl) hf with ⟨hcs, _⟩ | ⟨x, l, c, zs, hcs, _, hl, hm, hz, _, hcell, hwz⟩
    · simp [Value.cells] at hcs
      obtain ⟨rfl, rfl, rfl⟩ := hcs
      exact ⟨[], .inl ⟨rfl, rfl, rfl, rfl⟩⟩
    · simp [Value.cells] at hcs
      obtain ⟨rfl, rfl, rfl⟩ := hcs
      exact ⟨zs, .inr ⟨_, rfl, hl, hm, by simpa using hz, hcell, hwz⟩⟩
  obtain ⟨a1, len1, cap1, rfl⟩ := okWide_slice Try.underlying22 (hval 1 22 v1 rfl rfl)
  have k1 := h1
  have lt1 : ∀ x ∈ p1, x.block < W.heap.size := by obtain ⟨m, hm⟩ := k1; exact DataW.trod_lt m _ _ _ hm
  obtain ⟨z1, w1⟩ : ∃ zs, IsRow .u8 W a1 len1 cap1 zs := by
    obtain ⟨fuel, hf⟩ := h1
    rcases open_ints Try.underlying22 Try.underlying5 (by kernel_rfl) hf with ⟨hcs, _⟩ | ⟨x, l, c, zs, hcs, _, hl, hm, hz, _, hcell, hwz⟩
    · simp [Value.cells] at hcs
      obtain ⟨rfl, rfl, rfl⟩ := hcs
      exact ⟨[], .inl ⟨rfl, rfl, rfl, rfl⟩⟩
    · simp [Value.cells] at hcs
      obtain ⟨rfl, rfl, rfl⟩ := hcs
      exact ⟨zs, .inr ⟨_, rfl, hl, hm, by simpa using hz, hcell, hwz⟩⟩
  clear hA0 hval0
  refine (walk a0 len0 cap0 z0 a1 len1 cap1 z1 W w0 w1).mono fun e W' ⟨he, bel⟩ => ?_
  subst he
  exact ⟨_, rfl, _, _, _, [], _, [], hW', trodAll_mk1 (shut_bool Try.underlying4 _), (trodAll_cons_mk (Below.trod laidOut (by kernel_rfl) (of_decide_eq_true (by kernel_rfl)) k0 bel lt0) (trodAll_cons_mk (Below.trod laidOut (by kernel_rfl) (of_decide_eq_true (by kernel_rfl)) k1 bel lt1) trodAll_mk0)), rfl, bel.frame _, fun h => by cases h⟩

theorem over : Rows.fnSetNecksRow.holds Try.pinned (OpenSpec.ofChange Rows.fnSetNecksSpec) :=
  OpenClaim.holds_of_wide 3 Try.f3 rfl rfl rfl rfl rfl rfl rfl ⟨rfl, rfl, rfl, rfl, rfl⟩ rfl rfl rfl rfl rfl (by kernel_rfl) Try.func3 (by kernel_rfl)
    (of_decide_eq_true (by kernel_rfl)) (by unfold Func.isWrapper; first | (rw [if_pos (by decide +kernel)]; kernel_rfl) | (rw [if_neg (by decide +kernel)]; exact ⟨rfl, rfl⟩))
    (fun os started H enc _ => lifted os started H enc)

/-- ████ THE STATEMENT ████ -/
theorem proved : Rows.FnSetNecksSaid := over
#print axioms proved
end Go.Proofs.Ytcdpkbcpglaiaaa.fnSetNecks
