/-
  The law FnUnits holds for every input: the function answers as its model; the listed package-level variables are tied to the program's text.
-/
import Derived.Test.YtmknafkngggfjaaGreatDoorUni
import Derived.Test.YtmknafkngggfjaaGreatDoorCards
import Derived.Test.YtmknafkngggfjaaGreatDoorTie
import Derived.Lib.Hide
import Derived.WalkKit
import Derived.ProofKit
import Derived.OpenShut
import Derived.ShutString
import Derived.ChangeOld
import Derived.Below
import Derived.Deep.DeepHandedRow
import Derived.Deep.DeepWitnessRowRef
import Derived.Lib.LaidIn
import Derived.Lib.LaidTab
import Derived.SevenTiedAt
namespace Go.Proofs.YtmknafkngggfjaaGreatDoor.fnUnits
open Go.ChangeShapes Go.WideShapes Go.ChangeAt Go.RowKit
open Go.ChangeMaps (open_string shut_string)
set_option linter.unusedVariables false
set_option linter.unusedSimpArgs false

theorem own : ownKnob Tryz.prog.godebug = none := by kernel_rfl
theorem laidOut : laidOutB Tryz.prog = true := by kernel_rfl
/-- WHAT THE WALK IS TOLD OF A SLICE OF INTEGERS THAT CAME IN: it is nil; or it leads to a row of 'cap' cells, the numbers 'zs' (the first 'len' are its elements, the rest its spare room), each fitting its kind. -/
def IsRow (k : IntKind) (w : World) (a : Option Addr) (len cap : Nat) (zs : List Int) : Prop :=
  (a = none ∧ len = 0 ∧ cap = 0 ∧ zs = []) ∨
  ∃ x, a = some x ∧ len ≤ cap ∧ cap ≤ maxLen ∧ zs.length = cap ∧ (∀ i, i < zs.length → w.cell? (x.add i) = some (.int k (zs.getD i 0))) ∧ ∀ n ∈ zs, (Lit.int k n).wf = true

theorem bel2 {w a b : World} (h1 : Below w.heap.size w a) (h2 : Below a.heap.size a b) : Below w.heap.size w b := h1.trans (h2.mono h1.size)
theorem maxlen_of {w : World} {k : IntKind} {a : Option Addr} {len cap : Nat} {zs : List Int} (h : IsRow k w a len cap zs) : len ≤ maxLen := by
  rcases h with ⟨_, rfl, _⟩ | ⟨x, _, h1, h2, _⟩
  · exact Nat.zero_le _
  · omega
set_option maxRecDepth 1000000 in
set_option maxHeartbeats 12800000 in
theorem walk (a0 : Option Addr) (len0 cap0 : Nat) (z0 : List Int) (a1 : Option Addr) (len1 cap1 : Nat) (z1 : List Int) (w : World) (w0 : IsRow .u8 w a0 len0 cap0 z0) (w1 : IsRow .u8 w a1 len1 cap1 z1) (hT : TabP w) (hE : ErrsAt w) (hSh : w.ShapedOpen Tryz.prog) :
    Calls Tryz.prog 3 #[.slice a0 len0 cap0, .slice a1 len1 cap1] w fun e w' => e = .returned (.bool true) ∧ Below w.heap.size w w' := by
  have m0 := maxlen_of w0
  have m1 := maxlen_of w1
  obtain ⟨Z0, q0, l0⟩ := u8_in w0
  obtain ⟨Z1, q1, l1⟩ := u8_in w1
  clear w0 w1
  by_cases hL0 : len0 ≤ 1048576
  rotate_left
  · have c := b10Long_yes a0 len0 cap0 hL0 m0
    clear q0 q1
    go_enter Tryz.func3, Tryz.ntmps3
    go_wp2_with fail
    refine (c _).mono ?_
    rintro e _ ⟨rfl, rfl⟩
    go_wp2
    go_ret
    exact ⟨rfl, Below.refl _ _⟩
  have cL0 := Lib.hid (b10Long_no a0 len0 cap0 hL0)
  by_cases hL1 : len1 ≤ 1048576
  rotate_left
  · have c := b10Long_yes a1 len1 cap1 hL1 m1
    clear q0 q1
    go_enter Tryz.func3, Tryz.ntmps3
    go_wp2_with fail
    refine (cL0.out _).mono ?_
    rintro e _ ⟨rfl, rfl⟩
    go_wp2_with fail
    refine (c _).mono ?_
    rintro e _ ⟨rfl, rfl⟩
    go_wp2
    go_ret
    exact ⟨rfl, Below.refl _ _⟩
  have cL1 := Lib.hid (b10Long_no a1 len1 cap1 hL1)
  have cD1 := Lib.hid (fun W (h : Below w.heap.size w W) => DrawClockText_any (.slice a0 len0 cap0) Z0 W (by omega) (u8_at q0 h.size h))
  have cD2 := Lib.hid (fun W (h : Below w.heap.size w W) => DrawFixedText_any (.slice a1 len1 cap1) Z1 W (by omega) (u8_at q1 h.size h))
  have cD3 := Lib.hid (fun W (h : Below w.heap.size w W) => DrawLapText_any (.slice a0 len0 cap0) Z0 W (by omega) (u8_at q0 h.size h))
  have cD4 := Lib.hid (fun W (h : Below w.heap.size w W) => DrawLengthText_any (.slice a1 len1 cap1) Z1 W (by omega) (u8_at q1 h.size h))
  have cD5 := Lib.hid (fun W (h : Below w.heap.size w W) => DrawPiecesFrom_any (.slice a0 len0 cap0) Z0 W (by omega) (u8_at q0 h.size h))
  have hT' := Lib.hid hT
  have hE' := Lib.hid hE
  have hS' := Lib.hid hSh
  clear q0 q1 hT hE hSh
  go_enter Tryz.func3, Tryz.ntmps3
  go_wp2_with fail
  refine (cL0.out _).mono ?_
  rintro e _ ⟨rfl, rfl⟩
  go_wp2_with fail
  refine (cL1.out _).mono ?_
  rintro e _ ⟨rfl, rfl⟩
  have X0 := Lib.hid (Below.refl w.heap.size w)
  clear cL0 cL1
  go_wp2_with fail
  refine (cD1.out _ X0.out).mono ?_
  rintro e pa1 ⟨m, rfl, xm0, xm1, ba⟩
  have Xa := Lib.hid (bel2 X0.out ba)
  clear ba X0 cD1
  obtain ⟨D1, bk1, ok1, cT, cR, hD, hcase⟩ := clock_back m
  have hD' := Lib.hid hD
  have hcase' := Lib.hid hcase
  clear hD hcase
  go_wp2_with fail
  refine (cT.out _ (hT'.out.below Xa.out)).mono ?_
  rintro e pb1 ⟨rfl, bb⟩
  have Xb := Lib.hid (bel2 Xa.out bb)
  clear bb Xa cT
  go_wp2_with fail
  refine (cR.out _ (hT'.out.below Xb.out) (hE'.out.below Xb.out) (shape_below hS'.out Xb.out)).mono ?_
  rintro e pc1 ⟨rfl, bc⟩
  have Xc := Lib.hid (bel2 Xb.out bc)
  clear bc Xb cR
  go_upto_region 6 with fail
  go_cut [60] from 44 to 60 (fun sT wx => sT = .bool false ∧ Hid (Below w.heap.size w wx))
  case first =>
    rcases hcase'.out with ⟨e1, rfl, rfl⟩ | ⟨e1, e2, rfl, rfl⟩
    · clear e1 hcase' hD'
      go_wp2_with fail
      all_goals go_meet
      all_goals exact ⟨rfl, Xc⟩
    · have e5 := (size_of hD'.out).trans (clock_five e1)
      clear e1 hcase' hD'
      go_wp2_with fail
      all_goals go_meet
      all_goals exact ⟨rfl, Xc⟩
  case rest =>
    obtain ⟨rfl, X1⟩ := hcut
    clear hcase' hD' Xc
    go_wp2_with fail
    refine (cD2.out _ X1.out).mono ?_
    rintro e pa2 ⟨n, q, rfl, xn0, xn1, xq0, xq1, ba⟩
    have Xa := Lib.hid (bel2 X1.out ba)
    clear ba X1 cD2
    obtain ⟨D2, bk2, ok2, cT, cR, hD, hcase⟩ := fix_back n q
    have hD' := Lib.hid hD
    have hcase' := Lib.hid hcase
    clear hD hcase
    go_wp2_with fail
    refine (cT.out _ (hT'.out.below Xa.out)).mono ?_
    rintro e pb2 ⟨rfl, bb⟩
    have Xb := Lib.hid (bel2 Xa.out bb)
    clear bb Xa cT
    go_wp2_with fail
    refine (cR.out _ (hT'.out.below Xb.out) (hE'.out.below Xb.out) (shape_below hS'.out Xb.out)).mono ?_
    rintro e pc2 ⟨rfl, bc⟩
    have Xc := Lib.hid (bel2 Xb.out bc)
    clear bc Xb cR
    go_upto_region 11 with fail
    go_cut [86] from 75 to 86 (fun sT wx => sT = .bool false ∧ Hid (Below w.heap.size w wx))
    case first =>
      rcases hcase'.out with ⟨e1, rfl, rfl⟩ | ⟨e1, e2, rfl, rfl⟩
      · clear e1 hcase' hD'
        go_wp2_with fail
        all_goals go_meet
        all_goals exact ⟨rfl, Xc⟩
      · clear e1 hcase' hD'
        go_wp2_with fail
        all_goals go_meet
        all_goals exact ⟨rfl, Xc⟩
    case rest =>
      obtain ⟨rfl, X2⟩ := hcut
      clear hcase' hD' Xc
      go_wp2_with fail
      refine (cD3.out _ X2.out).mono ?_
      rintro e pa3 ⟨s, rfl, xs0, xs1, ba⟩
      have Xa := Lib.hid (bel2 X2.out ba)
      clear ba X2 cD3
      obtain ⟨D3, bk3, ok3, cT, cR, hD, hcase⟩ := lap_back s
      have hD' := Lib.hid hD
      have hcase' := Lib.hid hcase
      clear hD hcase
      go_wp2_with fail
      refine (cT.out _ (hT'.out.below Xa.out)).mono ?_
      rintro e pb3 ⟨rfl, bb⟩
      have Xb := Lib.hid (bel2 Xa.out bb)
      clear bb Xa cT
      go_wp2_with fail
      refine (cR.out _ (hT'.out.below Xb.out) (hE'.out.below Xb.out) (shape_below hS'.out Xb.out)).mono ?_
      rintro e pc3 ⟨rfl, bc⟩
      have Xc := Lib.hid (bel2 Xb.out bc)
      clear bc Xb cR
      go_upto_region 16 with fail
      go_cut [115] from 96 to 115 (fun sT wx => sT = .bool false ∧ Hid (Below w.heap.size w wx))
      case first =>
        have cS := lap_spec hD'.out
        rcases hcase'.out with ⟨e1, rfl, rfl⟩ | ⟨e1, e2, rfl, rfl⟩
        · clear e1 hcase' hD'
          go_wp2_with (go_at_call 14; (with_reducible refine (cS.out _).mono ?_); rintro e ps ⟨rfl, bs⟩)
          all_goals go_meet
          all_goals exact ⟨rfl, Lib.hid (bel2 Xc.out bs)⟩
        · clear e1 hcase' hD'
          go_wp2_with (go_at_call 14; (with_reducible refine (cS.out _).mono ?_); rintro e ps ⟨rfl, bs⟩)
          all_goals go_meet
          all_goals exact ⟨rfl, Lib.hid (bel2 Xc.out bs)⟩
      case rest =>
        obtain ⟨rfl, X3⟩ := hcut
        clear hcase' hD' Xc
        go_wp2_with fail
        refine (cD4.out _ X3.out).mono ?_
        rintro e pa4 ⟨g, rfl, xg0, xg1, ba⟩
        have Xa := Lib.hid (bel2 X3.out ba)
        clear ba X3 cD4
        obtain ⟨D4, bk4, ok4, cT, cR, hD, hcase⟩ := len_back g
        have hD' := Lib.hid hD
        have hcase' := Lib.hid hcase
        clear hD hcase
        go_wp2_with fail
        refine (cT.out _ (hT'.out.below Xa.out)).mono ?_
        rintro e pb4 ⟨rfl, bb⟩
        have Xb := Lib.hid (bel2 Xa.out bb)
        clear bb Xa cT
        go_wp2_with fail
        refine (cR.out _ (hT'.out.below Xb.out) (hE'.out.below Xb.out) (shape_below hS'.out Xb.out)).mono ?_
        rintro e pc4 ⟨rfl, bc⟩
        have Xc := Lib.hid (bel2 Xb.out bc)
        clear bc Xb cR
        go_upto_region 21 with fail
        go_cut [136] from 125 to 136 (fun sT wx => sT = .bool false ∧ Hid (Below w.heap.size w wx))
        case first =>
          rcases hcase'.out with ⟨e1, rfl, rfl⟩ | ⟨e1, e2, rfl, rfl⟩
          · clear e1 hcase' hD'
            go_wp2_with fail
            all_goals go_meet
            all_goals exact ⟨rfl, Xc⟩
          · clear e1 hcase' hD'
            go_wp2_with fail
            all_goals go_meet
            all_goals exact ⟨rfl, Xc⟩
        case rest =>
          obtain ⟨rfl, X4⟩ := hcut
          clear hcase' hD' Xc
          obtain ⟨P, c5, cI, hF⟩ := inch_facts g
          go_wp2_with fail
          refine (cI.out _).mono ?_
          rintro e p5 ⟨rfl, b5⟩
          have X5 := Lib.hid (bel2 X4.out b5)
          clear b5 X4 cI
          go_upto_region 24 with fail
          go_cut [153] from 142 to 153 (fun sT wx => sT = .bool false ∧ Hid (Below w.heap.size w wx))
          case first =>
            by_cases hc : c5 = 0
            rotate_left
            · have e1 : (c5 == 0) = false := beq_eq_false_iff_ne.2 hc
              clear hc hF
              go_wp2_with fail
              go_meet
              exact ⟨rfl, X5⟩
            · obtain ⟨V, cV, fn, fP, fV⟩ := hF.out hc
              subst hc
              clear hF
              go_wp2_with (go_at_call 19; (with_reducible refine (cV.out _).mono ?_); rintro e _ ⟨rfl, rfl⟩)
              all_goals go_meet
              all_goals exact ⟨by first | rfl | (exact congrArg Value.bool (decide_eq_false (by omega))), X5⟩
          case rest =>
            obtain ⟨rfl, X6⟩ := hcut
            clear hF X5 xm0 xm1 xn0 xn1 xq0 xq1 xs0 xs1 xg0 xg1
            go_wp2_with fail
            refine (cD5.out _ X6.out).mono ?_
            rintro e p6 ⟨l, each, saw, rfl, y1, y2, y3, y4, y5, y6, b6⟩
            have X7 := Lib.hid (bel2 X6.out b6)
            clear b6 X6 cD5
            obtain ⟨Sv, c6, cP, hno, hyes⟩ := pieces_facts l each saw
            go_wp2_with fail
            refine (cP.out _).mono ?_
            rintro e _ ⟨rfl, rfl⟩
            clear cP
            by_cases hc : c6 = 0
            rotate_left
            · obtain rfl := hno.out hc
              have e1 : (c6 == 0) = false := beq_eq_false_iff_ne.2 hc
              have e2 : (c6 != 0) = true := by unfold bne; rw [e1]; rfl
              clear hc hno hyes
              go_wp2
              go_ret
              exact ⟨rfl, X7.out⟩
            · obtain ⟨pf, zl, ze, zs⟩ := hyes.out hc
              subst hc
              clear hno hyes
              by_cases hz : Sv = 0
              · have hle := pf.d2
                subst hz
                have hlt : l < each := by have := of_decide_eq_true hle; omega
                clear pf hle
                go_wp2
                go_ret
                exact ⟨rfl, X7.out⟩
              · have hzB : (Sv == 0) = false := beq_eq_false_iff_ne.2 hz
                obtain ⟨s0, s1, g1, g2, g3, d1, g4, g5, g6, d2⟩ := pf
                clear hz
                go_wp2
                go_ret
                exact ⟨rfl, X7.out⟩

/-- A world for the witness: the settled one, the listed variables holding what their initialisers lay. -/
noncomputable def laidWorld (os : Os) : World :=
  let N := (World.settled Tryz.prog os).heap.size
  let w0 := World.holding Tryz.prog os ⟨#[.cells #[.string ⟨([118, 97, 108, 117, 101, 32, 111, 117, 116, 32, 111, 102, 32, 114, 97, 110, 103, 101] : List UInt8).toArray⟩] 115, .cells #[.string ⟨([105, 110, 118, 97, 108, 105, 100, 32, 115, 121, 110, 116, 97, 120] : List UInt8).toArray⟩] 115], #[], []⟩
  let put (h : Array Obj) (g : Nat) (cs : Array Value) : Array Obj := h.modify g fun
    | .cells _ t frozen => .cells cs t frozen
    | o => o
  let h0 := put w0.heap 4 #[.int .u8 0, .int .u8 1, .int .u8 28, .int .u8 2, .int .u8 29, .int .u8 14, .int .u8 24, .int .u8 3, .int .u8 30, .int .u8 22, .int .u8 20, .int .u8 15, .int .u8 25, .int .u8 17, .int .u8 4, .int .u8 8, .int .u8 31, .int .u8 27, .int .u8 13, .int .u8 23, .int .u8 21, .int .u8 19, .int .u8 16, .int .u8 7, .int .u8 26, .int .u8 12, .int .u8 18, .int .u8 6, .int .u8 11, .int .u8 5, .int .u8 10, .int .u8 9]
  let h1 := put h0 5 #[.int .u8 0, .int .u8 1, .int .u8 56, .int .u8 2, .int .u8 57, .int .u8 49, .int .u8 28, .int .u8 3, .int .u8 61, .int .u8 58, .int .u8 42, .int .u8 50, .int .u8 38, .int .u8 29, .int .u8 17, .int .u8 4, .int .u8 62, .int .u8 47, .int .u8 59, .int .u8 36, .int .u8 45, .int .u8 43, .int .u8 51, .int .u8 22, .int .u8 53, .int .u8 39, .int .u8 33, .int .u8 30, .int .u8 24, .int .u8 18, .int .u8 12, .int .u8 5, .int .u8 63, .int .u8 55, .int .u8 48, .int .u8 27, .int .u8 60, .int .u8 41, .int .u8 37, .int .u8 16, .int .u8 46, .int .u8 35, .int .u8 44, .int .u8 21, .int .u8 52, .int .u8 32, .int .u8 23, .int .u8 11, .int .u8 54, .int .u8 26, .int .u8 40, .int .u8 15, .int .u8 34, .int .u8 20, .int .u8 31, .int .u8 10, .int .u8 25, .int .u8 14, .int .u8 19, .int .u8 9, .int .u8 13, .int .u8 8, .int .u8 7, .int .u8 6]
  let h2 := put h1 0 #[.int .u64 1, .int .u64 10, .int .u64 100, .int .u64 1000, .int .u64 10000, .int .u64 100000, .int .u64 1000000, .int .u64 10000000, .int .u64 100000000, .int .u64 1000000000, .int .u64 10000000000, .int .u64 100000000000, .int .u64 1000000000000, .int .u64 10000000000000, .int .u64 100000000000000, .int .u64 1000000000000000, .int .u64 10000000000000000, .int .u64 100000000000000000, .int .u64 1000000000000000000, .int .u64 10000000000000000000]
  let h3 := put h2 7 #[.int .u8 128, .int .u8 191, .int .u8 160, .int .u8 191, .int .u8 128, .int .u8 159, .int .u8 144, .int .u8 191, .int .u8 128, .int .u8 143, .int .u8 0, .int .u8 0, .int .u8 0, .int .u8 0, .int .u8 0, .int .u8 0, .int .u8 0, .int .u8 0, .int .u8 0, .int .u8 0, .int .u8 0, .int .u8 0, .int .u8 0, .int .u8 0, .int .u8 0, .int .u8 0, .int .u8 0, .int .u8 0, .int .u8 0, .int .u8 0, .int .u8 0, .int .u8 0]
  let h4 := put h3 2 #[.iface 113 (.pointer (some ⟨N + 0, 0, none⟩))]
  let h5 := put h4 1 #[.iface 113 (.pointer (some ⟨N + 1, 0, none⟩))]
  let h6 := put h5 6 (Lib.firstTab.map fun z => Value.int .u8 z).toArray
  { w0 with heap := h6 }
noncomputable abbrev N0 : Nat := (World.settled Tryz.prog default).heap.size
set_option maxRecDepth 1000000 in
theorem laid_met (os : Os) : laidMet Tryz.prog Rows.fnUnitsRow.laid ((laidWorld os).forCall (fun _ _ => 0) ⟨#[], #[.slice none 0 0, .slice none 0 0], []⟩).memory :=
  (LaidIn.of_run (l := Rows.fnUnitsRow.laid) [4, 5, 0, 7, 2, N0 + 0, 1, N0 + 1, 6] 10 (by kernel_rfl) (by kernel_rfl) (by kernel_rfl) (by kernel_rfl)).met
theorem reads (os : Os) {H : Type} (enc : TypeId × Value → H) : ∃ places, DataW.whole enc Tryz.prog ((laidWorld os).forCall (fun _ _ => 0) ⟨#[], #[.slice none 0 0, .slice none 0 0], []⟩).memory Tryz.f3.params.toList Rows.fnUnitsSpec.vars false (#[.slice none 0 0, .slice none 0 0] : Array Value).toList 8 = some ([.nil, .nil], [], places) :=
  ⟨[], by kernel_rfl⟩
set_option maxRecDepth 100000 in
theorem lifted (os : Os) (started : os.Started) (H : Type) (enc : TypeId × Value → H) (F : Stop.Interp) :
    ReturnsInHanded {} Tryz.checked os 3 .any ((OpenSpec.ofChange Rows.fnUnitsSpec).preRow enc Tryz.prog Tryz.f3 Rows.fnUnitsRow.domain false Rows.fnUnitsRow.laid) (((OpenSpec.ofChange Rows.fnUnitsSpec).at F).post enc Tryz.prog Tryz.f3 false true false false) := by
  obtain ⟨places, hx⟩ := reads os enc
  refine returnsInHanded_of_row (C := Tryz.checked) (s := (OpenSpec.ofChange Rows.fnUnitsSpec)) own started (by kernel_rfl) Tryz.func3
    (witness_row_atRef (enc := enc) (C := Tryz.checked) false (laidWorld os) #[.slice none 0 0, .slice none 0 0] rfl (by kernel_rfl) (by kernel_rfl) (by kernel_rfl)
      (OpenSpec.preRow_of_cond 8 hx (by kernel_rfl) (fun k hk => by cases hk) (by kernel_rfl) (laid_met os))) ?_
  intro W base args ds gs before hval0 hW hcnd hcond _ hL0 hShape _
  have hL : laidMet Tryz.prog Rows.fnUnitsRow.laid W := hL0
  have hval : ∀ (j : Nat) t v, Tryz.f3.params[j]? = some t → args[j]? = some v → Value.okWide Tryz.prog W .any base t v := hval0
  have hW' := hW
  obtain ⟨p, q, hA0, hV, rfl, hfz, hnd⟩ := hW
  have hA : DataW.TrodAll enc Tryz.prog W 0 (fun _ => true) true Tryz.f3.params.toList args.toList ds p := hA0
  rw [Tryz.params3] at hA hval
  obtain ⟨v0, vs0, d0, ds0, p0, q0, hargs, rfl, rfl, h0, r0⟩ := trodAll_cons hA
  obtain ⟨v1, vs1, d1, ds1, p1, q1, rfl, rfl, rfl, h1, r1⟩ := trodAll_cons r0
  obtain ⟨rfl, rfl, rfl⟩ := trodAll_nil r1
  obtain rfl : args = #[v0, v1] := by cases args; simp_all
  obtain ⟨rfl, rfl⟩ := trodVars_none hV
  obtain ⟨a0, len0, cap0, rfl⟩ := okWide_slice Tryz.underlying22 (hval 0 22 v0 rfl rfl)
  have k0 := h0
  have lt0 : ∀ x ∈ p0, x.block < W.heap.size := by obtain ⟨m, hm⟩ := k0; exact DataW.trod_lt m _ _ _ hm
  obtain ⟨z0, w0⟩ : ∃ zs, IsRow .u8 W a0 len0 cap0 zs := by
    obtain ⟨fuel, hf⟩ := h0
    rcases open_ints Tryz.underlying22 Tryz.underlying5 (by kernel_rfl) hf with ⟨hcs, _⟩ | ⟨x, l, c, zs, hcs, _, hl, hm, hz, _, hcell, hwz⟩
    · simp [Value.cells] at hcs
      obtain ⟨rfl, rfl, rfl⟩ := hcs
      exact ⟨[], .inl ⟨rfl, rfl, rfl, rfl⟩⟩
    · simp [Value.cells] at hcs
      obtain ⟨rfl, rfl, rfl⟩ := hcs
      exact ⟨zs, .inr ⟨_, rfl, hl, hm, by simpa using hz, hcell, hwz⟩⟩
  obtain ⟨a1, len1, cap1, rfl⟩ := okWide_slice Tryz.underlying22 (hval 1 22 v1 rfl rfl)
  have k1 := h1
  have lt1 : ∀ x ∈ p1, x.block < W.heap.size := by obtain ⟨m, hm⟩ := k1; exact DataW.trod_lt m _ _ _ hm
  obtain ⟨z1, w1⟩ : ∃ zs, IsRow .u8 W a1 len1 cap1 zs := by
    obtain ⟨fuel, hf⟩ := h1
    rcases open_ints Tryz.underlying22 Tryz.underlying5 (by kernel_rfl) hf with ⟨hcs, _⟩ | ⟨x, l, c, zs, hcs, _, hl, hm, hz, _, hcell, hwz⟩
    · simp [Value.cells] at hcs
      obtain ⟨rfl, rfl, rfl⟩ := hcs
      exact ⟨[], .inl ⟨rfl, rfl, rfl, rfl⟩⟩
    · simp [Value.cells] at hcs
      obtain ⟨rfl, rfl, rfl⟩ := hcs
      exact ⟨zs, .inr ⟨_, rfl, hl, hm, by simpa using hz, hcell, hwz⟩⟩
  clear hA0 hval0
  refine (walk a0 len0 cap0 z0 a1 len1 cap1 z1 W w0 w1 (tabP_head hL.tail.tail) (errs_of_laid hL.tail.tail.tail.tail) (hShape)).mono fun e W' ⟨he, bel⟩ => ?_
  subst he
  exact ⟨_, rfl, _, _, _, [], _, [], hW', trodAll_mk1 (shut_bool Tryz.underlying4 _), (trodAll_cons_mk (Below.trod laidOut (by kernel_rfl) (of_decide_eq_true (by kernel_rfl)) k0 bel lt0) (trodAll_cons_mk (Below.trod laidOut (by kernel_rfl) (of_decide_eq_true (by kernel_rfl)) k1 bel lt1) trodAll_mk0)), rfl, bel.frame _, fun h => by cases h⟩

theorem said : Rows.FnUnitsSaid :=
  OpenClaim.holds_of_cond 3 Tryz.f3 rfl rfl rfl rfl rfl rfl rfl ⟨rfl, rfl, rfl, rfl, rfl⟩ rfl rfl rfl rfl rfl (by kernel_rfl) Tryz.func3 (by kernel_rfl)
    (of_decide_eq_true (by kernel_rfl)) (by unfold Func.isWrapper; first | (rw [if_pos (by decide +kernel)]; kernel_rfl) | (rw [if_neg (by decide +kernel)]; exact ⟨rfl, rfl⟩))
    (fun os started H enc _ F => by rw [OpenClaim.pre_eq_preRow]; exact lifted os started H enc F)

theorem plain (f : FuncId) (fn : Func) (hf : Tryz.pinned.checked.prog.funcNamed "loop.example/g01061/laws.FnUnits" = some f) (hfn : Tryz.pinned.checked.prog.funcs[f]? = some fn) :
    true = Tryz.pinned.checked.prog.looks [] ∧ ∀ (j : Nat) t, fn.params[j]? = some t → Tryz.pinned.checked.prog.wantsStandIn t = false := by
  obtain rfl : f = 3 := Option.some.inj ((show Tryz.prog.funcNamed "loop.example/g01061/laws.FnUnits" = some 3 by kernel_rfl).symm.trans hf) |>.symm
  obtain rfl : fn = Tryz.f3 := (Option.some.inj (Tryz.func3.symm.trans hfn)).symm
  refine ⟨by kernel_rfl, fun j t ht => ?_⟩
  rw [Tryz.params3] at ht
  have hm := Array.mem_of_getElem? ht
  simp only [List.mem_toArray, List.mem_cons, List.mem_nil_iff, or_false] at hm
  rcases hm with rfl | rfl
  · exact (show Tryz.prog.wantsStandIn 22 = false by kernel_rfl)
  · exact (show Tryz.prog.wantsStandIn 22 = false by kernel_rfl)

/-- the statement -/
theorem proved : Rows.FnUnitsCardSaid :=
  Claim7.holds_tied_plain_at .later [] _ _ _ _ said (fun _ h => by cases h) (by kernel_rfl) (fun _ h => by cases h) fnUnits_row_tie rfl ⟨rfl, rfl⟩ (by kernel_rfl) rfl plain (by kernel_rfl)
#print axioms proved
end Go.Proofs.YtmknafkngggfjaaGreatDoor.fnUnits
