/-
  The law FnDates holds for every input: the function answers as its model; the listed package-level variables are tied to the program's text.
-/
import Derived.Test.YtolcmmjbdgmnaaaDoorDates
import Derived.Test.YtolcmmjbdgmnaaaDoorCards
import Derived.Test.YtolcmmjbdgmnaaaDoorTie
import Derived.Lib.Hide
import Derived.WalkKit
import Derived.ProofKit
import Derived.OpenShut
import Derived.ShutString
import Derived.ChangeOld
import Derived.Below
import Derived.Deep.DeepHandedRow
import Derived.Deep.DeepWitnessRowRef
import Derived.Lib.LaidIn
import Derived.Lib.LaidTab
import Derived.SevenTiedAt
namespace Go.Proofs.YtolcmmjbdgmnaaaDoor.fnDates
open Go.ChangeShapes Go.WideShapes Go.ChangeAt Go.RowKit
open Go.ChangeMaps (open_string shut_string)
set_option linter.unusedVariables false
set_option linter.unusedSimpArgs false

theorem own : ownKnob Tryd.prog.godebug = none := by kernel_rfl
theorem laidOut : laidOutB Tryd.prog = true := by kernel_rfl
/-- WHAT THE WALK IS TOLD OF A SLICE OF INTEGERS THAT CAME IN: it is nil; or it leads to a row of 'cap' cells, the numbers 'zs' (the first 'len' are its elements, the rest its spare room), each fitting its kind. -/
def IsRow (k : IntKind) (w : World) (a : Option Addr) (len cap : Nat) (zs : List Int) : Prop :=
  (a = none ∧ len = 0 ∧ cap = 0 ∧ zs = []) ∨
  ∃ x, a = some x ∧ len ≤ cap ∧ cap ≤ maxLen ∧ zs.length = cap ∧ (∀ i, i < zs.length → w.cell? (x.add i) = some (.int k (zs.getD i 0))) ∧ ∀ n ∈ zs, (Lit.int k n).wf = true

theorem maxlen_of {w : World} {k : IntKind} {a : Option Addr} {len cap : Nat} {zs : List Int} (h : IsRow k w a len cap zs) : len ≤ maxLen := by
  rcases h with ⟨_, rfl, _⟩ | ⟨x, _, h1, h2, _⟩
  · exact Nat.zero_le _
  · omega
set_option maxRecDepth 1000000 in
set_option maxHeartbeats 12800000 in
theorem walk (a0 : Option Addr) (len0 cap0 : Nat) (z0 : List Int) (a1 : Option Addr) (len1 cap1 : Nat) (z1 : List Int) (w : World) (w0 : IsRow .u8 w a0 len0 cap0 z0) (w1 : IsRow .u8 w a1 len1 cap1 z1) (hT : TabP w) (hE : ErrsAt w) (hSh : w.ShapedOpen Tryd.prog) :
    Calls Tryd.prog 3 #[.slice a0 len0 cap0, .slice a1 len1 cap1] w fun e w' => e = .returned (.bool true) ∧ Below w.heap.size w w' := by
  have m0 := maxlen_of w0
  have m1 := maxlen_of w1
  obtain ⟨Z0, u0, l0⟩ := u8_in w0
  obtain ⟨Z1, u1, l1⟩ := u8_in w1
  clear w0 w1
  by_cases hL0 : len0 ≤ 1048576
  rotate_left
  · have c := b10Long_yes a0 len0 cap0 hL0 m0
    clear u0 u1
    go_enter Tryd.func3, Tryd.ntmps3
    go_wp2_with fail
    refine (c _).mono ?_
    rintro e _ ⟨rfl, rfl⟩
    go_wp2
    go_ret
    exact ⟨rfl, Below.refl _ _⟩
  have cL0 := Lib.hid (b10Long_no a0 len0 cap0 hL0)
  by_cases hL1 : len1 ≤ 1048576
  rotate_left
  · have c := b10Long_yes a1 len1 cap1 hL1 m1
    clear u0 u1
    go_enter Tryd.func3, Tryd.ntmps3
    go_wp2_with fail
    refine (cL0.out _).mono ?_
    rintro e _ ⟨rfl, rfl⟩
    go_wp2_with fail
    refine (c _).mono ?_
    rintro e _ ⟨rfl, rfl⟩
    go_wp2
    go_ret
    exact ⟨rfl, Below.refl _ _⟩
  have cL1 := Lib.hid (b10Long_no a1 len1 cap1 hL1)
  have cD := Lib.hid (DrawDateOf_any (.slice a0 len0 cap0) Z0 w (by omega) u0)
  have cW := Lib.hid (fun W (h : Below w.heap.size w W) => DrawWorkDays_any (.slice a1 len1 cap1) Z1 W (by omega) (u1.at h.size h))
  have cA := Lib.hid (fun n W (h : Below w.heap.size w W) (h0 : 1 ≤ n) (h1 : n ≤ 1000000) => b10At_any w.heap.size (.slice a0 len0 cap0) Z0 n W h0 h1 (by omega) (u0.below h))
  have hT' := Lib.hid hT
  have hE' := Lib.hid hE
  have hS' := Lib.hid hSh
  clear u0 u1 hT hE hSh
  go_enter Tryd.func3, Tryd.ntmps3
  go_wp2_with fail
  refine (cL0.out _).mono ?_
  rintro e _ ⟨rfl, rfl⟩
  go_wp2_with fail
  refine (cL1.out _).mono ?_
  rintro e _ ⟨rfl, rfl⟩
  go_wp2_with fail
  refine cD.out.mono ?_
  rintro e w1 ⟨day, rfl, dl, dh, b1⟩
  have B1 := Lib.hid b1
  clear b1 cD
  go_wp2_with fail
  by_cases hd : 0 ≤ day ∧ day ≤ 36524
  rotate_left
  · have cO := date_none day hd
    refine (cO.out _).mono ?_
    rintro e w2 ⟨rfl, b2⟩
    have B2 := Lib.hid (below2 B1.out b2)
    clear b2 B1 cO
    go_wp2_with fail
    refine (cW.out _ B2.out).mono ?_
    rintro e x1 ⟨f, u, rfl, f1, f2, f3, f4, b7⟩
    have B7 := Lib.hid (below2 B2.out b7)
    clear b7 B2
    by_cases hv : (0 ≤ f ∧ f ≤ 36524) ∧ (f ≤ u ∧ u ≤ 36525)
    rotate_left
    · have cK := work_no f u hv
      clear hv
      go_wp2_with fail
      refine (cK.out _).mono ?_
      rintro e _ ⟨rfl, rfl⟩
      go_wp2
      go_ret
      exact ⟨rfl, B7.out⟩
    have cK := work_yes f u hv.1 hv.2
    obtain ⟨t1, t2, t3⟩ := work_facts (f := f) (u := u) hv.2.1
    obtain ⟨⟨v1, v2⟩, v3, v4⟩ := hv
    obtain ⟨T, hTT⟩ : ∃ T, T = workF f (u - f).toNat := ⟨_, rfl⟩
    rw [← hTT] at cK t1 t2 t3
    have hTT' := Lib.hid hTT
    have ht := Lib.hid (And.intro t1 (And.intro t2 t3))
    clear hTT t1 t2 t3
    go_wp2_with fail
    refine (cK.out _).mono ?_
    rintro e _ ⟨rfl, rfl⟩
    clear cK
    go_wp2_with fail
    refine (cA.out _ _ B7.out (by omega) (by omega)).mono ?_
    rintro e _ ⟨r, rfl, r0, r1, mm, rfl⟩
    have cM := work_yes f (f + r) ⟨v1, v2⟩ ⟨by omega, by omega⟩
    have hp := work_parts (f := f) (u := u) (m := f + r) (by omega) (by omega)
    obtain ⟨A, hA⟩ : ∃ A, A = workF f (f + r - f).toNat := ⟨_, rfl⟩
    obtain ⟨G, hG⟩ : ∃ G, G = workF (f + r) (u - (f + r)).toNat := ⟨_, rfl⟩
    have g1 := work_facts (f := f) (u := f + r) (by omega)
    have g2 := work_facts (f := f + r) (u := u) (by omega)
    have cN : Hid (f + r ≤ 36524 → ∀ W, Calls Tryd.prog 13 #[.int .i64 (f + r), .int .i64 u] W fun e w' => e = .returned (.tuple #[.int .i64 G, .int .i64 0]) ∧ W = w') := Lib.hid (fun h W => by rw [hG]; exact (work_yes (f + r) u ⟨by omega, h⟩ ⟨by omega, v4⟩).out W)
    rw [← hA] at cM hp g1
    rw [← hG, ← hTT'.out] at hp
    rw [← hG] at g2
    have hGz : Hid (36525 ≤ f + r → G = 0) := Lib.hid (fun h => by rw [hG, show (u - (f + r)).toNat = 0 by omega]; rfl)
    have hA0 : 0 ≤ A ∧ A ≤ 40000 := by omega
    have hG0 : 0 ≤ G ∧ G ≤ 40000 := by omega
    clear hA hG hTT' g1 g2
    have hp' := Lib.hid hp
    have t4 := ht.out
    have q1 : (A + G == T) = true := by rw [beq_iff_eq]; exact hp
    have q2 : decide (0 ≤ T) = true := decide_eq_true t4.1
    have q3 : decide (T ≤ u - f) = true := decide_eq_true t4.2.1
    have q4 : decide (5 * (u - f) - 12 ≤ 7 * T) = true := decide_eq_true t4.2.2
    have hT0 : 0 ≤ T ∧ T ≤ 40000 := by omega
    obtain ⟨T0, T1⟩ := hT0
    obtain ⟨A0, A1⟩ := hA0
    obtain ⟨G0, G1⟩ := hG0
    have hAT : Hid (36525 ≤ f + r → (A == T) = true) := Lib.hid (fun h => by have := hGz.out h; rw [beq_iff_eq]; omega)
    have r2 : r ≤ 40000 := by omega
    have q1' := Lib.hid q1
    have q3' := Lib.hid q3
    have q4' := Lib.hid q4
    clear t4 hp hp' ht hGz q1 q3 q4 r1
    go_wp2_with fail
    refine (cM.out _).mono ?_
    rintro e _ ⟨rfl, rfl⟩
    by_cases hk : f + r ≤ 36524
    · have cN2 := Lib.hid (cN.out hk)
      have k1 : decide (f + r ≤ 36524) = true := decide_eq_true hk
      clear hk
      go_wp2_with fail
      refine (cN2.out _).mono ?_
      rintro e _ ⟨rfl, rfl⟩
      have q1 := q1'.out
      have q3 := q3'.out
      have q4 := q4'.out
      clear q1' q3' q4' hAT cN cN2 cM
      go_wp2
      go_ret
      exact ⟨rfl, belowN B7.out _⟩
    · have q1 := hAT.out (by omega)
      have k1 : decide (f + r ≤ 36524) = false := decide_eq_false hk
      clear hk
      have q3 := q3'.out
      have q4 := q4'.out
      clear q1' q3' q4' hAT cN cM
      go_wp2
      go_ret
      exact ⟨rfl, belowN B7.out _⟩
  by_cases hl : day = 36524
  · obtain ⟨y, m, d, cO, cN⟩ := date_of day hd.1 hd.2
    obtain ⟨D, cT, cR⟩ := date_text day hd.1 hd.2
    have c1 := week_yes day hd.1 hd.2
    have c2 := week_no (day + 1) (by omega)
    clear hl
    refine (cO.out _).mono ?_
    rintro e w2 ⟨rfl, b2⟩
    have hd0 := hd.1
    have hd1 := hd.2
    clear hd
    have B2 := Lib.hid (below2 B1.out b2)
    clear b2 B1 cO
    go_wp2_with fail
    refine (cN.out _).mono ?_
    rintro e w3 ⟨rfl, b3⟩
    have B3 := Lib.hid (below2 B2.out b3)
    clear b3 B2 cN
    go_wp2_with fail
    refine (cT.out _ (hT'.out.below B3.out)).mono ?_
    rintro e w4 ⟨rfl, b4⟩
    have B4 := Lib.hid (below2 B3.out b4)
    clear b4 B3 cT
    go_wp2_with fail
    refine (cR.out _ (hT'.out.below B4.out) (hE'.out.below B4.out) (shape_below hS'.out B4.out)).mono ?_
    rintro e w5 ⟨rfl, b5⟩
    have B5 := Lib.hid (below2 B4.out b5)
    clear b5 B4 cR
    go_wp2_with fail
    refine (c1.out _).mono ?_
    rintro e _ ⟨rfl, rfl⟩
    go_wp2_with fail
    refine (c2.out _).mono ?_
    rintro e _ ⟨rfl, rfl⟩
    clear c1 c2
    go_wp2_with fail
    refine (cW.out _ B5.out).mono ?_
    rintro e x1 ⟨f, u, rfl, f1, f2, f3, f4, b7⟩
    have B7 := Lib.hid (below2 B5.out b7)
    clear b7 B5
    by_cases hv : (0 ≤ f ∧ f ≤ 36524) ∧ (f ≤ u ∧ u ≤ 36525)
    rotate_left
    · have cK := work_no f u hv
      clear hv
      go_wp2_with fail
      refine (cK.out _).mono ?_
      rintro e _ ⟨rfl, rfl⟩
      go_wp2
      go_ret
      exact ⟨rfl, B7.out⟩
    have cK := work_yes f u hv.1 hv.2
    obtain ⟨t1, t2, t3⟩ := work_facts (f := f) (u := u) hv.2.1
    obtain ⟨⟨v1, v2⟩, v3, v4⟩ := hv
    obtain ⟨T, hTT⟩ : ∃ T, T = workF f (u - f).toNat := ⟨_, rfl⟩
    rw [← hTT] at cK t1 t2 t3
    have hTT' := Lib.hid hTT
    have ht := Lib.hid (And.intro t1 (And.intro t2 t3))
    clear hTT t1 t2 t3
    go_wp2_with fail
    refine (cK.out _).mono ?_
    rintro e _ ⟨rfl, rfl⟩
    clear cK
    go_wp2_with fail
    refine (cA.out _ _ B7.out (by omega) (by omega)).mono ?_
    rintro e _ ⟨r, rfl, r0, r1, mm, rfl⟩
    have cM := work_yes f (f + r) ⟨v1, v2⟩ ⟨by omega, by omega⟩
    have hp := work_parts (f := f) (u := u) (m := f + r) (by omega) (by omega)
    obtain ⟨A, hA⟩ : ∃ A, A = workF f (f + r - f).toNat := ⟨_, rfl⟩
    obtain ⟨G, hG⟩ : ∃ G, G = workF (f + r) (u - (f + r)).toNat := ⟨_, rfl⟩
    have g1 := work_facts (f := f) (u := f + r) (by omega)
    have g2 := work_facts (f := f + r) (u := u) (by omega)
    have cN : Hid (f + r ≤ 36524 → ∀ W, Calls Tryd.prog 13 #[.int .i64 (f + r), .int .i64 u] W fun e w' => e = .returned (.tuple #[.int .i64 G, .int .i64 0]) ∧ W = w') := Lib.hid (fun h W => by rw [hG]; exact (work_yes (f + r) u ⟨by omega, h⟩ ⟨by omega, v4⟩).out W)
    rw [← hA] at cM hp g1
    rw [← hG, ← hTT'.out] at hp
    rw [← hG] at g2
    have hGz : Hid (36525 ≤ f + r → G = 0) := Lib.hid (fun h => by rw [hG, show (u - (f + r)).toNat = 0 by omega]; rfl)
    have hA0 : 0 ≤ A ∧ A ≤ 40000 := by omega
    have hG0 : 0 ≤ G ∧ G ≤ 40000 := by omega
    clear hA hG hTT' g1 g2
    have hp' := Lib.hid hp
    have t4 := ht.out
    have q1 : (A + G == T) = true := by rw [beq_iff_eq]; exact hp
    have q2 : decide (0 ≤ T) = true := decide_eq_true t4.1
    have q3 : decide (T ≤ u - f) = true := decide_eq_true t4.2.1
    have q4 : decide (5 * (u - f) - 12 ≤ 7 * T) = true := decide_eq_true t4.2.2
    have hT0 : 0 ≤ T ∧ T ≤ 40000 := by omega
    obtain ⟨T0, T1⟩ := hT0
    obtain ⟨A0, A1⟩ := hA0
    obtain ⟨G0, G1⟩ := hG0
    have hAT : Hid (36525 ≤ f + r → (A == T) = true) := Lib.hid (fun h => by have := hGz.out h; rw [beq_iff_eq]; omega)
    have r2 : r ≤ 40000 := by omega
    have q1' := Lib.hid q1
    have q3' := Lib.hid q3
    have q4' := Lib.hid q4
    clear t4 hp hp' ht hGz q1 q3 q4 r1
    go_wp2_with fail
    refine (cM.out _).mono ?_
    rintro e _ ⟨rfl, rfl⟩
    by_cases hk : f + r ≤ 36524
    · have cN2 := Lib.hid (cN.out hk)
      have k1 : decide (f + r ≤ 36524) = true := decide_eq_true hk
      clear hk
      go_wp2_with fail
      refine (cN2.out _).mono ?_
      rintro e _ ⟨rfl, rfl⟩
      have q1 := q1'.out
      have q3 := q3'.out
      have q4 := q4'.out
      clear q1' q3' q4' hAT cN cN2 cM
      go_wp2
      go_ret
      exact ⟨rfl, belowN B7.out _⟩
    · have q1 := hAT.out (by omega)
      have k1 : decide (f + r ≤ 36524) = false := decide_eq_false hk
      clear hk
      have q3 := q3'.out
      have q4 := q4'.out
      clear q1' q3' q4' hAT cN cM
      go_wp2
      go_ret
      exact ⟨rfl, belowN B7.out _⟩
  · obtain ⟨y, m, d, cO, cN⟩ := date_of day hd.1 hd.2
    obtain ⟨D, cT, cR⟩ := date_text day hd.1 hd.2
    have c1 := week_yes day hd.1 hd.2
    have c2 := week_yes (day + 1) (by omega) (by omega)
    have hwk : (5 + (day + 1)) % 7 = ((5 + day) % 7 + 1) % 7 := by omega
    rw [hwk] at c2
    obtain ⟨wd, hwd⟩ : ∃ wd, wd = (5 + day) % 7 := ⟨_, rfl⟩
    have wd0 : 0 ≤ wd ∧ wd ≤ 6 := by omega
    rw [← hwd] at c1 c2
    clear hwd hwk
    refine (cO.out _).mono ?_
    rintro e w2 ⟨rfl, b2⟩
    have hd0 := hd.1
    have hd1 := hd.2
    clear hd
    have B2 := Lib.hid (below2 B1.out b2)
    clear b2 B1 cO
    go_wp2_with fail
    refine (cN.out _).mono ?_
    rintro e w3 ⟨rfl, b3⟩
    have B3 := Lib.hid (below2 B2.out b3)
    clear b3 B2 cN
    go_wp2_with fail
    refine (cT.out _ (hT'.out.below B3.out)).mono ?_
    rintro e w4 ⟨rfl, b4⟩
    have B4 := Lib.hid (below2 B3.out b4)
    clear b4 B3 cT
    go_wp2_with fail
    refine (cR.out _ (hT'.out.below B4.out) (hE'.out.below B4.out) (shape_below hS'.out B4.out)).mono ?_
    rintro e w5 ⟨rfl, b5⟩
    have B5 := Lib.hid (below2 B4.out b5)
    clear b5 B4 cR
    go_wp2_with fail
    refine (c1.out _).mono ?_
    rintro e _ ⟨rfl, rfl⟩
    go_wp2_with fail
    refine (c2.out _).mono ?_
    rintro e _ ⟨rfl, rfl⟩
    clear c1 c2
    go_wp2_with fail
    refine (cW.out _ B5.out).mono ?_
    rintro e x1 ⟨f, u, rfl, f1, f2, f3, f4, b7⟩
    have B7 := Lib.hid (below2 B5.out b7)
    clear b7 B5
    by_cases hv : (0 ≤ f ∧ f ≤ 36524) ∧ (f ≤ u ∧ u ≤ 36525)
    rotate_left
    · have cK := work_no f u hv
      clear hv
      go_wp2_with fail
      refine (cK.out _).mono ?_
      rintro e _ ⟨rfl, rfl⟩
      go_wp2
      go_ret
      exact ⟨rfl, B7.out⟩
    have cK := work_yes f u hv.1 hv.2
    obtain ⟨t1, t2, t3⟩ := work_facts (f := f) (u := u) hv.2.1
    obtain ⟨⟨v1, v2⟩, v3, v4⟩ := hv
    obtain ⟨T, hTT⟩ : ∃ T, T = workF f (u - f).toNat := ⟨_, rfl⟩
    rw [← hTT] at cK t1 t2 t3
    have hTT' := Lib.hid hTT
    have ht := Lib.hid (And.intro t1 (And.intro t2 t3))
    clear hTT t1 t2 t3
    go_wp2_with fail
    refine (cK.out _).mono ?_
    rintro e _ ⟨rfl, rfl⟩
    clear cK
    go_wp2_with fail
    refine (cA.out _ _ B7.out (by omega) (by omega)).mono ?_
    rintro e _ ⟨r, rfl, r0, r1, mm, rfl⟩
    have cM := work_yes f (f + r) ⟨v1, v2⟩ ⟨by omega, by omega⟩
    have hp := work_parts (f := f) (u := u) (m := f + r) (by omega) (by omega)
    obtain ⟨A, hA⟩ : ∃ A, A = workF f (f + r - f).toNat := ⟨_, rfl⟩
    obtain ⟨G, hG⟩ : ∃ G, G = workF (f + r) (u - (f + r)).toNat := ⟨_, rfl⟩
    have g1 := work_facts (f := f) (u := f + r) (by omega)
    have g2 := work_facts (f := f + r) (u := u) (by omega)
    have cN : Hid (f + r ≤ 36524 → ∀ W, Calls Tryd.prog 13 #[.int .i64 (f + r), .int .i64 u] W fun e w' => e = .returned (.tuple #[.int .i64 G, .int .i64 0]) ∧ W = w') := Lib.hid (fun h W => by rw [hG]; exact (work_yes (f + r) u ⟨by omega, h⟩ ⟨by omega, v4⟩).out W)
    rw [← hA] at cM hp g1
    rw [← hG, ← hTT'.out] at hp
    rw [← hG] at g2
    have hGz : Hid (36525 ≤ f + r → G = 0) := Lib.hid (fun h => by rw [hG, show (u - (f + r)).toNat = 0 by omega]; rfl)
    have hA0 : 0 ≤ A ∧ A ≤ 40000 := by omega
    have hG0 : 0 ≤ G ∧ G ≤ 40000 := by omega
    clear hA hG hTT' g1 g2
    have hp' := Lib.hid hp
    have t4 := ht.out
    have q1 : (A + G == T) = true := by rw [beq_iff_eq]; exact hp
    have q2 : decide (0 ≤ T) = true := decide_eq_true t4.1
    have q3 : decide (T ≤ u - f) = true := decide_eq_true t4.2.1
    have q4 : decide (5 * (u - f) - 12 ≤ 7 * T) = true := decide_eq_true t4.2.2
    have hT0 : 0 ≤ T ∧ T ≤ 40000 := by omega
    obtain ⟨T0, T1⟩ := hT0
    obtain ⟨A0, A1⟩ := hA0
    obtain ⟨G0, G1⟩ := hG0
    have hAT : Hid (36525 ≤ f + r → (A == T) = true) := Lib.hid (fun h => by have := hGz.out h; rw [beq_iff_eq]; omega)
    have r2 : r ≤ 40000 := by omega
    have q1' := Lib.hid q1
    have q3' := Lib.hid q3
    have q4' := Lib.hid q4
    clear t4 hp hp' ht hGz q1 q3 q4 r1
    go_wp2_with fail
    refine (cM.out _).mono ?_
    rintro e _ ⟨rfl, rfl⟩
    by_cases hk : f + r ≤ 36524
    · have cN2 := Lib.hid (cN.out hk)
      have k1 : decide (f + r ≤ 36524) = true := decide_eq_true hk
      clear hk
      go_wp2_with fail
      refine (cN2.out _).mono ?_
      rintro e _ ⟨rfl, rfl⟩
      have q1 := q1'.out
      have q3 := q3'.out
      have q4 := q4'.out
      clear q1' q3' q4' hAT cN cN2 cM
      go_wp2
      go_ret
      exact ⟨rfl, belowN B7.out _⟩
    · have q1 := hAT.out (by omega)
      have k1 : decide (f + r ≤ 36524) = false := decide_eq_false hk
      clear hk
      have q3 := q3'.out
      have q4 := q4'.out
      clear q1' q3' q4' hAT cN cM
      go_wp2
      go_ret
      exact ⟨rfl, belowN B7.out _⟩

/-- A world for the witness: the settled one, the listed variables holding what their initialisers lay. -/
noncomputable def laidWorld (os : Os) : World :=
  let N := (World.settled Tryd.prog os).heap.size
  let w0 := World.holding Tryd.prog os ⟨#[.cells #[.string ⟨([118, 97, 108, 117, 101, 32, 111, 117, 116, 32, 111, 102, 32, 114, 97, 110, 103, 101] : List UInt8).toArray⟩] 144, .cells #[.string ⟨([105, 110, 118, 97, 108, 105, 100, 32, 115, 121, 110, 116, 97, 120] : List UInt8).toArray⟩] 144], #[], []⟩
  let put (h : Array Obj) (g : Nat) (cs : Array Value) : Array Obj := h.modify g fun
    | .cells _ t frozen => .cells cs t frozen
    | o => o
  let h0 := put w0.heap 7 #[.int .u8 0, .int .u8 1, .int .u8 28, .int .u8 2, .int .u8 29, .int .u8 14, .int .u8 24, .int .u8 3, .int .u8 30, .int .u8 22, .int .u8 20, .int .u8 15, .int .u8 25, .int .u8 17, .int .u8 4, .int .u8 8, .int .u8 31, .int .u8 27, .int .u8 13, .int .u8 23, .int .u8 21, .int .u8 19, .int .u8 16, .int .u8 7, .int .u8 26, .int .u8 12, .int .u8 18, .int .u8 6, .int .u8 11, .int .u8 5, .int .u8 10, .int .u8 9]
  let h1 := put h0 8 #[.int .u8 0, .int .u8 1, .int .u8 56, .int .u8 2, .int .u8 57, .int .u8 49, .int .u8 28, .int .u8 3, .int .u8 61, .int .u8 58, .int .u8 42, .int .u8 50, .int .u8 38, .int .u8 29, .int .u8 17, .int .u8 4, .int .u8 62, .int .u8 47, .int .u8 59, .int .u8 36, .int .u8 45, .int .u8 43, .int .u8 51, .int .u8 22, .int .u8 53, .int .u8 39, .int .u8 33, .int .u8 30, .int .u8 24, .int .u8 18, .int .u8 12, .int .u8 5, .int .u8 63, .int .u8 55, .int .u8 48, .int .u8 27, .int .u8 60, .int .u8 41, .int .u8 37, .int .u8 16, .int .u8 46, .int .u8 35, .int .u8 44, .int .u8 21, .int .u8 52, .int .u8 32, .int .u8 23, .int .u8 11, .int .u8 54, .int .u8 26, .int .u8 40, .int .u8 15, .int .u8 34, .int .u8 20, .int .u8 31, .int .u8 10, .int .u8 25, .int .u8 14, .int .u8 19, .int .u8 9, .int .u8 13, .int .u8 8, .int .u8 7, .int .u8 6]
  let h2 := put h1 4 #[.int .u64 1, .int .u64 10, .int .u64 100, .int .u64 1000, .int .u64 10000, .int .u64 100000, .int .u64 1000000, .int .u64 10000000, .int .u64 100000000, .int .u64 1000000000, .int .u64 10000000000, .int .u64 100000000000, .int .u64 1000000000000, .int .u64 10000000000000, .int .u64 100000000000000, .int .u64 1000000000000000, .int .u64 10000000000000000, .int .u64 100000000000000000, .int .u64 1000000000000000000, .int .u64 10000000000000000000]
  let h3 := put h2 6 #[.int .u8 128, .int .u8 191, .int .u8 160, .int .u8 191, .int .u8 128, .int .u8 159, .int .u8 144, .int .u8 191, .int .u8 128, .int .u8 143, .int .u8 0, .int .u8 0, .int .u8 0, .int .u8 0, .int .u8 0, .int .u8 0, .int .u8 0, .int .u8 0, .int .u8 0, .int .u8 0, .int .u8 0, .int .u8 0, .int .u8 0, .int .u8 0, .int .u8 0, .int .u8 0, .int .u8 0, .int .u8 0, .int .u8 0, .int .u8 0, .int .u8 0, .int .u8 0]
  let h4 := put h3 2 #[.iface 142 (.pointer (some ⟨N + 0, 0, none⟩))]
  let h5 := put h4 1 #[.iface 142 (.pointer (some ⟨N + 1, 0, none⟩))]
  let h6 := put h5 5 (Lib.firstTab.map fun z => Value.int .u8 z).toArray
  { w0 with heap := h6 }
noncomputable abbrev N0 : Nat := (World.settled Tryd.prog default).heap.size
set_option maxRecDepth 1000000 in
theorem laid_met (os : Os) : laidMet Tryd.prog Rows.fnDatesRow.laid ((laidWorld os).forCall (fun _ _ => 0) ⟨#[], #[.slice none 0 0, .slice none 0 0], []⟩).memory :=
  (LaidIn.of_run (l := Rows.fnDatesRow.laid) [7, 8, 4, 6, 2, N0 + 0, 1, N0 + 1, 5] 10 (by kernel_rfl) (by kernel_rfl) (by kernel_rfl) (by kernel_rfl)).met
theorem reads (os : Os) {H : Type} (enc : TypeId × Value → H) : ∃ places, DataW.whole enc Tryd.prog ((laidWorld os).forCall (fun _ _ => 0) ⟨#[], #[.slice none 0 0, .slice none 0 0], []⟩).memory Tryd.f3.params.toList Rows.fnDatesSpec.vars false (#[.slice none 0 0, .slice none 0 0] : Array Value).toList 8 = some ([.nil, .nil], [], places) :=
  ⟨[], by kernel_rfl⟩
set_option maxRecDepth 100000 in
theorem lifted (os : Os) (started : os.Started) (H : Type) (enc : TypeId × Value → H) (F : Stop.Interp) :
    ReturnsInHanded {} Tryd.checked os 3 .any ((OpenSpec.ofChange Rows.fnDatesSpec).preRow enc Tryd.prog Tryd.f3 Rows.fnDatesRow.domain false Rows.fnDatesRow.laid) (((OpenSpec.ofChange Rows.fnDatesSpec).at F).post enc Tryd.prog Tryd.f3 false true false false) := by
  obtain ⟨places, hx⟩ := reads os enc
  refine returnsInHanded_of_row (C := Tryd.checked) (s := (OpenSpec.ofChange Rows.fnDatesSpec)) own started (by kernel_rfl) Tryd.func3
    (witness_row_atRef (enc := enc) (C := Tryd.checked) false (laidWorld os) #[.slice none 0 0, .slice none 0 0] rfl (by kernel_rfl) (by kernel_rfl) (by kernel_rfl)
      (OpenSpec.preRow_of_cond 8 hx (by kernel_rfl) (fun k hk => by cases hk) (by kernel_rfl) (laid_met os))) ?_
  intro W base args ds gs before hval0 hW hcnd hcond _ hL0 hShape _
  have hL : laidMet Tryd.prog Rows.fnDatesRow.laid W := hL0
  have hval : ∀ (j : Nat) t v, Tryd.f3.params[j]? = some t → args[j]? = some v → Value.okWide Tryd.prog W .any base t v := hval0
  have hW' := hW
  obtain ⟨p, q, hA0, hV, rfl, hfz, hnd⟩ := hW
  have hA : DataW.TrodAll enc Tryd.prog W 0 (fun _ => true) true Tryd.f3.params.toList args.toList ds p := hA0
  rw [Tryd.params3] at hA hval
  obtain ⟨v0, vs0, d0, ds0, p0, q0, hargs, rfl, rfl, h0, r0⟩ := trodAll_cons hA
  obtain ⟨v1, vs1, d1, ds1, p1, q1, rfl, rfl, rfl, h1, r1⟩ := trodAll_cons r0
  obtain ⟨rfl, rfl, rfl⟩ := trodAll_nil r1
  obtain rfl : args = #[v0, v1] := by cases args; simp_all
  obtain ⟨rfl, rfl⟩ := trodVars_none hV
  obtain ⟨a0, len0, cap0, rfl⟩ := okWide_slice Tryd.underlying22 (hval 0 22 v0 rfl rfl)
  have k0 := h0
  have lt0 : ∀ x ∈ p0, x.block < W.heap.size := by obtain ⟨m, hm⟩ := k0; exact DataW.trod_lt m _ _ _ hm
  obtain ⟨z0, w0⟩ : ∃ zs, IsRow .u8 W a0 len0 cap0 zs := by
    obtain ⟨fuel, hf⟩ := h0
    rcases open_ints Tryd.underlying22 Tryd.underlying5 (by kernel_rfl) hf with ⟨hcs, _⟩ | ⟨x, l, c, zs, hcs, _, hl, hm, hz, _, hcell, hwz⟩
    · simp [Value.cells] at hcs
      obtain ⟨rfl, rfl, rfl⟩ := hcs
      exact ⟨[], .inl ⟨rfl, rfl, rfl, rfl⟩⟩
    · simp [Value.cells] at hcs
      obtain ⟨rfl, rfl, rfl⟩ := hcs
      exact ⟨zs, .inr ⟨_, rfl, hl, hm, by simpa using hz, hcell, hwz⟩⟩
  obtain ⟨a1, len1, cap1, rfl⟩ := okWide_slice Tryd.underlying22 (hval 1 22 v1 rfl rfl)
  have k1 := h1
  have lt1 : ∀ x ∈ p1, x.block < W.heap.size := by obtain ⟨m, hm⟩ := k1; exact DataW.trod_lt m _ _ _ hm
  obtain ⟨z1, w1⟩ : ∃ zs, IsRow .u8 W a1 len1 cap1 zs := by
    obtain ⟨fuel, hf⟩ := h1
    rcases open_ints Tryd.underlying22 Tryd.underlying5 (by kernel_rfl) hf with ⟨hcs, _⟩ | ⟨x, l, c, zs, hcs, _, hl, hm, hz, _, hcell, hwz⟩
    · simp [Value.cells] at hcs
      obtain ⟨rfl, rfl, rfl⟩ := hcs
      exact ⟨[], .inl ⟨rfl, rfl, rfl, rfl⟩⟩
    · simp [Value.cells] at hcs
      obtain ⟨rfl, rfl, rfl⟩ := hcs
      exact ⟨zs, .inr ⟨_, rfl, hl, hm, by simpa using hz, hcell, hwz⟩⟩
  clear hA0 hval0
  refine (walk a0 len0 cap0 z0 a1 len1 cap1 z1 W w0 w1 (tabP_head hL.tail.tail) (errs_of_laid hL.tail.tail.tail.tail) (hShape)).mono fun e W' ⟨he, bel⟩ => ?_
  subst he
  exact ⟨_, rfl, _, _, _, [], _, [], hW', trodAll_mk1 (shut_bool Tryd.underlying4 _), (trodAll_cons_mk (Below.trod laidOut (by kernel_rfl) (of_decide_eq_true (by kernel_rfl)) k0 bel lt0) (trodAll_cons_mk (Below.trod laidOut (by kernel_rfl) (of_decide_eq_true (by kernel_rfl)) k1 bel lt1) trodAll_mk0)), rfl, bel.frame _, fun h => by cases h⟩

theorem said : Rows.FnDatesSaid :=
  OpenClaim.holds_of_cond 3 Tryd.f3 rfl rfl rfl rfl rfl rfl rfl ⟨rfl, rfl, rfl, rfl, rfl⟩ rfl rfl rfl rfl rfl (by kernel_rfl) Tryd.func3 (by kernel_rfl)
    (of_decide_eq_true (by kernel_rfl)) (by unfold Func.isWrapper; first | (rw [if_pos (by decide +kernel)]; kernel_rfl) | (rw [if_neg (by decide +kernel)]; exact ⟨rfl, rfl⟩))
    (fun os started H enc _ F => by rw [OpenClaim.pre_eq_preRow]; exact lifted os started H enc F)

theorem plain (f : FuncId) (fn : Func) (hf : Tryd.pinned.checked.prog.funcNamed "loop.example/g01061/laws.FnDates" = some f) (hfn : Tryd.pinned.checked.prog.funcs[f]? = some fn) :
    true = Tryd.pinned.checked.prog.looks [] ∧ ∀ (j : Nat) t, fn.params[j]? = some t → Tryd.pinned.checked.prog.wantsStandIn t = false := by
  obtain rfl : f = 3 := Option.some.inj ((show Tryd.prog.funcNamed "loop.example/g01061/laws.FnDates" = some 3 by kernel_rfl).symm.trans hf) |>.symm
  obtain rfl : fn = Tryd.f3 := (Option.some.inj (Tryd.func3.symm.trans hfn)).symm
  refine ⟨by kernel_rfl, fun j t ht => ?_⟩
  rw [Tryd.params3] at ht
  have hm := Array.mem_of_getElem? ht
  simp only [List.mem_toArray, List.mem_cons, List.mem_nil_iff, or_false] at hm
  rcases hm with rfl | rfl
  · exact (show Tryd.prog.wantsStandIn 22 = false by kernel_rfl)
  · exact (show Tryd.prog.wantsStandIn 22 = false by kernel_rfl)

/-- the statement -/
theorem proved : Rows.FnDatesCardSaid :=
  Claim7.holds_tied_plain_at .later [] _ _ _ _ said (fun _ h => by cases h) (by kernel_rfl) (fun _ h => by cases h) fnDates_row_tie rfl ⟨rfl, rfl⟩ (by kernel_rfl) rfl plain (by kernel_rfl)
#print axioms proved
end Go.Proofs.YtolcmmjbdgmnaaaDoor.fnDates
