/-
  Contracts of the program's readers of numbers with places and lengths.
-/
import Derived.Test.YtmknafkngggfjaaGreatDoorReadsI
namespace Go.Proofs.YtmknafkngggfjaaGreatDoor
open Go.ChangeShapes Go.WideShapes Go.ChangeAt Go.RowKit
set_option linter.unusedVariables false
set_option linter.unusedSimpArgs false
/-- the number with places of a text, if there are as many as may be -/
def fixQ (l : List UInt8) (q : Int) : Option Int := if 1 ≤ q ∧ q ≤ 6 then fixS l q.toNat else none
theorem fixQ_no {l : List UInt8} {q : Int} (h : inB q 1 6 = false) : fixQ l q = none := by
  unfold fixQ; rw [if_neg]; intro hc; rw [inB_iff.2 hc] at h; cases h
theorem fixQ_yes {l : List UInt8} {p : Nat} (h1 : 1 ≤ p) (h2 : p ≤ 6) : fixQ l (p : Int) = fixS l p := by
  unfold fixQ; rw [if_pos (by omega)]; rfl
theorem has_dash (l : List UInt8) : Lib.hasPrefix l [45] = decide (l.headD 0 = 45) := by
  unfold Lib.hasPrefix
  cases l with
  | nil => rfl
  | cons c r =>
    show ((45 == c) && List.isPrefixOf [] r) = decide (c = 45)
    rw [show List.isPrefixOf ([] : List UInt8) r = true from rfl, Bool.and_true, Bool.eq_iff_iff]
    rw [beq_iff_eq, decide_eq_true_iff]
    exact ⟨Eq.symm, Eq.symm⟩
theorem cutP_any (s : ByteArray) (w : World) (hs : s.size ≤ 1048576) : ∃ S : ByteArray, S.data.toList = s.data.toList.drop (atD s.data.toList) ∧ S.size ≤ 1048576 ∧ Hid (∀ W, Calls Tryz.prog 37 #[.string s, .string ⟨#[45]⟩] W fun e w' => e = .returned (.tuple #[.string S, .bool (decide (s.data.toList.headD 0 = 45))]) ∧ W = w') := by
  refine ⟨⟨(s.data.toList.drop (atD s.data.toList)).toArray⟩, rfl, ?_, Lib.hid (fun W => ?_)⟩
  · rw [← len_data]
    show (s.data.toList.drop (atD s.data.toList)).length ≤ _
    rw [List.length_drop, len_data]; omega
  · refine (Tryz.strings_CutPrefix s ⟨#[45]⟩ W).mono fun e w' ⟨he, hw⟩ => ⟨?_, hw.symm⟩
    rw [he]
    show Ending.returned (.tuple #[.string ⟨(Lib.trimPrefix s.data.toList [45]).toArray⟩, .bool (Lib.hasPrefix s.data.toList [45])]) = _
    rw [trim_at, has_dash]
theorem mul_bdT {a t : Int} (h0 : 0 ≤ a) (h1 : a ≤ 4294967295) (t0 : 1 ≤ t) (t1 : t ≤ 1000000) : 0 ≤ a * t ∧ a * t ≤ 4294967295000000 := by
  refine ⟨Int.mul_nonneg h0 (by omega), ?_⟩
  have h2 := Int.mul_le_mul h1 t1 (by omega) (by omega)
  omega
set_option maxHeartbeats 3200000 in
set_option maxRecDepth 1000000 in
theorem implReadFixed_any (s : ByteArray) (q : Int) (w : World) (hs : s.size ≤ 1048576) (hT : TabP w) (hE : ErrsAt w) (hSh : w.ShapedOpen Tryz.prog) :
    Calls Tryz.prog 10 #[.string s, .int .i64 q] w fun e w' => e = .returned (optV (fixQ s.data.toList q)) ∧ Below w.heap.size w w' := by
  cases h2 : inB q 1 6
  · have hr : Hid (optV (fixQ s.data.toList q) = .tuple #[.int .i64 0, .bool false]) := Lib.hid (by rw [fixQ_no h2]; rfl)
    go_enter Tryz.func10, Tryz.ntmps10
    go_wp2_with (go_at_call 26; refine (within64_any _ _ _ _).mono ?_; rintro e w' ⟨rfl, rfl⟩)
    go_ret2
    exact ⟨congrArg Ending.returned hr.out.symm, Below.refl _ _⟩
  obtain ⟨q1, q2⟩ := inB_iff.1 h2
  obtain ⟨p, rfl⟩ := Int.eq_ofNat_of_zero_le (show 0 ≤ q by omega)
  have hfq : Hid (fixQ s.data.toList (p : Int) = fixP s.data.toList p) := Lib.hid (by rw [fixQ_yes (by omega) (by omega), fixP_eq])
  obtain ⟨S, hS, hSs, cC⟩ := cutP_any s w hs
  have hc0 := readParts_any S 46 2 2 rfl (by omega) (by omega) w hSs hE hSh
  have hT' := Lib.hid hT
  have ht := tenV_bd (j := p) (by omega)
  rw [hS] at hc0
  rcases rpL_cases 46 (s.data.toList.drop (atD s.data.toList)) with hn | ⟨a, b, ha, hb, hn⟩
  · have hr : Hid (optV (fixQ s.data.toList (p : Int)) = .tuple #[.int .i64 0, .bool false]) := Lib.hid (by rw [hfq.out]; unfold fixP; rw [hn]; rfl)
    have hc := Lib.hid (hc0.mono fun e w' h => parts_none h hn)
    clear hc0 hn hT hS
    go_enter Tryz.func10, Tryz.ntmps10
    go_wp2_with (first
      | (go_at_call 26; refine (within64_any _ _ _ _).mono ?_; rintro e w' ⟨rfl, rfl⟩)
      | (go_at_call 37; refine (cC.out _).mono ?_; rintro e w' ⟨rfl, rfl⟩)
      | (go_at_call 38; refine hc.out.mono ?_; rintro e w1 ⟨rfl, b1⟩))
    go_ret2
    exact ⟨congrArg Ending.returned hr.out.symm, b1⟩
  have hc := Lib.hid (hc0.mono fun e w' h => parts_two h hn)
  have hq : Hid (fixQ s.data.toList (p : Int) = if fixT (sgn s.data.toList * ((a * 10 ^ p + b : Nat) : Int)) p = s.data.toList then some (sgn s.data.toList * ((a * 10 ^ p + b : Nat) : Int)) else none) := Lib.hid (by rw [hfq.out]; unfold fixP; rw [hn])
  have hm := mul_bdT (a := (a : Int)) (t := tenV p) (by omega) (by omega) ht.1 ht.2
  obtain ⟨X, hX⟩ : ∃ X : Int, X = (a : Int) * tenV p := ⟨_, rfl⟩
  have hXe : Hid (((a * 10 ^ p + b : Nat) : Int) = X + (b : Int)) := Lib.hid (by rw [hX]; unfold tenV; rw [Int.natCast_add, Int.natCast_mul])
  rw [← hX] at hm
  have e1 : IntKind.i64.wrap ((a : Int) * tenV p) = X := by rw [← hX]; exact IntWalk.i64_in _ (by omega)
  obtain ⟨Y, hY⟩ : ∃ Y : Int, Y = X + (b : Int) := ⟨_, rfl⟩
  have e2 : IntKind.i64.wrap (X + (b : Int)) = Y := by rw [hY]; exact IntWalk.i64_in _ (by omega)
  have y0 : 0 ≤ Y := by omega
  have y1 : Y ≤ 9000000000000000 := by omega
  have hYe : Hid (((a * 10 ^ p + b : Nat) : Int) = Y) := Lib.hid (by rw [hXe.out, hY])
  clear hc0 hn hT hS hX hY hXe hm hfq
  cases hd : decide (s.data.toList.headD 0 = 45)
  · have hsg : Hid (sgn s.data.toList = 1) := Lib.hid (by unfold sgn; rw [if_neg (of_decide_eq_false hd)])
    rw [hd] at cC
    obtain ⟨D, hD, _, cD⟩ := str_all (C := TabP) (fun W h => implFixedText_any (Y) (p : Int) W h)
    have hq2 : Hid (optV (backR (Y) D s) = optV (fixQ s.data.toList (p : Int))) := Lib.hid (by
      unfold backR
      rw [hq.out, hsg.out, hYe.out, hD, Int.one_mul])
    clear hD hd
    go_enter Tryz.func10, Tryz.ntmps10
    go_wp2_with (first
      | (go_at_call 26; refine (within64_any _ _ _ _).mono ?_; rintro e w' ⟨rfl, rfl⟩)
      | (go_at_call 37; refine (cC.out _).mono ?_; rintro e w' ⟨rfl, rfl⟩)
      | (go_at_call 38; refine hc.out.mono ?_; rintro e w1 ⟨g, cap, rfl, hcap, c0, c1, b1⟩))
    go_quiet ((go_at_call 32; exact Qs (powerOfTen_any _ (by omega) _)))
    clear e1 e2 c0 c1
    go_wp2_with fail
    (with_reducible refine (cD.out _ (hT'.out.below (belowN b1 _))).mono ?_)
    rintro e w2 ⟨rfl, b2⟩
    go_wp2_with fail
    refine (readBack_any _ D s w2).mono ?_
    rintro e _ ⟨rfl, rfl⟩
    rw [hq2.out]
    cases ho : fixQ s.data.toList (p : Int)
    all_goals
      simp only [optV]
      go_wp2
      go_ret2
      exact ⟨by rw [ho]; rfl, below2 (belowN b1 _) b2⟩
  · have hsg : Hid (sgn s.data.toList = -1) := Lib.hid (by unfold sgn; rw [if_pos (of_decide_eq_true hd)])
    rw [hd] at cC
    obtain ⟨D, hD, _, cD⟩ := str_all (C := TabP) (fun W h => implFixedText_any (-Y) (p : Int) W h)
    have hq2 : Hid (optV (backR (-Y) D s) = optV (fixQ s.data.toList (p : Int))) := Lib.hid (by
      unfold backR
      rw [hq.out, hsg.out, hYe.out, hD, show (-1 : Int) * Y = -Y by omega])
    clear hD hd
    go_enter Tryz.func10, Tryz.ntmps10
    go_wp2_with (first
      | (go_at_call 26; refine (within64_any _ _ _ _).mono ?_; rintro e w' ⟨rfl, rfl⟩)
      | (go_at_call 37; refine (cC.out _).mono ?_; rintro e w' ⟨rfl, rfl⟩)
      | (go_at_call 38; refine hc.out.mono ?_; rintro e w1 ⟨g, cap, rfl, hcap, c0, c1, b1⟩))
    go_quiet ((go_at_call 32; exact Qs (powerOfTen_any _ (by omega) _)))
    clear e1 e2 c0 c1
    go_wp2_with fail
    (with_reducible refine (cD.out _ (hT'.out.below (belowN b1 _))).mono ?_)
    rintro e w2 ⟨rfl, b2⟩
    go_wp2_with fail
    refine (readBack_any _ D s w2).mono ?_
    rintro e _ ⟨rfl, rfl⟩
    rw [hq2.out]
    cases ho : fixQ s.data.toList (p : Int)
    all_goals
      simp only [optV]
      go_wp2
      go_ret2
      exact ⟨by rw [ho]; rfl, below2 (belowN b1 _) b2⟩
theorem lenS_none {l : List UInt8} (ho : fixQ (Lib.trimSuffix l mmL) 1 = none) : lenS l = none := by
  rw [show (1 : Int) = ((1 : Nat) : Int) from rfl, fixQ_yes (by omega) (by omega)] at ho
  rw [← lenP_eq]; unfold lenP; rw [ho]
theorem lenS_some {l : List UInt8} {n : Int} (ho : fixQ (Lib.trimSuffix l mmL) 1 = some n) : lenS l = if lenT n = l then some n else none := by
  rw [show (1 : Int) = ((1 : Nat) : Int) from rfl, fixQ_yes (by omega) (by omega)] at ho
  rw [← lenP_eq]; unfold lenP; rw [ho]
set_option maxHeartbeats 1600000 in
theorem implReadLength_any (s : ByteArray) (w : World) (hs : s.size ≤ 1048576) (hT : TabP w) (hE : ErrsAt w) (hSh : w.ShapedOpen Tryz.prog) :
    Calls Tryz.prog 17 #[.string s] w fun e w' => e = .returned (optV (lenS s.data.toList)) ∧ Below w.heap.size w w' := by
  obtain ⟨S, hS⟩ : ∃ S : ByteArray, S = ⟨(Lib.trimSuffix s.data.toList mmL).toArray⟩ := ⟨_, rfl⟩
  have hSl : S.data.toList = Lib.trimSuffix s.data.toList mmL := by rw [hS]
  have cS : Hid (∀ W, Calls Tryz.prog 45 #[.string s, .string ⟨#[32, 109, 109]⟩] W fun e w' => e = .returned (.string S) ∧ W = w') := Lib.hid (fun W => (Tryz.strings_TrimSuffix s ⟨#[32, 109, 109]⟩ W (by omega)).mono fun e w' ⟨he, hw⟩ => ⟨by rw [he, hS]; rfl, hw.symm⟩)
  have hSs : S.size ≤ 1048576 := by
    rw [← len_data, hSl]
    unfold Lib.trimSuffix
    split
    · rw [List.length_take, len_data]; omega
    · rw [len_data]; omega
  have cF0 := implReadFixed_any S 1 w hSs hT hE hSh
  have hT' := Lib.hid hT
  rw [hSl] at cF0
  cases ho : fixQ (Lib.trimSuffix s.data.toList mmL) 1 with
  | none =>
    have hr : Hid (optV (lenS s.data.toList) = .tuple #[.int .i64 0, .bool false]) := Lib.hid (by rw [lenS_none ho]; rfl)
    rw [ho] at cF0
    simp only [optV] at cF0
    have cF := Lib.hid cF0
    clear cF0 ho hS hSl hT
    go_enter Tryz.func17, Tryz.ntmps17
    go_wp2_with (first
      | (go_at_call 45; refine (cS.out _).mono ?_; rintro e w' ⟨rfl, rfl⟩)
      | (go_at_call 10; refine cF.out.mono ?_; rintro e w1 ⟨rfl, b1⟩))
    go_ret2
    exact ⟨congrArg Ending.returned hr.out.symm, b1⟩
  | some n =>
    have hq : Hid (lenS s.data.toList = if lenT n = s.data.toList then some n else none) := Lib.hid (lenS_some ho)
    rw [ho] at cF0
    simp only [optV] at cF0
    have cF := Lib.hid cF0
    obtain ⟨D, hD, _, cD⟩ := str_all (C := TabP) (fun W h => implLengthText_any n W h)
    have hq2 : Hid (optV (backR n D s) = optV (lenS s.data.toList)) := Lib.hid (by unfold backR; rw [hq.out, hD])
    clear cF0 ho hS hSl hT hD
    go_enter Tryz.func17, Tryz.ntmps17
    go_wp2_with (first
      | (go_at_call 45; refine (cS.out _).mono ?_; rintro e w' ⟨rfl, rfl⟩)
      | (go_at_call 10; refine cF.out.mono ?_; rintro e w1 ⟨rfl, b1⟩))
    refine (cD.out _ (hT'.out.below b1)).mono ?_
    rintro e w2 ⟨rfl, b2⟩
    go_wp2_with fail
    refine (readBack_any _ D s w2).mono ?_
    rintro e _ ⟨rfl, rfl⟩
    rw [hq2.out]
    cases ho : lenS s.data.toList
    all_goals
      simp only [optV]
      go_wp2
      go_ret2
      exact ⟨by rw [ho]; rfl, below2 b1 b2⟩
end Go.Proofs.YtmknafkngggfjaaGreatDoor
