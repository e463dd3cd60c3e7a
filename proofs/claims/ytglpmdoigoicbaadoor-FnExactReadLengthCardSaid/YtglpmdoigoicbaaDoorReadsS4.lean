/-
  Contracts of the model's reader of lengths.
-/
import Derived.Test.YtglpmdoigoicbaaDoorReadsS3
namespace Go.Proofs.YtglpmdoigoicbaaDoor
open Go.ChangeShapes Go.WideShapes Go.ChangeAt Go.RowKit
set_option linter.unusedVariables false
set_option linter.unusedSimpArgs false
theorem lenS_no {l : List UInt8} (h : ¬ (4 ≤ l.length ∧ l.drop (l.length - 3) = mmL)) : lenS l = none := by unfold lenS; rw [if_neg h]
def lenM (o : Option Int) : Option Int := match o with | some n => if 0 ≤ n ∧ n ≤ 1000000000 then some n else none | none => none
theorem lenS_yes {l : List UInt8} (h : 4 ≤ l.length ∧ l.drop (l.length - 3) = mmL) : lenS l = lenM (fixQ (l.take (l.length - 3)) 1) := by
  unfold lenS
  rw [if_pos h, show (1 : Int) = ((1 : Nat) : Int) from rfl, fixQ_yes (by omega) (by omega)]; rfl
set_option maxHeartbeats 3200000 in
set_option maxRecDepth 1000000 in
theorem specReadLength_any (s : ByteArray) (hs : s.size ≤ 1048576) (w : World) :
    Calls Tryd.prog 33 #[.string s] w fun e w' => e = .returned (optV (lenS s.data.toList)) ∧ Below w.heap.size w w' := by
  have hll := Lib.hid (len_data s)
  by_cases z1 : 4 ≤ s.size
  rotate_left
  · have hr : Hid (optV (lenS s.data.toList) = .tuple #[.int .i64 0, .bool false]) := Lib.hid (by rw [lenS_no (by rintro ⟨h, _⟩; rw [hll.out] at h; exact z1 h)]; rfl)
    have t1 : decide ((s.size : Int) - 3 < 1) = true := by simp; omega
    have z1' : s.size < 4 := by omega
    clear z1
    go_enter Tryd.func33, Tryd.ntmps33
    go_wp2
    go_ret2
    exact ⟨congrArg Ending.returned hr.out.symm, Below.refl _ _⟩
  obtain ⟨k, hk⟩ : ∃ k, k = s.size - 3 := ⟨_, rfl⟩
  have E1 : (s.size : Int) - 3 = (k : Int) := by omega
  have hk1 : 1 ≤ k := by omega
  have hks : k ≤ s.size := by omega
  have g1 : (k : Int) ≤ (s.size : Int) := by omega
  have g2 : (0 : Int) ≤ (k : Int) := by omega
  have hk' := Lib.hid hk
  have hT : (s.extract k s.size).data.toList = s.data.toList.drop k := by
    rw [extract_piece]; unfold piece; rw [List.take_of_length_le]; rw [List.length_drop, len_data]; exact Nat.le_refl _
  have hS0 : (s.extract 0 k).data.toList = s.data.toList.take k := by rw [extract_piece]; unfold piece; simp
  clear hk
  by_cases z2 : s.data.toList.drop k = mmL
  rotate_left
  · have hr : Hid (optV (lenS s.data.toList) = .tuple #[.int .i64 0, .bool false]) := Lib.hid (by rw [lenS_no (by rintro ⟨_, h⟩; rw [hll.out, ← hk'.out] at h; exact z2 h)]; rfl)
    have t2 : ((s.extract k s.size).toList == [32, 109, 109]) = false := by
      rw [beq_eq_false_iff_ne]; intro h
      rw [ByteArray.toList_eq, hT] at h; exact z2 h
    have u2 : ((s.extract k s.size).toList != [32, 109, 109]) = true := by unfold bne; rw [t2]; rfl
    clear z2 hT hS0
    go_enter Tryd.func33, Tryd.ntmps33
    go_wp2
    go_ret2
    exact ⟨congrArg Ending.returned hr.out.symm, Below.refl _ _⟩
  have t2 : ((s.extract k s.size).toList == [32, 109, 109]) = true := by
    rw [beq_iff_eq, ByteArray.toList_eq, hT]; exact z2
  have u2 : ((s.extract k s.size).toList != [32, 109, 109]) = false := by unfold bne; rw [t2]; rfl
  have hq : Hid (lenS s.data.toList = lenM (fixQ (s.data.toList.take k) 1)) := Lib.hid (by
    rw [lenS_yes ⟨by rw [hll.out]; exact z1, by rw [hll.out, ← hk'.out]; exact z2⟩, hll.out, ← hk'.out])
  have hsz : (s.extract 0 k).size ≤ 1048576 := by rw [size_ex s 0 k (by omega) hks]; omega
  have cF0 := specReadFixed_any (s.extract 0 k) 1 hsz w
  rw [hS0] at cF0
  clear z2 hT hS0 hsz
  cases ho : fixQ (s.data.toList.take k) 1 with
  | none =>
    have hr : Hid (optV (lenS s.data.toList) = .tuple #[.int .i64 0, .bool false]) := Lib.hid (by rw [hq.out, ho]; rfl)
    rw [ho] at cF0
    simp only [optV] at cF0
    have cF := Lib.hid cF0
    clear cF0 ho
    go_enter Tryd.func33, Tryd.ntmps33
    go_wp2_with (go_at_call 25; refine cF.out.mono ?_; rintro e w1 ⟨rfl, b1⟩)
    go_ret2
    exact ⟨congrArg Ending.returned hr.out.symm, b1⟩
  | some n =>
    rw [ho] at cF0
    simp only [optV] at cF0
    have cF := Lib.hid cF0
    have hq2 : Hid (lenS s.data.toList = if 0 ≤ n ∧ n ≤ 1000000000 then some n else none) := Lib.hid (by rw [hq.out, ho]; rfl)
    clear cF0 ho
    cases hm : inB n 0 1000000000
    · have hr : Hid (optV (lenS s.data.toList) = .tuple #[.int .i64 0, .bool false]) := Lib.hid (by rw [hq2.out, if_neg (fun h => by rw [inB_iff.2 h] at hm; cases hm)]; rfl)
      go_enter Tryd.func33, Tryd.ntmps33
      go_wp2_with (first
        | (go_at_call 25; refine cF.out.mono ?_; rintro e w1 ⟨rfl, b1⟩)
        | (go_at_call 67; refine (l02Mass_any _ _).mono ?_; rintro e w' ⟨rfl, rfl⟩))
      go_ret2
      exact ⟨congrArg Ending.returned hr.out.symm, b1⟩
    · have hr : Hid (optV (lenS s.data.toList) = .tuple #[.int .i64 n, .bool true]) := Lib.hid (by rw [hq2.out, if_pos (inB_iff.1 hm)]; rfl)
      go_enter Tryd.func33, Tryd.ntmps33
      go_wp2_with (first
        | (go_at_call 25; refine cF.out.mono ?_; rintro e w1 ⟨rfl, b1⟩)
        | (go_at_call 67; refine (l02Mass_any _ _).mono ?_; rintro e w' ⟨rfl, rfl⟩))
      go_ret2
      exact ⟨congrArg Ending.returned hr.out.symm, b1⟩
end Go.Proofs.YtglpmdoigoicbaaDoor
