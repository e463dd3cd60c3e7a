/-
  Contracts of the texts of chapter 2: digits with leading zeros, clocks, laps, dates.
-/
import Derived.Test.YtmknafkngggfjaaGreatDoorText
import Derived.Test.YtmknafkngggfjaaGreatDoorDayNum2
namespace Go.Proofs.YtmknafkngggfjaaGreatDoor
open Go.ChangeShapes Go.WideShapes Go.ChangeAt Go.RowKit
set_option linter.unusedVariables false
set_option linter.unusedSimpArgs false
theorem BuB.len {B b : Nat} {l m : List UInt8} {w : World} (h : BuB B b l w) (e : l = m) : BuB B b m w := e ▸ h
set_option maxHeartbeats 1600000 in
theorem writeDigits_any (W0 w : World) (hT : TabP W0) (b : Nat) (l : List UInt8) (n : Int) (p : Nat) (z : Int) (hz : z = (p : Int)) (h0 : 0 ≤ n) (h1 : n ≤ 1000000000000) (hp : p ≤ 20) (hl : l.length ≤ 1000) (hW : Below W0.heap.size W0 w) (h : BuB W0.heap.size b l w) :
    Calls Tryz.prog 35 #[.pointer (some ⟨b, 0, none⟩), .int .i64 n, .int .i64 z] w fun e w' => e = .returned (.tuple #[]) ∧ BuB W0.heap.size b (l ++ padL p n) w' ∧ Below W0.heap.size W0 w' := by
  subst hz
  obtain ⟨D, hD, hDl, hDs, hc⟩ := idec_all n h0 h1
  have hr : Hid (padL p n = List.replicate (p - D.size) 48 ++ D.data.toList) := Lib.hid (by unfold padL; rw [hDs, hD])
  have hT' := Lib.hid hT
  have hB' := Lib.hid h
  clear hD hDs hT h
  go_enter Tryz.func35, Tryz.ntmps35
  go_wp2_with (go_at_call 34; refine (hc.out _ (hT'.out.below hW)).mono ?_; rintro e w1 ⟨rfl, b1⟩)
  go_loopw [13] (fun i wr => ∃ k : Nat, k ≤ p - D.size ∧ i = .int .i64 k ∧ BuB W0.heap.size b (l ++ List.replicate k 48) wr ∧ Below W0.heap.size W0 wr) (fun i _ => (p - D.size) - (intOf i).toNat)
  case atStart => exact ⟨0, by omega, rfl, (hB'.out.below b1).len (by simp), hW.trans (b1.mono hW.size)⟩
  case round =>
    obtain ⟨k, hk, rfl, hB, hb⟩ := hrel
    have hs := hb.size
    by_cases hlt : k < p - D.size
    · have hcw := Lib.hid (writeByte_any W0.heap.size b _ 48 48 rfl wr hB (by simp; omega) hs)
      clear hB
      go_wp2_with (go_at_call 31; refine hcw.out.mono ?_; rintro e w2 ⟨rfl, hB2, b2⟩)
      go_roundw
      case rel => exact ⟨k + 1, by omega, by go_num, hB2.len (by rw [List.replicate_succ', List.append_assoc]), hb.trans b2⟩
      case measure => simp [intOf]; omega
    · have hk2 : k = p - D.size := by omega
      have hrep : Hid (l ++ List.replicate k 48 ++ D.data.toList = l ++ padL p n) := Lib.hid (by rw [hr.out, hk2, List.append_assoc])
      have hcw := Lib.hid (writeString_any W0.heap.size b _ D wr hB (by simp; omega) hs)
      clear hB hk2
      go_wp2_with (go_at_call 33; refine hcw.out.mono ?_; rintro e w2 ⟨rfl, hB2, b2⟩)
      go_end0
      exact ⟨rfl, hB2.len hrep.out, hb.trans b2⟩
theorem fresh_below (w : World) (o : Obj) : Below w.heap.size w (w.alloc o) := (Below.refl _ _).alloc (Nat.le_refl _) _
theorem padL_le (p : Nat) (n : Int) (hp : p ≤ 20) (h0 : 0 ≤ n) (h1 : n ≤ 1000000000000) : (padL p n).length ≤ 41 := by
  have := itoa_len (n := n) ⟨by omega, by omega⟩
  unfold padL; rw [List.length_append, List.length_replicate]; omega
set_option maxHeartbeats 1600000 in
theorem sixtiesText_any (n : Int) (p : Nat) (z : Int) (hz : z = (p : Int)) (h0 : 0 ≤ n) (h1 : n ≤ 1000000000000) (hp : p ≤ 20) (w : World) (hT : TabP w) :
    Calls Tryz.prog 27 #[.int .i64 n, .int .i64 z] w (StrRet (padL p (n / 60) ++ 58 :: padL 2 (n % 60)) w) := by
  subst hz
  have hl1 := padL_le p (n / 60) hp (by omega) (by omega)
  have hl2 := padL_le 2 (n % 60) (by omega) (by omega) (by omega)
  have hB0 := Lib.hid (BuB.start w)
  have hb0 := fresh_below w (.cells #[.pointer none, .slice none 0 0] 49)
  have hT' := Lib.hid hT
  clear hT
  go_enter Tryz.func27, Tryz.ntmps27
  go_wp2_with fail
  refine (writeDigits_any w _ hT'.out _ [] (n / 60) p _ rfl (by omega) (by omega) hp (by simp) hb0 hB0.out).mono ?_
  rintro e w1 ⟨rfl, hB1, b1⟩
  go_wp2_with fail
  refine (writeByte_any _ _ _ 58 58 rfl w1 hB1 (by simp; omega) b1.size).mono ?_
  rintro e w2 ⟨rfl, hB2, b2⟩
  go_wp2_with fail
  refine (writeDigits_any w _ hT'.out _ _ (n % 60) 2 _ rfl (by omega) (by omega) (by omega) (by simp; omega) (b1.trans b2) hB2).mono ?_
  rintro e w3 ⟨rfl, hB3, b3⟩
  go_wp2_with fail
  refine (string_any _ _ _ w3 hB3 b3.size).mono ?_
  rintro e w4 ⟨rfl, _, b4⟩
  go_wp2
  go_ret
  exact ⟨by simp, b3.trans b4⟩
theorem implClockText_any (n : Int) (w : World) (hT : TabP w) : Calls Tryz.prog 6 #[.int .i64 n] w (StrRet (clockT n) w) := by
  cases h : inB n 0 1439
  · have hr : Hid (clockT n = []) := Lib.hid (by unfold clockT; rw [if_neg]; intro hc; rw [inB_iff.2 hc] at h; cases h)
    go_enter Tryz.func6, Tryz.ntmps6
    go_wp2_with (go_at_call 26; refine (within64_any _ _ _ _).mono ?_; rintro e w' ⟨rfl, rfl⟩)
    go_ret
    exact str_ret hr.out.symm (Below.refl _ _)
  · have hb := inB_iff.1 h
    have hc := sixtiesText_any n 2 2 rfl (by omega) (by omega) (by omega) w hT
    rw [clock_pads n hb.1 hb.2] at hc
    have hc' := Lib.hid hc
    clear hc hT
    go_enter Tryz.func6, Tryz.ntmps6
    go_wp2_with (first
      | (go_at_call 26; refine (within64_any _ _ _ _).mono ?_; rintro e w' ⟨rfl, rfl⟩)
      | (go_at_call 27; refine hc'.out.mono ?_; rintro e w' ⟨rfl, b1⟩))
    go_ret
    exact ⟨rfl, b1⟩
theorem itoa_padL1 (n : Int) (h0 : 0 ≤ n) : padL 1 n = Lib.itoa n := by
  obtain ⟨k, rfl⟩ := Int.eq_ofNat_of_zero_le h0
  have := itoa_pos_len k
  unfold padL; rw [show 1 - (Lib.itoa (k : Int)).length = 0 by omega]; rfl
theorem implLapText_any (n : Int) (w : World) (hT : TabP w) : Calls Tryz.prog 12 #[.int .i64 n] w (StrRet (lapT n) w) := by
  cases h : inB n 0 1000000000
  · have hr : Hid (lapT n = []) := Lib.hid (by unfold lapT; rw [if_neg]; intro hc; rw [inB_iff.2 hc] at h; cases h)
    go_enter Tryz.func12, Tryz.ntmps12
    go_wp2_with (go_at_call 26; refine (within64_any _ _ _ _).mono ?_; rintro e w' ⟨rfl, rfl⟩)
    go_ret
    exact str_ret hr.out.symm (Below.refl _ _)
  · have hb := inB_iff.1 h
    have hc := sixtiesText_any n 1 1 rfl (by omega) (by omega) (by omega) w hT
    rw [itoa_padL1 _ (by omega), lap_pads n hb.1 hb.2] at hc
    have hc' := Lib.hid hc
    clear hc hT
    go_enter Tryz.func12, Tryz.ntmps12
    go_wp2_with (first
      | (go_at_call 26; refine (within64_any _ _ _ _).mono ?_; rintro e w' ⟨rfl, rfl⟩)
      | (go_at_call 27; refine hc'.out.mono ?_; rintro e w' ⟨rfl, b1⟩))
    go_ret
    exact ⟨rfl, b1⟩
theorem l02Lap_any (n : Int) (h0 : 0 ≤ n) (h1 : n ≤ 1000000000) (w : World) : Calls Tryz.prog 42 #[.int .i64 n] w (StrRet (lapT n) w) := by
  obtain ⟨A, hA, hAl, hAs, cA⟩ := dec_all (n % 60) (by omega) (by omega)
  obtain ⟨B, hB, hBl, hBs, cB⟩ := dec_all (n / 60) (by omega) (by omega)
  by_cases h : n % 60 < 10
  · have h2 : decide ((A.size : Int) < 2) = true := by
      have := itoa_len1 (n % 60) (by omega) h
      simp; omega
    have hr : Hid ((B ++ ⟨#[58]⟩ ++ (⟨#[48]⟩ ++ A) : ByteArray).data.toList = lapT n) := Lib.hid (by rw [cat_data, cat_data, cat_data, hA, hB, ← lap_pads n h0 h1, padL_one _ (by omega) h]; simp)
    have hs : (B ++ ⟨#[58]⟩ : ByteArray).size ≤ 22 := by rw [cat_size]; show B.size + 1 ≤ 22; omega
    have hs2 : (⟨#[48]⟩ ++ A : ByteArray).size ≤ 22 := by rw [cat_size]; show 1 + A.size ≤ 22; omega
    clear hA hB hAs hBs
    go_enter Tryz.func42, Tryz.ntmps42
    go_wp2_with fail
    refine (cA.out _).mono ?_
    rintro e w1 ⟨rfl, b1⟩
    go_wp2_with fail
    refine (cB.out _).mono ?_
    rintro e w2 ⟨rfl, b2⟩
    go_wp2
    go_ret
    exact str_ret hr.out (b1.trans (b2.mono b1.size))
  · have h2 : decide ((A.size : Int) < 2) = false := by
      have := itoa_len10 (n % 60) (by omega)
      simp; omega
    have hr : Hid ((B ++ ⟨#[58]⟩ ++ A : ByteArray).data.toList = lapT n) := Lib.hid (by rw [cat_data, cat_data, hA, hB, ← lap_pads n h0 h1, padL_two _ (by omega)]; simp)
    have hs : (B ++ ⟨#[58]⟩ : ByteArray).size ≤ 22 := by rw [cat_size]; show B.size + 1 ≤ 22; omega
    clear hA hB hAs hBs
    go_enter Tryz.func42, Tryz.ntmps42
    go_wp2_with fail
    refine (cA.out _).mono ?_
    rintro e w1 ⟨rfl, b1⟩
    go_wp2_with fail
    refine (cB.out _).mono ?_
    rintro e w2 ⟨rfl, b2⟩
    go_wp2
    go_ret
    exact str_ret hr.out (b1.trans (b2.mono b1.size))
theorem specLapText_any (n : Int) (w : World) : Calls Tryz.prog 14 #[.int .i64 n] w (StrRet (lapT n) w) := by
  cases h : inB n 0 1000000000
  · have hr : Hid (lapT n = []) := Lib.hid (by unfold lapT; rw [if_neg]; intro hc; rw [inB_iff.2 hc] at h; cases h)
    go_enter Tryz.func14, Tryz.ntmps14
    go_wp2_with (go_at_call 41; refine (l02Mass_any _ _).mono ?_; rintro e w' ⟨rfl, rfl⟩)
    go_ret
    exact str_ret hr.out.symm (Below.refl _ _)
  · have hb := inB_iff.1 h
    go_enter Tryz.func14, Tryz.ntmps14
    go_wp2_with (first
      | (go_at_call 41; refine (l02Mass_any _ _).mono ?_; rintro e w' ⟨rfl, rfl⟩)
      | (go_at_call 42; refine (l02Lap_any _ (by omega) (by omega) _).mono ?_; rintro e w' ⟨rfl, b1⟩))
    go_ret
    exact ⟨rfl, b1⟩
end Go.Proofs.YtmknafkngggfjaaGreatDoor
