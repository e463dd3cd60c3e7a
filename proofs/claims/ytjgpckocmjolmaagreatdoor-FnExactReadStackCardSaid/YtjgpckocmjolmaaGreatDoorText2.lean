/-
  Contracts of the texts of chapter 2: digits with leading zeros, clocks, laps, dates.
-/
import Derived.Test.YtjgpckocmjolmaaGreatDoorText
import Derived.Test.YtjgpckocmjolmaaGreatDoorDayNum2
namespace Go.Proofs.YtjgpckocmjolmaaGreatDoor
open Go.ChangeShapes Go.WideShapes Go.ChangeAt Go.RowKit
set_option linter.unusedVariables false
set_option linter.unusedSimpArgs false
theorem BuB.len {B b : Nat} {l m : List UInt8} {w : World} (h : BuB B b l w) (e : l = m) : BuB B b m w := e ▸ h
set_option maxHeartbeats 1600000 in
theorem writeDigits_any (W0 w : World) (hT : TabP W0) (b : Nat) (l : List UInt8) (n : Int) (p : Nat) (z : Int) (hz : z = (p : Int)) (h0 : 0 ≤ n) (h1 : n ≤ 1000000000000) (hp : p ≤ 20) (hl : l.length ≤ 1000) (hW : Below W0.heap.size W0 w) (h : BuB W0.heap.size b l w) :
    Calls Tryz.prog 43 #[.pointer (some ⟨b, 0, none⟩), .int .i64 n, .int .i64 z] w fun e w' => e = .returned (.tuple #[]) ∧ BuB W0.heap.size b (l ++ padL p n) w' ∧ Below W0.heap.size W0 w' := by
  subst hz
  obtain ⟨D, hD, hDl, hDs, hc⟩ := idec_all n h0 h1
  have hr : Hid (padL p n = List.replicate (p - D.size) 48 ++ D.data.toList) := Lib.hid (by unfold padL; rw [hDs, hD])
  have hT' := Lib.hid hT
  have hB' := Lib.hid h
  clear hD hDs hT h
  go_enter Tryz.func43, Tryz.ntmps43
  go_wp2_with (go_at_call 58; refine (hc.out _ (hT'.out.below hW)).mono ?_; rintro e w1 ⟨rfl, b1⟩)
  go_loopw [13] (fun i wr => ∃ k : Nat, k ≤ p - D.size ∧ i = .int .i64 k ∧ BuB W0.heap.size b (l ++ List.replicate k 48) wr ∧ Below W0.heap.size W0 wr) (fun i _ => (p - D.size) - (intOf i).toNat)
  case atStart => exact ⟨0, by omega, rfl, (hB'.out.below b1).len (by simp), hW.trans (b1.mono hW.size)⟩
  case round =>
    obtain ⟨k, hk, rfl, hB, hb⟩ := hrel
    have hs := hb.size
    by_cases hlt : k < p - D.size
    · have hcw := Lib.hid (writeByte_any W0.heap.size b _ 48 48 rfl wr hB (by simp; omega) hs)
      clear hB
      go_wp2_with (go_at_call 44; refine hcw.out.mono ?_; rintro e w2 ⟨rfl, hB2, b2⟩)
      go_roundw
      case rel => exact ⟨k + 1, by omega, by go_num, hB2.len (by rw [List.replicate_succ', List.append_assoc]), hb.trans b2⟩
      case measure => simp [intOf]; omega
    · have hk2 : k = p - D.size := by omega
      have hrep : Hid (l ++ List.replicate k 48 ++ D.data.toList = l ++ padL p n) := Lib.hid (by rw [hr.out, hk2, List.append_assoc])
      have hcw := Lib.hid (writeString_any W0.heap.size b _ D wr hB (by simp; omega) hs)
      clear hB hk2
      go_wp2_with (go_at_call 63; refine hcw.out.mono ?_; rintro e w2 ⟨rfl, hB2, b2⟩)
      go_end0
      exact ⟨rfl, hB2.len hrep.out, hb.trans b2⟩
theorem fresh_below (w : World) (o : Obj) : Below w.heap.size w (w.alloc o) := (Below.refl _ _).alloc (Nat.le_refl _) _
theorem padL_le (p : Nat) (n : Int) (hp : p ≤ 20) (h0 : 0 ≤ n) (h1 : n ≤ 1000000000000) : (padL p n).length ≤ 41 := by
  have := itoa_len (n := n) ⟨by omega, by omega⟩
  unfold padL; rw [List.length_append, List.length_replicate]; omega
theorem itoa_padL1 (n : Int) (h0 : 0 ≤ n) : padL 1 n = Lib.itoa n := by
  obtain ⟨k, rfl⟩ := Int.eq_ofNat_of_zero_le h0
  have := itoa_pos_len k
  unfold padL; rw [show 1 - (Lib.itoa (k : Int)).length = 0 by omega]; rfl
end Go.Proofs.YtjgpckocmjolmaaGreatDoor
