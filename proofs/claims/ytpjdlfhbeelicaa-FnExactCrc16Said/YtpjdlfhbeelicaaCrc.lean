/-
  Contracts of Crc16, of the model and of the program.
-/
import Derived.Test.YtpjdlfhbeelicaaCore2
import Derived.Test.YtpjdlfhbeelicaaCrcMath
namespace Go.Proofs.Ytpjdlfhbeelicaa
open Go.ChangeShapes Go.WideShapes Go.ChangeAt Go.RowKit
set_option linter.unusedVariables false
set_option linter.unusedSimpArgs false

theorem i64_xor_nat (a b : Nat) (ha : a < 9223372036854775808) (hb : b < 9223372036854775808) : bits .xor .i64 (a : Int) (b : Int) = ((a ^^^ b : Nat) : Int) := by
  have hx : a ^^^ b < 2 ^ 63 := Nat.xor_lt_two_pow (by omega) (by omega)
  show IntKind.i64.wrap ((BitVec.ofInt 64 (a : Int) ^^^ BitVec.ofInt 64 (b : Int)).toNat : Int) = _
  rw [BitVec.toNat_xor, ofInt_u64 a (by omega), ofInt_u64 b (by omega), IntKind.wrap_i64]
  omega
theorem i64_and_nat (a b : Nat) (ha : a < 9223372036854775808) (hb : b < 9223372036854775808) : bits .and .i64 (a : Int) (b : Int) = ((a &&& b : Nat) : Int) := by
  have hx : a &&& b < 2 ^ 63 := Nat.and_lt_two_pow _ (by omega)
  show IntKind.i64.wrap ((BitVec.ofInt 64 (a : Int) &&& BitVec.ofInt 64 (b : Int)).toNat : Int) = _
  rw [BitVec.toNat_and, ofInt_u64 a (by omega), ofInt_u64 b (by omega), IntKind.wrap_i64]
  omega
theorem val_hi (c : Nat) (hc : c < 65536) (h : 65535 < 2 * c) : Value.int IntKind.i64 (bits BinOp.xor IntKind.i64 (bits BinOp.and IntKind.i64 (↑c * 2) 65535) 4129) = .int .i64 (crc1 c) := by
  have e1 : ((c : Int) * 2) = ((2 * c : Nat) : Int) := by omega
  have h1 : (2 * c) &&& 65535 < 2 ^ 16 := Nat.and_lt_two_pow _ (by omega)
  rw [e1, show (65535 : Int) = ((65535 : Nat) : Int) from rfl, i64_and_nat _ _ (by omega) (by omega), show (4129 : Int) = ((4129 : Nat) : Int) from rfl, i64_xor_nat _ _ (by omega) (by omega), crc1_hi c h]
theorem val_lo (c : Nat) (h : ¬ 65535 < 2 * c) : Value.int IntKind.i64 (↑c * 2) = .int .i64 (crc1 c) := by
  rw [crc1_lo c h]; go_num
theorem val_x (c : Nat) (b : UInt8) (hc : c < 65536) : Value.int IntKind.i64 (bits BinOp.xor IntKind.i64 (↑c) (↑b.toNat * 256)) = .int .i64 ((c ^^^ (b.toNat * 256) : Nat) : Int) := by
  have := b.toNat_lt
  rw [show ((b.toNat : Int) * 256) = ((b.toNat * 256 : Nat) : Int) by omega, i64_xor_nat _ _ (by omega) (by omega)]
def crcRel (k c0 c : Nat) : Prop := c = crcK k c0 ∧ c < 65536
theorem crcRel_step {k c0 c : Nat} (h : crcRel k c0 c) : crcRel (k + 1) c0 (crc1 c) := by
  obtain ⟨h1, h2⟩ := h
  exact ⟨by subst h1; rfl, crc1_lt _⟩
def crcAt (s : ByteArray) (c0 k c : Nat) : Prop := c = crcL (s.data.toList.take k) c0 ∧ c < 65536
theorem crcAt_step {s : ByteArray} {c0 k c d : Nat} (hk : k < s.size) (h : crcAt s c0 k c) (hd : crcRel 8 (c ^^^ (s[k].toNat * 256)) d) : crcAt s c0 (k + 1) d := by
  refine ⟨?_, hd.2⟩
  rw [take_snoc s k hk, crcL_snoc, ← h.1, hd.1]; rfl
theorem crcAt_end {s : ByteArray} {c0 c : Nat} (h : crcAt s c0 s.size c) : c = crcL s.data.toList c0 := by
  have := h.1; rwa [take_all] at this

set_option maxHeartbeats 1000000 in
theorem l01Crc_any (s : ByteArray) (c0 : Nat) (hc0 : c0 < 65536) (hs : s.size ≤ maxLen) (w : World) : Calls Try.prog 37 #[.string s, .int .i64 c0] w fun e w' => e = .returned (.int .i64 (crcL s.data.toList c0 : Nat)) ∧ w = w' := by
  unfold maxLen at hs
  go_enter Try.func37, Try.ntmps37
  go_wp2
  go_loop [1, 5] (fun x i => ∃ k c : Nat, k ≤ s.size ∧ i = .int .i64 k ∧ x = .int .i64 c ∧ c < 65536 ∧ crcAt s c0 k c) (fun _ i => s.size - (intOf i).toNat)
  case atStart => exact ⟨0, c0, by omega, rfl, rfl, hc0, rfl, hc0⟩
  case round =>
    obtain ⟨k, c, hk, rfl, rfl, hc, hat⟩ := hrel
    by_cases hlt : k < s.size
    · have hb := u8_bd s[k]
      go_wp2
      go_loop [1, 6] (fun x i => ∃ j d : Nat, j ≤ 8 ∧ i = .int .i64 j ∧ x = .int .i64 d ∧ d < 65536 ∧ crcRel j (c ^^^ (s[k].toNat * 256)) d) (fun _ i => 8 - (intOf i).toNat)
      case atStart => exact ⟨0, _, by omega, rfl, val_x c s[k] hc, crcX_lt _ _ hc, rfl, crcX_lt _ _ hc⟩
      case round =>
        obtain ⟨j, d, hj, rfl, rfl, hd, hre⟩ := hrel
        by_cases hlj : j < 8
        · by_cases hg : 65535 < 2 * (d : Int)
          · go_wp2
            go_round
            case rel => exact ⟨j + 1, crc1 d, by omega, by go_num, val_hi d hd (by omega), crc1_lt _, crcRel_step hre⟩
            case measure => simp [intOf]; omega
          · go_wp2
            go_round
            case rel => exact ⟨j + 1, crc1 d, by omega, by go_num, val_lo d (by omega), crc1_lt _, crcRel_step hre⟩
            case measure => simp [intOf]; omega
        · have hj8 : j = 8 := by omega
          have hat2 : crcAt s c0 (k + 1) d := crcAt_step hlt hat (by rw [← hj8]; exact hre)
          clear hj8
          go_wp2
          go_round
          case rel => exact ⟨k + 1, d, by omega, by go_num, rfl, hd, hat2⟩
          case measure => simp [intOf]; omega
    · have hk' : k = s.size := by omega
      have he := Lib.hid (crcAt_end (by rw [hk'] at hat; exact hat))
      clear hk'
      go_wp2
      go_ret
      exact ⟨ret_int (by rw [he.out]), rfl⟩

theorem inB_c (c0 : Nat) (h : c0 < 65536) : inB c0 0 65535 = true := inB_iff.2 (by omega)
def crcR (s : ByteArray) (start : Int) : Int := if inB start 0 65535 then (crcL s.data.toList start.toNat : Nat) else 0

set_option maxHeartbeats 1000000 in
theorem implCrc_in (s : ByteArray) (c0 : Nat) (hc0 : c0 < 65536) (hs : s.size ≤ maxLen) (w : World) : Calls Try.prog 20 #[.string s, .int .i64 c0] w fun e w' => e = .returned (.int .i64 (crcL s.data.toList c0 : Nat)) ∧ w = w' := by
  unfold maxLen at hs
  have hin := inB_c c0 hc0
  go_enter Try.func20, Try.ntmps20
  go_wp2_with (go_at_call 28; refine (within64_any _ _ _ _).mono ?_; rintro e w' ⟨rfl, rfl⟩)
  go_loop [5, 13] (fun x i => ∃ k c : Nat, k ≤ s.size ∧ i = .int .i64 k ∧ x = .int .i64 c ∧ c < 65536 ∧ crcAt s c0 k c) (fun _ i => s.size - (intOf i).toNat)
  case atStart => exact ⟨0, c0, by omega, rfl, rfl, hc0, rfl, hc0⟩
  case round =>
    obtain ⟨k, c, hk, rfl, rfl, hc, hat⟩ := hrel
    by_cases hlt : k < s.size
    · have hb := u8_bd s[k]
      go_wp2
      go_loop [5, 23] (fun x i => ∃ j d : Nat, j ≤ 8 ∧ i = .int .i64 j ∧ x = .int .i64 d ∧ d < 65536 ∧ crcRel j (c ^^^ (s[k].toNat * 256)) d) (fun _ i => 8 - (intOf i).toNat)
      case atStart => exact ⟨0, _, by omega, rfl, val_x c s[k] hc, crcX_lt _ _ hc, rfl, crcX_lt _ _ hc⟩
      case round =>
        obtain ⟨j, d, hj, rfl, rfl, hd, hre⟩ := hrel
        by_cases hlj : j < 8
        · by_cases hg : 65535 < 2 * (d : Int)
          · go_wp2
            go_round
            case rel => exact ⟨j + 1, crc1 d, by omega, by go_num, val_hi d hd (by omega), crc1_lt _, crcRel_step hre⟩
            case measure => simp [intOf]; omega
          · go_wp2
            go_round
            case rel => exact ⟨j + 1, crc1 d, by omega, by go_num, val_lo d (by omega), crc1_lt _, crcRel_step hre⟩
            case measure => simp [intOf]; omega
        · have hj8 : j = 8 := by omega
          have hat2 : crcAt s c0 (k + 1) d := crcAt_step hlt hat (by rw [← hj8]; exact hre)
          clear hj8
          go_wp2
          go_round
          case rel => exact ⟨k + 1, d, by omega, by go_num, rfl, hd, hat2⟩
          case measure => simp [intOf]; omega
    · have hk' : k = s.size := by omega
      have he := Lib.hid (crcAt_end (by rw [hk'] at hat; exact hat))
      clear hk'
      go_wp2
      go_ret
      exact ⟨ret_int (by rw [he.out]), rfl⟩

theorem implCrc16_any (s : ByteArray) (a : Int) (hs : s.size ≤ maxLen) (w : World) : Calls Try.prog 20 #[.string s, .int .i64 a] w fun e w' => e = .returned (.int .i64 (crcR s a)) ∧ w = w' := by
  cases h : inB a 0 65535
  · have hr : Hid (crcR s a = 0) := Lib.hid (by unfold crcR; rw [h]; rfl)
    go_enter Try.func20, Try.ntmps20
    go_wp2_with (go_at_call 28; refine (within64_any _ _ _ _).mono ?_; rintro e w' ⟨rfl, rfl⟩)
    go_ret
    exact ⟨ret_int hr.out.symm, rfl⟩
  · have hb := inB_iff.1 h
    obtain ⟨c, rfl⟩ := Int.eq_ofNat_of_zero_le hb.1
    have hr : crcR s c = (crcL s.data.toList c : Nat) := by unfold crcR; rw [if_pos h, Int.toNat_natCast]
    rw [hr]
    exact implCrc_in s c (by omega) hs w
theorem specCrc16_any (s : ByteArray) (a : Int) (hs : s.size ≤ maxLen) (w : World) : Calls Try.prog 19 #[.string s, .int .i64 a] w fun e w' => e = .returned (.int .i64 (crcR s a)) ∧ w = w' := by
  cases h : inB a 0 65535
  · have hr : Hid (crcR s a = 0) := Lib.hid (by unfold crcR; rw [h]; rfl)
    go_enter Try.func19, Try.ntmps19
    go_wp2_with (go_at_call 27; refine (l00In_any _ _ _ _).mono ?_; rintro e w' ⟨rfl, rfl⟩)
    go_ret
    exact ⟨ret_int hr.out.symm, rfl⟩
  · have hb := inB_iff.1 h
    obtain ⟨c, rfl⟩ := Int.eq_ofNat_of_zero_le hb.1
    have hr : crcR s c = (crcL s.data.toList c : Nat) := by unfold crcR; rw [if_pos h, Int.toNat_natCast]
    have hr' : Hid _ := Lib.hid hr
    clear hr
    go_enter Try.func19, Try.ntmps19
    go_wp2_with (first
      | (go_at_call 27; refine (l00In_any _ _ _ _).mono ?_; rintro e w' ⟨rfl, rfl⟩)
      | (go_at_call 37; refine (l01Crc_any s c (by omega) hs _).mono ?_; rintro e w' ⟨rfl, rfl⟩))
    go_ret
    exact ⟨ret_int hr'.out.symm, rfl⟩
end Go.Proofs.Ytpjdlfhbeelicaa
