/-
  Plain arithmetic for check values of 16 bits. Nothing of the program stands here.
-/
import Derived.Test.YtpjdlfhbeelicaaBytes
namespace Go.Proofs.Ytpjdlfhbeelicaa
def crc1 (c : Nat) : Nat := if 65535 < 2 * c then ((2 * c) &&& 65535) ^^^ 4129 else 2 * c
def crcK : Nat → Nat → Nat
  | 0, c => c
  | k + 1, c => crc1 (crcK k c)
def crcB (c : Nat) (b : UInt8) : Nat := crcK 8 (c ^^^ (b.toNat * 256))
def crcL (l : List UInt8) (c : Nat) : Nat := l.foldl crcB c
theorem crc1_lt (c : Nat) : crc1 c < 65536 := by
  unfold crc1; split
  · exact Nat.xor_lt_two_pow (n := 16) (Nat.and_lt_two_pow _ (by omega)) (by omega)
  · omega
theorem crcK_lt (k c : Nat) (h : c < 65536) : crcK k c < 65536 := by
  cases k with
  | zero => exact h
  | succ k => exact crc1_lt _
theorem crcX_lt (c : Nat) (b : UInt8) (h : c < 65536) : c ^^^ (b.toNat * 256) < 65536 :=
  Nat.xor_lt_two_pow (n := 16) h (by have := b.toNat_lt; omega)
theorem crcB_lt (c : Nat) (b : UInt8) (h : c < 65536) : crcB c b < 65536 := crcK_lt 8 _ (crcX_lt c b h)
theorem crcL_nil (c : Nat) : crcL [] c = c := rfl
theorem crcL_cons (b : UInt8) (l : List UInt8) (c : Nat) : crcL (b :: l) c = crcL l (crcB c b) := by
  unfold crcL; rw [List.foldl_cons]
theorem crcL_snoc (l : List UInt8) (b : UInt8) (c : Nat) : crcL (l ++ [b]) c = crcB (crcL l c) b := by
  unfold crcL; rw [List.foldl_append, List.foldl_cons, List.foldl_nil]
theorem crcL_lt (l : List UInt8) (c : Nat) (h : c < 65536) : crcL l c < 65536 := by
  induction l generalizing c with
  | nil => exact h
  | cons b l ih => rw [crcL_cons]; exact ih _ (crcB_lt c b h)
theorem crc1_hi (c : Nat) (h : 65535 < 2 * c) : crc1 c = ((2 * c) &&& 65535) ^^^ 4129 := by unfold crc1; rw [if_pos h]
theorem crc1_lo (c : Nat) (h : ¬ 65535 < 2 * c) : crc1 c = 2 * c := by unfold crc1; rw [if_neg h]
end Go.Proofs.Ytpjdlfhbeelicaa
