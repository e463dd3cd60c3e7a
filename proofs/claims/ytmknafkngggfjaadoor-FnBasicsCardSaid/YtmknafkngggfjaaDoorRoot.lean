/-
  Contracts of RootOf, of the model and of the program.
-/
import Derived.Test.YtmknafkngggfjaaDoorCore2
import Derived.Test.YtmknafkngggfjaaDoorRootMath
import Derived.Test.YtmknafkngggfjaaDoorShelf
namespace Go.Proofs.YtmknafkngggfjaaDoor
open Go.ChangeShapes Go.WideShapes Go.ChangeAt Go.RowKit
set_option linter.unusedVariables false
set_option linter.unusedSimpArgs false

theorem sq_cap {m : Int} (h0 : 0 ≤ m) (h1 : m ≤ 3037000499) : 0 ≤ m * m ∧ m * m ≤ 9223372030926249001 := by
  have := sq_lt h0 h1
  have := Int.mul_nonneg h0 h0
  omega
def rootInv (n low high : Int) : Prop := 0 ≤ low ∧ low ≤ high ∧ high ≤ 3037000499 ∧ (low = 0 ∨ low * low ≤ n) ∧ n < (high + 1) * (high + 1)
theorem rootInv_end {n r : Int} (h : rootInv n r r) : rootR n = r := by
  obtain ⟨h0, _, _, h3, h4⟩ := h
  rcases Int.lt_or_le n 0 with g | g
  · rw [rootR_neg n g]
    rcases h3 with h3 | h3
    · exact h3.symm
    · have := Int.mul_nonneg h0 h0; omega
  · refine rootR_eq n r g h0 ?_ h4
    rcases h3 with h3 | h3
    · subst h3; simpa using g
    · exact h3
theorem bitLenAux_le : ∀ f x : Nat, Lib.bitLenAux f x ≤ f
  | 0, _ => Nat.le_refl 0
  | f + 1, x => by
    unfold Lib.bitLenAux; split
    · omega
    · have := bitLenAux_le f (x / 2); omega
theorem bitLenAux_lt : ∀ f x : Nat, x < 2 ^ f → x < 2 ^ Lib.bitLenAux f x
  | 0, x, h => by simpa [Lib.bitLenAux] using h
  | f + 1, x, h => by
    unfold Lib.bitLenAux; split
    · rename_i h0; have := Nat.two_pow_pos 0; omega
    · have := bitLenAux_lt f (x / 2) (by rw [Nat.pow_succ] at h; omega)
      rw [Nat.add_comm, Nat.pow_succ]; omega
theorem bitLen63 (x : Nat) (h : x < 2 ^ 63) : Lib.bitLen x ≤ 63 := by
  unfold Lib.bitLen; rw [Lib.bitLenAux_fuel 63 x h 64 (by omega)]; exact bitLenAux_le 63 x
theorem bitLen_lt (x : Nat) (h : x < 2 ^ 63) : x < 2 ^ Lib.bitLen x := bitLenAux_lt 64 x (by omega)
/-- one round's state: k rounds are left -/
def bitInv (n r b : Int) (k : Nat) : Prop := b = bitK k ∧ r * r ≤ n ∧ n < (r + pw k) * (r + pw k) ∧ r + pw k ≤ 4294967296
theorem bitInv_start (n : Int) (L : Nat) (h0 : 0 ≤ n) (hL : L ≤ 63) (hlt : n < pw L) : bitInv n 0 (bitK (L / 2 + 1)) (L / 2 + 1) := by
  refine ⟨rfl, by simpa using h0, ?_, ?_⟩
  · rw [Int.zero_add]
    have : pw L ≤ pw (L / 2 + 1) * pw (L / 2 + 1) := by
      have e : pw (L / 2 + 1) * pw (L / 2 + 1) = pw (L / 2 + 1 + (L / 2 + 1)) := by
        unfold pw; rw [Nat.pow_add _ (L / 2 + 1) (L / 2 + 1), Int.natCast_mul]
      rw [e]; exact pw_le (by omega)
    omega
  · have := pw_le (i := L / 2 + 1) (k := 32) (by omega)
    have e : pw 32 = 4294967296 := by decide
    omega
theorem bitInv_pos {n r b : Int} {k : Nat} (h : bitInv n r b k) (hb : 0 < b) : ∃ j, k = j + 1 ∧ b = pw j ∧ r + 2 * b ≤ 4294967296 := by
  cases k with
  | zero => have := h.1; change b = 0 at this; omega
  | succ j =>
    have e : b = pw j := h.1
    have := h.2.2.2; rw [pw_succ, ← e] at this
    exact ⟨j, rfl, e, this⟩
theorem bitInv_take {n r b : Int} {k : Nat} (h : bitInv n r b k) (hb : 0 < b) (ht : (r + b) * (r + b) ≤ n) : ∃ j, bitInv n (r + b) (b / 2) j := by
  obtain ⟨j, rfl, e, _⟩ := bitInv_pos h hb
  refine ⟨j, ?_, ht, ?_, ?_⟩
  · rw [h.1]; exact bitK_half j
  · have := h.2.2.1; rw [pw_succ] at this; rw [e]
    have e2 : r + 2 * pw j = r + pw j + pw j := by omega
    rwa [e2] at this
  · have := h.2.2.2; rw [pw_succ] at this; omega
theorem bitInv_skip {n r b : Int} {k : Nat} (h : bitInv n r b k) (hb : 0 < b) (ht : n < (r + b) * (r + b)) : ∃ j, bitInv n r (b / 2) j := by
  obtain ⟨j, rfl, e, _⟩ := bitInv_pos h hb
  refine ⟨j, ?_, h.2.1, ?_, ?_⟩
  · rw [h.1]; exact bitK_half j
  · rw [← e]; exact ht
  · have := h.2.2.2; rw [pw_succ] at this; have := pw_pos j; omega
theorem bitInv_done {n r b : Int} {k : Nat} (hr : 0 ≤ r) (h : bitInv n r b k) (hb : b = 0) : rootR n = r := by
  cases k with
  | zero => exact rootR_eq n r (by have := Int.mul_nonneg hr hr; have := h.2.1; omega) hr h.2.1 h.2.2.1
  | succ j => have := h.1; change b = pw j at this; have := pw_pos j; omega
theorem sq_cap2 {m : Int} (h0 : 0 ≤ m) (h1 : m ≤ 4294967295) : 0 ≤ m * m ∧ m * m ≤ 18446744065119617025 := by
  have := sq_lt h0 h1
  have := Int.mul_nonneg h0 h0
  omega
theorem pow_bit (L : Nat) (hL : L ≤ 63) : Value.int IntKind.u64 (IntKind.u64.wrap (2 ^ (L / 2))) = .int .u64 (bitK (L / 2 + 1)) := by
  have h := pw_le (i := L / 2) (k := 31) (by omega)
  have h0 := pw_pos (L / 2)
  have e : pw 31 = 2147483648 := by decide
  have e2 : (2 : Int) ^ (L / 2) = pw (L / 2) := by unfold pw; simp
  rw [e2, IntWalk.u64_in _ (by omega)]; rfl

set_option maxHeartbeats 1000000 in
theorem implRoot_at (n : Int) (L : Nat) (h0 : 0 ≤ n) (hn : n ≤ 9223372036854775807) (hL : L ≤ 63) (hlt : n < pw L) (w : World)
    (hc : ∀ w : World, Calls Tryd.prog 18 #[.int .u64 n] w fun e w' => e = .returned (.int .i64 L) ∧ w = w') :
    Calls Tryd.prog 6 #[.int .i64 n] w fun e w' => e = .returned (.int .i64 (rootR n)) ∧ w = w' := by
  have hu : IntKind.u64.wrap n = n := IntWalk.u64_in n (by omega)
  have hlt' : Hid _ := Lib.hid hlt
  clear hlt
  go_enter Tryd.func6, Tryd.ntmps6
  go_wp2_with (go_at_call 18; refine (hc _).mono ?_; rintro e w' ⟨rfl, rfl⟩)
  clear hu
  go_loop [4, 5] (fun x y => ∃ r b : Int, x = .int .u64 r ∧ y = .int .u64 b ∧ 0 ≤ r ∧ r ≤ 4294967296 ∧ 0 ≤ b ∧ b ≤ 4294967296 ∧ Hid (∃ k, bitInv n r b k)) (fun _ y => (intOf y).toNat)
  case atStart =>
    have e := pow_bit L hL
    have h1 := pw_le (i := L / 2) (k := 31) (by omega)
    have h2 := pw_pos (L / 2)
    have h3 : pw 31 = 2147483648 := by decide
    exact ⟨0, bitK (L / 2 + 1), rfl, e, by omega, by omega, by show 0 ≤ pw (L / 2); omega, by show pw (L / 2) ≤ _; omega, Lib.hid ⟨_, bitInv_start n L h0 hL hlt'.out⟩⟩
  case round =>
    obtain ⟨r, b, rfl, rfl, hr0, hr1, hb0, hb1, hi⟩ := hrel
    by_cases hb : 0 < b
    · have hcap : r + 2 * b ≤ 4294967296 := by
        obtain ⟨k, hk⟩ := hi.out
        obtain ⟨j, _, _, h⟩ := bitInv_pos hk hb
        exact h
      have hs := sq_cap2 (m := r + b) (by omega) (by omega)
      by_cases ht : (r + b) * (r + b) ≤ n
      · go_wp2
        go_round
        case rel => exact ⟨r + b, b / 2, rfl, rfl, by omega, by omega, by omega, by omega, Lib.hid (by obtain ⟨k, hk⟩ := hi.out; exact bitInv_take hk hb ht)⟩
        case measure => simp [intOf]; omega
      · go_wp2
        go_round
        case rel => exact ⟨r, b / 2, rfl, rfl, by omega, by omega, by omega, by omega, Lib.hid (by obtain ⟨k, hk⟩ := hi.out; exact bitInv_skip hk hb (by omega))⟩
        case measure => simp [intOf]; omega
    · go_wp2
      go_ret
      exact ⟨ret_int (by obtain ⟨k, hk⟩ := hi.out; exact (bitInv_done hr0 hk (by omega)).symm), rfl⟩
theorem implRootOf_any (n : Int) (hn : n ≤ 9223372036854775807) (w : World) : Calls Tryd.prog 6 #[.int .i64 n] w fun e w' => e = .returned (.int .i64 (rootR n)) ∧ w = w' := by
  rcases Int.lt_or_le n 0 with h | h
  · have hr : Hid (rootR n = 0) := Lib.hid (rootR_neg n h)
    go_enter Tryd.func6, Tryd.ntmps6
    go_wp2
    go_ret
    exact ⟨ret_int hr.out.symm, rfl⟩
  · have h63 : n.toNat < 2 ^ 63 := by omega
    refine implRoot_at n (Lib.bitLen n.toNat) h hn (bitLen63 _ h63) ?_ w (fun w => (Tryd.bits_Len64 n w h (by omega)).mono fun _ _ ⟨he, hw⟩ => ⟨he, hw.symm⟩)
    have := bitLen_lt _ h63
    unfold pw; omega
end Go.Proofs.YtmknafkngggfjaaDoor
