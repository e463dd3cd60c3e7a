/-
  Contracts of ReadDecimal: the model's.
-/
import Derived.Test.YtnenccfmopjcjaaGreatDoorCore2
import Derived.Test.YtnenccfmopjcjaaGreatDoorReadMath
namespace Go.Proofs.YtnenccfmopjcjaaGreatDoor
open Go.ChangeShapes Go.WideShapes Go.ChangeAt Go.RowKit
set_option linter.unusedVariables false
set_option linter.unusedSimpArgs false

/-- number and true, or 0 and false -/
def optV (o : Option Int) : Value := match o with | none => .tuple #[.int .i64 0, .bool false] | some n => .tuple #[.int .i64 n, .bool true]
theorem at_cases (s : ByteArray) : (s.data.toList.headD 0 = 45 ∧ atD s.data.toList = 1) ∨ (s.data.toList.headD 0 ≠ 45 ∧ atD s.data.toList = 0) := by
  unfold atD
  by_cases h : s.data.toList.headD 0 = 45
  · left; exact ⟨h, by rw [if_pos h]⟩
  · right; exact ⟨h, by rw [if_neg h]⟩
theorem drop_len (s : ByteArray) (a : Nat) : (s.data.toList.drop a).length = s.size - a := by rw [List.length_drop, len_data]
theorem drop_head (s : ByteArray) (a : Nat) (h : a < s.size) : (s.data.toList.drop a).headD 0 = s[a] := by
  have hl : a < s.data.toList.length := by rw [len_data]; exact h
  rw [List.drop_eq_getElem_cons hl]; rfl
theorem drop_take_snoc (s : ByteArray) (a k : Nat) (h : a ≤ k) (hk : k < s.size) : (s.data.toList.drop a).take (k + 1 - a) = (s.data.toList.drop a).take (k - a) ++ [s[k]] := piece_snoc s a k h hk
theorem drop_take_all (s : ByteArray) (a : Nat) : (s.data.toList.drop a).take (s.size - a) = s.data.toList.drop a := by
  rw [List.take_of_length_le]; rw [drop_len]; exact Nat.le_refl _
theorem take_all_of {l : List UInt8} {k : Nat} (h : l.all db = true) : (l.take k).all db = true := by
  rw [List.all_eq_true] at h ⊢
  exact fun x hx => h x (List.mem_of_mem_take hx)
theorem drop_fail (s : ByteArray) (a k : Nat) (h : a ≤ k) (hk : k < s.size) (hc : db s[k] = false) : (s.data.toList.drop a).all db = false := by
  refine all_fail (c := s[k]) ?_ hc
  have hl : k - a < (s.data.toList.drop a).length := by rw [drop_len]; omega
  have e : s[k] = (s.data.toList.drop a)[k - a] := by
    rw [List.getElem_drop]
    have : a + (k - a) = k := by omega
    simp only [this]; rfl
  rw [e]; exact List.getElem_mem _

/-- behind the sign: the digits are read one by one -/
def numAt (s : ByteArray) (a k m : Nat) : Prop := ((s.data.toList.drop a).take (k - a)).all db = true ∧ m = valF 0 ((s.data.toList.drop a).take (k - a))
theorem numAt_start (s : ByteArray) (a : Nat) : numAt s a a 0 := by unfold numAt; rw [Nat.sub_self]; exact ⟨rfl, rfl⟩
theorem numAt_step {s : ByteArray} {a k m : Nat} (h : numAt s a k m) (ha : a ≤ k) (hk : k < s.size) (hc : db s[k] = true) : numAt s a (k + 1) (10 * m + (s[k].toNat - 48)) := by
  unfold numAt at h ⊢
  rw [drop_take_snoc s a k ha hk, valF_snoc, ← h.2]
  exact ⟨all_snoc h.1 hc, rfl⟩
theorem numAt_lt {s : ByteArray} {a k m : Nat} (h : numAt s a k m) (hl : k - a ≤ 18) : m < 1000000000000000000 := by
  rw [h.2]
  exact val_lt18 _ h.1 (Nat.le_trans (List.length_take_le _ _) hl)
theorem numAt_lt17 {s : ByteArray} {a k m : Nat} (h : numAt s a k m) (hl : k - a ≤ 17) : m < 100000000000000000 := by
  rw [h.2]
  have h1 := valF_lt _ h.1 0
  have h2 : ((s.data.toList.drop a).take (k - a)).length ≤ 17 := Nat.le_trans (List.length_take_le _ _) hl
  have h3 : 10 ^ ((s.data.toList.drop a).take (k - a)).length ≤ 10 ^ 17 := Nat.pow_le_pow_right (by omega) h2
  simp only [Nat.zero_add, Nat.one_mul] at h1
  omega
theorem numAt_end {s : ByteArray} {a m : Nat} (h : numAt s a s.size m) : (s.data.toList.drop a).all db = true ∧ m = valF 0 (s.data.toList.drop a) := by
  unfold numAt at h; rw [drop_take_all] at h; exact h

end Go.Proofs.YtnenccfmopjcjaaGreatDoor
