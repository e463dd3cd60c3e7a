/-
  Plain lemmas on bytes and lists of bytes. Nothing of the program stands here.
-/
import Derived.Test.YtmppaimcejcoiaaMath1
namespace Go.Proofs.Ytmppaimcejcoiaa
theorem take_snoc (s : ByteArray) (k : Nat) (h : k < s.size) : s.data.toList.take (k + 1) = s.data.toList.take k ++ [s[k]] := by
  rw [List.take_succ_eq_append_getElem (by simpa using h)]; rfl
theorem len_data (s : ByteArray) : s.data.toList.length = s.size := rfl
theorem take_all (s : ByteArray) : s.data.toList.take s.size = s.data.toList := by
  exact List.take_of_length_le (Nat.le_of_eq (len_data s))
theorem mem_at (s : ByteArray) (k : Nat) (h : k < s.size) : s[k] ∈ s.data.toList := by
  have : s[k] = s.data.toList[k]'(by rw [len_data]; exact h) := rfl
  rw [this]; exact List.getElem_mem _

/-- a small letter; a letter or a digit; a name -/
def lb (c : UInt8) : Bool := inB c.toNat 97 122
def db (c : UInt8) : Bool := inB c.toNat 48 57
def ldb (c : UInt8) : Bool := lb c || db c
def nameL (l : List UInt8) : Bool := decide (1 ≤ l.length ∧ l.length ≤ 10) && lb (l.headD 0) && l.all ldb
theorem all_fail {l : List UInt8} {p : UInt8 → Bool} {c : UInt8} (h : c ∈ l) (hc : p c = false) : l.all p = false := by
  rw [List.all_eq_false]; exact ⟨c, h, by simp [hc]⟩
theorem all_snoc {l : List UInt8} {p : UInt8 → Bool} {c : UInt8} (h : l.all p = true) (hc : p c = true) : (l ++ [c]).all p = true := by
  rw [List.all_append, h]; simp [hc]
theorem head_at (s : ByteArray) (h : 0 < s.size) : s.data.toList.headD 0 = s[0] := by
  rcases s with ⟨⟨l⟩⟩
  cases l with
  | nil => exact absurd h (Nat.lt_irrefl 0)
  | cons a t => rfl
theorem lb_of (c : UInt8) : inB (c.toNat : Int) 97 122 = lb c := rfl
theorem db_of (c : UInt8) : inB (c.toNat : Int) 48 57 = db c := rfl
theorem u8_bd (c : UInt8) : 0 ≤ (c.toNat : Int) ∧ (c.toNat : Int) ≤ 255 := by have := c.toNat_lt; omega
end Go.Proofs.Ytmppaimcejcoiaa
