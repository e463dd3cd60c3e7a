/-
  Contracts of the law's own helpers: marks, marked rows, rows held against one another.
-/
import Derived.Test.YtjnpladpegmiiaaSplit
import Derived.Test.YtjnpladpegmiiaaDigMath
import Derived.Deep.RegionHeld3
import Derived.Deep.DeepCutAuto
namespace Go.Proofs.Ytjnpladpegmiiaa
open Go.ChangeShapes Go.WideShapes Go.ChangeAt Go.RowKit
set_option linter.unusedVariables false
set_option linter.unusedSimpArgs false

theorem digs_size (n k : Nat) (S : ByteArray) (hn : n ≤ 9223372036854775807) (h : digsN n = digsN k ++ S.data.toList) : S.size ≤ 19 := by
  have h1 := digsN_len 19 n (by omega)
  rw [h, List.length_append, len_data] at h1
  omega

set_option maxHeartbeats 1600000 in
theorem markText_any (n : Nat) (hn : n ≤ 9223372036854775807) (h0 : 0 < n) (w : World) :
    Calls Try.prog 58 #[.int .i64 n] w fun e w' => e = .returned (.string ⟨(109 :: digsN n).toArray⟩) ∧ Below w.heap.size w w' := by
  go_enter Try.func58, Try.ntmps58
  go_wp2
  go_loopw [0, 3] (fun i v wr => ∃ (k : Nat) (S : ByteArray), k ≤ 9223372036854775807 ∧ i = .int .i64 k ∧ v = .string S ∧ Below w.heap.size w wr ∧ Hid (digsN n = digsN k ++ S.data.toList)) (fun i _ _ => (intOf i).toNat)
  case atStart => exact ⟨n, ⟨#[]⟩, hn, rfl, rfl, Below.refl _ _, Lib.hid (by simp)⟩
  case round =>
    obtain ⟨k, S, hk, rfl, rfl, hbel, hd⟩ := hrel
    have hS := digs_size n k S hn hd.out
    by_cases hlt : 0 < k
    · obtain ⟨c, hc⟩ : ∃ c : UInt8, c = UInt8.ofNat (48 + k % 10) := ⟨_, rfl⟩
      have hcn : (c.toNat : Int) = 48 + (k : Int) % 10 := by rw [hc, UInt8.toNat_ofNat']; omega
      have kc : (convert 90 9 (.slice (some ⟨wr.heap.size, 0, none⟩) 1 1)).run Try.prog (wr.alloc (.cells #[.int .u8 (48 + (k : Int) % 10)] 5)) = .ok (.string ⟨#[c]⟩) (wr.alloc (.cells #[.int .u8 (48 + (k : Int) % 10)] 5)) :=
        run_convert_bytes_back (P := Try.prog) (wr.alloc (.cells #[.int .u8 (48 + (k : Int) % 10)] 5)) 90 9 5 ⟨wr.heap.size, 0, none⟩ 1 [c] Try.underlying90 Try.underlying5 Try.underlying9
          (fun j hj => by
            have : j = 0 := by simpa using hj
            subst this
            rw [← hcn]; simp [Addr.add])
      have hd2 : Hid (digsN n = digsN (k / 10) ++ (⟨#[c]⟩ ++ S : ByteArray).data.toList) := Lib.hid (by
        rw [hd.out, digsN_pos k hlt, ← hc, ByteArray.data_append]; simp)
      clear hc hcn hd
      go_wp2
      go_roundw
      case rel => exact ⟨k / 10, ⟨#[c]⟩ ++ S, by omega, by go_num, rfl, hbel.alloc hbel.size _, hd2⟩
      case measure => simp [intOf]; omega
    · have hz : Hid (digsN n = S.data.toList) := Lib.hid (by
        have : k = 0 := by omega
        subst this; have := hd.out; rwa [digsN_zero] at this)
      clear hd
      go_wp2
      go_ret
      exact ⟨congrArg Ending.returned (congrArg Value.string (bytes_of _ _ (by rw [ByteArray.data_append, hz.out]; simp))), hbel⟩

def markB (k : Nat) : ByteArray := ⟨(109 :: digsN k).toArray⟩
theorem markText_v (n : Nat) (hn : n ≤ 9223372036854775807) (h0 : 0 < n) (w : World) :
    Calls Try.prog 58 #[.int .i64 n] w fun e w' => e = .returned (.string (markB n)) ∧ Below w.heap.size w w' := markText_any n hn h0 w

/-- a row's cells: the first j are marks, k0 and on -/
def markRow (xs : List Value) (k0 j : Nat) : List Value := (List.range j).map (fun i => Value.string (markB (k0 + i))) ++ xs.drop j
theorem markRow_zero (xs : List Value) (k0 : Nat) : markRow xs k0 0 = xs := by simp [markRow]
theorem markRow_set (xs : List Value) (k0 j : Nat) (h : j < xs.length) : (markRow xs k0 j).set j (.string (markB (k0 + j))) = markRow xs k0 (j + 1) := by
  unfold markRow
  have e : (xs.drop j).set 0 (.string (markB (k0 + j))) = .string (markB (k0 + j)) :: xs.drop (j + 1) := by rw [List.drop_eq_getElem_cons h]; rfl
  rw [List.set_append_right _ _ (by simp)]
  simp [List.range_succ, e]
theorem markRow_len (xs : List Value) (k0 j : Nat) (h : j ≤ xs.length) : (markRow xs k0 j).length = xs.length := by simp [markRow]; omega
theorem markRow_all (xs : List Value) (k0 : Nat) : markRow xs k0 xs.length = (List.range xs.length).map (fun i => Value.string (markB (k0 + i))) := by simp [markRow]

end Go.Proofs.Ytjnpladpegmiiaa
