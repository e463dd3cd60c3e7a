/-
  Contracts of the writers of texts of chapter 2: a builder of the call's own, digits with leading zeros, sixties.
-/
import Derived.Test.YtjgpckocmjolmaaGreatDoorTabs
import Derived.Test.YtjgpckocmjolmaaGreatDoorDec
import Derived.Test.YtjgpckocmjolmaaGreatDoorPartsMath
import Derived.Test.YtjgpckocmjolmaaGreatDoorUnits
import Derived.Test.YtjgpckocmjolmaaGreatDoorBuild
namespace Go.Proofs.YtjgpckocmjolmaaGreatDoor
open Go.ChangeShapes Go.WideShapes Go.ChangeAt Go.RowKit
set_option linter.unusedVariables false
set_option linter.unusedSimpArgs false
theorem str_all {P : Program} {f : FuncId} {args : Array Value} {l : List UInt8} {C : World → Prop} (h : ∀ W, C W → Calls P f args W (StrRet l W)) :
    ∃ D : ByteArray, D.data.toList = l ∧ D.size = l.length ∧ Hid (∀ W, C W → Calls P f args W fun e w' => e = .returned (.string D) ∧ Below W.heap.size W w') := ⟨⟨l.toArray⟩, rfl, by rw [← len_data], Lib.hid h⟩
theorem str_ret {D : ByteArray} {l : List UInt8} {w w' : World} (h : D.data.toList = l) (hb : Below w.heap.size w w') : StrRet l w (.returned (.string D)) w' := ⟨by rw [bytes_of D l h], hb⟩
theorem cat_data (a b : ByteArray) : (a ++ b).data.toList = a.data.toList ++ b.data.toList := by rw [ByteArray.data_append, Array.toList_append]
theorem cat_size (a b : ByteArray) : (a ++ b).size = a.size + b.size := by rw [← len_data, cat_data, List.length_append, len_data, len_data]
/-! ### the model's -/
theorem itoa_len10 (n : Int) (h0 : 10 ≤ n) : 2 ≤ (Lib.itoa n).length := by
  obtain ⟨k, rfl⟩ := Int.eq_ofNat_of_zero_le (show 0 ≤ n by omega)
  rw [itoa_pos k (by omega)]
  exact digs_ge 1 k (by omega)
theorem padL_two (n : Int) (h : 10 ≤ n) : padL 2 n = Lib.itoa n := by
  have := itoa_len10 n h
  unfold padL; rw [show 2 - (Lib.itoa n).length = 0 by omega]; rfl
theorem padL_one (n : Int) (h : 0 ≤ n) (h1 : n < 10) : padL 2 n = 48 :: Lib.itoa n := by
  unfold padL; rw [itoa_len1 n h h1]; rfl
theorem padL_len_le (n : Int) (h0 : 0 ≤ n) (h1 : n ≤ 1000000000000) : (padL 2 n).length ≤ 21 := by
  by_cases h : n < 10
  · rw [padL_one n h0 h, List.length_cons, itoa_len1 n h0 h]; omega
  · rw [padL_two n (by omega)]; exact itoa_len ⟨by omega, by omega⟩
theorem clock_pads (n : Int) (h0 : 0 ≤ n) (h1 : n ≤ 1439) : padL 2 (n / 60) ++ 58 :: padL 2 (n % 60) = clockT n := by
  obtain ⟨k, rfl⟩ := Int.eq_ofNat_of_zero_le h0
  unfold clockT; rw [if_pos ⟨h0, h1⟩]
  show padL 2 ((k / 60 : Nat) : Int) ++ 58 :: padL 2 ((k % 60 : Nat) : Int) = clockL k
  rw [padL_dN 2 _ (by omega) (by omega), padL_dN 2 _ (by omega) (by omega)]; rfl
theorem lap_pads (n : Int) (h0 : 0 ≤ n) (h1 : n ≤ 1000000000) : Lib.itoa (n / 60) ++ 58 :: padL 2 (n % 60) = lapT n := by
  obtain ⟨k, rfl⟩ := Int.eq_ofNat_of_zero_le h0
  unfold lapT; rw [if_pos ⟨h0, h1⟩]
  show Lib.itoa ((k / 60 : Nat) : Int) ++ 58 :: padL 2 ((k % 60 : Nat) : Int) = lapL k
  rw [padL_dN 2 _ (by omega) (by omega)]; rfl
/-! ### the program's: a builder -/
theorem ownF_kept {w w' : World} {B e size n : Nat} {v : Value} {xs : List Value} (h : w.ownsRowF B e size v n xs) (hb : Below w.heap.size w w') : w'.ownsRowF B e size v n xs :=
  h.kept (below_grown' hb none) (by cases v.ownBlock <;> simp)
theorem atF_below {T e : TypeId} {B b : Nat} {p : Value} {bs : List Value} {w w' : World} (h : Lib.BuilderAtF T e B b p bs w) (hb : Below w.heap.size w w') : Lib.BuilderAtF T e B b p bs w' := by
  have hlt := h.lt
  obtain ⟨hB, v, hc, hown, hne⟩ := h
  exact ⟨hB, v, (hb.block b hlt).trans hc, ownF_kept hown hb, hne⟩
/-- a builder of the call's own, which holds these bytes -/
def BuB (B b : Nat) (l : List UInt8) (w : World) : Prop := Lib.IsBuilderF 63 5 B b (Lib.byteCells l) w
theorem BuB.below {B b : Nat} {l : List UInt8} {w w' : World} (h : BuB B b l w) (hb : Below w.heap.size w w') : BuB B b l w' :=
  h.elim (fun x => .inl (atF_below x hb)) (fun x => .inr (atF_below x hb))
theorem BuB.start (w : World) : BuB w.heap.size w.heap.size [] (w.alloc (.cells #[.pointer none, .slice none 0 0] 63)) := Lib.IsBuilderF.of (Lib.fresh_isBuilder _ _ w)
theorem writeByte_any (B b : Nat) (l : List UInt8) (c : UInt8) (z : Int) (hz : z = (c.toNat : Int)) (w : World) (h : BuB B b l w) (hl : l.length ≤ 1000000) (hB : B ≤ w.heap.size) :
    Calls Tryz.prog 44 #[.pointer (some ⟨b, 0, none⟩), .int .u8 z] w fun e w' => e = .returned .nilIface ∧ BuB B b (l ++ [c]) w' ∧ Below B w w' := by
  subst hz
  exact (buWriteByte B b _ (c.toNat : Int) w h (by rw [Lib.byteCells_length]; omega) hB).mono fun e w' ⟨he, h1, h2⟩ => ⟨he, Or.inr (by rw [Lib.byteCells_append]; exact h1), h2⟩
theorem writeString_any (B b : Nat) (l : List UInt8) (s : ByteArray) (w : World) (h : BuB B b l w) (hl : l.length + s.size ≤ 1000000) (hB : B ≤ w.heap.size) :
    Calls Tryz.prog 63 #[.pointer (some ⟨b, 0, none⟩), .string s] w fun e w' => e = .returned (.tuple #[.int .i64 s.size, .nilIface]) ∧ BuB B b (l ++ s.data.toList) w' ∧ Below B w w' :=
  (buWriteString B b _ s w h (by rw [Lib.byteCells_length]; omega) hB).mono fun e w' ⟨he, h1, h2⟩ => ⟨he, Or.inr (by rw [Lib.byteCells_append]; exact h1), h2⟩
theorem string_any (B b : Nat) (l : List UInt8) (w : World) (h : BuB B b l w) (hB : B ≤ w.heap.size) :
    Calls Tryz.prog 45 #[.pointer (some ⟨b, 0, none⟩)] w fun e w' => e = .returned (.string ⟨l.toArray⟩) ∧ BuB B b l w' ∧ Below B w w' :=
  (Tryz.Builder_String_any_k B b l w h hB).mono fun e w' ⟨he, h1, h2, _⟩ => ⟨he, h1, h2⟩
theorem idec_all (n : Int) (h0 : 0 ≤ n) (h1 : n ≤ 1000000000000) : ∃ D : ByteArray, D.data.toList = Lib.itoa n ∧ D.size ≤ 21 ∧ D.size = (Lib.itoa n).length ∧ Hid (∀ W, TabP W → Calls Tryz.prog 58 #[.int .i64 n] W fun e w' => e = .returned (.string D) ∧ Below W.heap.size W w') := by
  obtain ⟨D, hD, hl, hc⟩ := str_all (C := TabP) (fun W hT => implDecimal_any n (by omega) (by omega) W hT)
  have := itoa_len (n := n) ⟨by omega, by omega⟩
  exact ⟨D, hD, by omega, hl, hc⟩
end Go.Proofs.YtjgpckocmjolmaaGreatDoor
