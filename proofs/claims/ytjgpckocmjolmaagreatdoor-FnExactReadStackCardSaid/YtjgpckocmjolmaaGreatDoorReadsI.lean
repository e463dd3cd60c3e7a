/-
  Contracts of the program's readers of chapter 2.
-/
import Derived.Test.YtjgpckocmjolmaaGreatDoorPartsI
import Derived.Test.YtjgpckocmjolmaaGreatDoorText5
import Derived.Deep.QuietTactic
import Derived.BigQuiet
namespace Go.Proofs.YtjgpckocmjolmaaGreatDoor
open Go.ChangeShapes Go.WideShapes Go.ChangeAt Go.RowKit
set_option linter.unusedVariables false
set_option linter.unusedSimpArgs false
theorem str_ne {A B : ByteArray} (h : A.data.toList ≠ B.data.toList) : (A.toList == B.toList) = false := by
  rw [beq_eq_false_iff_ne]; intro e
  rw [ByteArray.toList_eq, ByteArray.toList_eq] at e
  exact h e
theorem str_eq {A B : ByteArray} (h : A.data.toList = B.data.toList) : A = B := (bytes_of A _ h).trans (bytes_of B _ rfl).symm
def backR (n : Int) (A B : ByteArray) : Option Int := if A.data.toList = B.data.toList then some n else none
theorem readBack_any (n : Int) (A B : ByteArray) (w : World) : Calls Tryz.prog 20 #[.int .i64 n, .string A, .string B] w fun e w' => e = .returned (optV (backR n A B)) ∧ w = w' := by
  by_cases h : A.data.toList = B.data.toList
  · have e := str_eq h
    subst e
    have hr : Hid (optV (backR n A A) = .tuple #[.int .i64 n, .bool true]) := Lib.hid (by unfold backR; rw [if_pos rfl]; rfl)
    clear h
    go_enter Tryz.func20, Tryz.ntmps20
    go_wp2
    go_ret2
    exact ⟨congrArg Ending.returned hr.out.symm, rfl⟩
  · have hr : Hid (optV (backR n A B) = .tuple #[.int .i64 0, .bool false]) := Lib.hid (by unfold backR; rw [if_neg h]; rfl)
    have hne := str_ne h
    clear h
    go_enter Tryz.func20, Tryz.ntmps20
    go_wp2
    go_ret2
    exact ⟨congrArg Ending.returned hr.out.symm, rfl⟩
theorem row_two {w : World} {B : Nat} {v : Value} {a b : Int} (h : w.ownsRow B 2 1 v 2 [.int .i64 a, .int .i64 b]) : ∃ g cap, v = .slice (some ⟨g, 0, none⟩) 2 cap ∧ 2 ≤ cap ∧ w.cell? ⟨g, 0, none⟩ = some (.int .i64 a) ∧ w.cell? ⟨g, 1, none⟩ = some (.int .i64 b) := by
  have h0 := h
  rcases h.2 with ⟨h1, h2⟩ | ⟨g, cap, cur, hv, hg, hb, hn, hcap, _, _⟩
  · omega
  · subst hv
    exact ⟨g, cap, rfl, hn, by rw [h0.cellAt 0 (by omega)]; rfl, by rw [h0.cellAt 1 (by omega)]; rfl⟩
theorem row_three {w : World} {B : Nat} {v : Value} {a b c : Int} (h : w.ownsRow B 2 1 v 3 [.int .i64 a, .int .i64 b, .int .i64 c]) : ∃ g cap, v = .slice (some ⟨g, 0, none⟩) 3 cap ∧ 3 ≤ cap ∧ w.cell? ⟨g, 0, none⟩ = some (.int .i64 a) ∧ w.cell? ⟨g, 1, none⟩ = some (.int .i64 b) ∧ w.cell? ⟨g, 2, none⟩ = some (.int .i64 c) := by
  have h0 := h
  rcases h.2 with ⟨h1, h2⟩ | ⟨g, cap, cur, hv, hg, hb, hn, hcap, _, _⟩
  · omega
  · subst hv
    exact ⟨g, cap, rfl, hn, by rw [h0.cellAt 0 (by omega)]; rfl, by rw [h0.cellAt 1 (by omega)]; rfl, by rw [h0.cellAt 2 (by omega)]; rfl⟩
theorem rpL_cases (c : UInt8) (l : List UInt8) : rpL c 2 l = none ∨ ∃ a b : Nat, a ≤ 4294967295 ∧ b ≤ 4294967295 ∧ rpL c 2 l = some [a, b] := by
  cases h : rpL c 2 l with
  | none => exact Or.inl rfl
  | some Z =>
    unfold rpL at h
    split at h
    · rename_i hl
      have h1 := rpAll_len h
      rw [hl] at h1
      have h2 := rpAll_le h
      match Z, h1 with
      | [a, b], _ => exact Or.inr ⟨a, b, h2 a (by simp), h2 b (by simp), rfl⟩
    · cases h
theorem rpL_cases3 (c : UInt8) (l : List UInt8) : rpL c 3 l = none ∨ ∃ a b d : Nat, a ≤ 4294967295 ∧ b ≤ 4294967295 ∧ d ≤ 4294967295 ∧ rpL c 3 l = some [a, b, d] := by
  cases h : rpL c 3 l with
  | none => exact Or.inl rfl
  | some Z =>
    unfold rpL at h
    split at h
    · rename_i hl
      have h1 := rpAll_len h
      rw [hl] at h1
      have h2 := rpAll_le h
      match Z, h1 with
      | [a, b, d], _ => exact Or.inr ⟨a, b, d, h2 a (by simp), h2 b (by simp), h2 d (by simp), rfl⟩
    · cases h
/-- what the reader of parts hands back, opened -/
theorem parts_none {c : UInt8} {m : Nat} {l : List UInt8} {w w' : World} {e : Ending} (h : LRet ((rpL c m l).map upI) w e w') (hn : rpL c m l = none) : e = .returned (.tuple #[.slice none 0 0, .bool false]) ∧ Below w.heap.size w w' := by rw [hn] at h; exact h
theorem parts_two {c : UInt8} {l : List UInt8} {a b : Nat} {w w' : World} {e : Ending} (h : LRet ((rpL c 2 l).map upI) w e w') (hn : rpL c 2 l = some [a, b]) : ∃ g cap, e = .returned (.tuple #[.slice (some ⟨g, 0, none⟩) 2 cap, .bool true]) ∧ 2 ≤ cap ∧ w'.cell? ⟨g, 0, none⟩ = some (.int .i64 (a : Int)) ∧ w'.cell? ⟨g, 1, none⟩ = some (.int .i64 (b : Int)) ∧ Below w.heap.size w w' := by
  rw [hn] at h
  obtain ⟨v, he, ho, hb⟩ := h
  obtain ⟨g, cap, rfl, hc, c0, c1⟩ := row_two (a := (a : Int)) (b := (b : Int)) ho
  exact ⟨g, cap, he, hc, c0, c1, hb⟩
theorem parts_three {c : UInt8} {l : List UInt8} {a b d : Nat} {w w' : World} {e : Ending} (h : LRet ((rpL c 3 l).map upI) w e w') (hn : rpL c 3 l = some [a, b, d]) : ∃ g cap, e = .returned (.tuple #[.slice (some ⟨g, 0, none⟩) 3 cap, .bool true]) ∧ 3 ≤ cap ∧ w'.cell? ⟨g, 0, none⟩ = some (.int .i64 (a : Int)) ∧ w'.cell? ⟨g, 1, none⟩ = some (.int .i64 (b : Int)) ∧ w'.cell? ⟨g, 2, none⟩ = some (.int .i64 (d : Int)) ∧ Below w.heap.size w w' := by
  rw [hn] at h
  obtain ⟨v, he, ho, hb⟩ := h
  obtain ⟨g, cap, rfl, hc, c0, c1, c2⟩ := row_three (a := (a : Int)) (b := (b : Int)) (c := (d : Int)) ho
  exact ⟨g, cap, he, hc, c0, c1, c2, hb⟩
end Go.Proofs.YtjgpckocmjolmaaGreatDoor
