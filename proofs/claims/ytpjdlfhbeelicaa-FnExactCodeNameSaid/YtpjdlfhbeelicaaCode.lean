/-
  Contracts of CodeName, of the model and of the program.
-/
import Derived.Test.YtpjdlfhbeelicaaCore2
namespace Go.Proofs.Ytpjdlfhbeelicaa
open Go.ChangeShapes Go.WideShapes Go.ChangeAt Go.RowKit
set_option linter.unusedVariables false
set_option linter.unusedSimpArgs false
def codeL : List (List UInt8) := [[111, 107], [105, 110, 118, 97, 108, 105, 100], [114, 97, 110, 103, 101], [110, 111, 116, 45, 102, 111, 117, 110, 100], [101, 120, 105, 115, 116, 115], [102, 117, 108, 108], [115, 116, 97, 116, 101], [111, 114, 100, 101, 114], [115, 121, 110, 116, 97, 120], [102, 111, 114, 109, 97, 116], [99, 104, 101, 99, 107, 115, 117, 109], [116, 114, 117, 110, 99, 97, 116, 101, 100]]
def codeS (n : Int) : ByteArray := if inB n 0 11 then ⟨(codeL.getD n.toNat []).toArray⟩ else ⟨#[]⟩
theorem ret_str {a b : ByteArray} (h : a = b) : Ending.returned (.string a) = .returned (.string b) := by rw [h]

set_option maxHeartbeats 1000000 in
theorem specCodeName_any (n : Int) (w : World) : Calls Try.prog 10 #[.int .i64 n] w fun e w' => e = .returned (.string (codeS n)) ∧ Below w.heap.size w w' := by
  cases h : inB n 0 11
  · have hr : Hid (codeS n = ⟨#[]⟩) := Lib.hid (by unfold codeS; rw [h]; rfl)
    go_enter Try.func10, Try.ntmps10
    go_wp2_with (go_at_call 27; refine (l00In_any _ _ _ _).mono ?_; rintro e w' ⟨rfl, rfl⟩)
    go_ret
    exact ⟨ret_str hr.out.symm, by first | exact (Below.refl _ _).alloc (Nat.le_refl _) _ | trace_state⟩
  · have hb := inB_iff.1 h
    rcases (show n = 0 ∨ n = 1 ∨ n = 2 ∨ n = 3 ∨ n = 4 ∨ n = 5 ∨ n = 6 ∨ n = 7 ∨ n = 8 ∨ n = 9 ∨ n = 10 ∨ n = 11 by omega) with rfl | rfl | rfl | rfl | rfl | rfl | rfl | rfl | rfl | rfl | rfl | rfl
    all_goals
      clear hb
      go_enter Try.func10, Try.ntmps10
      go_wp2_with (go_at_call 27; refine (l00In_any _ _ _ _).mono ?_; rintro e w' ⟨rfl, rfl⟩)
      go_ret
      exact ⟨rfl, (Below.refl _ _).alloc (Nat.le_refl _) _⟩
set_option maxHeartbeats 1000000 in
theorem implCodeName_any (n : Int) (w : World) : Calls Try.prog 11 #[.int .i64 n] w fun e w' => e = .returned (.string (codeS n)) ∧ Below w.heap.size w w' := by
  cases h : inB n 0 11
  · have hr : Hid (codeS n = ⟨#[]⟩) := Lib.hid (by unfold codeS; rw [h]; rfl)
    go_enter Try.func11, Try.ntmps11
    go_wp2_with (go_at_call 28; refine (within64_any _ _ _ _).mono ?_; rintro e w' ⟨rfl, rfl⟩)
    go_ret
    exact ⟨ret_str hr.out.symm, by first | exact (Below.refl _ _).alloc (Nat.le_refl _) _ | trace_state⟩
  · have hb := inB_iff.1 h
    rcases (show n = 0 ∨ n = 1 ∨ n = 2 ∨ n = 3 ∨ n = 4 ∨ n = 5 ∨ n = 6 ∨ n = 7 ∨ n = 8 ∨ n = 9 ∨ n = 10 ∨ n = 11 by omega) with rfl | rfl | rfl | rfl | rfl | rfl | rfl | rfl | rfl | rfl | rfl | rfl
    all_goals
      clear hb
      go_enter Try.func11, Try.ntmps11
      go_wp2_with (go_at_call 28; refine (within64_any _ _ _ _).mono ?_; rintro e w' ⟨rfl, rfl⟩)
      go_ret
      exact ⟨rfl, (Below.refl _ _).alloc (Nat.le_refl _) _⟩
end Go.Proofs.Ytpjdlfhbeelicaa
