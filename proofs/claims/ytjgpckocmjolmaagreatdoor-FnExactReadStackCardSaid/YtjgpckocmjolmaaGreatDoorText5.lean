/-
  Contracts of the texts of chapter 2: the model's numbers with places, both sides' lengths.
-/
import Derived.Test.YtjgpckocmjolmaaGreatDoorText4
namespace Go.Proofs.YtjgpckocmjolmaaGreatDoor
open Go.ChangeShapes Go.WideShapes Go.ChangeAt Go.RowKit
set_option linter.unusedVariables false
set_option linter.unusedSimpArgs false
/-! ### lengths -/
theorem lenT_pos {n : Int} (h0 : 0 ≤ n) (h1 : n ≤ 1000000000) : lenT n = fixT n 1 ++ mmL := by
  rw [lenT_ne ⟨h0, h1⟩]
  have := fixT_full (n := n) (p := 1) (by omega) (by omega)
  rw [show ((1 : Nat) : Int) = 1 from rfl] at this
  rw [this]
theorem lenT_no {n : Int} (h : inB n 0 1000000000 = false) : lenT n = [] := by
  unfold lenT; rw [if_neg]; intro hc; rw [inB_iff.2 hc] at h; cases h
theorem fixT_le (n : Int) (h0 : 0 ≤ n) (h1 : n ≤ 1000000000) : (fixT n 1).length ≤ 100 := by
  have hp := fixT_pos n 1 h0 h1 (by omega) (by omega)
  have hd := div_le_self' n h0 1
  have hm := mod_lt_ten n h0 1
  have ht := tenV_bd (j := 1) (by omega)
  have l1 := itoa_len (n := n / tenV 1) ⟨by omega, by omega⟩
  have l2 := padL_le 1 (n % tenV 1) (by omega) (by omega) (by omega)
  rw [show ((1 : Nat) : Int) = 1 from rfl] at hp
  rw [hp, List.length_append, List.length_cons]; omega
end Go.Proofs.YtjgpckocmjolmaaGreatDoor
