/-
  Contracts of the texts of chapter 2: the model's numbers with places, both sides' lengths.
-/
import Derived.Test.YtmknafkngggfjaaGreatDoorText4
namespace Go.Proofs.YtmknafkngggfjaaGreatDoor
open Go.ChangeShapes Go.WideShapes Go.ChangeAt Go.RowKit
set_option linter.unusedVariables false
set_option linter.unusedSimpArgs false
/-! ### lengths -/
theorem lenT_pos {n : Int} (h0 : 0 ≤ n) (h1 : n ≤ 1000000000) : lenT n = fixT n 1 ++ mmL := by
  rw [lenT_ne ⟨h0, h1⟩]
  have := fixT_full (n := n) (p := 1) (by omega) (by omega)
  rw [show ((1 : Nat) : Int) = 1 from rfl] at this
  rw [this]
theorem lenT_no {n : Int} (h : inB n 0 1000000000 = false) : lenT n = [] := by
  unfold lenT; rw [if_neg]; intro hc; rw [inB_iff.2 hc] at h; cases h
theorem fixT_le (n : Int) (h0 : 0 ≤ n) (h1 : n ≤ 1000000000) : (fixT n 1).length ≤ 100 := by
  have hp := fixT_pos n 1 h0 h1 (by omega) (by omega)
  have hd := div_le_self' n h0 1
  have hm := mod_lt_ten n h0 1
  have ht := tenV_bd (j := 1) (by omega)
  have l1 := itoa_len (n := n / tenV 1) ⟨by omega, by omega⟩
  have l2 := padL_le 1 (n % tenV 1) (by omega) (by omega) (by omega)
  rw [show ((1 : Nat) : Int) = 1 from rfl] at hp
  rw [hp, List.length_append, List.length_cons]; omega
theorem lengthM_any (n : Int) (h0 : 0 ≤ n) (h1 : n ≤ 1000000000) (w : World) (hT : TabP w) : Calls Tryz.prog 44 #[.int .i64 n] w (StrRet (lenT n) w) := by
  have hl := fixT_le n h0 h1
  obtain ⟨D, hD, hDl, hc⟩ := str_all (C := TabP) (fun W h => implFixedText_any n 1 W h)
  have hDs : D.size ≤ 100 := by omega
  have hr : Hid ((D ++ ⟨#[32, 109, 109]⟩ : ByteArray).data.toList = lenT n) := Lib.hid (by rw [cat_data, hD, lenT_pos h0 h1]; rfl)
  have hT' := Lib.hid hT
  clear hD hDl hT
  go_enter Tryz.func44, Tryz.ntmps44
  go_wp2_with (go_at_call 9; refine (hc.out _ hT'.out).mono ?_; rintro e w' ⟨rfl, b1⟩)
  go_ret
  exact str_ret hr.out b1
theorem implLengthText_any (n : Int) (w : World) (hT : TabP w) : Calls Tryz.prog 16 #[.int .i64 n] w (StrRet (lenT n) w) := by
  cases h : inB n 0 1000000000
  · have hr := Lib.hid (lenT_no h)
    go_enter Tryz.func16, Tryz.ntmps16
    go_wp2_with (go_at_call 43; refine (isLength_any _ _).mono ?_; rintro e w' ⟨rfl, rfl⟩)
    go_ret
    exact str_ret hr.out.symm (Below.refl _ _)
  · obtain ⟨a1, a2⟩ := inB_iff.1 h
    have hc := Lib.hid (lengthM_any n a1 a2 w hT)
    go_enter Tryz.func16, Tryz.ntmps16
    go_wp2_with (first
      | (go_at_call 43; refine (isLength_any _ _).mono ?_; rintro e w' ⟨rfl, rfl⟩)
      | (go_at_call 44; refine hc.out.mono ?_; rintro e w' ⟨rfl, b1⟩))
    go_ret
    exact ⟨rfl, b1⟩
end Go.Proofs.YtmknafkngggfjaaGreatDoor
