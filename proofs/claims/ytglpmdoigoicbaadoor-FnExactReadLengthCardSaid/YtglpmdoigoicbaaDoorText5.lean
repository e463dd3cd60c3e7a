/-
  Contracts of the texts of chapter 2: the model's numbers with places, both sides' lengths.
-/
import Derived.Test.YtglpmdoigoicbaaDoorText4
namespace Go.Proofs.YtglpmdoigoicbaaDoor
open Go.ChangeShapes Go.WideShapes Go.ChangeAt Go.RowKit
set_option linter.unusedVariables false
set_option linter.unusedSimpArgs false
theorem l02Whole_any (n : Int) (w : World) : Calls Tryd.prog 59 #[.int .i64 n] w fun e w' => e = .returned (.bool (inB n (-1000000000) 1000000000)) ∧ w = w' := by
  go_enter Tryd.func59, Tryd.ntmps59
  go_wp2_with (go_at_call 53; refine (l00In_any _ _ _ _).mono ?_; rintro e w' ⟨rfl, rfl⟩)
  go_ret
  exact ⟨rfl, rfl⟩
theorem l02Places_any (n : Int) (w : World) : Calls Tryd.prog 60 #[.int .i64 n] w fun e w' => e = .returned (.bool (inB n 1 6)) ∧ w = w' := by
  go_enter Tryd.func60, Tryd.ntmps60
  go_wp2_with (go_at_call 53; refine (l00In_any _ _ _ _).mono ?_; rintro e w' ⟨rfl, rfl⟩)
  go_ret
  exact ⟨rfl, rfl⟩
theorem specFixedText_any (n q : Int) (w : World) : Calls Tryd.prog 23 #[.int .i64 n, .int .i64 q] w (StrRet (fixT n q) w) := by
  cases h1 : inB n (-1000000000) 1000000000
  · have hr : Hid (fixT n q = []) := Lib.hid (fixT_no n q (by rw [h1]; rfl))
    go_enter Tryd.func23, Tryd.ntmps23
    go_wp2_with (go_at_call 59; refine (l02Whole_any _ _).mono ?_; rintro e w' ⟨rfl, rfl⟩)
    go_ret
    exact str_ret hr.out.symm (Below.refl _ _)
  cases h2 : inB q 1 6
  · have hr : Hid (fixT n q = []) := Lib.hid (fixT_no n q (by rw [h1, h2]; rfl))
    go_enter Tryd.func23, Tryd.ntmps23
    go_wp2_with (first
      | (go_at_call 59; refine (l02Whole_any _ _).mono ?_; rintro e w' ⟨rfl, rfl⟩)
      | (go_at_call 60; refine (l02Places_any _ _).mono ?_; rintro e w' ⟨rfl, rfl⟩))
    go_ret
    exact str_ret hr.out.symm (Below.refl _ _)
  obtain ⟨a1, a2⟩ := inB_iff.1 h1
  obtain ⟨c1, c2⟩ := inB_iff.1 h2
  obtain ⟨p, rfl⟩ := Int.eq_ofNat_of_zero_le (show 0 ≤ q by omega)
  have hc := Lib.hid (fun W => l02Fixed_any n p a1 a2 (by omega) (by omega) W)
  go_enter Tryd.func23, Tryd.ntmps23
  go_wp2_with (first
    | (go_at_call 59; refine (l02Whole_any _ _).mono ?_; rintro e w' ⟨rfl, rfl⟩)
    | (go_at_call 60; refine (l02Places_any _ _).mono ?_; rintro e w' ⟨rfl, rfl⟩)
    | (go_at_call 61; refine (hc.out _).mono ?_; rintro e w' ⟨rfl, b1⟩))
  go_ret
  exact ⟨rfl, b1⟩
/-! ### lengths -/
theorem lenT_pos {n : Int} (h0 : 0 ≤ n) (h1 : n ≤ 1000000000) : lenT n = fixT n 1 ++ mmL := by
  rw [lenT_ne ⟨h0, h1⟩]
  have := fixT_full (n := n) (p := 1) (by omega) (by omega)
  rw [show ((1 : Nat) : Int) = 1 from rfl] at this
  rw [this]
theorem lenT_no {n : Int} (h : inB n 0 1000000000 = false) : lenT n = [] := by
  unfold lenT; rw [if_neg]; intro hc; rw [inB_iff.2 hc] at h; cases h
theorem fixT_le (n : Int) (h0 : 0 ≤ n) (h1 : n ≤ 1000000000) : (fixT n 1).length ≤ 100 := by
  have hp := fixT_pos n 1 h0 h1 (by omega) (by omega)
  have hd := div_le_self' n h0 1
  have hm := mod_lt_ten n h0 1
  have ht := tenV_bd (j := 1) (by omega)
  have l1 := itoa_len (n := n / tenV 1) ⟨by omega, by omega⟩
  have l2 := padL_le 1 (n % tenV 1) (by omega) (by omega) (by omega)
  rw [show ((1 : Nat) : Int) = 1 from rfl] at hp
  rw [hp, List.length_append, List.length_cons]; omega
theorem specLengthText_any (n : Int) (w : World) : Calls Tryd.prog 31 #[.int .i64 n] w (StrRet (lenT n) w) := by
  cases h : inB n 0 1000000000
  · have hr := Lib.hid (lenT_no h)
    go_enter Tryd.func31, Tryd.ntmps31
    go_wp2_with (go_at_call 67; refine (l02Mass_any _ _).mono ?_; rintro e w' ⟨rfl, rfl⟩)
    go_ret
    exact str_ret hr.out.symm (Below.refl _ _)
  · obtain ⟨a1, a2⟩ := inB_iff.1 h
    have hl := fixT_le n a1 a2
    obtain ⟨D, hD, hDl, hc⟩ := str_all (C := fun _ => True) (fun W _ => l02Fixed_any n 1 (by omega) (by omega) (by omega) (by omega) W)
    rw [show ((1 : Nat) : Int) = 1 from rfl] at hD hc hDl
    have hDs : D.size ≤ 100 := by omega
    have hr : Hid ((D ++ ⟨#[32, 109, 109]⟩ : ByteArray).data.toList = lenT n) := Lib.hid (by rw [cat_data, hD, lenT_pos a1 a2]; rfl)
    clear hD hDl
    go_enter Tryd.func31, Tryd.ntmps31
    go_wp2_with (first
      | (go_at_call 67; refine (l02Mass_any _ _).mono ?_; rintro e w' ⟨rfl, rfl⟩)
      | (go_at_call 61; refine (hc.out _ trivial).mono ?_; rintro e w' ⟨rfl, b1⟩))
    go_ret
    exact str_ret hr.out b1
theorem lengthM_any (n : Int) (h0 : 0 ≤ n) (h1 : n ≤ 1000000000) (w : World) (hT : TabP w) : Calls Tryd.prog 73 #[.int .i64 n] w (StrRet (lenT n) w) := by
  have hl := fixT_le n h0 h1
  obtain ⟨D, hD, hDl, hc⟩ := str_all (C := TabP) (fun W h => implFixedText_any n 1 W h)
  have hDs : D.size ≤ 100 := by omega
  have hr : Hid ((D ++ ⟨#[32, 109, 109]⟩ : ByteArray).data.toList = lenT n) := Lib.hid (by rw [cat_data, hD, lenT_pos h0 h1]; rfl)
  have hT' := Lib.hid hT
  clear hD hDl hT
  go_enter Tryd.func73, Tryd.ntmps73
  go_wp2_with (go_at_call 24; refine (hc.out _ hT'.out).mono ?_; rintro e w' ⟨rfl, b1⟩)
  go_ret
  exact str_ret hr.out b1
theorem implLengthText_any (n : Int) (w : World) (hT : TabP w) : Calls Tryd.prog 32 #[.int .i64 n] w (StrRet (lenT n) w) := by
  cases h : inB n 0 1000000000
  · have hr := Lib.hid (lenT_no h)
    go_enter Tryd.func32, Tryd.ntmps32
    go_wp2_with (go_at_call 72; refine (isLength_any _ _).mono ?_; rintro e w' ⟨rfl, rfl⟩)
    go_ret
    exact str_ret hr.out.symm (Below.refl _ _)
  · obtain ⟨a1, a2⟩ := inB_iff.1 h
    have hc := Lib.hid (lengthM_any n a1 a2 w hT)
    go_enter Tryd.func32, Tryd.ntmps32
    go_wp2_with (first
      | (go_at_call 72; refine (isLength_any _ _).mono ?_; rintro e w' ⟨rfl, rfl⟩)
      | (go_at_call 73; refine hc.out.mono ?_; rintro e w' ⟨rfl, b1⟩))
    go_ret
    exact ⟨rfl, b1⟩
end Go.Proofs.YtglpmdoigoicbaaDoor
