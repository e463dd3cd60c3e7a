/-
  Contracts of the texts of chapter 2: dates, numbers with places, lengths.
-/
import Derived.Test.YtjgpckocmjolmaaGreatDoorText2
import Derived.Deep.RegionHeld3
namespace Go.Proofs.YtjgpckocmjolmaaGreatDoor
open Go.ChangeShapes Go.WideShapes Go.ChangeAt Go.RowKit
set_option linter.unusedVariables false
set_option linter.unusedSimpArgs false
noncomputable def dateT (n : Int) : List UInt8 := if 0 ≤ n ∧ n ≤ 36524 then padL 4 (dateN n).1 ++ 45 :: (padL 2 (dateN n).2.1 ++ 45 :: padL 2 (dateN n).2.2) else []
theorem padL_four (n : Int) (h0 : 1000 ≤ n) : padL 4 n = Lib.itoa n := by
  obtain ⟨k, rfl⟩ := Int.eq_ofNat_of_zero_le (show 0 ≤ n by omega)
  have h := digs_ge 3 k (by omega)
  unfold padL
  rw [itoa_pos k (by omega), show 4 - (digsN k).length = 0 by omega]; rfl
theorem date_bounds {n : Int} (h0 : 0 ≤ n) (h1 : n ≤ 36524) : (2000 ≤ (dateN n).1 ∧ (dateN n).1 ≤ 2099) ∧ (1 ≤ (dateN n).2.1 ∧ (dateN n).2.1 ≤ 12) ∧ (1 ≤ (dateN n).2.2 ∧ (dateN n).2.2 ≤ 31) := by
  obtain ⟨h, _⟩ := dateN_ok h0 h1
  obtain ⟨a1, a2, a3, a4, a5, a6⟩ := dateB_iff.1 h
  have := mlen_bd (dateN n).1 (dateN n).2.1
  omega
set_option maxHeartbeats 1600000 in
set_option maxRecDepth 1000000 in
theorem implDateText_any (n : Int) (w : World) (hT : TabP w) : Calls Tryz.prog 21 #[.int .i64 n] w (StrRet (dateT n) w) := by
  cases h : inB n 0 36524
  · have hr : Hid (dateT n = []) := Lib.hid (by unfold dateT; rw [if_neg]; intro hc; rw [inB_iff.2 hc] at h; cases h)
    go_enter Tryz.func21, Tryz.ntmps21
    go_wp2_with (go_at_call 25; refine (isDay_any _ _).mono ?_; rintro e w' ⟨rfl, rfl⟩)
    go_ret
    exact str_ret hr.out.symm (Below.refl _ _)
  · have hb := inB_iff.1 h
    obtain ⟨⟨y1, y2⟩, ⟨m1, m2⟩, ⟨d1, d2⟩⟩ := date_bounds hb.1 hb.2
    have hdo := fun W => dateOf_any n hb.1 hb.2 W
    have hr : dateT n = padL 4 (dateN n).1 ++ 45 :: (padL 2 (dateN n).2.1 ++ 45 :: padL 2 (dateN n).2.2) := by unfold dateT; rw [if_pos hb]
    obtain ⟨y, hy⟩ : ∃ y, y = (dateN n).1 := ⟨_, rfl⟩
    obtain ⟨m, hm⟩ : ∃ m, m = (dateN n).2.1 := ⟨_, rfl⟩
    obtain ⟨d, hd⟩ : ∃ d, d = (dateN n).2.2 := ⟨_, rfl⟩
    rw [← hy, ← hm, ← hd] at hdo hr
    rw [← hy] at y1 y2
    rw [← hm] at m1 m2
    rw [← hd] at d1 d2
    have hdo' := Lib.hid hdo
    have hr' := Lib.hid hr
    have hT' := Lib.hid hT
    have l1 := padL_le 4 y (by omega) (by omega) (by omega)
    have l2 := padL_le 2 m (by omega) (by omega) (by omega)
    clear hdo hr hT hy hm hd
    go_enter Tryz.func21, Tryz.ntmps21
    go_wp2_with (first
      | (go_at_call 25; refine (isDay_any _ _).mono ?_; rintro e w' ⟨rfl, rfl⟩)
      | (go_at_call 42; refine (hdo'.out _).mono ?_; rintro e w1 ⟨rfl, b1⟩))
    have hb1 : Below w.heap.size w (w1.alloc (.cells #[.int .i64 y, .int .i64 m, .int .i64 d] 57)) := b1.alloc b1.size _
    have c1 : (w1.alloc (.cells #[.int .i64 y, .int .i64 m, .int .i64 d] 57)).cell? ⟨w1.heap.size, 1, none⟩ = some (.int .i64 m) := by simp
    have c2 : (w1.alloc (.cells #[.int .i64 y, .int .i64 m, .int .i64 d] 57)).cell? ⟨w1.heap.size, 2, none⟩ = some (.int .i64 d) := by simp
    have hsz : (w1.alloc (.cells #[.int .i64 y, .int .i64 m, .int .i64 d] 57)).heap.size = w1.heap.size + 1 := by simp
    generalize w1.alloc (.cells #[.int .i64 y, .int .i64 m, .int .i64 d] 57) = W0 at hb1 c1 c2 hsz ⊢
    generalize w1.heap.size = B at c1 c2 hsz ⊢
    have hlt : B < W0.heap.size := by omega
    have hB0 : Hid (BuB W0.heap.size (B + 1) [] (W0.alloc (.cells #[.pointer none, .slice none 0 0] 63))) := Lib.hid (by rw [← hsz]; exact BuB.start W0)
    clear hsz
    have hTW := Lib.hid (hT'.out.below hb1)
    have c1' := Lib.hid c1
    have c2' := Lib.hid c2
    clear c1 c2 b1
    refine (writeDigits_any W0 _ hTW.out _ [] y 4 _ rfl (by omega) (by omega) (by omega) (by simp) (fresh_below W0 _) hB0.out).mono ?_
    rintro e w2 ⟨rfl, hB2, b2⟩
    have d1' := (b2.cell (p := ⟨B, 1, none⟩) hlt).trans c1'.out
    go_wp2_with fail
    refine (writeByte_any _ _ _ 45 45 rfl w2 hB2 (by simp; omega) b2.size).mono ?_
    rintro e w3 ⟨rfl, hB3, b3⟩
    clear d1'
    have d1' := ((b2.trans b3).cell (p := ⟨B, 1, none⟩) hlt).trans c1'.out
    go_wp2_with fail
    refine (writeDigits_any W0 _ hTW.out _ _ m 2 _ rfl (by omega) (by omega) (by omega) (by simp; omega) (b2.trans b3) hB3).mono ?_
    rintro e w4 ⟨rfl, hB4, b4⟩
    clear d1'
    go_wp2_with fail
    refine (writeByte_any _ _ _ 45 45 rfl w4 hB4 (by simp; omega) b4.size).mono ?_
    rintro e w5 ⟨rfl, hB5, b5⟩
    have d2' := ((b4.trans b5).cell (p := ⟨B, 2, none⟩) hlt).trans c2'.out
    go_wp2_with fail
    refine (writeDigits_any W0 _ hTW.out _ _ d 2 _ rfl (by omega) (by omega) (by omega) (by simp; omega) (b4.trans b5) hB5).mono ?_
    rintro e w6 ⟨rfl, hB6, b6⟩
    clear d2'
    go_wp2_with fail
    refine (string_any _ _ _ w6 hB6 b6.size).mono ?_
    rintro e w7 ⟨rfl, _, b7⟩
    go_wp2
    go_ret
    exact ⟨by rw [hr'.out]; simp, hb1.trans ((b6.trans b7).mono hb1.size)⟩
/-! ### numbers with places -/
def tenV (j : Nat) : Int := ((10 ^ j : Nat) : Int)
theorem tenV_zero : tenV 0 = 1 := rfl
theorem tenV_succ (j : Nat) : tenV (j + 1) = tenV j * 10 := by unfold tenV; rw [Nat.pow_succ]; omega
theorem tenV_bd {j : Nat} (h : j ≤ 6) : 1 ≤ tenV j ∧ tenV j ≤ 1000000 := by
  have h1 := Nat.pow_pos (n := j) (show 0 < 10 by omega)
  have h2 := Nat.pow_le_pow_right (n := 10) (by omega) h
  unfold tenV; omega
end Go.Proofs.YtjgpckocmjolmaaGreatDoor
