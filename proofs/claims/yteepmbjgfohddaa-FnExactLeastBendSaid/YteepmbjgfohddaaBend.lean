/-
  Bending of ribs: the program's and the model's contracts.
-/
import Derived.Test.YteepmbjgfohddaaRibIn
namespace Go.Proofs.Yteepmbjgfohddaa
open Go.ChangeShapes Go.WideShapes Go.ChangeAt Go.RowKit
set_option linter.unusedVariables false
set_option linter.unusedSimpArgs false
set_option maxRecDepth 1000000
theorem isBendable_any (t h : Int) (w : World) : Calls Try.prog 52 #[.int .i64 t, .int .i64 h] w fun e w' => e = .returned (.bool (inB t 1 100 && inB h 1 1000)) ∧ w = w' := by
  cases h1 : inB t 1 100 <;> cases h2 : inB h 1 1000
  all_goals
    go_enter Try.func52, Try.ntmps52
    go_wp2_with (go_at_call 48; refine (within64_any _ _ _ _).mono ?_; rintro e w' ⟨rfl, rfl⟩)
    go_ret
    exact ⟨rfl, rfl⟩
theorem l06Bend_any (t h : Int) (w : World) : Calls Try.prog 50 #[.int .i64 t, .int .i64 h] w fun e w' => e = .returned (.bool (inB t 1 100 && inB h 1 1000)) ∧ w = w' := by
  cases h1 : inB t 1 100 <;> cases h2 : inB h 1 1000
  all_goals
    go_enter Try.func50, Try.ntmps50
    go_wp2_with (go_at_call 45; refine (l00In_any _ _ _ _).mono ?_; rintro e w' ⟨rfl, rfl⟩)
    go_ret
    exact ⟨rfl, rfl⟩
def mx0 (n : Int) : Int := if 0 < n then n else 0
def bendV (r t h : Int) : Int := (mx0 (1000 * t / r - h) + 9) / 10
theorem l00Max0_any (n : Int) (w : World) : Calls Try.prog 51 #[.int .i64 0, .int .i64 n] w fun e w' => e = .returned (.int .i64 (mx0 n)) ∧ w = w' := by
  have hx : Hid (mx0 n = if 0 < n then n else 0) := Lib.hid rfl
  by_cases h : 0 < n
  · have h' : ¬ (n < 0) := by omega
    go_enter Try.func51, Try.ntmps51
    go_wp2
    go_ret
    exact ⟨ret_int (by rw [hx.out, if_pos h]), rfl⟩
  · by_cases h2 : n < 0
    all_goals
      go_enter Try.func51, Try.ntmps51
      go_wp2
      go_ret
      exact ⟨ret_int (by rw [hx.out, if_neg (by omega)]; try omega), rfl⟩
theorem quo_bd {r t : Int} (hr : 1 ≤ r ∧ r ≤ 10000) (ht : 1 ≤ t ∧ t ≤ 100) : 0 ≤ 1000 * t / r ∧ 1000 * t / r ≤ 100000 := by
  have h1 := Int.ediv_nonneg (a := 1000 * t) (b := r) (by omega) (by omega)
  have h2 := Int.ediv_le_self (a := 1000 * t) r (by omega)
  omega
set_option maxHeartbeats 1600000 in
theorem specBendSteps_any (r t h : Int) (w : World) : Calls Try.prog 23 #[.int .i64 r, .int .i64 t, .int .i64 h] w fun e w' => e = .returned (.tuple #[.int .i64 (pick (inB r 1 10000 && (inB t 1 100 && inB h 1 1000)) (bendV r t h)), .int .i64 (code (inB r 1 10000 && (inB t 1 100 && inB h 1 1000)) 2)]) ∧ w = w' := by
  cases h1 : inB r 1 10000
  · go_enter Try.func23, Try.ntmps23
    go_wp2_with (first
          | (go_at_call 44; refine (l06Size_any _ _).mono ?_; rintro e w' ⟨rfl, rfl⟩)
          | (go_at_call 50; refine (l06Bend_any _ _ _).mono ?_; rintro e w' ⟨rfl, rfl⟩)
          | (go_at_call 51; refine (l00Max0_any _ _).mono ?_; rintro e w' ⟨rfl, rfl⟩))
    go_ret2
    exact ⟨ret_int2 rfl rfl, rfl⟩
  cases h2 : (inB t 1 100 && inB h 1 1000)
  · go_enter Try.func23, Try.ntmps23
    go_wp2_with (first
          | (go_at_call 44; refine (l06Size_any _ _).mono ?_; rintro e w' ⟨rfl, rfl⟩)
          | (go_at_call 50; refine (l06Bend_any _ _ _).mono ?_; rintro e w' ⟨rfl, rfl⟩)
          | (go_at_call 51; refine (l00Max0_any _ _).mono ?_; rintro e w' ⟨rfl, rfl⟩))
    go_ret2
    exact ⟨ret_int2 rfl rfl, rfl⟩
  have hr := inB_iff.1 h1
  have hth : (1 ≤ t ∧ t ≤ 100) ∧ (1 ≤ h ∧ h ≤ 1000) := by rw [Bool.and_eq_true, inB_iff, inB_iff] at h2; exact h2
  have hq := quo_bd hr hth.1
  have hv : Hid (bendV r t h = (mx0 (1000 * t / r - h) + 9) / 10) := Lib.hid rfl
  have hm : Hid (mx0 (1000 * t / r - h) = if 0 < 1000 * t / r - h then 1000 * t / r - h else 0) := Lib.hid rfl
  have hmb : 0 ≤ mx0 (1000 * t / r - h) ∧ mx0 (1000 * t / r - h) ≤ 100000 := by rw [hm.out]; split <;> omega
  have cM := Lib.hid (fun W => l00Max0_any (1000 * t / r - h) W)
  obtain ⟨M, hM⟩ : ∃ M, M = mx0 (1000 * t / r - h) := ⟨_, rfl⟩
  rw [← hM] at hmb hv cM
  clear hM hm
  go_enter Try.func23, Try.ntmps23
  go_wp2_with (first
        | (go_at_call 44; refine (l06Size_any _ _).mono ?_; rintro e w' ⟨rfl, rfl⟩)
        | (go_at_call 50; refine (l06Bend_any _ _ _).mono ?_; rintro e w' ⟨rfl, rfl⟩)
        | (go_at_call 51; refine (cM.out _).mono ?_; rintro e w' ⟨rfl, rfl⟩))
  go_ret2
  exact ⟨ret_int2 (by rw [hv.out]; rfl) rfl, rfl⟩
set_option maxHeartbeats 1600000 in
theorem implBendSteps_any (r t h : Int) (w : World) : Calls Try.prog 24 #[.int .i64 r, .int .i64 t, .int .i64 h] w fun e w' => e = .returned (.tuple #[.int .i64 (pick (inB r 1 10000 && (inB t 1 100 && inB h 1 1000)) (bendV r t h)), .int .i64 (code (inB r 1 10000 && (inB t 1 100 && inB h 1 1000)) 2)]) ∧ w = w' := by
  cases h1 : inB r 1 10000
  · go_enter Try.func24, Try.ntmps24
    go_wp2_with (first
          | (go_at_call 47; refine (isRibSize_any _ _).mono ?_; rintro e w' ⟨rfl, rfl⟩)
          | (go_at_call 52; refine (isBendable_any _ _ _).mono ?_; rintro e w' ⟨rfl, rfl⟩))
    go_ret2
    exact ⟨ret_int2 rfl rfl, rfl⟩
  cases h2 : (inB t 1 100 && inB h 1 1000)
  · go_enter Try.func24, Try.ntmps24
    go_wp2_with (first
          | (go_at_call 47; refine (isRibSize_any _ _).mono ?_; rintro e w' ⟨rfl, rfl⟩)
          | (go_at_call 52; refine (isBendable_any _ _ _).mono ?_; rintro e w' ⟨rfl, rfl⟩))
    go_ret2
    exact ⟨ret_int2 rfl rfl, rfl⟩
  have hr := inB_iff.1 h1
  have hth : (1 ≤ t ∧ t ≤ 100) ∧ (1 ≤ h ∧ h ≤ 1000) := by rw [Bool.and_eq_true, inB_iff, inB_iff] at h2; exact h2
  have hq := quo_bd hr hth.1
  have hv : Hid (bendV r t h = (mx0 (1000 * t / r - h) + 9) / 10) := Lib.hid rfl
  have hm : Hid (mx0 (1000 * t / r - h) = if 0 < 1000 * t / r - h then 1000 * t / r - h else 0) := Lib.hid rfl
  by_cases hc : 0 < 1000 * t / r - h
  · have hm1 : mx0 (1000 * t / r - h) = 1000 * t / r - h := by rw [hm.out, if_pos hc]
    rw [hm1] at hv
    go_enter Try.func24, Try.ntmps24
    go_wp2_with (first
        | (go_at_call 47; refine (isRibSize_any _ _).mono ?_; rintro e w' ⟨rfl, rfl⟩)
        | (go_at_call 52; refine (isBendable_any _ _ _).mono ?_; rintro e w' ⟨rfl, rfl⟩))
    go_ret2
    exact ⟨ret_int2 (by show _ = bendV r t h; rw [hv.out]; omega) rfl, rfl⟩
  · have hm1 : mx0 (1000 * t / r - h) = 0 := by rw [hm.out, if_neg hc]
    rw [hm1] at hv
    have hz : (1000 * t / r - h + 10 - 1).tdiv 10 ≤ 0 ∧ -1000 ≤ (1000 * t / r - h + 10 - 1).tdiv 10 := by
      have := tdiv_bd (1000 * t / r - h + 10 - 1) 10
      by_cases h0 : 0 ≤ 1000 * t / r - h + 10 - 1
      · rw [Int.tdiv_eq_ediv_of_nonneg h0]; omega
      · have := Int.tdiv_nonneg (a := -(1000 * t / r - h + 10 - 1)) (b := 10) (by omega) (by omega)
        rw [Int.neg_tdiv] at this
        omega
    by_cases hs : 0 ≤ 1000 * t / r - h + 10 - 1
    · go_enter Try.func24, Try.ntmps24
      go_wp2_with (first
        | (go_at_call 47; refine (isRibSize_any _ _).mono ?_; rintro e w' ⟨rfl, rfl⟩)
        | (go_at_call 52; refine (isBendable_any _ _ _).mono ?_; rintro e w' ⟨rfl, rfl⟩))
      go_ret2
      exact ⟨ret_int2 (by show _ = bendV r t h; rw [hv.out]; omega) rfl, rfl⟩
    · by_cases hz0 : (1000 * t / r - h + 10 - 1).tdiv 10 = 0
      all_goals
        go_enter Try.func24, Try.ntmps24
        go_wp2_with (first
        | (go_at_call 47; refine (isRibSize_any _ _).mono ?_; rintro e w' ⟨rfl, rfl⟩)
        | (go_at_call 52; refine (isBendable_any _ _ _).mono ?_; rintro e w' ⟨rfl, rfl⟩))
        go_ret2
        exact ⟨ret_int2 (by show _ = bendV r t h; rw [hv.out]; first | rfl | omega) rfl, rfl⟩
def lbR (t a : Int) : Int := 1000 * t / (a + 1) + 1
theorem lb_iff {t a k : Int} (hk : 1 ≤ k) (ha : 0 ≤ a) : 1000 * t / k ≤ a ↔ lbR t a ≤ k := by
  unfold lbR
  have h1 : 1000 * t / k < a + 1 ↔ 1000 * t < (a + 1) * k := Int.ediv_lt_iff_lt_mul (by omega)
  have h2 : 1000 * t / (a + 1) < k ↔ 1000 * t < k * (a + 1) := Int.ediv_lt_iff_lt_mul (by omega)
  rw [Int.mul_comm k] at h2
  omega
theorem lb_bd {t a : Int} (ht : 1 ≤ t ∧ t ≤ 100) (ha : 0 ≤ a) : 1 ≤ lbR t a ∧ lbR t a ≤ 100001 := by
  unfold lbR
  have h1 := Int.ediv_nonneg (a := 1000 * t) (b := a + 1) (by omega) (by omega)
  have h2 := Int.ediv_le_self (a := 1000 * t) (a + 1) (by omega)
  omega
def lbOk (t h s : Int) : Bool := (inB t 1 100 && inB h 1 1000) && inB s 0 100
def lbC (t h s : Int) : Int := if lbOk t h s = true then (if lbR t (h + 10 * s) ≤ 10000 then 0 else 3) else 2
def lbV (t h s : Int) : Int := if lbC t h s = 0 then lbR t (h + 10 * s) else 0
theorem lb_bad {t h s c : Int} (e : lbC t h s = c) (hc : c ≠ 0) : lbV t h s = 0 ∧ lbC t h s = c := by unfold lbV; rw [e, if_neg hc]; exact ⟨rfl, rfl⟩
theorem lb_good {t h s : Int} (e : lbC t h s = 0) : lbV t h s = lbR t (h + 10 * s) ∧ lbC t h s = 0 := by unfold lbV; rw [e, if_pos rfl]; exact ⟨rfl, rfl⟩
set_option maxHeartbeats 1600000 in
theorem specLeastBend_any (t h s : Int) (w : World) : Calls Try.prog 25 #[.int .i64 t, .int .i64 h, .int .i64 s] w fun e w' => e = .returned (.tuple #[.int .i64 (lbV t h s), .int .i64 (lbC t h s)]) ∧ w = w' := by
  cases h1 : (inB t 1 100 && inB h 1 1000)
  · have hr := Lib.hid (lb_bad (show lbC t h s = 2 by unfold lbC lbOk; rw [h1]; rfl) (by decide))
    go_enter Try.func25, Try.ntmps25
    go_wp2_with (first
      | (go_at_call 50; refine (l06Bend_any _ _ _).mono ?_; rintro e w' ⟨rfl, rfl⟩)
      | (go_at_call 45; refine (l00In_any _ _ _ _).mono ?_; rintro e w' ⟨rfl, rfl⟩))
    go_ret2
    exact ⟨ret_int2 hr.out.1.symm hr.out.2.symm, rfl⟩
  cases h2 : inB s 0 100
  · have hr := Lib.hid (lb_bad (show lbC t h s = 2 by unfold lbC lbOk; rw [h1, h2]; rfl) (by decide))
    go_enter Try.func25, Try.ntmps25
    go_wp2_with (first
      | (go_at_call 50; refine (l06Bend_any _ _ _).mono ?_; rintro e w' ⟨rfl, rfl⟩)
      | (go_at_call 45; refine (l00In_any _ _ _ _).mono ?_; rintro e w' ⟨rfl, rfl⟩))
    go_ret2
    exact ⟨ret_int2 hr.out.1.symm hr.out.2.symm, rfl⟩
  have hC : Hid (lbC t h s = if lbR t (h + 10 * s) ≤ 10000 then 0 else 3) := Lib.hid (by unfold lbC lbOk; rw [h1, h2]; rfl)
  have hth : (1 ≤ t ∧ t ≤ 100) ∧ (1 ≤ h ∧ h ≤ 1000) := by rw [Bool.and_eq_true, inB_iff, inB_iff] at h1; exact h1
  have hs := inB_iff.1 h2
  have hR := lb_bd (t := t) (a := h + 10 * s) hth.1 (by omega)
  have hiff : Hid (∀ k, 1 ≤ k → (1000 * t / k ≤ h + 10 * s ↔ lbR t (h + 10 * s) ≤ k)) := Lib.hid (fun k hk => lb_iff hk (by omega))
  obtain ⟨R, hRe⟩ : ∃ R, R = lbR t (h + 10 * s) := ⟨_, rfl⟩
  have hg : Hid (R ≤ 10000 → lbV t h s = R ∧ lbC t h s = 0) := Lib.hid (fun hle => by rw [hRe]; exact lb_good (by rw [hC.out, if_pos (by omega)]))
  have hb : Hid (¬ R ≤ 10000 → lbV t h s = 0 ∧ lbC t h s = 3) := Lib.hid (fun hle => lb_bad (by rw [hC.out, if_neg (by omega)]) (by decide))
  rw [← hRe] at hR hiff
  clear hRe
  go_enter Try.func25, Try.ntmps25
  go_wp2_with (first
      | (go_at_call 50; refine (l06Bend_any _ _ _).mono ?_; rintro e w' ⟨rfl, rfl⟩)
      | (go_at_call 45; refine (l00In_any _ _ _ _).mono ?_; rintro e w' ⟨rfl, rfl⟩))
  go_loopw [8] (fun i wr => ∃ k : Nat, 1 ≤ k ∧ (k : Int) ≤ R ∧ k ≤ 10001 ∧ i = .int .i64 k ∧ wr = w) (fun i _ => 10001 - (intOf i).toNat)
  case atStart => exact ⟨1, by omega, by omega, by omega, rfl, rfl⟩
  case round =>
    obtain ⟨k, hk1, hk, hk2, rfl, rfl⟩ := hrel
    by_cases hlt : k ≤ 10000
    · have hltI : (k : Int) ≤ 10000 := by omega
      have hq0 := Int.ediv_nonneg (a := 1000 * t) (b := (k : Int)) (by omega) (by omega)
      have hq1 := Int.ediv_le_self (a := 1000 * t) (k : Int) (by omega)
      have hi := hiff.out (k : Int) (by omega)
      have hk1I : (1 : Int) ≤ (k : Int) := by omega
      by_cases hle : 1000 * t / (k : Int) ≤ h + 10 * s
      · have hr := Lib.hid (hg.out (by have := hi.1 hle; omega))
        have hkR : Hid ((k : Int) = R) := Lib.hid (by have := hi.1 hle; omega)
        clear hi
        go_wp2
        go_ret2
        exact ⟨ret_int2 (by rw [hr.out.1]; exact hkR.out) hr.out.2.symm, rfl⟩
      · have hkR : (k : Int) + 1 ≤ R := by have := fun h => hle (hi.2 h); omega
        clear hi
        go_wp2
        go_roundw
        case rel => exact ⟨k + 1, by omega, by omega, by omega, by go_num, by first | rfl | trivial⟩
        case measure => simp [intOf]; omega
    · have hr := Lib.hid (hb.out (by omega))
      have hltI : (10000 : Int) < (k : Int) := by omega
      go_wp2
      go_ret2
      exact ⟨ret_int2 hr.out.1.symm hr.out.2.symm, rfl⟩
set_option maxHeartbeats 1600000 in
theorem implLeastBend_any (t h s : Int) (w : World) : Calls Try.prog 26 #[.int .i64 t, .int .i64 h, .int .i64 s] w fun e w' => e = .returned (.tuple #[.int .i64 (lbV t h s), .int .i64 (lbC t h s)]) ∧ w = w' := by
  cases h1 : (inB t 1 100 && inB h 1 1000)
  · have hr := Lib.hid (lb_bad (show lbC t h s = 2 by unfold lbC lbOk; rw [h1]; rfl) (by decide))
    go_enter Try.func26, Try.ntmps26
    go_wp2_with (first
      | (go_at_call 52; refine (isBendable_any _ _ _).mono ?_; rintro e w' ⟨rfl, rfl⟩)
      | (go_at_call 48; refine (within64_any _ _ _ _).mono ?_; rintro e w' ⟨rfl, rfl⟩))
    go_ret2
    exact ⟨ret_int2 hr.out.1.symm hr.out.2.symm, rfl⟩
  cases h2 : inB s 0 100
  · have hr := Lib.hid (lb_bad (show lbC t h s = 2 by unfold lbC lbOk; rw [h1, h2]; rfl) (by decide))
    go_enter Try.func26, Try.ntmps26
    go_wp2_with (first
      | (go_at_call 52; refine (isBendable_any _ _ _).mono ?_; rintro e w' ⟨rfl, rfl⟩)
      | (go_at_call 48; refine (within64_any _ _ _ _).mono ?_; rintro e w' ⟨rfl, rfl⟩))
    go_ret2
    exact ⟨ret_int2 hr.out.1.symm hr.out.2.symm, rfl⟩
  have hC : Hid (lbC t h s = if lbR t (h + 10 * s) ≤ 10000 then 0 else 3) := Lib.hid (by unfold lbC lbOk; rw [h1, h2]; rfl)
  have hth : (1 ≤ t ∧ t ≤ 100) ∧ (1 ≤ h ∧ h ≤ 1000) := by rw [Bool.and_eq_true, inB_iff, inB_iff] at h1; exact h1
  have hs := inB_iff.1 h2
  have hR := lb_bd (t := t) (a := h + 10 * s) hth.1 (by omega)
  have hRv : 1000 * t / (h + s * 10 + 1) + 1 = lbR t (h + 10 * s) := by rw [Int.mul_comm s 10]; rfl
  have hq0 := Int.ediv_nonneg (a := 1000 * t) (b := h + s * 10 + 1) (by omega) (by omega)
  have hq1 := Int.ediv_le_self (a := 1000 * t) (h + s * 10 + 1) (by omega)
  by_cases hle : lbR t (h + 10 * s) ≤ 10000
  · have hr := Lib.hid (lb_good (show lbC t h s = 0 by rw [hC.out, if_pos hle]))
    have hRv' := Lib.hid hRv
    have hle' : 1000 * t / (h + s * 10 + 1) + 1 ≤ 10000 := by omega
    go_enter Try.func26, Try.ntmps26
    go_wp2_with (first
      | (go_at_call 52; refine (isBendable_any _ _ _).mono ?_; rintro e w' ⟨rfl, rfl⟩)
      | (go_at_call 48; refine (within64_any _ _ _ _).mono ?_; rintro e w' ⟨rfl, rfl⟩))
    go_ret2
    exact ⟨ret_int2 hr.out.1.symm hr.out.2.symm, rfl⟩
  · have hr := Lib.hid (lb_bad (show lbC t h s = 3 by rw [hC.out, if_neg hle]) (by decide))
    have hle' : 10000 < 1000 * t / (h + s * 10 + 1) + 1 := by omega
    clear hRv
    go_enter Try.func26, Try.ntmps26
    go_wp2_with (first
      | (go_at_call 52; refine (isBendable_any _ _ _).mono ?_; rintro e w' ⟨rfl, rfl⟩)
      | (go_at_call 48; refine (within64_any _ _ _ _).mono ?_; rintro e w' ⟨rfl, rfl⟩))
    go_ret2
    exact ⟨ret_int2 hr.out.1.symm hr.out.2.symm, rfl⟩
end Go.Proofs.Yteepmbjgfohddaa
