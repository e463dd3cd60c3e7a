/-
  The model's drying: even moistures, changes, moistures after days.
-/
import Derived.Test.YtjgpckocmjolmaaDoorEven
import Derived.BigQuiet
namespace Go.Proofs.YtjgpckocmjolmaaDoor
open Go.ChangeShapes Go.WideShapes Go.ChangeAt Go.RowKit Go.Deep
set_option linter.unusedVariables false
set_option linter.unusedSimpArgs false
set_option maxHeartbeats 3200000 in
theorem l04Even_any (h : Int) (w : World) : Calls Tryd.prog 19 #[.int .i64 h] w fun e w' => e = .returned (.int .i64 (evenV h)) ∧ Below w.heap.size w w' := by
  have hv0 : Hid (evenV h = if h ≤ 0 then lineR 0 0 0 0 h else if h ≤ 300 then lineR 0 0 300 60 h else if h ≤ 600 then lineR 300 60 600 110 h else if h ≤ 800 then lineR 600 110 800 160 h else if h ≤ 1000 then lineR 800 160 1000 280 h else 280) := Lib.hid rfl
  go_enter Tryd.func19, Tryd.ntmps19
  go_wp2
  go_loop [5] (fun i => ∃ k : Nat, 1 ≤ k ∧ k ≤ 5 ∧ i = .int .i64 k ∧ Hid (2 ≤ k → (evL.getD (k - 1) (0, 0)).1 < h)) (fun i => 5 - (intOf i).toNat)
  case atStart => exact ⟨1, by omega, by omega, rfl, Lib.hid (by omega)⟩
  case round =>
    obtain ⟨k, hk1, hk, rfl, hpast⟩ := hrel
    have hB : Below w.heap.size w ((w.alloc (.cells #[.int .i64 0, .int .i64 300, .int .i64 600, .int .i64 800, .int .i64 1000] 2)).alloc (.cells #[.int .i64 0, .int .i64 60, .int .i64 110, .int .i64 160, .int .i64 280] 2)) := ((Below.refl _ _).alloc (Nat.le_refl _) _).alloc (by simp) _
    rcases (show k = 1 ∨ k = 2 ∨ k = 3 ∨ k = 4 ∨ k = 5 by omega) with rfl | rfl | rfl | rfl | rfl
    · by_cases hh : h ≤ 300
      · have hv : Hid (evenV h = lineR 0 0 300 60 h) := Lib.hid (even_low hh)
        go_wp2
        go_quiet ((go_at_call 31; exact Qs (l01Line_any _ _ _ _ _ (by omega) (by omega) (by omega) (by omega) (by omega) (by omega) (by omega) (by omega) _)))
        go_wp2
        go_ret
        exact ⟨ret_int hv.out.symm, belowN hB _⟩
      · go_wp2
        go_round
        case rel => exact ⟨2, by omega, by omega, by go_num, Lib.hid (fun _ => by simp [evL]; omega)⟩
        case measure => simp [intOf]
    · by_cases hh : h ≤ 600
      · have hv : Hid (evenV h = lineR 300 60 600 110 h) := Lib.hid (by
          have hp := hpast.out (by omega)
          have hp' : (300 : Int) < h := hp
          rw [hv0.out, if_neg (by omega : ¬ h ≤ 0), if_neg (by omega : ¬ h ≤ 300), if_pos hh])
        go_wp2
        go_quiet ((go_at_call 31; exact Qs (l01Line_any _ _ _ _ _ (by omega) (by omega) (by omega) (by omega) (by omega) (by omega) (by omega) (by omega) _)))
        go_wp2
        go_ret
        exact ⟨ret_int hv.out.symm, belowN hB _⟩
      · go_wp2
        go_round
        case rel => exact ⟨3, by omega, by omega, by go_num, Lib.hid (fun _ => by simp [evL]; omega)⟩
        case measure => simp [intOf]
    · by_cases hh : h ≤ 800
      · have hv : Hid (evenV h = lineR 600 110 800 160 h) := Lib.hid (by
          have hp := hpast.out (by omega)
          have hp' : (600 : Int) < h := hp
          rw [hv0.out, if_neg (by omega : ¬ h ≤ 0), if_neg (by omega : ¬ h ≤ 300), if_neg (by omega : ¬ h ≤ 600), if_pos hh])
        go_wp2
        go_quiet ((go_at_call 31; exact Qs (l01Line_any _ _ _ _ _ (by omega) (by omega) (by omega) (by omega) (by omega) (by omega) (by omega) (by omega) _)))
        go_wp2
        go_ret
        exact ⟨ret_int hv.out.symm, belowN hB _⟩
      · go_wp2
        go_round
        case rel => exact ⟨4, by omega, by omega, by go_num, Lib.hid (fun _ => by simp [evL]; omega)⟩
        case measure => simp [intOf]
    · by_cases hh : h ≤ 1000
      · have hv : Hid (evenV h = lineR 800 160 1000 280 h) := Lib.hid (by
          have hp := hpast.out (by omega)
          have hp' : (800 : Int) < h := hp
          rw [hv0.out, if_neg (by omega : ¬ h ≤ 0), if_neg (by omega : ¬ h ≤ 300), if_neg (by omega : ¬ h ≤ 600), if_neg (by omega : ¬ h ≤ 800), if_pos hh])
        go_wp2
        go_quiet ((go_at_call 31; exact Qs (l01Line_any _ _ _ _ _ (by omega) (by omega) (by omega) (by omega) (by omega) (by omega) (by omega) (by omega) _)))
        go_wp2
        go_ret
        exact ⟨ret_int hv.out.symm, belowN hB _⟩
      · go_wp2
        go_round
        case rel => exact ⟨5, by omega, by omega, by go_num, Lib.hid (fun _ => by simp [evL]; omega)⟩
        case measure => simp [intOf]
    · have hp := hpast.out (by omega)
      have hp' : (1000 : Int) < h := hp
      have hv : Hid (evenV h = 280) := Lib.hid (by rw [hv0.out, if_neg (by omega), if_neg (by omega), if_neg (by omega), if_neg (by omega), if_neg (by omega)])
      go_wp2
      go_ret
      exact ⟨ret_int hv.out.symm, hB⟩
theorem l04Change_any (m e t : Int) (hm0 : 0 ≤ m) (hm1 : m ≤ 1000) (he0 : 0 ≤ e) (he1 : e ≤ 1000) (ht0 : 10 ≤ t) (ht1 : t ≤ 1000) (w : World) : Calls Tryd.prog 30 #[.int .i64 m, .int .i64 e, .int .i64 t] w fun r w' => r = .returned (.int .i64 (chgV m e t)) ∧ w = w' := by
  go_enter Tryd.func30, Tryd.ntmps30
  go_wp2_with (go_at_call 40; refine (l01Div_any _ _ (by omega) (by omega) (by omega) (by omega) (by omega) _).mono ?_; rintro e w' ⟨rfl, rfl⟩)
  go_ret
  exact ⟨rfl, rfl⟩
set_option maxHeartbeats 1600000 in
theorem l04After_any (m e t d : Int) (hm0 : 0 ≤ m) (hm1 : m ≤ 1000) (he0 : 0 ≤ e) (he1 : e ≤ 1000) (ht0 : 10 ≤ t) (ht1 : t ≤ 1000) (hd0 : 0 ≤ d) (hd1 : d ≤ 4000) (w : World) : Calls Tryd.prog 18 #[.int .i64 m, .int .i64 e, .int .i64 t, .int .i64 d] w fun r w' => r = .returned (.int .i64 (dryV m e t d.toNat)) ∧ w = w' := by
  go_enter Tryd.func18, Tryd.ntmps18
  go_wp2
  go_loop [0, 9] (fun x i => ∃ (k : Nat) (y : Int), (k : Int) ≤ d ∧ i = .int .i64 k ∧ x = .int .i64 y ∧ Hid (y = dryV m e t k)) (fun _ i => (d - intOf i).toNat)
  case atStart => exact ⟨0, _, hd0, rfl, rfl, Lib.hid rfl⟩
  case round =>
    obtain ⟨k, y, hk, rfl, rfl, hy⟩ := hrel
    have hb := dry_in (e := e) ht0 ⟨hm0, hm1⟩ ⟨he0, he1⟩ k
    rw [← hy.out] at hb
    by_cases hlt : (k : Int) < d
    · have hc := chg_in (m := y) (e := e) ht0 hb ⟨he0, he1⟩
      have hstep : Hid (y + chgV y e t = dryV m e t (k + 1)) := Lib.hid (by show _ = dryV m e t k + chgV (dryV m e t k) e t; rw [hy.out])
      have hstop : Hid (chgV y e t = 0 → dryV m e t d.toNat = y) := Lib.hid (fun h0 => by
        have := dry_stop (m := m) (e := e) (t := t) (k := k) (by rw [← hy.out]; exact h0) (d.toNat - k)
        rw [show k + (d.toNat - k) = d.toNat by omega] at this
        rw [this, hy.out])
      have cC := Lib.hid (fun W => l04Change_any y e t hb.1 hb.2 he0 he1 ht0 ht1 W)
      obtain ⟨c, hc'⟩ : ∃ c, c = chgV y e t := ⟨_, rfl⟩
      rw [← hc'] at cC hstep hstop hc
      clear hc'
      cases hz : (c == 0)
      · go_wp2_with (go_at_call 30; refine (cC.out _).mono ?_; rintro e w' ⟨rfl, rfl⟩)
        go_round
        case rel => exact ⟨k + 1, _, by omega, by go_num, rfl, hstep⟩
        case measure => simp [intOf]; omega
      · have h0 : c = 0 := by simpa using hz
        have hs2 := Lib.hid (hstop.out h0)
        go_wp2_with (go_at_call 30; refine (cC.out _).mono ?_; rintro e w' ⟨rfl, rfl⟩)
        go_ret
        exact ⟨ret_int hs2.out.symm, rfl⟩
    · have hkd : Hid (y = dryV m e t d.toNat) := Lib.hid (by rw [hy.out]; congr 1; omega)
      go_wp2
      go_ret
      exact ⟨ret_int hkd.out, rfl⟩
end Go.Proofs.YtjgpckocmjolmaaDoor
