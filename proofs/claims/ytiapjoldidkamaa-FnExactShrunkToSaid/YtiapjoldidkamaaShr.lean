/-
  Widths of dry wood: the program's and the model's contracts.
-/
import Derived.Test.YtiapjoldidkamaaStkIn
import Derived.Test.YtiapjoldidkamaaCore2
namespace Go.Proofs.Ytiapjoldidkamaa
open Go.ChangeShapes Go.WideShapes Go.ChangeAt Go.RowKit Go.Deep
set_option linter.unusedVariables false
set_option linter.unusedSimpArgs false
def m280 (n : Int) : Int := if n < 280 then n else 280
theorem m_hi {n : Int} (h : 280 < n) : m280 n = 280 := by unfold m280; rw [if_neg (by omega)]
theorem m_lo {n : Int} (h : ¬ 280 < n) : m280 n = n := by unfold m280; split <;> omega
def shrV (n f u s : Int) : Int := n - rnd (n * (m280 f - m280 u) * s) 280000
theorem prod_bd {n d s : Int} (hn : 1 ≤ n ∧ n ≤ 100000) (hd : -280 ≤ d ∧ d ≤ 280) (hs : 0 ≤ s ∧ s ≤ 1000) : (-28000000 ≤ n * d ∧ n * d ≤ 28000000) ∧ (-28000000000 ≤ n * d * s ∧ n * d * s ≤ 28000000000) := by
  have h1 := mul_bd (a := d) (b := n) (B := 280) (C := 100000) hd.1 hd.2 (by omega) hn.2 (by omega)
  rw [Int.mul_comm d n] at h1
  have h2 := mul_bd (a := n * d) (b := s) (B := 28000000) (C := 1000) (by omega) (by omega) hs.1 hs.2 (by omega)
  omega
theorem l00Min_any (b n : Int) (w : World) : Calls Try.prog 18 #[.int .i64 280, .int .i64 n] w fun e w' => e = .returned (.int .i64 (m280 n)) ∧ w = w' := by
  have hx : Hid (m280 n = if n < 280 then n else 280) := Lib.hid rfl
  by_cases h : n ≤ 280
  · by_cases h2 : n < 280
    · go_enter Try.func18, Try.ntmps18
      go_wp2
      go_ret
      exact ⟨ret_int (by rw [hx.out, if_pos h2]), rfl⟩
    · go_enter Try.func18, Try.ntmps18
      go_wp2
      go_ret
      exact ⟨ret_int (by rw [hx.out, if_neg (by omega)]; omega), rfl⟩
  · go_enter Try.func18, Try.ntmps18
    go_wp2
    go_ret
    exact ⟨ret_int (by rw [hx.out, if_neg (by omega)]), rfl⟩
set_option maxHeartbeats 3200000 in
theorem specShrunkTo_any (n f u s : Int) (w : World) : Calls Try.prog 6 #[.int .i64 n, .int .i64 f, .int .i64 u, .int .i64 s] w fun e w' => e = .returned (.tuple #[.int .i64 (pick (inB n 1 100000 && inB f 0 1000 && inB u 0 1000 && inB s 0 1000) (shrV n f u s)), .int .i64 (code (inB n 1 100000 && inB f 0 1000 && inB u 0 1000 && inB s 0 1000) 2)]) ∧ w = w' := by
  cases h1 : inB n 1 100000
  · go_enter Try.func6, Try.ntmps6
    go_wp2_with (first
      | (go_at_call 15; refine (l00In_any _ _ _ _).mono ?_; rintro e w' ⟨rfl, rfl⟩)
      | (go_at_call 16; refine (l04Share_any _ _).mono ?_; rintro e w' ⟨rfl, rfl⟩))
    go_ret2
    exact ⟨ret_int2 rfl rfl, rfl⟩
  cases h2 : inB f 0 1000
  · go_enter Try.func6, Try.ntmps6
    go_wp2_with (first
      | (go_at_call 15; refine (l00In_any _ _ _ _).mono ?_; rintro e w' ⟨rfl, rfl⟩)
      | (go_at_call 16; refine (l04Share_any _ _).mono ?_; rintro e w' ⟨rfl, rfl⟩))
    go_ret2
    exact ⟨ret_int2 rfl rfl, rfl⟩
  cases h3 : inB u 0 1000
  · go_enter Try.func6, Try.ntmps6
    go_wp2_with (first
      | (go_at_call 15; refine (l00In_any _ _ _ _).mono ?_; rintro e w' ⟨rfl, rfl⟩)
      | (go_at_call 16; refine (l04Share_any _ _).mono ?_; rintro e w' ⟨rfl, rfl⟩))
    go_ret2
    exact ⟨ret_int2 rfl rfl, rfl⟩
  cases h4 : inB s 0 1000
  · go_enter Try.func6, Try.ntmps6
    go_wp2_with (first
      | (go_at_call 15; refine (l00In_any _ _ _ _).mono ?_; rintro e w' ⟨rfl, rfl⟩)
      | (go_at_call 16; refine (l04Share_any _ _).mono ?_; rintro e w' ⟨rfl, rfl⟩))
    go_ret2
    exact ⟨ret_int2 rfl rfl, rfl⟩
  have hn := inB_iff.1 h1
  have hf := inB_iff.1 h2
  have hu := inB_iff.1 h3
  have hs := inB_iff.1 h4
  have hv : Hid (shrV n f u s = n - rnd (n * (m280 f - m280 u) * s) 280000) := Lib.hid rfl
  have hF : 0 ≤ m280 f ∧ m280 f ≤ 280 := by unfold m280; split <;> omega
  have hU : 0 ≤ m280 u ∧ m280 u ≤ 280 := by unfold m280; split <;> omega
  have cF := Lib.hid (fun W => l00Min_any 0 f W)
  have cU := Lib.hid (fun W => l00Min_any 0 u W)
  obtain ⟨F, hFe⟩ : ∃ F, F = m280 f := ⟨_, rfl⟩
  obtain ⟨U, hUe⟩ : ∃ U, U = m280 u := ⟨_, rfl⟩
  rw [← hFe] at cF hF hv
  rw [← hUe] at cU hU hv
  clear hFe hUe
  have hp := prod_bd (n := n) (d := F - U) (s := s) hn (by omega) hs
  have hr := rnd_bd (n * (F - U) * s) 280000 (by omega)
  have e1 : IntKind.i64.wrap (n * (F - U)) = n * (F - U) := IntWalk.i64_in _ (by omega)
  have e2 : IntKind.i64.wrap (n * (F - U) * s) = n * (F - U) * s := IntWalk.i64_in _ (by omega)
  have e3 : IntKind.i64.wrap (n - rnd (n * (F - U) * s) 280000) = n - rnd (n * (F - U) * s) 280000 := IntWalk.i64_in _ (by omega)
  have hp' := Lib.hid hp
  clear hp hr
  go_enter Try.func6, Try.ntmps6
  go_wp2_with (first
    | (go_at_call 15; refine (l00In_any _ _ _ _).mono ?_; rintro e w' ⟨rfl, rfl⟩)
    | (go_at_call 16; refine (l04Share_any _ _).mono ?_; rintro e w' ⟨rfl, rfl⟩)
    | (go_at_call 18; (first | (with_reducible refine (cF.out _).mono ?_) | (with_reducible refine (cU.out _).mono ?_)); rintro e w' ⟨rfl, rfl⟩)
    | (go_at_call 17; refine (l01Div_any _ _ (by omega) (by have := hp'.out; omega) (by have := hp'.out; omega) (by omega) (by omega) _).mono ?_; rintro e w' ⟨rfl, rfl⟩))
  go_ret2
  exact ⟨ret_int2 (by rw [hv.out]; rfl) rfl, rfl⟩
set_option maxHeartbeats 3200000 in
theorem implShrunkTo_any (n f u s : Int) (w : World) : Calls Try.prog 7 #[.int .i64 n, .int .i64 f, .int .i64 u, .int .i64 s] w fun e w' => e = .returned (.tuple #[.int .i64 (pick (inB n 1 100000 && inB f 0 1000 && inB u 0 1000 && inB s 0 1000) (shrV n f u s)), .int .i64 (code (inB n 1 100000 && inB f 0 1000 && inB u 0 1000 && inB s 0 1000) 2)]) ∧ ∃ m, w' = w.drewN m := by
  cases h1 : inB n 1 100000
  · go_enter Try.func7, Try.ntmps7
    go_wp2_with (first
      | (go_at_call 19; refine (within64_any _ _ _ _).mono ?_; rintro e w' ⟨rfl, rfl⟩)
      | (go_at_call 20; refine (isThousandths_any _ _).mono ?_; rintro e w' ⟨rfl, rfl⟩))
    go_ret2
    exact ⟨ret_int2 rfl rfl, 0, rfl⟩
  cases h2 : inB f 0 1000
  · go_enter Try.func7, Try.ntmps7
    go_wp2_with (first
      | (go_at_call 19; refine (within64_any _ _ _ _).mono ?_; rintro e w' ⟨rfl, rfl⟩)
      | (go_at_call 20; refine (isThousandths_any _ _).mono ?_; rintro e w' ⟨rfl, rfl⟩))
    go_ret2
    exact ⟨ret_int2 rfl rfl, 0, rfl⟩
  cases h3 : inB u 0 1000
  · go_enter Try.func7, Try.ntmps7
    go_wp2_with (first
      | (go_at_call 19; refine (within64_any _ _ _ _).mono ?_; rintro e w' ⟨rfl, rfl⟩)
      | (go_at_call 20; refine (isThousandths_any _ _).mono ?_; rintro e w' ⟨rfl, rfl⟩))
    go_ret2
    exact ⟨ret_int2 rfl rfl, 0, rfl⟩
  cases h4 : inB s 0 1000
  · go_enter Try.func7, Try.ntmps7
    go_wp2_with (first
      | (go_at_call 19; refine (within64_any _ _ _ _).mono ?_; rintro e w' ⟨rfl, rfl⟩)
      | (go_at_call 20; refine (isThousandths_any _ _).mono ?_; rintro e w' ⟨rfl, rfl⟩))
    go_ret2
    exact ⟨ret_int2 rfl rfl, 0, rfl⟩
  have hn := inB_iff.1 h1
  have hf := inB_iff.1 h2
  have hu := inB_iff.1 h3
  have hs := inB_iff.1 h4
  have hv : Hid (shrV n f u s = n - rnd (n * (m280 f - m280 u) * s) 280000) := Lib.hid rfl
  by_cases gf : 280 < f <;> by_cases gu : 280 < u
  · have hp := prod_bd (n := n) (d := (0 : Int)) (s := s) hn (by omega) hs
    have hr := rnd_bd (n * (0 : Int) * s) 280000 (by omega)
    have hres : Hid (shrV n f u s = n) := Lib.hid (by rw [hv.out]; rw [m_hi gf, m_hi gu]; simp [rnd_zero])
    have e1 : IntKind.i64.wrap (n * (0 : Int)) = n * (0 : Int) := IntWalk.i64_in _ (by omega)
    have e2 : IntKind.i64.wrap (n * (0 : Int) * s) = n * (0 : Int) * s := IntWalk.i64_in _ (by omega)
    have e3 : IntKind.i64.wrap (n - rnd (n * (0 : Int) * s) 280000) = n - rnd (n * (0 : Int) * s) 280000 := IntWalk.i64_in _ (by omega)
    have e4 : rnd (0 : Int) 280000 = 0 := rnd_zero _
    have e5 : IntKind.i64.wrap n = n := IntWalk.i64_in _ (by omega)
    have hp' := Lib.hid hp
    have gf' := Lib.hid gf
    have gu' := Lib.hid gu
    clear hp hr
    go_enter Try.func7, Try.ntmps7
    go_wp2_with (first
      | (go_at_call 19; refine (within64_any _ _ _ _).mono ?_; rintro e w' ⟨rfl, rfl⟩)
      | (go_at_call 20; refine (isThousandths_any _ _).mono ?_; rintro e w' ⟨rfl, rfl⟩)
      | (go_at_call 21; refine (nearest_any _ _ (by omega) (by have := hp'.out; first | omega | (simp at this ⊢; done)) (by have := hp'.out; first | omega | (simp at this ⊢; done)) (by omega) (by omega) _).mono ?_; rintro e w' ⟨rfl, m, rfl⟩))
    all_goals
      go_ret2
      exact ⟨ret_int2 (by rw [hres.out]; first | rfl | (simp [pick, rnd_zero]; done) | (have := gf'.out; have := gu'.out; simp [pick]; omega)) rfl, by first | exact ⟨_, rfl⟩ | exact ⟨0, rfl⟩⟩
  · have hp := prod_bd (n := n) (d := (280 - u)) (s := s) hn (by omega) hs
    have hr := rnd_bd (n * (280 - u) * s) 280000 (by omega)
    have hres : Hid (shrV n f u s = n - rnd (n * (280 - u) * s) 280000) := Lib.hid (by rw [hv.out]; rw [m_hi gf, m_lo gu])
    have e1 : IntKind.i64.wrap (n * (280 - u)) = n * (280 - u) := IntWalk.i64_in _ (by omega)
    have e2 : IntKind.i64.wrap (n * (280 - u) * s) = n * (280 - u) * s := IntWalk.i64_in _ (by omega)
    have e3 : IntKind.i64.wrap (n - rnd (n * (280 - u) * s) 280000) = n - rnd (n * (280 - u) * s) 280000 := IntWalk.i64_in _ (by omega)
    have e4 : rnd (0 : Int) 280000 = 0 := rnd_zero _
    have e5 : IntKind.i64.wrap n = n := IntWalk.i64_in _ (by omega)
    have hp' := Lib.hid hp
    have gf' := Lib.hid gf
    have gu' := Lib.hid gu
    clear hp hr
    go_enter Try.func7, Try.ntmps7
    go_wp2_with (first
      | (go_at_call 19; refine (within64_any _ _ _ _).mono ?_; rintro e w' ⟨rfl, rfl⟩)
      | (go_at_call 20; refine (isThousandths_any _ _).mono ?_; rintro e w' ⟨rfl, rfl⟩)
      | (go_at_call 21; refine (nearest_any _ _ (by omega) (by have := hp'.out; first | omega | (simp at this ⊢; done)) (by have := hp'.out; first | omega | (simp at this ⊢; done)) (by omega) (by omega) _).mono ?_; rintro e w' ⟨rfl, m, rfl⟩))
    all_goals
      go_ret2
      exact ⟨ret_int2 (by rw [hres.out]; first | rfl | (simp [pick, rnd_zero]; done) | (have := gf'.out; have := gu'.out; simp [pick]; omega)) rfl, by first | exact ⟨_, rfl⟩ | exact ⟨0, rfl⟩⟩
  · have hp := prod_bd (n := n) (d := (f - 280)) (s := s) hn (by omega) hs
    have hr := rnd_bd (n * (f - 280) * s) 280000 (by omega)
    have hres : Hid (shrV n f u s = n - rnd (n * (f - 280) * s) 280000) := Lib.hid (by rw [hv.out]; rw [m_lo gf, m_hi gu])
    have e1 : IntKind.i64.wrap (n * (f - 280)) = n * (f - 280) := IntWalk.i64_in _ (by omega)
    have e2 : IntKind.i64.wrap (n * (f - 280) * s) = n * (f - 280) * s := IntWalk.i64_in _ (by omega)
    have e3 : IntKind.i64.wrap (n - rnd (n * (f - 280) * s) 280000) = n - rnd (n * (f - 280) * s) 280000 := IntWalk.i64_in _ (by omega)
    have e4 : rnd (0 : Int) 280000 = 0 := rnd_zero _
    have e5 : IntKind.i64.wrap n = n := IntWalk.i64_in _ (by omega)
    have hp' := Lib.hid hp
    have gf' := Lib.hid gf
    have gu' := Lib.hid gu
    clear hp hr
    go_enter Try.func7, Try.ntmps7
    go_wp2_with (first
      | (go_at_call 19; refine (within64_any _ _ _ _).mono ?_; rintro e w' ⟨rfl, rfl⟩)
      | (go_at_call 20; refine (isThousandths_any _ _).mono ?_; rintro e w' ⟨rfl, rfl⟩)
      | (go_at_call 21; refine (nearest_any _ _ (by omega) (by have := hp'.out; first | omega | (simp at this ⊢; done)) (by have := hp'.out; first | omega | (simp at this ⊢; done)) (by omega) (by omega) _).mono ?_; rintro e w' ⟨rfl, m, rfl⟩))
    all_goals
      go_ret2
      exact ⟨ret_int2 (by rw [hres.out]; first | rfl | (simp [pick, rnd_zero]; done) | (have := gf'.out; have := gu'.out; simp [pick]; omega)) rfl, by first | exact ⟨_, rfl⟩ | exact ⟨0, rfl⟩⟩
  · have hp := prod_bd (n := n) (d := (f - u)) (s := s) hn (by omega) hs
    have hr := rnd_bd (n * (f - u) * s) 280000 (by omega)
    have hres : Hid (shrV n f u s = n - rnd (n * (f - u) * s) 280000) := Lib.hid (by rw [hv.out]; rw [m_lo gf, m_lo gu])
    have e1 : IntKind.i64.wrap (n * (f - u)) = n * (f - u) := IntWalk.i64_in _ (by omega)
    have e2 : IntKind.i64.wrap (n * (f - u) * s) = n * (f - u) * s := IntWalk.i64_in _ (by omega)
    have e3 : IntKind.i64.wrap (n - rnd (n * (f - u) * s) 280000) = n - rnd (n * (f - u) * s) 280000 := IntWalk.i64_in _ (by omega)
    have e4 : rnd (0 : Int) 280000 = 0 := rnd_zero _
    have e5 : IntKind.i64.wrap n = n := IntWalk.i64_in _ (by omega)
    have hp' := Lib.hid hp
    have gf' := Lib.hid gf
    have gu' := Lib.hid gu
    clear hp hr
    go_enter Try.func7, Try.ntmps7
    go_wp2_with (first
      | (go_at_call 19; refine (within64_any _ _ _ _).mono ?_; rintro e w' ⟨rfl, rfl⟩)
      | (go_at_call 20; refine (isThousandths_any _ _).mono ?_; rintro e w' ⟨rfl, rfl⟩)
      | (go_at_call 21; refine (nearest_any _ _ (by omega) (by have := hp'.out; first | omega | (simp at this ⊢; done)) (by have := hp'.out; first | omega | (simp at this ⊢; done)) (by omega) (by omega) _).mono ?_; rintro e w' ⟨rfl, m, rfl⟩))
    all_goals
      go_ret2
      exact ⟨ret_int2 (by rw [hres.out]; first | rfl | (simp [pick, rnd_zero]; done) | (have := gf'.out; have := gu'.out; simp [pick]; omega)) rfl, by first | exact ⟨_, rfl⟩ | exact ⟨0, rfl⟩⟩
end Go.Proofs.Ytiapjoldidkamaa
