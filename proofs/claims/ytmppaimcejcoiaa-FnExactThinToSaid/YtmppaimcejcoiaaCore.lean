/-
  Contracts of the small integer functions: bounds, nearest quotients.
-/
import Derived.Test.YtmppaimcejcoiaaChecked
import Derived.Test.YtmppaimcejcoiaaMath1
import Derived.WalkKit
import Derived.ProofKit
import Derived.OpenShut
import Derived.Lib.Hide
import Derived.Deep.QuietTactic
import Derived.BigQuiet
import Derived.IntWalk
namespace Go.Proofs.Ytmppaimcejcoiaa
open Go.ChangeShapes Go.WideShapes Go.ChangeAt Go.RowKit
set_option linter.unusedVariables false
set_option linter.unusedSimpArgs false

theorem ret_int {k : IntKind} {a b : Int} (h : a = b) : Ending.returned (.int k a) = .returned (.int k b) := by rw [h]
theorem Qs {P : Program} {f : FuncId} {args : Array Value} {w : World} {n : Nat} {v : Value}
    (h : Calls P f args (w.drewN n) fun e w' => e = .returned v ∧ w.drewN n = w') : Calls P f args (w.drewN n) fun e w'' => e = .returned v ∧ ∃ m, w'' = w.drewN m :=
  h.mono fun _ _ ⟨he, hm⟩ => ⟨he, n, hm.symm⟩
theorem ret_bool {a b : Bool} (h : a = b) : Ending.returned (.bool a) = .returned (.bool b) := by rw [h]

theorem belowN {B : Nat} {a w : World} (h : Below B a w) (n : Nat) : Below B a (w.drewN n) := h.trans ⟨rfl, rfl, rfl, Nat.le_refl _, fun _ _ => rfl⟩
theorem l00In_any (n lo hi : Int) (w : World) : Calls Try.prog 23 #[.int .i64 n, .int .i64 lo, .int .i64 hi] w fun e w' => e = .returned (.bool (inB n lo hi)) ∧ w = w' := by
  by_cases h1 : lo ≤ n <;> by_cases h2 : n ≤ hi
  all_goals
    go_enter Try.func23, Try.ntmps23
    go_wp2
    go_ret
    exact ⟨ret_bool (by simp [inB, h1, h2]), rfl⟩

theorem within64_any (n lo hi : Int) (w : World) : Calls Try.prog 29 #[.int .i64 n, .int .i64 lo, .int .i64 hi] w fun e w' => e = .returned (.bool (inB n lo hi)) ∧ w = w' := by
  by_cases h1 : lo ≤ n <;> by_cases h2 : n ≤ hi
  all_goals
    go_enter Try.func29, Try.ntmps29
    go_wp2
    go_ret
    exact ⟨ret_bool (by simp [inB, h1, h2]), rfl⟩

theorem magnitude_any (n : Int) (h0 : -9223372036854775808 ≤ n) (h1 : n ≤ 9223372036854775807) (w : World) : Calls Try.prog 60 #[.int .i64 n] w fun e w' => e = .returned (.int .u64 n.natAbs) ∧ w = w' := by
  by_cases h : n < 0
  all_goals
    go_enter Try.func60, Try.ntmps60
    go_wp2
    go_ret
    refine ⟨ret_int ?_, rfl⟩
    first | omega | (simp only [IntKind.wrap_u64]; omega) | trace_state

theorem tdiv_bd (a b : Int) : (a.tdiv b).natAbs ≤ a.natAbs := by
  rw [Int.natAbs_tdiv]; exact Nat.div_le_self _ _
theorem tmod_bd (a b : Int) : (a.tmod b).natAbs ≤ a.natAbs := by
  rw [Int.natAbs_tmod]; exact Nat.mod_le _ _
theorem rp_bd (a b : Int) (hb : 0 < b) : (rp a b).natAbs ≤ 2 * a.natAbs + b.natAbs := by
  unfold rp; split
  · have h1 := Int.ediv_nonneg (a := b - 2 * a) (b := 2 * b) (by omega) (by omega)
    have h2 := Int.ediv_le_self (a := b - 2 * a) (2 * b) (by omega)
    omega
  · have h1 := Int.ediv_nonneg (a := 2 * a + b) (b := 2 * b) (by omega) (by omega)
    have h2 := Int.ediv_le_self (a := 2 * a + b) (2 * b) (by omega)
    omega

theorem l01Div_any (a b : Int) (hb : b ≠ 0) (ha0 : -4000000000000000000 ≤ a) (ha1 : a ≤ 4000000000000000000) (hb0 : -1000000000000000000 ≤ b) (hb1 : b ≤ 1000000000000000000) (w : World) : Calls Try.prog 45 #[.int .i64 a, .int .i64 b] w fun e w' => e = .returned (.int .i64 (rnd a b)) ∧ w = w' := by
  by_cases h : b < 0
  · have hr : Hid (rnd a b = rp (-a) (-b)) := Lib.hid (by unfold rnd; rw [if_neg hb, if_pos h])
    have hd := rp_bd (-a) (-b) (by omega)
    by_cases g : 0 < a
    · have hr2 : Hid (rp (-a) (-b) = -((-b - 2 * -a) / (2 * -b))) := Lib.hid (rp_neg (by omega))
      rw [hr2.out] at hd
      go_enter Try.func45, Try.ntmps45
      go_wp2
      go_ret
      exact ⟨ret_int (by rw [hr.out, hr2.out]), rfl⟩
    · have hr2 : Hid (rp (-a) (-b) = (2 * -a + -b) / (2 * -b)) := Lib.hid (rp_pos (by omega))
      clear hd
      go_enter Try.func45, Try.ntmps45
      go_wp2
      go_ret
      exact ⟨ret_int (by rw [hr.out, hr2.out]), rfl⟩
  · have hr : Hid (rnd a b = rp a b) := Lib.hid (by unfold rnd; rw [if_neg hb, if_neg h])
    have hd := rp_bd a b (by omega)
    by_cases g : a < 0
    · have hr2 : Hid (rp a b = -((b - 2 * a) / (2 * b))) := Lib.hid (rp_neg (by omega))
      rw [hr2.out] at hd
      go_enter Try.func45, Try.ntmps45
      go_wp2
      go_ret
      exact ⟨ret_int (by rw [hr.out, hr2.out]), rfl⟩
    · have hr2 : Hid (rp a b = (2 * a + b) / (2 * b)) := Lib.hid (rp_pos (by omega))
      clear hd
      go_enter Try.func45, Try.ntmps45
      go_wp2
      go_ret
      exact ⟨ret_int (by rw [hr.out, hr2.out]), rfl⟩

theorem nearest_zero (a : Int) (w : World) : Calls Try.prog 51 #[.int .i64 a, .int .i64 0] w fun e w' => e = .returned (.int .i64 0) ∧ w = w' := by
  go_enter Try.func51, Try.ntmps51
  go_wp2
  go_ret
  exact ⟨rfl, rfl⟩

theorem tmod_lt (a b : Int) (hb : b ≠ 0) : (a.tmod b).natAbs < b.natAbs := by
  rw [Int.natAbs_tmod]; exact Nat.mod_lt _ (by omega)

theorem nearest_any (a b : Int) (hb : b ≠ 0) (ha0 : -9223372036854775807 ≤ a) (ha1 : a ≤ 9223372036854775807) (hb0 : -9223372036854775808 ≤ b) (hb1 : b ≤ 9223372036854775807) (w : World) : Calls Try.prog 51 #[.int .i64 a, .int .i64 b] w fun e w' => e = .returned (.int .i64 (rnd a b)) ∧ ∃ n, w' = w.drewN n := by
  have hr := rnd_prog a b hb
  have hq := tdiv_bd a b
  have hm := tmod_bd a b
  have hl := tmod_lt a b hb
  rw [Int.natAbs_tmod] at hr
  have hs : (a.natAbs : Int) % (b.natAbs : Int) = ((a.tmod b).natAbs : Int) := by rw [Int.natAbs_tmod]; rfl
  have hc : ((a.natAbs % b.natAbs : Nat) : Int) = (a.natAbs : Int) % (b.natAbs : Int) := rfl
  rw [hc] at hr
  have e0 : (b == 0) = false := by simpa using hb
  have e1 : IntKind.i64.wrap (a.tmod b) = a.tmod b := IntWalk.i64_in _ (by omega)
  have e2 : IntKind.i64.wrap (a.tdiv b) = a.tdiv b := IntWalk.i64_in _ (by omega)
  have e3 : IntKind.u64.wrap ((b.natAbs : Int) - (a.natAbs : Int) % (b.natAbs : Int)) = (b.natAbs : Int) - (a.natAbs : Int) % (b.natAbs : Int) := IntWalk.u64_in _ (by omega)
  by_cases h1 : (a.natAbs : Int) % (b.natAbs : Int) < (b.natAbs : Int) - (a.natAbs : Int) % (b.natAbs : Int)
  · rw [if_pos h1] at hr
    have hr' : Hid _ := Lib.hid hr
    clear hr hs hc
    go_enter Try.func51, Try.ntmps51
    go_wp2
    go_quiet ((go_at_call 60; exact Qs (magnitude_any _ (by omega) (by omega) _)))
    clear e1 e2
    go_wp2_with (go_at_call 60; refine (magnitude_any _ (by omega) (by omega) _).mono ?_; rintro e w' ⟨rfl, rfl⟩)
    go_ret
    exact ⟨ret_int hr'.out.symm, _, rfl⟩
  · rw [if_neg h1] at hr
    have hq2 : -9223372036854775807 ≤ a.tdiv b - 1 ∧ a.tdiv b + 1 ≤ 9223372036854775807 := by
      rcases Nat.lt_or_ge 1 b.natAbs with k | k
      · rw [Int.natAbs_tdiv] at hq
        have := Int.natAbs_tdiv a b
        have h2 : a.natAbs.div b.natAbs ≤ a.natAbs / 2 := Nat.div_le_div_left (by omega) (by omega)
        omega
      · have : b.natAbs = 1 := by omega
        rw [this] at h1; simp [Int.emod_one] at h1
    cases h2 : decide (a < 0) <;> cases h3 : decide (b < 0)
    all_goals
      rw [h2, h3] at hr
      simp only [ne_eq, not_true_eq_false, not_false_eq_true, reduceCtorEq, if_true, if_false] at hr
      have hr' : Hid _ := Lib.hid hr
      clear hr hs hc
      go_enter Try.func51, Try.ntmps51
      go_wp2
      go_quiet ((go_at_call 60; exact Qs (magnitude_any _ (by omega) (by omega) _)))
      clear e1 e2
      go_wp2_with (go_at_call 60; refine (magnitude_any _ (by omega) (by omega) _).mono ?_; rintro e w' ⟨rfl, rfl⟩)
      go_ret
      exact ⟨ret_int hr'.out.symm, _, rfl⟩
end Go.Proofs.Ytmppaimcejcoiaa
