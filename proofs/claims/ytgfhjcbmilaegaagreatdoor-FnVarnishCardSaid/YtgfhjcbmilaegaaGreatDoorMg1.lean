/-
  Texts that stand together: Math1, Core, Core2, Bytes, SplitMath, Split, Src.
-/
import Derived.Test.YtgfhjcbmilaegaaGreatDoorChecked
import Derived.WalkKit
import Derived.ProofKit
import Derived.OpenShut
import Derived.Lib.Hide
import Derived.Deep.QuietTactic
import Derived.BigQuiet
import Derived.IntWalk
namespace Go.Proofs.YtgfhjcbmilaegaaGreatDoor
/-- is n from lo to hi? (not reducible: the walk leaves it alone) -/
def inB (n lo hi : Int) : Bool := decide (lo ≤ n) && decide (n ≤ hi)
theorem inB_iff {n lo hi : Int} : inB n lo hi = true ↔ lo ≤ n ∧ n ≤ hi := by simp [inB]
theorem inB_no {n lo hi : Int} : inB n lo hi = false ↔ (n < lo ∨ hi < n) := by
  have := @inB_iff n lo hi
  cases h : inB n lo hi
  · rw [h] at this; simp at this; simp; omega
  · rw [h] at this; simp at this; simp; omega

/-- the integer nearest to a / b for b > 0, halves away from 0 -/
def rp (a b : Int) : Int := if a < 0 then -((b - 2 * a) / (2 * b)) else (2 * a + b) / (2 * b)
def rnd (a b : Int) : Int := if b = 0 then 0 else if b < 0 then rp (-a) (-b) else rp a b

theorem rp_pos {a b : Int} (ha : 0 ≤ a) : rp a b = (2 * a + b) / (2 * b) := by unfold rp; rw [if_neg (by omega)]
theorem rp_neg {a b : Int} (ha : a < 0) : rp a b = -((b - 2 * a) / (2 * b)) := by unfold rp; rw [if_pos ha]

/-- the quotient in terms of quotient and rest -/
theorem near_div (q r b : Int) (hb : 0 < b) (h0 : 0 ≤ r) (h1 : r < b) :
    (2 * (b * q + r) + b) / (2 * b) = if r < b - r then q else q + 1 := by
  have e : 2 * (b * q + r) + b = (2 * r + b) + (2 * b) * q := by rw [Int.mul_assoc]; omega
  rw [e, Int.add_mul_ediv_left _ _ (by omega)]
  split
  · rw [Int.ediv_eq_zero_of_lt (by omega) (by omega)]; omega
  · have : 2 * r + b = (2 * r - b) + (2 * b) * 1 := by omega
    rw [this, Int.add_mul_ediv_left _ _ (by omega), Int.ediv_eq_zero_of_lt (by omega) (by omega)]; omega

theorem rnd_pp (a b : Int) (hb : 0 < b) (ha : 0 ≤ a) : rnd a b = if a % b < b - a % b then a / b else a / b + 1 := by
  unfold rnd; rw [if_neg (by omega), if_neg (by omega), rp_pos ha]
  have := near_div (a / b) (a % b) b hb (Int.emod_nonneg _ (by omega)) (Int.emod_lt_of_pos _ hb)
  rwa [Int.mul_ediv_add_emod] at this
theorem rnd_np (a b : Int) (hb : 0 < b) (ha : a < 0) : rnd a b = -(rnd (-a) b) := by
  unfold rnd; rw [if_neg (by omega), if_neg (by omega), if_neg (by omega), if_neg (by omega), rp_neg ha, rp_pos (by omega)]
  congr 2; omega
theorem rnd_zero (b : Int) : rnd 0 b = 0 := by
  unfold rnd; split
  · rfl
  · split
    · rw [rp_pos (by omega), Int.ediv_eq_zero_of_lt (by omega) (by omega)]
    · rw [rp_pos (by omega), Int.ediv_eq_zero_of_lt (by omega) (by omega)]
theorem rnd_neg (a b : Int) (hb : b < 0) : rnd a b = rnd (-a) (-b) := by
  unfold rnd; rw [if_neg (by omega), if_pos hb, if_neg (by omega), if_neg (by omega)]

/-- what the program computes: quotient and rest towards zero -/
theorem rnd_prog (a b : Int) (hb : b ≠ 0) :
    rnd a b = if ((a.tmod b).natAbs : Int) < (b.natAbs : Int) - (a.tmod b).natAbs then a.tdiv b else if decide (a < 0) ≠ decide (b < 0) then a.tdiv b - 1 else a.tdiv b + 1 := by
  have key : ∀ a b : Int, 0 < b → 0 ≤ a → rnd a b = if ((a.tmod b).natAbs : Int) < (b.natAbs : Int) - (a.tmod b).natAbs then a.tdiv b else a.tdiv b + 1 := by
    intro a b hb ha
    rw [rnd_pp a b hb ha, Int.tmod_eq_emod_of_nonneg ha, Int.tdiv_eq_ediv_of_nonneg ha]
    have := Int.emod_nonneg a (b := b) (by omega)
    rw [Int.natAbs_of_nonneg this, Int.natAbs_of_nonneg (by omega)]
  rcases Int.lt_or_gt_of_ne hb with h | h
  · rcases Int.lt_or_le a 0 with g | g
    · rw [rnd_neg a b h, key (-a) (-b) (by omega) (by omega), Int.neg_tmod, Int.tmod_neg, Int.natAbs_neg, Int.natAbs_neg, Int.tdiv_neg, Int.neg_tdiv]
      simp [g, h]
    · have hh : rnd a b = -(rnd a (-b)) := by
        rw [rnd_neg a b h]
        rcases Int.lt_or_le 0 a with k | k
        · rw [rnd_np (-a) (-b) (by omega) (by omega)]; simp
        · have : a = 0 := by omega
          subst this; simp [rnd_zero]
      rw [hh, key a (-b) (by omega) g, Int.tmod_neg, Int.natAbs_neg, Int.tdiv_neg]
      have g' : ¬ a < 0 := by omega
      simp only [g', h]
      split
      · omega
      · simp; omega
  · rcases Int.lt_or_le a 0 with g | g
    · rw [rnd_np a b h g, key (-a) b h (by omega), Int.neg_tmod, Int.natAbs_neg, Int.neg_tdiv]
      have h' : ¬ b < 0 := by omega
      simp only [g, h']
      split
      · omega
      · simp; omega
    · rw [key a b h g]
      have h' : ¬ b < 0 := by omega
      have g' : ¬ a < 0 := by omega
      simp [g', h']
end Go.Proofs.YtgfhjcbmilaegaaGreatDoor
namespace Go.Proofs.YtgfhjcbmilaegaaGreatDoor
open Go.ChangeShapes Go.WideShapes Go.ChangeAt Go.RowKit
set_option linter.unusedVariables false
set_option linter.unusedSimpArgs false

theorem ret_int {k : IntKind} {a b : Int} (h : a = b) : Ending.returned (.int k a) = .returned (.int k b) := by rw [h]
theorem Qs {P : Program} {f : FuncId} {args : Array Value} {w : World} {n : Nat} {v : Value}
    (h : Calls P f args (w.drewN n) fun e w' => e = .returned v ∧ w.drewN n = w') : Calls P f args (w.drewN n) fun e w'' => e = .returned v ∧ ∃ m, w'' = w.drewN m :=
  h.mono fun _ _ ⟨he, hm⟩ => ⟨he, n, hm.symm⟩
theorem ret_bool {a b : Bool} (h : a = b) : Ending.returned (.bool a) = .returned (.bool b) := by rw [h]

theorem belowN {B : Nat} {a w : World} (h : Below B a w) (n : Nat) : Below B a (w.drewN n) := h.trans ⟨rfl, rfl, rfl, Nat.le_refl _, fun _ _ => rfl⟩
theorem l00In_any (n lo hi : Int) (w : World) : Calls Tryz.prog 59 #[.int .i64 n, .int .i64 lo, .int .i64 hi] w fun e w' => e = .returned (.bool (inB n lo hi)) ∧ w = w' := by
  by_cases h1 : lo ≤ n <;> by_cases h2 : n ≤ hi
  all_goals
    go_enter Tryz.func59, Tryz.ntmps59
    go_wp2
    go_ret
    exact ⟨ret_bool (by simp [inB, h1, h2]), rfl⟩

theorem within64_any (n lo hi : Int) (w : World) : Calls Tryz.prog 40 #[.int .i64 n, .int .i64 lo, .int .i64 hi] w fun e w' => e = .returned (.bool (inB n lo hi)) ∧ w = w' := by
  by_cases h1 : lo ≤ n <;> by_cases h2 : n ≤ hi
  all_goals
    go_enter Tryz.func40, Tryz.ntmps40
    go_wp2
    go_ret
    exact ⟨ret_bool (by simp [inB, h1, h2]), rfl⟩

theorem isValue_any (n : Int) (w : World) : Calls Tryz.prog 52 #[.int .i64 n] w fun e w' => e = .returned (.bool (inB n (-1000000000000) 1000000000000)) ∧ w = w' := by
  go_enter Tryz.func52, Tryz.ntmps52
  go_wp2_with (go_at_call 40; refine (within64_any _ _ _ _).mono ?_; rintro e w' ⟨rfl, rfl⟩)
  go_ret
  exact ⟨rfl, rfl⟩

theorem magnitude_any (n : Int) (h0 : -9223372036854775808 ≤ n) (h1 : n ≤ 9223372036854775807) (w : World) : Calls Tryz.prog 69 #[.int .i64 n] w fun e w' => e = .returned (.int .u64 n.natAbs) ∧ w = w' := by
  by_cases h : n < 0
  all_goals
    go_enter Tryz.func69, Tryz.ntmps69
    go_wp2
    go_ret
    refine ⟨ret_int ?_, rfl⟩
    first | omega | (simp only [IntKind.wrap_u64]; omega) | trace_state

theorem tdiv_bd (a b : Int) : (a.tdiv b).natAbs ≤ a.natAbs := by
  rw [Int.natAbs_tdiv]; exact Nat.div_le_self _ _
theorem tmod_bd (a b : Int) : (a.tmod b).natAbs ≤ a.natAbs := by
  rw [Int.natAbs_tmod]; exact Nat.mod_le _ _
theorem rp_bd (a b : Int) (hb : 0 < b) : (rp a b).natAbs ≤ 2 * a.natAbs + b.natAbs := by
  unfold rp; split
  · have h1 := Int.ediv_nonneg (a := b - 2 * a) (b := 2 * b) (by omega) (by omega)
    have h2 := Int.ediv_le_self (a := b - 2 * a) (2 * b) (by omega)
    omega
  · have h1 := Int.ediv_nonneg (a := 2 * a + b) (b := 2 * b) (by omega) (by omega)
    have h2 := Int.ediv_le_self (a := 2 * a + b) (2 * b) (by omega)
    omega

theorem l01Div_any (a b : Int) (hb : b ≠ 0) (ha0 : -4000000000000000000 ≤ a) (ha1 : a ≤ 4000000000000000000) (hb0 : -1000000000000000000 ≤ b) (hb1 : b ≤ 1000000000000000000) (w : World) : Calls Tryz.prog 62 #[.int .i64 a, .int .i64 b] w fun e w' => e = .returned (.int .i64 (rnd a b)) ∧ w = w' := by
  by_cases h : b < 0
  · have hr : Hid (rnd a b = rp (-a) (-b)) := Lib.hid (by unfold rnd; rw [if_neg hb, if_pos h])
    have hd := rp_bd (-a) (-b) (by omega)
    by_cases g : 0 < a
    · have hr2 : Hid (rp (-a) (-b) = -((-b - 2 * -a) / (2 * -b))) := Lib.hid (rp_neg (by omega))
      rw [hr2.out] at hd
      go_enter Tryz.func62, Tryz.ntmps62
      go_wp2
      go_ret
      exact ⟨ret_int (by rw [hr.out, hr2.out]), rfl⟩
    · have hr2 : Hid (rp (-a) (-b) = (2 * -a + -b) / (2 * -b)) := Lib.hid (rp_pos (by omega))
      clear hd
      go_enter Tryz.func62, Tryz.ntmps62
      go_wp2
      go_ret
      exact ⟨ret_int (by rw [hr.out, hr2.out]), rfl⟩
  · have hr : Hid (rnd a b = rp a b) := Lib.hid (by unfold rnd; rw [if_neg hb, if_neg h])
    have hd := rp_bd a b (by omega)
    by_cases g : a < 0
    · have hr2 : Hid (rp a b = -((b - 2 * a) / (2 * b))) := Lib.hid (rp_neg (by omega))
      rw [hr2.out] at hd
      go_enter Tryz.func62, Tryz.ntmps62
      go_wp2
      go_ret
      exact ⟨ret_int (by rw [hr.out, hr2.out]), rfl⟩
    · have hr2 : Hid (rp a b = (2 * a + b) / (2 * b)) := Lib.hid (rp_pos (by omega))
      clear hd
      go_enter Tryz.func62, Tryz.ntmps62
      go_wp2
      go_ret
      exact ⟨ret_int (by rw [hr.out, hr2.out]), rfl⟩

theorem nearest_zero (a : Int) (w : World) : Calls Tryz.prog 53 #[.int .i64 a, .int .i64 0] w fun e w' => e = .returned (.int .i64 0) ∧ w = w' := by
  go_enter Tryz.func53, Tryz.ntmps53
  go_wp2
  go_ret
  exact ⟨rfl, rfl⟩

theorem tmod_lt (a b : Int) (hb : b ≠ 0) : (a.tmod b).natAbs < b.natAbs := by
  rw [Int.natAbs_tmod]; exact Nat.mod_lt _ (by omega)

theorem nearest_any (a b : Int) (hb : b ≠ 0) (ha0 : -9223372036854775807 ≤ a) (ha1 : a ≤ 9223372036854775807) (hb0 : -9223372036854775808 ≤ b) (hb1 : b ≤ 9223372036854775807) (w : World) : Calls Tryz.prog 53 #[.int .i64 a, .int .i64 b] w fun e w' => e = .returned (.int .i64 (rnd a b)) ∧ ∃ n, w' = w.drewN n := by
  have hr := rnd_prog a b hb
  have hq := tdiv_bd a b
  have hm := tmod_bd a b
  have hl := tmod_lt a b hb
  rw [Int.natAbs_tmod] at hr
  have hs : (a.natAbs : Int) % (b.natAbs : Int) = ((a.tmod b).natAbs : Int) := by rw [Int.natAbs_tmod]; rfl
  have hc : ((a.natAbs % b.natAbs : Nat) : Int) = (a.natAbs : Int) % (b.natAbs : Int) := rfl
  rw [hc] at hr
  have e0 : (b == 0) = false := by simpa using hb
  have e1 : IntKind.i64.wrap (a.tmod b) = a.tmod b := IntWalk.i64_in _ (by omega)
  have e2 : IntKind.i64.wrap (a.tdiv b) = a.tdiv b := IntWalk.i64_in _ (by omega)
  have e3 : IntKind.u64.wrap ((b.natAbs : Int) - (a.natAbs : Int) % (b.natAbs : Int)) = (b.natAbs : Int) - (a.natAbs : Int) % (b.natAbs : Int) := IntWalk.u64_in _ (by omega)
  by_cases h1 : (a.natAbs : Int) % (b.natAbs : Int) < (b.natAbs : Int) - (a.natAbs : Int) % (b.natAbs : Int)
  · rw [if_pos h1] at hr
    have hr' : Hid _ := Lib.hid hr
    clear hr hs hc
    go_enter Tryz.func53, Tryz.ntmps53
    go_wp2
    go_quiet ((go_at_call 69; exact Qs (magnitude_any _ (by omega) (by omega) _)))
    clear e1 e2
    go_wp2_with (go_at_call 69; refine (magnitude_any _ (by omega) (by omega) _).mono ?_; rintro e w' ⟨rfl, rfl⟩)
    go_ret
    exact ⟨ret_int hr'.out.symm, _, rfl⟩
  · rw [if_neg h1] at hr
    have hq2 : -9223372036854775807 ≤ a.tdiv b - 1 ∧ a.tdiv b + 1 ≤ 9223372036854775807 := by
      rcases Nat.lt_or_ge 1 b.natAbs with k | k
      · rw [Int.natAbs_tdiv] at hq
        have := Int.natAbs_tdiv a b
        have h2 : a.natAbs.div b.natAbs ≤ a.natAbs / 2 := Nat.div_le_div_left (by omega) (by omega)
        omega
      · have : b.natAbs = 1 := by omega
        rw [this] at h1; simp [Int.emod_one] at h1
    cases h2 : decide (a < 0) <;> cases h3 : decide (b < 0)
    all_goals
      rw [h2, h3] at hr
      simp only [ne_eq, not_true_eq_false, not_false_eq_true, reduceCtorEq, if_true, if_false] at hr
      have hr' : Hid _ := Lib.hid hr
      clear hr hs hc
      go_enter Tryz.func53, Tryz.ntmps53
      go_wp2
      go_quiet ((go_at_call 69; exact Qs (magnitude_any _ (by omega) (by omega) _)))
      clear e1 e2
      go_wp2_with (go_at_call 69; refine (magnitude_any _ (by omega) (by omega) _).mono ?_; rintro e w' ⟨rfl, rfl⟩)
      go_ret
      exact ⟨ret_int hr'.out.symm, _, rfl⟩
end Go.Proofs.YtgfhjcbmilaegaaGreatDoor
namespace Go.Proofs.YtgfhjcbmilaegaaGreatDoor
open Go.ChangeShapes Go.WideShapes Go.ChangeAt Go.RowKit
set_option linter.unusedVariables false
set_option linter.unusedSimpArgs false

theorem Grown.drewN {W w' : World} (h : Grown W w') (n : Nat) : Grown W (w'.drewN n) := h


def divR (a b : Int) : Int := if b = 0 then 0 else if inB a (-1000000000000) 1000000000000 = false then 0 else if inB b (-1000000000000) 1000000000000 = false then 0 else rnd a b

theorem implDivRound_any (a b : Int) (w : World) : Calls Tryz.prog 32 #[.int .i64 a, .int .i64 b] w fun e w' => e = .returned (.int .i64 (divR a b)) ∧ ∃ n, w' = w.drewN n := by
  cases h1 : inB a (-1000000000000) 1000000000000
  · have hr : Hid (divR a b = 0) := Lib.hid (by unfold divR; simp [h1])
    go_enter Tryz.func32, Tryz.ntmps32
    go_wp2_with (go_at_call 52; refine (isValue_any _ _).mono ?_; rintro e w' ⟨rfl, rfl⟩)
    go_ret
    exact ⟨ret_int hr.out.symm, 0, rfl⟩
  cases h2 : inB b (-1000000000000) 1000000000000
  · have hr : Hid (divR a b = 0) := Lib.hid (by unfold divR; simp [h1, h2])
    go_enter Tryz.func32, Tryz.ntmps32
    go_wp2_with (go_at_call 52; refine (isValue_any _ _).mono ?_; rintro e w' ⟨rfl, rfl⟩)
    go_ret
    exact ⟨ret_int hr.out.symm, 0, rfl⟩
  have g1 := inB_iff.1 h1
  have g2 := inB_iff.1 h2
  by_cases hb : b = 0
  · subst hb
    have hr : Hid (divR a 0 = 0) := Lib.hid (by unfold divR; rw [if_pos rfl])
    go_enter Tryz.func32, Tryz.ntmps32
    go_wp2_with (first
      | (go_at_call 52; refine (isValue_any _ _).mono ?_; rintro e w' ⟨rfl, rfl⟩)
      | (go_at_call 53; refine (nearest_zero _ _).mono ?_; rintro e w' ⟨rfl, rfl⟩))
    go_ret
    exact ⟨ret_int hr.out.symm, 0, rfl⟩
  have hr : Hid (divR a b = rnd a b) := Lib.hid (by unfold divR; rw [if_neg hb, if_neg (by simp [h1]), if_neg (by simp [h2])])
  go_enter Tryz.func32, Tryz.ntmps32
  go_wp2_with (first
    | (go_at_call 52; refine (isValue_any _ _).mono ?_; rintro e w' ⟨rfl, rfl⟩)
    | (go_at_call 53; refine (nearest_any a b hb (by omega) (by omega) (by omega) (by omega) _).mono ?_; rintro e w' ⟨rfl, n, rfl⟩))
  go_ret
  exact ⟨ret_int hr.out.symm, _, rfl⟩

/-- the value at x of the line through two points -/
def lineR (x0 y0 x1 y1 x : Int) : Int := if x ≤ x0 then y0 else if x1 ≤ x0 then y0 else if x1 ≤ x then y1 else y0 + rnd ((y1 - y0) * (x - x0)) (x1 - x0)

theorem mul_bd {a b B C : Int} (ha0 : -B ≤ a) (ha1 : a ≤ B) (hb0 : 0 ≤ b) (hb1 : b ≤ C) (hB : 0 ≤ B) : -(B * C) ≤ a * b ∧ a * b ≤ B * C := by
  have h1 : a * b ≤ B * b := Int.mul_le_mul_of_nonneg_right ha1 hb0
  have h2 : B * b ≤ B * C := Int.mul_le_mul_of_nonneg_left hb1 hB
  have h3 : (-B) * b ≤ a * b := Int.mul_le_mul_of_nonneg_right ha0 hb0
  have h4 : (-B) * b = -(B * b) := Int.neg_mul _ _
  omega
theorem rnd_bd (a b : Int) (hb : 0 < b) : (rnd a b).natAbs ≤ a.natAbs + 1 := by
  rw [rnd_prog a b (by omega)]
  have := Int.natAbs_tdiv_le_natAbs a b
  split
  · omega
  · split <;> omega

def in6 (n : Int) : Bool := inB n (-1000000) 1000000
theorem l00In6 (n : Int) (w : World) : Calls Tryz.prog 59 #[.int .i64 n, .int .i64 (-1000000), .int .i64 1000000] w fun e w' => e = .returned (.bool (in6 n)) ∧ w = w' := l00In_any _ _ _ _
theorem within6 (n : Int) (w : World) : Calls Tryz.prog 40 #[.int .i64 n, .int .i64 (-1000000), .int .i64 1000000] w fun e w' => e = .returned (.bool (in6 n)) ∧ w = w' := within64_any _ _ _ _
theorem in6_iff {n : Int} (h : in6 n = true) : -1000000 ≤ n ∧ n ≤ 1000000 := inB_iff.1 h
def blendR (x0 y0 x1 y1 x : Int) : Int := if in6 x0 && in6 x1 && in6 y0 && in6 y1 then lineR x0 y0 x1 y1 x else 0

def upTo4 (k : Nat) (a b c d : Int) : Prop := (1 ≤ k → in6 a = true) ∧ (2 ≤ k → in6 b = true) ∧ (3 ≤ k → in6 c = true) ∧ (4 ≤ k → in6 d = true)

end Go.Proofs.YtgfhjcbmilaegaaGreatDoor
namespace Go.Proofs.YtgfhjcbmilaegaaGreatDoor
theorem take_snoc (s : ByteArray) (k : Nat) (h : k < s.size) : s.data.toList.take (k + 1) = s.data.toList.take k ++ [s[k]] := by
  rw [List.take_succ_eq_append_getElem (by simpa using h)]; rfl
theorem len_data (s : ByteArray) : s.data.toList.length = s.size := rfl
theorem take_all (s : ByteArray) : s.data.toList.take s.size = s.data.toList := by
  exact List.take_of_length_le (Nat.le_of_eq (len_data s))
theorem mem_at (s : ByteArray) (k : Nat) (h : k < s.size) : s[k] ∈ s.data.toList := by
  have : s[k] = s.data.toList[k]'(by rw [len_data]; exact h) := rfl
  rw [this]; exact List.getElem_mem _

/-- a small letter; a letter or a digit; a name -/
def lb (c : UInt8) : Bool := inB c.toNat 97 122
def db (c : UInt8) : Bool := inB c.toNat 48 57
def ldb (c : UInt8) : Bool := lb c || db c
def nameL (l : List UInt8) : Bool := decide (1 ≤ l.length ∧ l.length ≤ 10) && lb (l.headD 0) && l.all ldb
theorem all_fail {l : List UInt8} {p : UInt8 → Bool} {c : UInt8} (h : c ∈ l) (hc : p c = false) : l.all p = false := by
  rw [List.all_eq_false]; exact ⟨c, h, by simp [hc]⟩
theorem all_snoc {l : List UInt8} {p : UInt8 → Bool} {c : UInt8} (h : l.all p = true) (hc : p c = true) : (l ++ [c]).all p = true := by
  rw [List.all_append, h]; simp [hc]
theorem head_at (s : ByteArray) (h : 0 < s.size) : s.data.toList.headD 0 = s[0] := by
  rcases s with ⟨⟨l⟩⟩
  cases l with
  | nil => exact absurd h (Nat.lt_irrefl 0)
  | cons a t => rfl
theorem lb_of (c : UInt8) : inB (c.toNat : Int) 97 122 = lb c := rfl
theorem db_of (c : UInt8) : inB (c.toNat : Int) 48 57 = db c := rfl
theorem u8_bd (c : UInt8) : 0 ≤ (c.toNat : Int) ∧ (c.toNat : Int) ≤ 255 := by have := c.toNat_lt; omega
end Go.Proofs.YtgfhjcbmilaegaaGreatDoor
namespace Go.Proofs.YtgfhjcbmilaegaaGreatDoor
def splitStep (b : UInt8) (st : List (List UInt8) × List UInt8) (c : UInt8) : List (List UInt8) × List UInt8 :=
  if c = b then (st.1 ++ [st.2], []) else (st.1, st.2 ++ [c])
def splitSt (b : UInt8) (l : List UInt8) : List (List UInt8) × List UInt8 := l.foldl (splitStep b) ([], [])
def splitL (b : UInt8) (l : List UInt8) : List (List UInt8) := (splitSt b l).1 ++ [(splitSt b l).2]
theorem splitSt_snoc (b : UInt8) (l : List UInt8) (c : UInt8) : splitSt b (l ++ [c]) = splitStep b (splitSt b l) c := by
  unfold splitSt; rw [List.foldl_append]; rfl
theorem splitSt_hit (b : UInt8) (l : List UInt8) (c : UInt8) (h : c = b) : splitSt b (l ++ [c]) = ((splitSt b l).1 ++ [(splitSt b l).2], []) := by
  rw [splitSt_snoc]; unfold splitStep; rw [if_pos h]
theorem splitSt_miss (b : UInt8) (l : List UInt8) (c : UInt8) (h : c ≠ b) : splitSt b (l ++ [c]) = ((splitSt b l).1, (splitSt b l).2 ++ [c]) := by
  rw [splitSt_snoc]; unfold splitStep; rw [if_neg h]
theorem splitSt_more (b : UInt8) (l m : List UInt8) (h : ∀ c ∈ m, c ≠ b) : splitSt b (l ++ m) = ((splitSt b l).1, (splitSt b l).2 ++ m) := by
  induction m generalizing l with
  | nil => simp
  | cons c m ih =>
    rw [show l ++ c :: m = (l ++ [c]) ++ m by simp, ih (l ++ [c]) (fun d hd => h d (List.mem_cons_of_mem _ hd)), splitSt_miss b l c (h c List.mem_cons_self)]
    simp
/-- how many parts: at most one more than bytes -/
theorem splitSt_len (b : UInt8) (l : List UInt8) : (splitSt b l).1.length ≤ l.length := by
  have key : ∀ (l : List UInt8) (st : List (List UInt8) × List UInt8), (l.foldl (splitStep b) st).1.length ≤ st.1.length + l.length := by
    intro l
    induction l with
    | nil => intro st; simp
    | cons c l ih =>
      intro st
      rw [List.foldl_cons]
      refine Nat.le_trans (ih _) ?_
      unfold splitStep
      split
      · simp; omega
      · simp
  have := key l ([], [])
  simp only [List.length_nil, Nat.zero_add] at this
  exact this
/-- the words of a line: the parts between blanks that are not empty -/
def wordsL (l : List UInt8) : List (List UInt8) := (splitL 32 l).filter fun x => !x.isEmpty

/-- the bytes from a up to b -/
def piece (l : List UInt8) (a b : Nat) : List UInt8 := (l.drop a).take (b - a)
theorem piece_nil (l : List UInt8) (a : Nat) : piece l a a = [] := by unfold piece; simp
theorem piece_snoc (s : ByteArray) (a k : Nat) (h : a ≤ k) (hk : k < s.size) : piece s.data.toList a (k + 1) = piece s.data.toList a k ++ [s[k]] := by
  unfold piece
  have e : k + 1 - a = (k - a) + 1 := by omega
  have hl : k - a < (s.data.toList.drop a).length := by rw [List.length_drop, len_data]; omega
  rw [e, List.take_succ_eq_append_getElem hl]
  congr 2
  rw [List.getElem_drop]
  have : a + (k - a) = k := by omega
  simp only [this]; rfl
theorem extract_piece (s : ByteArray) (a b : Nat) : (s.extract a b).data.toList = piece s.data.toList a b := by
  unfold piece
  rw [ByteArray.data_extract, Array.toList_extract, List.extract_eq_take_drop]
theorem bytes_of (s : ByteArray) (l : List UInt8) (h : s.data.toList = l) : s = ⟨l.toArray⟩ := by
  subst h; rfl
theorem extract_bytes (s : ByteArray) (a b : Nat) : s.extract a b = ⟨(piece s.data.toList a b).toArray⟩ := bytes_of _ _ (extract_piece s a b)

/-- where the dividing stands at byte k: the parts so far, and where the next one begins -/
def SplitAt (b : UInt8) (s : ByteArray) (k fr : Nat) (L : List (List UInt8)) : Prop := fr ≤ k ∧ splitSt b (s.data.toList.take k) = (L, piece s.data.toList fr k)
theorem SplitAt.start (b : UInt8) (s : ByteArray) : SplitAt b s 0 0 [] := ⟨Nat.le_refl 0, by simp [splitSt, piece]⟩
theorem SplitAt.hit {b : UInt8} {s : ByteArray} {k fr : Nat} {L : List (List UInt8)} (h : SplitAt b s k fr L) (hk : k < s.size) (hc : s[k] = b) : SplitAt b s (k + 1) (k + 1) (L ++ [piece s.data.toList fr k]) := by
  refine ⟨Nat.le_refl _, ?_⟩
  rw [take_snoc s k hk, splitSt_hit b _ _ hc, h.2, piece_nil]
theorem SplitAt.miss {b : UInt8} {s : ByteArray} {k fr : Nat} {L : List (List UInt8)} (h : SplitAt b s k fr L) (hk : k < s.size) (hc : s[k] ≠ b) : SplitAt b s (k + 1) fr L := by
  refine ⟨Nat.le_succ_of_le h.1, ?_⟩
  rw [take_snoc s k hk, splitSt_miss b _ _ hc, h.2, piece_snoc s fr k h.1 hk]
theorem SplitAt.done {b : UInt8} {s : ByteArray} {fr : Nat} {L : List (List UInt8)} (h : SplitAt b s s.size fr L) : splitL b s.data.toList = L ++ [piece s.data.toList fr s.size] := by
  have e := h.2
  rw [take_all] at e
  unfold splitL; rw [e]
theorem SplitAt.len {b : UInt8} {s : ByteArray} {k fr : Nat} {L : List (List UInt8)} (h : SplitAt b s k fr L) : L.length ≤ k := by
  have := splitSt_len b (s.data.toList.take k)
  rw [h.2] at this
  exact Nat.le_trans this (List.length_take_le _ _)
end Go.Proofs.YtgfhjcbmilaegaaGreatDoor
namespace Go.Proofs.YtgfhjcbmilaegaaGreatDoor
open Go.ChangeShapes Go.WideShapes Go.ChangeAt Go.RowKit
set_option linter.unusedVariables false
set_option linter.unusedSimpArgs false

theorem infoS : (Tryz.prog.info? 9).map (fun i => (i.zero, i.size, i.bytes)) = some (some (.string ⟨#[]⟩), 1, 16) := by kernel_rfl
def encS (l : List UInt8) : Value := .string ⟨l.toArray⟩
/-- the call hands back a row of texts in new memory -/
def RowRet (L : List (List UInt8)) (w : World) (e : Ending) (w' : World) : Prop :=
  ∃ v, e = .returned v ∧ w'.ownsRow w.heap.size 9 1 v L.length (L.map encS) ∧ Below w.heap.size w w'

theorem _root_.Go.World.ownsRow.own_ge {w : World} {B e size n : Nat} {v : Value} {xs : List Value} (h : w.ownsRow B e size v n xs) (j : Nat) (hj : v.ownBlock = some j) : B ≤ j := by
  rcases h.2 with ⟨h0, _⟩ | ⟨g, cap, cur, hv, hg, _⟩
  · subst h0; cases hj
  · subst hv; cases hj; exact hg

theorem own_kept {w w' : World} {B e size n : Nat} {v : Value} {xs : List Value} (h : w.ownsRow B e size v n xs) (hb : Below w.heap.size w w') : w'.ownsRow B e size v n xs := by
  refine ⟨h.1, ?_⟩
  rcases h.2 with h1 | ⟨g, cap, cur, hv, hg, hc, r⟩
  · exact Or.inl h1
  · refine Or.inr ⟨g, cap, cur, hv, hg, ?_, r⟩
    have hl : g < w.heap.size := (h.lt g (by rw [hv]; rfl)).2
    rw [hb.block g hl]; exact hc
/-- an elder row lies apart from a younger one -/
theorem own_apart {w w' : World} {B e size n m : Nat} {v u : Value} {xs ys : List Value} (h : w.ownsRow B e size v n xs) (k : w'.ownsRow w.heap.size e size u m ys) : v.ownBlock = none ∨ v.ownBlock ≠ u.ownBlock := by
  cases e1 : v.ownBlock with
  | none => exact Or.inl rfl
  | some a =>
    right
    intro e2
    have h1 := (h.lt a e1).2
    have h2 := (k.lt a e2.symm).1
    omega
theorem gtrans {a b c : World} {r : Option Nat} (h : a.grownBy b r) (k : b.grownBy c r) : a.grownBy c r :=
  ⟨k.os.trans h.os, k.tape.trans h.tape, k.output.trans h.output, Nat.le_trans h.size k.size, fun j hj hr => (k.block j (Nat.lt_of_lt_of_le hj h.size) hr).trans (h.block j hj hr)⟩
theorem below_grown' {a b : World} (h : Below a.heap.size a b) (r : Option Nat) : a.grownBy b r :=
  ⟨h.os, h.tape, h.output, h.size, fun j hj _ => h.block j hj⟩
theorem grown_drewN {a b : World} {r : Option Nat} (h : a.grownBy b r) (n : Nat) : a.grownBy (b.drewN n) r := ⟨h.os, h.tape, h.output, h.size, h.block⟩
/-- a row of texts that somebody hands over: where it lies, and its cells -/
theorem row_open {w : World} {B : Nat} {v : Value} {L : List (List UInt8)} (h : w.ownsRow B 9 1 v L.length (L.map encS)) :
    (v = .slice none 0 0 ∧ L = []) ∨ ∃ g cap, v = .slice (some ⟨g, 0, none⟩) L.length cap ∧ B ≤ g ∧ g < w.heap.size ∧ L.length ≤ cap ∧ cap ≤ maxLen ∧ w.frozen? ⟨g, 0, none⟩ = false ∧ ∀ i, i < L.length → w.cell? ⟨g, i, none⟩ = some (encS (L.getD i [])) := by
  have h0 := h
  rcases h.2 with ⟨h1, h2⟩ | ⟨g, cap, cur, hv, hg, hb, hn, hcap, _, _⟩
  · left; exact ⟨h1, List.eq_nil_of_length_eq_zero h2⟩
  · right
    subst hv
    refine ⟨g, cap, rfl, hg, (h0.lt g rfl).2, hn, hcap, h0.frozenAt 0, fun i hi => ?_⟩
    rw [h0.cellAt i (by omega)]
    simp [List.getD, List.getElem?_eq_getElem hi]
theorem own_lower {w : World} {B B' e size n : Nat} {v : Value} {xs : List Value} (h : w.ownsRow B e size v n xs) (hB : B' ≤ B) : w.ownsRow B' e size v n xs := by
  refine ⟨h.1, ?_⟩
  rcases h.2 with h1 | ⟨g, cap, cur, hv, hg, r⟩
  · exact Or.inl h1
  · exact Or.inr ⟨g, cap, cur, hv, Nat.le_trans hB hg, r⟩
def ne0 (x : List UInt8) : Bool := !x.isEmpty
theorem filter_snoc_yes {L : List (List UInt8)} {k : Nat} (h : k < L.length) (hk : ne0 (L.getD k []) = true) : (L.take (k + 1)).filter ne0 = (L.take k).filter ne0 ++ [L.getD k []] := by
  rw [List.take_succ_eq_append_getElem h, List.filter_append]
  have e : L.getD k [] = L[k] := by simp [List.getD, List.getElem?_eq_getElem h]
  rw [e] at hk ⊢
  rw [List.filter_cons_of_pos hk, List.filter_nil]
theorem filter_snoc_no {L : List (List UInt8)} {k : Nat} (h : k < L.length) (hk : ne0 (L.getD k []) = false) : (L.take (k + 1)).filter ne0 = (L.take k).filter ne0 := by
  rw [List.take_succ_eq_append_getElem h, List.filter_append]
  have e : L.getD k [] = L[k] := by simp [List.getD, List.getElem?_eq_getElem h]
  rw [e] at hk
  rw [List.filter_cons_of_neg (by simp [hk]), List.filter_nil, List.append_nil]
theorem enc_empty (l : List UInt8) : (⟨l.toArray⟩ : ByteArray).toList.isEmpty = l.isEmpty := by rw [ByteArray.toList_mk]
theorem splitL_len (b : UInt8) (l : List UInt8) : (splitL b l).length ≤ l.length + 1 := by
  have := splitSt_len b l; unfold splitL; simp; omega
theorem splitL_pos (b : UInt8) (l : List UInt8) : 0 < (splitL b l).length := by unfold splitL; simp
theorem fold_words (s : ByteArray) (P : List (List UInt8)) (h : P = splitL 32 s.data.toList) : P.filter ne0 = wordsL s.data.toList := by subst h; rfl

end Go.Proofs.YtgfhjcbmilaegaaGreatDoor
namespace Go.Proofs.YtgfhjcbmilaegaaGreatDoor
open Go.ChangeShapes Go.WideShapes Go.ChangeAt Go.RowKit
set_option linter.unusedVariables false
set_option linter.unusedSimpArgs false

/-- v reads as the bytes Z, which lie in a block before B -/
def U8Old (B : Nat) (w : World) (v : Value) (Z : List Int) : Prop :=
  ∃ a cap, v = .slice a Z.length cap ∧ Z.length ≤ cap ∧ (∀ n ∈ Z, 0 ≤ n ∧ n ≤ 255) ∧
    (Z = [] ∨ ∃ g o, a = some ⟨g, o, none⟩ ∧ g < B ∧ g < w.heap.size ∧ ∀ i (hi : i < Z.length), w.cell? ⟨g, o + i, none⟩ = some (.int .u8 Z[i]))
theorem cell_block {w w' : World} {g i : Nat} (h : w'.heap[g]? = w.heap[g]?) : w'.cell? ⟨g, i, none⟩ = w.cell? ⟨g, i, none⟩ := by
  simp only [World.cell?, h]
theorem U8Old.below {B : Nat} {w w' : World} {v : Value} {Z : List Int} (h : U8Old B w v Z) (hb : Below w.heap.size w w') : U8Old B w' v Z := by
  obtain ⟨a, cap, h1, h2, h3, h4⟩ := h
  refine ⟨a, cap, h1, h2, h3, ?_⟩
  rcases h4 with h4 | ⟨g, o, e, hB, hg, hc⟩
  · exact Or.inl h4
  · exact Or.inr ⟨g, o, e, hB, Nat.lt_of_lt_of_le hg hb.size, fun i hi => (cell_block (hb.block g hg)).trans (hc i hi)⟩
theorem U8Old.other {B b : Nat} {w w' : World} {v : Value} {Z : List Int} (h : U8Old B w v Z) (hb : w.grownBy w' (some b)) (hB : B ≤ b) : U8Old B w' v Z := by
  obtain ⟨a, cap, h1, h2, h3, h4⟩ := h
  refine ⟨a, cap, h1, h2, h3, ?_⟩
  rcases h4 with h4 | ⟨g, o, e, hg0, hg, hc⟩
  · exact Or.inl h4
  · exact Or.inr ⟨g, o, e, hg0, Nat.lt_of_lt_of_le hg hb.size, fun i hi => (cell_block (hb.block g hg (by intro he; injection he; omega))).trans (hc i hi)⟩
theorem u8_in {w : World} {a : Option Addr} {len cap : Nat} {zs : List Int}
    (h : (a = none ∧ len = 0 ∧ cap = 0 ∧ zs = []) ∨ ∃ x, a = some x ∧ len ≤ cap ∧ cap ≤ maxLen ∧ zs.length = cap ∧ (∀ i, i < zs.length → w.cell? (x.add i) = some (.int .u8 (zs.getD i 0))) ∧ ∀ n ∈ zs, (Lit.int .u8 n).wf = true) :
    ∃ Z : List Int, U8Old w.heap.size w (.slice a len cap) Z ∧ Z.length = len := by
  rcases h with ⟨rfl, rfl, rfl, rfl⟩ | ⟨x, rfl, hl, hm, hz, hcell, hwz⟩
  · exact ⟨[], ⟨none, 0, rfl, Nat.le_refl 0, (fun n hn => (by cases hn)), Or.inl rfl⟩, rfl⟩
  · refine ⟨zs.take len, ⟨some x, cap, by rw [List.length_take]; congr 1; omega, by rw [List.length_take]; omega, fun n hn => ?_, ?_⟩, by rw [List.length_take]; omega⟩
    · have := hwz n (List.mem_of_mem_take hn)
      simp [Lit.wf, IntKind.min, IntKind.max, IntKind.signed, IntKind.bits] at this
      exact ⟨this.1, this.2⟩
    · by_cases h0 : len = 0
      · left; subst h0; simp
      · right
        obtain ⟨b, off, spot⟩ := x
        have hc := hcell 0 (by omega)
        have hspot : spot = none := by simpa [Addr.add] using World.cell?_spot hc
        subst hspot
        have hlt : b < w.heap.size := World.block_lt_of_cell? w _ (by have := hc; simpa [Addr.add] using this)
        refine ⟨b, off, rfl, hlt, hlt, fun i hi => ?_⟩
        have hi2 : i < zs.length := by rw [List.length_take] at hi; omega
        have := hcell i hi2
        rw [add_plain] at this
        rw [this]
        simp [List.getD, List.getElem?_eq_getElem hi2]
/-- the source stands in block b -/
def SrcAt (w : World) (b : Nat) (v : Value) (n : Nat) : Prop :=
  b < w.heap.size ∧ w.cell? ⟨b, 0, none⟩ = some v ∧ w.cell? ⟨b, 1, none⟩ = some (.int .i64 n) ∧ (∃ s : Int, w.cell? ⟨b, 2, none⟩ = some (.int .u64 s)) ∧ w.frozen? ⟨b, 1, none⟩ = false ∧ w.frozen? ⟨b, 2, none⟩ = false
/-- what one choice leaves -/
def SrcRet (lim : Int) (b B : Nat) (v : Value) (Z : List Int) (n : Nat) (w : World) (e : Ending) (w' : World) : Prop :=
  ∃ r : Int, e = .returned (.int .i64 r) ∧ 0 ≤ r ∧ r < lim ∧ SrcAt w' b v n ∧ U8Old B w' v Z ∧ w.grownBy w' (some b)

theorem src_set {w : World} {b n : Nat} {v : Value} (h : SrcAt w b v n) (k : Nat) (u : Int) :
    SrcAt (((w.drewN k).setCell ⟨b, 1, none⟩ (.int .i64 ((n : Int) + 1))).setCell ⟨b, 2, none⟩ (.int .u64 u)) b v (n + 1) ∧
    (((w.drewN k).setCell ⟨b, 1, none⟩ (.int .i64 ((n : Int) + 1))).setCell ⟨b, 2, none⟩ (.int .u64 u)).cell? ⟨b, 2, none⟩ = some (.int .u64 u) ∧
    w.grownBy (((w.drewN k).setCell ⟨b, 1, none⟩ (.int .i64 ((n : Int) + 1))).setCell ⟨b, 2, none⟩ (.int .u64 u)) (some b) := by
  obtain ⟨hb, c0, c1, ⟨s, c2⟩, z1, z2⟩ := h
  have c0' : (w.drewN k).cell? ⟨b, 0, none⟩ = some v := c0
  have c1' : (w.drewN k).cell? ⟨b, 1, none⟩ = some (.int .i64 n) := c1
  have c2' : (w.drewN k).cell? ⟨b, 2, none⟩ = some (.int .u64 s) := c2
  have e2 : ((w.drewN k).setCell ⟨b, 1, none⟩ (.int .i64 ((n : Int) + 1))).cell? ⟨b, 2, none⟩ = some (.int .u64 s) := by
    rw [World.cell?_setCell_other _ _ _ _ (by simp)]; exact c2'
  have f2 := World.cell?_setCell_same _ _ (.int .u64 u) e2
  refine ⟨⟨by simpa using hb, ?_, ?_, ⟨u, f2⟩, ?_, ?_⟩, f2, ?_⟩
  · rw [World.cell?_setCell_other _ _ _ _ (by simp), World.cell?_setCell_other _ _ _ _ (by simp)]; exact c0'
  · rw [World.cell?_setCell_other _ _ _ _ (by simp), World.cell?_setCell_same _ _ _ c1']; push_cast; rfl
  · rw [World.frozen?_setCell, World.frozen?_setCell]; exact z1
  · rw [World.frozen?_setCell, World.frozen?_setCell]; exact z2
  · refine ⟨rfl, rfl, rfl, by simp, fun j hj hne => ?_⟩
    have hjb : j ≠ b := fun e => hne (by rw [e])
    rw [heap_setCell_other _ _ _ _ hjb, heap_setCell_other _ _ _ _ hjb]; rfl
/-- the walk goes on in a world of which only this is known -/
theorem src_cut {P : Program} {c : Code} {Q : Exit → Act → World → Prop} {a : Act} {w : World} {b n k : Nat} {v : Value} {u : Int} (h : SrcAt w b v n)
    (hk : ∀ w2, SrcAt w2 b v (n + 1) → w2.cell? ⟨b, 2, none⟩ = some (.int .u64 u) → w.grownBy w2 (some b) → c.wp P Q a w2) :
    c.wp P Q a (((w.drewN k).setCell ⟨b, 1, none⟩ (.int .i64 ((n : Int) + 1))).setCell ⟨b, 2, none⟩ (.int .u64 u)) :=
  hk _ (src_set h k u).1 (src_set h k u).2.1 (src_set h k u).2.2
theorem SrcAt.drewN {w : World} {b n : Nat} {v : Value} (h : SrcAt w b v n) (k : Nat) : SrcAt (w.drewN k) b v n := h
theorem U8Old.drewN {B : Nat} {w : World} {v : Value} {Z : List Int} (h : U8Old B w v Z) (k : Nat) : U8Old B (w.drewN k) v Z := h

theorem seed_byte (y : Int) : 0 ≤ wrap64 (bits BinOp.and IntKind.u64 (IntKind.u64.wrap y / 1099511627776) 255) ∧ wrap64 (bits BinOp.and IntKind.u64 (IntKind.u64.wrap y / 1099511627776) 255) < 256 := by
  have hy : 0 ≤ IntKind.u64.wrap y ∧ IntKind.u64.wrap y < 18446744073709551616 := by rw [IntKind.wrap_u64]; omega
  obtain ⟨x, hx⟩ : ∃ x, x = IntKind.u64.wrap y / 1099511627776 := ⟨_, rfl⟩
  rw [← hx]
  have hx2 : 0 ≤ x ∧ x < 18446744073709551616 := by omega
  rw [u64_and x 255 hx2.1 hx2.2 (by decide) (by decide)]
  have := Nat.and_le_right (n := x.toNat) (m := Int.toNat 255)
  have e : Int.toNat 255 = 255 := rfl
  unfold wrap64
  omega

set_option maxHeartbeats 1600000 in
set_option maxRecDepth 1000000 in
theorem next_any (b B n : Nat) (v : Value) (Z : List Int) (w : World) (hB : B ≤ b) (hn : n ≤ 100) (hZ : Z.length ≤ 1048576) (hs : SrcAt w b v n) (hu : U8Old B w v Z) :
    Calls Tryz.prog 63 #[.pointer (some ⟨b, 0, none⟩)] w (SrcRet 256 b B v Z (n + 1) w) := by
  have hs' := Lib.hid hs
  have hu' := Lib.hid hu
  obtain ⟨hbs, c0, c1, ⟨s, c2⟩, z1, z2⟩ := hs
  obtain ⟨a, cap, rfl, hcap, hin, hread⟩ := hu
  by_cases hlt : n < Z.length
  · rcases hread with rfl | ⟨g, o, rfl, hg0, hg, hc⟩
    · simp at hlt
    obtain ⟨x, hx⟩ : ∃ x, x = Z[n] := ⟨_, rfl⟩
    have c3 : w.cell? ⟨g, o + n, none⟩ = some (.int .u8 x) := by rw [hx]; exact hc n hlt
    have hx0 := hin x (by rw [hx]; exact List.getElem_mem hlt)
    clear hc hin hx
    have hd : decide ((n : Int) < (Z.length : Int)) = true := by simp; omega
    have hd2 : decide ((n : Int) + 1 ≤ (Z.length : Int)) = true := by simp; omega
    go_enter Tryz.func63, Tryz.ntmps63
    go_wp2
    go_quiet (fail)
    go_wp2
    go_quiet (fail)
    go_wp2
    refine src_cut hs'.out fun w2 h2 d2 g2 => ?_
    have h2' := Lib.hid h2
    obtain ⟨_, e0, e1, _, _, _⟩ := h2
    have e1' : w2.cell? ⟨b, 1, none⟩ = some (.int .i64 ((n : Int) + 1)) := by rw [e1]; push_cast; rfl
    clear e1 c0 c1 c2 c3
    go_quiet (fail)
    go_wp2
    go_ret
    exact ⟨x, rfl, hx0.1, by omega, h2'.out.drewN _, (hu'.out.other g2 hB).drewN _, grown_drewN g2 _⟩
  · clear hread
    have hd : decide ((n : Int) < (Z.length : Int)) = false := by simp; omega
    have hd2 : decide ((n : Int) + 1 ≤ (Z.length : Int)) = false := by simp; omega
    go_enter Tryz.func63, Tryz.ntmps63
    go_wp2
    go_quiet (fail)
    go_wp2
    refine src_cut hs'.out fun w2 h2 d2 g2 => ?_
    have h2' := Lib.hid h2
    obtain ⟨_, e0, e1, _, _, _⟩ := h2
    have e1' : w2.cell? ⟨b, 1, none⟩ = some (.int .i64 ((n : Int) + 1)) := by rw [e1]; push_cast; rfl
    clear e1 c0 c1 c2
    go_quiet (fail)
    go_wp2
    go_ret
    exact ⟨_, rfl, (seed_byte _).1, (seed_byte _).2, h2'.out.drewN _, (hu'.out.other g2 hB).drewN _, grown_drewN g2 _⟩

set_option maxHeartbeats 1600000 in
set_option maxRecDepth 1000000 in
theorem pick_any (lim : Int) (h1 : 200 < lim) (h2 : lim ≤ 60000) (b B n : Nat) (v : Value) (Z : List Int) (w : World) (hB : B ≤ b) (hn : n ≤ 90) (hZ : Z.length ≤ 1048576) (hs : SrcAt w b v n) (hu : U8Old B w v Z) :
    Calls Tryz.prog 47 #[.pointer (some ⟨b, 0, none⟩), .int .i64 lim] w (SrcRet lim b B v Z (n + 2) w) := by
  have q1 := Lib.hid (next_any b B n v Z w hB (by omega) hZ hs hu)
  have q2 := Lib.hid (fun W => next_any b B (n + 1) v Z W hB (by omega) hZ)
  clear hs hu
  have d1 : decide (lim ≤ 1) = false := by simp; omega
  have d2 : decide (200 < lim) = true := by simp; omega
  go_enter Tryz.func47, Tryz.ntmps47
  go_wp2_with fail
  refine q1.out.mono ?_
  rintro e w1 ⟨r1, rfl, a1, b1, s1, u1, g1⟩
  have q3 := Lib.hid (q2.out w1 s1 u1)
  clear s1 u1 q1 q2
  go_wp2_with fail
  refine q3.out.mono ?_
  rintro e w2 ⟨r2, rfl, a2, b2, s2, u2, g2⟩
  have q4 := Lib.hid (And.intro s2 (And.intro u2 (gtrans g1 g2)))
  clear s2 u2 g1 g2 q3
  go_wp2
  have hm : 0 ≤ (r1 * 256 + r2) % lim ∧ (r1 * 256 + r2) % lim < lim := ⟨Int.emod_nonneg _ (by omega), Int.emod_lt_of_pos _ (by omega)⟩
  go_ret
  exact ⟨_, rfl, hm.1, hm.2, q4.out.1, q4.out.2.1, q4.out.2.2⟩

set_option maxHeartbeats 1600000 in
set_option maxRecDepth 1000000 in
theorem l00From_any (v : Value) (Z : List Int) (w : World) (hu : U8Old w.heap.size w v Z) :
    Calls Tryz.prog 21 #[v] w fun e w' => e = .returned (.pointer (some ⟨w.heap.size, 0, none⟩)) ∧ SrcAt w' w.heap.size v 0 ∧ U8Old w.heap.size w' v Z ∧ Below w.heap.size w w' := by
  have hu' := Lib.hid hu
  obtain ⟨a, cap, rfl, _⟩ := hu
  go_enter Tryz.func21, Tryz.ntmps21
  go_wp2
  go_ret
  exact ⟨rfl, ⟨by simp, World.cell?_alloc_mark _ _ _ _ _, World.cell?_alloc_mark _ _ _ _ _, ⟨0, World.cell?_alloc_mark _ _ _ _ _⟩, by rw [World.frozen?_alloc_mark]; rfl, by rw [World.frozen?_alloc_mark]; rfl⟩,
    hu'.out.below ((Below.refl _ _).alloc (Nat.le_refl _) _), (Below.refl _ _).alloc (Nat.le_refl _) _⟩

end Go.Proofs.YtgfhjcbmilaegaaGreatDoor
