/-
  Mixtures of stains: what both sides compute.
-/
import Derived.Test.YtjnpladpegmiiaaAft
import Derived.Test.YtjnpladpegmiiaaAfi
import Derived.Test.YtjnpladpegmiiaaOrd
import Derived.Deep.Cut
namespace Go.Proofs.Ytjnpladpegmiiaa
open Go.ChangeShapes Go.WideShapes Go.ChangeAt Go.RowKit Go.Deep
set_option linter.unusedVariables false
set_option linter.unusedSimpArgs false
set_option maxRecDepth 1000000
/-- parts of n coats -/
def parB (n : Nat) (P : List Int) : Bool := decide (P.length = n) && allI P 0 1000 && !allI P 0 0
/-- the sum of the parts, and of one of the three numbers -/
def psF (P : List Int) (i : Nat) : Int := P.getD i 0
def mxP (Z : List Ct) (P : List Int) (k i : Nat) : Int := (Z.getD i ct0).col.getD k 0 * P.getD i 0
def mix1 (Z : List Ct) (P : List Int) (k : Nat) : Int := rnd (sumK (mxP Z P k) P.length) (sumK (psF P) P.length)
def mix3 (Z : List Ct) (P : List Int) : List Int := [mix1 Z P 0, mix1 Z P 1, mix1 Z P 2]
def mixC (Z : List Ct) (P : List Int) : Int := if ctsB Z = true then code (parB Z.length P) 7 else 1
def mixV (Z : List Ct) (P : List Int) : List Int := if ctsB Z = true then (if parB Z.length P = true then mix3 Z P else []) else []
theorem sumK_bd {f : Nat → Int} {lo hi : Int} : ∀ n, (∀ i, i < n → lo ≤ f i ∧ f i ≤ hi) → lo * n ≤ sumK f n ∧ sumK f n ≤ hi * n
  | 0, _ => by unfold sumK; simp
  | n + 1, h => by
    have h1 := sumK_bd n (fun i hi => h i (by omega))
    have h2 := h n (by omega)
    have e1 : lo * ((n + 1 : Nat) : Int) = lo * n + lo := by rw [show ((n + 1 : Nat) : Int) = (n : Int) + 1 by omega, Int.mul_add, Int.mul_one]
    have e2 : hi * ((n + 1 : Nat) : Int) = hi * n + hi := by rw [show ((n + 1 : Nat) : Int) = (n : Int) + 1 by omega, Int.mul_add, Int.mul_one]
    rw [e1, e2]
    unfold sumK
    omega
theorem parB_facts {n : Nat} {P : List Int} (h : parB n P = true) : P.length = n ∧ (∀ i, i < P.length → 0 ≤ P.getD i 0 ∧ P.getD i 0 ≤ 1000) := by
  unfold parB at h
  obtain ⟨h1, _⟩ := Bool.and_eq_true_iff.1 h
  obtain ⟨h1, h2⟩ := Bool.and_eq_true_iff.1 h1
  exact ⟨of_decide_eq_true h1, fun i hi => allI_iff.1 h2 _ (by rw [getD_of _ hi]; exact List.getElem_mem hi)⟩
theorem ps_pos {P : List Int} (h1 : ∀ i, i < P.length → 0 ≤ P.getD i 0) : (sumK (psF P) P.length = 0) ↔ allI P 0 0 = true := by
  have key : ∀ n, n ≤ P.length → 0 ≤ sumK (psF P) n ∧ (sumK (psF P) n = 0 ↔ ∀ i, i < n → P.getD i 0 = 0) := by
    intro n
    induction n with
    | zero => intro _; exact ⟨Int.le_refl _, ⟨fun _ i hi => by omega, fun _ => rfl⟩⟩
    | succ n ih =>
      intro hn
      obtain ⟨a, b⟩ := ih (by omega)
      have c := h1 n (by omega)
      have e : sumK (psF P) (n + 1) = sumK (psF P) n + P.getD n 0 := rfl
      refine ⟨by omega, ⟨fun h i hi => ?_, fun h => ?_⟩⟩
      · by_cases hin : i = n
        · subst hin; omega
        · exact b.1 (by omega) i (by omega)
      · have := b.2 (fun i hi => h i (by omega))
        have := h n (by omega)
        omega
  rw [(key _ (Nat.le_refl _)).2, allI_iff]
  constructor
  · intro h n hn
    obtain ⟨i, hi, rfl⟩ := List.mem_iff_getElem.1 hn
    have := h i hi
    rw [getD_of _ hi] at this
    omega
  · intro h i hi
    have := h _ (List.getElem_mem hi)
    rw [getD_of _ hi]
    omega
theorem ps_bd {n : Nat} {P : List Int} (h : parB n P = true) : ∀ k, k ≤ P.length → 0 ≤ sumK (psF P) k ∧ sumK (psF P) k ≤ 1000 * k := fun k hk => by
  have := sumK_bd (f := psF P) (lo := 0) (hi := 1000) k (fun i hi => (parB_facts h).2 i (by omega))
  omega
theorem ps_tot {n : Nat} {P : List Int} (h : parB n P = true) : 1 ≤ sumK (psF P) P.length := by
  have h1 := (ps_bd h _ (Nat.le_refl _)).1
  have h2 := ps_pos (P := P) (fun i hi => ((parB_facts h).2 i hi).1)
  have h3 : allI P 0 0 = false := by
    unfold parB at h
    have := (Bool.and_eq_true_iff.1 h).2
    simpa using this
  by_cases h4 : sumK (psF P) P.length = 0
  · rw [h2.1 h4] at h3; cases h3
  · omega
theorem mx_one {Z : List Ct} {P : List Int} (hz : ctsB Z = true) (h : parB Z.length P = true) {k i : Nat} (hk : k < 3) (hi : i < P.length) : (0 ≤ (Z.getD i ct0).col.getD k 0 ∧ (Z.getD i ct0).col.getD k 0 ≤ 255) ∧ 0 ≤ mxP Z P k i ∧ mxP Z P k i ≤ 255000 := by
  have hp := (parB_facts h).2 i hi
  have hl := (parB_facts h).1
  have hc := cts_col hz (k := i) (by omega)
  rw [← cts_getD (by omega : i < Z.length)] at hc
  obtain ⟨a, b, c, e, ha, hb, hc9⟩ := col3_of hc
  unfold mxP
  rw [e]
  have key : ∀ y : Int, 0 ≤ y ∧ y ≤ 255 → (0 ≤ y ∧ y ≤ 255) ∧ 0 ≤ y * P.getD i 0 ∧ y * P.getD i 0 ≤ 255000 := fun y hy => by
    refine ⟨hy, Int.mul_nonneg hy.1 hp.1, ?_⟩
    have h1 : y * P.getD i 0 ≤ 255 * P.getD i 0 := Int.mul_le_mul_of_nonneg_right hy.2 hp.1
    omega
  match k, hk with
  | 0, _ => exact key a ha
  | 1, _ => exact key b hb
  | 2, _ => exact key c hc9
theorem mx_bd {Z : List Ct} {P : List Int} (hz : ctsB Z = true) (h : parB Z.length P = true) {k : Nat} (hk : k < 3) : ∀ n, n ≤ P.length → 0 ≤ sumK (mxP Z P k) n ∧ sumK (mxP Z P k) n ≤ 255000 * n := fun n hn => by
  have := sumK_bd (f := mxP Z P k) (lo := 0) (hi := 255000) n (fun i hi => (mx_one hz h hk (by omega)).2)
  omega
theorem rnd_small {a b : Int} (ha : 0 ≤ a ∧ a ≤ 100000000) (hb : 1 ≤ b ∧ b ≤ 100000000) : 0 ≤ rnd a b ∧ rnd a b ≤ 100000001 := by
  unfold rnd
  rw [if_neg (by omega), if_neg (by omega), rp_pos (by omega)]
  refine ⟨Int.ediv_nonneg (by omega) (by omega), ?_⟩
  have := Int.ediv_le_self (a := 2 * a + b) (2 * b) (by omega)
  have h2 : (2 * a + b) / (2 * b) ≤ a + 1 := by
    refine Int.ediv_le_of_le_mul (by omega) ?_
    have h3 : a * 1 ≤ a * b := Int.mul_le_mul_of_nonneg_left hb.1 ha.1
    have e : (a + 1) * (2 * b) = 2 * (a * b) + 2 * b := by rw [Int.add_mul, Int.one_mul, Int.mul_left_comm]
    rw [e]
    omega
  omega
theorem mix1_in {Z : List Ct} {P : List Int} (hz : ctsB Z = true) (h : parB Z.length P = true) {k : Nat} (hk : k < 3) : inI (mix1 Z P k) := by
  have h1 := mx_bd hz h hk _ (Nat.le_refl P.length)
  have h2 := ps_bd h _ (Nat.le_refl P.length)
  have h3 := ps_tot h
  have h4 := (parB_facts h).1
  have h5 := cts_len hz
  have := rnd_small (a := sumK (mxP Z P k) P.length) (b := sumK (psF P) P.length) (by omega) (by omega)
  unfold mix1 inI
  omega
theorem mix_in (Z : List Ct) (P : List Int) : (∀ n ∈ mixV Z P, inI n) ∧ (mixV Z P).length ≤ 1048576 := by
  unfold mixV
  by_cases h1 : ctsB Z = true
  · rw [if_pos h1]
    by_cases h2 : parB Z.length P = true
    · rw [if_pos h2]
      refine ⟨fun n hn => ?_, by simp [mix3]⟩
      simp [mix3] at hn
      rcases hn with rfl | rfl | rfl
      · exact mix1_in h1 h2 (by decide)
      · exact mix1_in h1 h2 (by decide)
      · exact mix1_in h1 h2 (by decide)
    · rw [if_neg h2]; exact ⟨fun n hn => (by cases hn), by simp⟩
  · rw [if_neg h1]; exact ⟨fun n hn => (by cases hn), by simp⟩
theorem areParts_any (v : Value) (P : List Int) (n : Nat) (w : World) (hP : P.length ≤ 1048576) (hn : n ≤ 1048576) (hv : IntsAt w v P) : Calls Try.prog 67 #[v, .int .i64 (n : Int)] w fun e w' => e = .returned (.bool (parB n P)) ∧ Below w.heap.size w w' := by
  have cA := allWithin_any v P 0 1000 w (by unfold maxLen; omega) hv
  have cB := fun W (hb : Below w.heap.size w W) => allWithin_any v P 0 0 W (by unfold maxLen; omega) (hv.below hb)
  have hx : Hid (parB n P = (decide (P.length = n) && allI P 0 1000 && !allI P 0 0)) := Lib.hid rfl
  obtain ⟨q, hq⟩ : ∃ q, q = allI P 0 1000 := ⟨_, rfl⟩
  obtain ⟨r, hr⟩ : ∃ r, r = allI P 0 0 := ⟨_, rfl⟩
  rw [← hq] at cA hx
  rw [← hr] at cB hx
  replace cA := Lib.hid cA
  replace cB := Lib.hid cB
  obtain ⟨a0, cap, rfl, _, _, _⟩ := hv
  clear hq hr
  by_cases h3 : P.length = n
  · rw [h3] at cA cB ⊢
    have hx2 : Hid (parB n P = (q && !r)) := Lib.hid (by rw [hx.out, h3]; simp)
    clear hx h3 hP
    have hee : ((n : Int) == (n : Int)) = true := beq_self_eq_true _
    cases q
    · go_enter Try.func67, Try.ntmps67
      go_wp2_with (go_at_call 89; (with_reducible refine cA.out.mono ?_); rintro e w1 ⟨rfl, b1⟩)
      go_ret
      exact ⟨ret_bool (by rw [hx2.out]; rfl), b1⟩
    · cases r
      all_goals
        go_enter Try.func67, Try.ntmps67
        go_wp2_with (first | (go_at_call 89; (with_reducible refine cA.out.mono ?_); rintro e w1 ⟨rfl, b1⟩) | (go_at_call 89; (with_reducible refine (cB.out _ b1).mono ?_); rintro e w2 ⟨rfl, b2⟩))
        go_ret
        exact ⟨ret_bool (by rw [hx2.out]; rfl), below2 b1 b2⟩
  · have hne : ((P.length : Int) == (n : Int)) = false := by (rw [beq_eq_false_iff_ne]; omega)
    go_enter Try.func67, Try.ntmps67
    go_wp2
    go_ret
    exact ⟨ret_bool (by rw [hx.out]; simp [h3]), Below.refl _ _⟩
end Go.Proofs.Ytjnpladpegmiiaa
