/-
  Contracts of the model's readers of numbers with places and lengths.
-/
import Derived.Test.YtglpmdoigoicbaaDoorReadsS
import Derived.Test.YtglpmdoigoicbaaDoorReadsI3
namespace Go.Proofs.YtglpmdoigoicbaaDoor
open Go.ChangeShapes Go.WideShapes Go.ChangeAt Go.RowKit
set_option linter.unusedVariables false
set_option linter.unusedSimpArgs false
/-- the model's reader where the point stands at its place -/
def fixA (l p1 p2 : List UInt8) (p : Nat) (sg : Int) : Option Int :=
  if p1.all db = true ∧ p2.all db = true ∧ valF 0 p1 ≤ 1000000000 then
    (if fixT (sg * ((valF 0 p1 * 10 ^ p + valF 0 p2 : Nat) : Int)) p = l then some (sg * ((valF 0 p1 * 10 ^ p + valF 0 p2 : Nat) : Int)) else none) else none
theorem fixS_no {l : List UInt8} {p : Nat} (h : ¬ (l.length ≤ 20 ∧ p + 2 ≤ l.length ∧ l.getD (l.length - p - 1) 0 = 46 ∧ atD l < l.length - p - 1)) : fixS l p = none := by
  unfold fixS; rw [if_neg]; rintro ⟨h1, h2, h3, h4, _⟩; exact h ⟨h1, h2, h3, h4⟩
theorem fixS_at {l : List UInt8} {p : Nat} (h : l.length ≤ 20 ∧ p + 2 ≤ l.length ∧ l.getD (l.length - p - 1) 0 = 46 ∧ atD l < l.length - p - 1) : fixS l p = fixA l (piece l (atD l) (l.length - p - 1)) (piece l (l.length - p) l.length) p (sgn l) := by
  obtain ⟨h1, h2, h3, h4⟩ := h
  unfold fixS fixA
  by_cases hc : (piece l (atD l) (l.length - p - 1)).all db = true ∧ (piece l (l.length - p) l.length).all db = true ∧ valF 0 (piece l (atD l) (l.length - p - 1)) ≤ 1000000000
  · rw [if_pos hc, if_pos ⟨h1, h2, h3, h4, hc.1, hc.2.1, hc.2.2⟩]
  · rw [if_neg hc, if_neg (by rintro ⟨_, _, _, _, k1, k2, k3⟩; exact hc ⟨k1, k2, k3⟩)]
set_option maxHeartbeats 6400000 in
set_option maxRecDepth 1000000 in
theorem specReadFixed_any (s : ByteArray) (q : Int) (hs : s.size ≤ 1048576) (w : World) :
    Calls Tryd.prog 25 #[.string s, .int .i64 q] w fun e w' => e = .returned (optV (fixQ s.data.toList q)) ∧ Below w.heap.size w w' := by
  cases h2 : inB q 1 6
  · have hr : Hid (optV (fixQ s.data.toList q) = .tuple #[.int .i64 0, .bool false]) := Lib.hid (by rw [fixQ_no h2]; rfl)
    go_enter Tryd.func25, Tryd.ntmps25
    go_wp2_with (first
      | (go_at_call 60; refine (l02Places_any _ _).mono ?_; rintro e w' ⟨rfl, rfl⟩))
    go_ret2
    exact ⟨congrArg Ending.returned hr.out.symm, Below.refl _ _⟩
  obtain ⟨q1, q2⟩ := inB_iff.1 h2
  obtain ⟨p, rfl⟩ := Int.eq_ofNat_of_zero_le (show 0 ≤ q by omega)
  have hfq : Hid (fixQ s.data.toList (p : Int) = fixS s.data.toList p) := Lib.hid (fixQ_yes (by omega) (by omega))
  have hll := Lib.hid (len_data s)
  have ht := tenV_bd (j := p) (by omega)
  by_cases z1 : s.size ≤ 20
  rotate_left
  · have hr : Hid (optV (fixQ s.data.toList (p : Int)) = .tuple #[.int .i64 0, .bool false]) := Lib.hid (by rw [hfq.out, fixS_no (by rintro ⟨h, _⟩; rw [hll.out] at h; exact z1 h)]; rfl)
    have t1 : decide ((20 : Int) < (s.size : Int)) = true := by simp; omega
    clear z1
    go_enter Tryd.func25, Tryd.ntmps25
    go_wp2_with (first
      | (go_at_call 60; refine (l02Places_any _ _).mono ?_; rintro e w' ⟨rfl, rfl⟩))
    go_ret2
    exact ⟨congrArg Ending.returned hr.out.symm, Below.refl _ _⟩
  by_cases z2 : p + 2 ≤ s.size
  rotate_left
  · have hr : Hid (optV (fixQ s.data.toList (p : Int)) = .tuple #[.int .i64 0, .bool false]) := Lib.hid (by rw [hfq.out, fixS_no (by rintro ⟨_, h, _⟩; rw [hll.out] at h; exact z2 h)]; rfl)
    have t2 : decide ((s.size : Int) < (p : Int) + 2) = true := by simp; omega
    clear z2
    go_enter Tryd.func25, Tryd.ntmps25
    go_wp2_with (first
      | (go_at_call 60; refine (l02Places_any _ _).mono ?_; rintro e w' ⟨rfl, rfl⟩))
    go_ret2
    exact ⟨congrArg Ending.returned hr.out.symm, Below.refl _ _⟩
  obtain ⟨k, hk⟩ : ∃ k, k = s.size - p - 1 := ⟨_, rfl⟩
  have E1 : (s.size : Int) - (p : Int) - 1 = (k : Int) := by omega
  have hks : k < s.size := by omega
  have hk18 : k ≤ 18 := by omega
  have i0 : 0 < s.size := by omega
  have hb := Lib.hid (byte_at s k hks)
  have hkp : Hid (s.size - p = k + 1) := Lib.hid (by omega)
  have hk' := Lib.hid hk
  have hhd := Lib.hid (head_at s i0)
  clear hk
  by_cases z3 : s[k] = 46
  rotate_left
  · have hr : Hid (optV (fixQ s.data.toList (p : Int)) = .tuple #[.int .i64 0, .bool false]) := Lib.hid (by rw [hfq.out, fixS_no (by rintro ⟨_, _, h, _⟩; rw [hll.out, ← hk'.out] at h; exact z3 (hb.out.symm.trans h))]; rfl)
    have t3 := byte_ne (z := 46) 46 rfl z3
    have u3 : ((s[k].toNat : Int) != 46) = true := by unfold bne; rw [t3]; rfl
    clear z3
    by_cases z4 : s[0] = 45
    · have t4 := byte_eq (z := 45) 45 rfl z4
      clear z4
      go_enter Tryd.func25, Tryd.ntmps25
      go_wp2_with (first
      | (go_at_call 60; refine (l02Places_any _ _).mono ?_; rintro e w' ⟨rfl, rfl⟩))
      go_ret2
      exact ⟨congrArg Ending.returned hr.out.symm, Below.refl _ _⟩
    · have t4 := byte_ne (z := 45) 45 rfl z4
      clear z4
      go_enter Tryd.func25, Tryd.ntmps25
      go_wp2_with (first
      | (go_at_call 60; refine (l02Places_any _ _).mono ?_; rintro e w' ⟨rfl, rfl⟩))
      go_ret2
      exact ⟨congrArg Ending.returned hr.out.symm, Below.refl _ _⟩
  have t3 := byte_eq (z := 46) 46 rfl z3
  have u3 : ((s[k].toNat : Int) != 46) = false := by unfold bne; rw [t3]; rfl
  have h46 := Lib.hid (hb.out.trans z3)
  clear z3
  by_cases z4 : s[0] = 45
  · have t4 := byte_eq (z := 45) 45 rfl z4
    have hat : Hid (atD s.data.toList = 1) := Lib.hid (by unfold atD; rw [hhd.out, if_pos z4])
    have hsg : Hid (sgn s.data.toList = -1) := Lib.hid (by unfold sgn; rw [hhd.out, if_pos z4])
    clear z4
    by_cases z5 : 1 < k
    rotate_left
    · have hr : Hid (optV (fixQ s.data.toList (p : Int)) = .tuple #[.int .i64 0, .bool false]) := Lib.hid (by rw [hfq.out, fixS_no (by rintro ⟨_, _, _, h⟩; rw [hll.out, ← hk'.out, hat.out] at h; exact z5 h)]; rfl)
      have t5 : decide ((k : Int) ≤ 1) = true := by simp <;> omega
      go_enter Tryd.func25, Tryd.ntmps25
      go_wp2_with (first
      | (go_at_call 60; refine (l02Places_any _ _).mono ?_; rintro e w' ⟨rfl, rfl⟩))
      go_ret2
      exact ⟨congrArg Ending.returned hr.out.symm, Below.refl _ _⟩
    have hfa : Hid (fixQ s.data.toList (p : Int) = fixA s.data.toList (piece s.data.toList 1 k) (piece s.data.toList (k + 1) s.size) p (-1)) := Lib.hid (by
      rw [hfq.out, fixS_at ⟨by rw [hll.out]; exact z1, by rw [hll.out]; exact z2, by rw [hll.out, ← hk'.out]; exact h46.out, by rw [hll.out, ← hk'.out, hat.out]; exact z5⟩, hat.out, hsg.out, hll.out, ← hk'.out, hkp.out])
    have g1 : (1 : Int) ≤ (k : Int) := by omega
    have g2 : (k : Int) ≤ (s.size : Int) := by omega
    have g3 : (k : Int) + 1 ≤ (s.size : Int) := by omega
    have g4 : 1 ≤ k := by omega
    have g5 : k ≤ s.size := by omega
    have g6 : k + 1 ≤ s.size := by omega
    have c1 := dig_part s 1 k (by omega) (by omega) (by omega)
    have c2 := dig_part s (k + 1) s.size (by omega) (by omega) (by omega)
    have l2 : (piece s.data.toList (k + 1) s.size).length ≤ 6 := by rw [piece_len _ _ _ (by rw [len_data]; exact Nat.le_refl _)]; omega
    obtain ⟨p1, hp1⟩ : ∃ x, x = piece s.data.toList 1 k := ⟨_, rfl⟩
    obtain ⟨p2, hp2⟩ : ∃ x, x = piece s.data.toList (k + 1) s.size := ⟨_, rfl⟩
    rw [← hp1] at c1
    rw [← hp2] at c2 l2
    have hfb : Hid (fixQ s.data.toList (p : Int) = fixA s.data.toList p1 p2 p (-1)) := Lib.hid (by rw [hfa.out, hp1, hp2])
    have t5 : decide ((k : Int) ≤ 1) = false := by simp; omega
    clear hp1 hp2 hfa
    cases b1 : digA p1
    · have hr : Hid (optV (fixQ s.data.toList (p : Int)) = .tuple #[.int .i64 0, .bool false]) := Lib.hid (by rw [hfb.out]; unfold fixA; rw [if_neg (by rintro ⟨h, _⟩; rw [show digA p1 = true from h] at b1; cases b1)]; rfl)
      rw [b1, digV_f b1] at c1
      cases b2 : digA p2
      · rw [b2, digV_f b2] at c2
        go_enter Tryd.func25, Tryd.ntmps25
        go_wp2_with (first
      | (go_at_call 60; refine (l02Places_any _ _).mono ?_; rintro e w' ⟨rfl, rfl⟩)
      | (go_at_call 57; (with_reducible refine (c1.out _).mono ?_); rintro e w' ⟨rfl, rfl⟩)
      | (go_at_call 57; (with_reducible refine (c2.out _).mono ?_); rintro e w' ⟨rfl, rfl⟩))
        go_ret2
        exact ⟨congrArg Ending.returned hr.out.symm, Below.refl _ _⟩
      · rw [b2, digV_t b2] at c2
        go_enter Tryd.func25, Tryd.ntmps25
        go_wp2_with (first
      | (go_at_call 60; refine (l02Places_any _ _).mono ?_; rintro e w' ⟨rfl, rfl⟩)
      | (go_at_call 57; (with_reducible refine (c1.out _).mono ?_); rintro e w' ⟨rfl, rfl⟩)
      | (go_at_call 57; (with_reducible refine (c2.out _).mono ?_); rintro e w' ⟨rfl, rfl⟩))
        go_ret2
        exact ⟨congrArg Ending.returned hr.out.symm, Below.refl _ _⟩
    rw [b1, digV_t b1] at c1
    cases b2 : digA p2
    · have hr : Hid (optV (fixQ s.data.toList (p : Int)) = .tuple #[.int .i64 0, .bool false]) := Lib.hid (by rw [hfb.out]; unfold fixA; rw [if_neg (by rintro ⟨_, h, _⟩; rw [show digA p2 = true from h] at b2; cases b2)]; rfl)
      rw [b2, digV_f b2] at c2
      go_enter Tryd.func25, Tryd.ntmps25
      go_wp2_with (first
      | (go_at_call 60; refine (l02Places_any _ _).mono ?_; rintro e w' ⟨rfl, rfl⟩)
      | (go_at_call 57; (with_reducible refine (c1.out _).mono ?_); rintro e w' ⟨rfl, rfl⟩)
      | (go_at_call 57; (with_reducible refine (c2.out _).mono ?_); rintro e w' ⟨rfl, rfl⟩))
      go_ret2
      exact ⟨congrArg Ending.returned hr.out.symm, Below.refl _ _⟩
    rw [b2, digV_t b2] at c2
    have y6 : valF 0 p2 < 1000000 := by
      have h1 := val_part p2 p2.length b2 rfl
      have h3 := Nat.pow_le_pow_right (n := 10) (by omega) l2
      omega
    have hfc : Hid (fixQ s.data.toList (p : Int) = if valF 0 p1 ≤ 1000000000 then (if fixT ((-1) * ((valF 0 p1 * 10 ^ p + valF 0 p2 : Nat) : Int)) p = s.data.toList then some ((-1) * ((valF 0 p1 * 10 ^ p + valF 0 p2 : Nat) : Int)) else none) else none) := Lib.hid (by
      rw [hfb.out]; unfold fixA
      by_cases hv : valF 0 p1 ≤ 1000000000
      · rw [if_pos hv, if_pos ⟨b1, b2, hv⟩]
      · rw [if_neg hv, if_neg (fun h => hv h.2.2)])
    obtain ⟨x, hx⟩ : ∃ x, x = valF 0 p1 := ⟨_, rfl⟩
    obtain ⟨y, hy⟩ : ∃ y, y = valF 0 p2 := ⟨_, rfl⟩
    rw [← hx] at c1 hfc
    rw [← hy] at c2 hfc y6
    clear hx hy b1 b2 hfb l2
    by_cases z6 : x ≤ 1000000000
    rotate_left
    · have hr : Hid (optV (fixQ s.data.toList (p : Int)) = .tuple #[.int .i64 0, .bool false]) := Lib.hid (by rw [hfc.out, if_neg z6]; rfl)
      have t6 : decide ((1000000000 : Int) < (x : Int)) = true := by simp; omega
      go_enter Tryd.func25, Tryd.ntmps25
      go_wp2_with (first
      | (go_at_call 60; refine (l02Places_any _ _).mono ?_; rintro e w' ⟨rfl, rfl⟩)
      | (go_at_call 57; (with_reducible refine (c1.out _).mono ?_); rintro e w' ⟨rfl, rfl⟩)
      | (go_at_call 57; (with_reducible refine (c2.out _).mono ?_); rintro e w' ⟨rfl, rfl⟩))
      go_ret2
      exact ⟨congrArg Ending.returned hr.out.symm, Below.refl _ _⟩
    have hm := mul_bdT (a := (x : Int)) (t := tenV p) (by omega) (by omega) ht.1 ht.2
    obtain ⟨X, hX⟩ : ∃ X : Int, X = (x : Int) * tenV p := ⟨_, rfl⟩
    rw [← hX] at hm
    have hX15 : X ≤ 1000000000000000 := by
      have := Int.mul_le_mul (show (x : Int) ≤ 1000000000 by omega) ht.2 (by omega) (by omega)
      omega
    have e1 : IntKind.i64.wrap ((x : Int) * tenV p) = X := by rw [← hX]; exact IntWalk.i64_in _ (by omega)
    obtain ⟨Y, hY⟩ : ∃ Y : Int, Y = X + (y : Int) := ⟨_, rfl⟩
    have e2 : IntKind.i64.wrap (X + (y : Int)) = Y := by rw [hY]; exact IntWalk.i64_in _ (by omega)
    have y0 : 0 ≤ Y := by omega
    have y1 : Y ≤ 2000000000000000 := by omega
    have hYe : Hid (((x * 10 ^ p + y : Nat) : Int) = Y) := Lib.hid (by rw [hY, hX]; unfold tenV; rw [Int.natCast_add, Int.natCast_mul])
    clear hX hY hm hX15
    have hfd : Hid (fixQ s.data.toList (p : Int) = if fixT (-Y) p = s.data.toList then some (-Y) else none) := Lib.hid (by
      rw [hfc.out, if_pos z6, hYe.out, show (-1 : Int) * Y = -Y by omega])
    have e3 : (-1 : Int) * Y = -Y := by omega
    cases z7 : inB (-Y) (-1000000000) 1000000000
    · have hr : Hid (optV (fixQ s.data.toList (p : Int)) = .tuple #[.int .i64 0, .bool false]) := Lib.hid (by rw [hfd.out, if_neg (by rw [fixT_no _ _ (by rw [z7]; rfl)]; intro h; rw [← len_data, ← h] at i0; exact absurd i0 (Nat.lt_irrefl 0))]; rfl)
      go_enter Tryd.func25, Tryd.ntmps25
      go_wp2_with (first
      | (go_at_call 60; refine (l02Places_any _ _).mono ?_; rintro e w' ⟨rfl, rfl⟩)
      | (go_at_call 57; (with_reducible refine (c1.out _).mono ?_); rintro e w' ⟨rfl, rfl⟩)
      | (go_at_call 57; (with_reducible refine (c2.out _).mono ?_); rintro e w' ⟨rfl, rfl⟩)
      | (go_at_call 65; refine (l02Ten_any p (by omega) _).mono ?_; rintro e w' ⟨rfl, rfl⟩)
      | (go_at_call 59; refine (l02Whole_any _ _).mono ?_; rintro e w' ⟨rfl, rfl⟩))
      go_ret2
      exact ⟨congrArg Ending.returned hr.out.symm, Below.refl _ _⟩
    obtain ⟨m1, m2⟩ := inB_iff.1 z7
    obtain ⟨D, hD, hDs, cF0⟩ := str_all (C := fun _ => True) (fun W _ => l02Fixed_any (-Y) p m1 m2 (by omega) (by omega) W)
    have cF : Hid (∀ W, Calls Tryd.prog 61 #[.int .i64 (-Y), .int .i64 p] W fun e w' => e = .returned (.string D) ∧ Below W.heap.size W w') := Lib.hid (fun W => cF0.out W trivial)
    clear cF0 hDs
    by_cases z8 : D.data.toList = s.data.toList
    rotate_left
    · have hr : Hid (optV (fixQ s.data.toList (p : Int)) = .tuple #[.int .i64 0, .bool false]) := Lib.hid (by rw [hfd.out, if_neg (by rw [← hD]; exact z8)]; rfl)
      have t8 := str_ne z8
      clear z8 hD
      go_enter Tryd.func25, Tryd.ntmps25
      go_wp2_with (first
      | (go_at_call 60; refine (l02Places_any _ _).mono ?_; rintro e w' ⟨rfl, rfl⟩)
      | (go_at_call 57; (with_reducible refine (c1.out _).mono ?_); rintro e w' ⟨rfl, rfl⟩)
      | (go_at_call 57; (with_reducible refine (c2.out _).mono ?_); rintro e w' ⟨rfl, rfl⟩)
      | (go_at_call 65; refine (l02Ten_any p (by omega) _).mono ?_; rintro e w' ⟨rfl, rfl⟩)
      | (go_at_call 59; refine (l02Whole_any _ _).mono ?_; rintro e w' ⟨rfl, rfl⟩)
      | (go_at_call 61; refine (cF.out _).mono ?_; rintro e w' ⟨rfl, b1⟩))
      go_ret2
      exact ⟨congrArg Ending.returned hr.out.symm, b1⟩
    have hr : Hid (optV (fixQ s.data.toList (p : Int)) = .tuple #[.int .i64 (-Y), .bool true]) := Lib.hid (by rw [hfd.out, if_pos (by rw [← hD]; exact z8)]; rfl)
    have e8 := str_eq z8
    clear z8 hD
    subst e8
    go_enter Tryd.func25, Tryd.ntmps25
    go_wp2_with (first
      | (go_at_call 60; refine (l02Places_any _ _).mono ?_; rintro e w' ⟨rfl, rfl⟩)
      | (go_at_call 57; (with_reducible refine (c1.out _).mono ?_); rintro e w' ⟨rfl, rfl⟩)
      | (go_at_call 57; (with_reducible refine (c2.out _).mono ?_); rintro e w' ⟨rfl, rfl⟩)
      | (go_at_call 65; refine (l02Ten_any p (by omega) _).mono ?_; rintro e w' ⟨rfl, rfl⟩)
      | (go_at_call 59; refine (l02Whole_any _ _).mono ?_; rintro e w' ⟨rfl, rfl⟩)
      | (go_at_call 61; refine (cF.out _).mono ?_; rintro e w' ⟨rfl, b1⟩))
    go_ret2
    exact ⟨congrArg Ending.returned hr.out.symm, b1⟩
  · have t4 := byte_ne (z := 45) 45 rfl z4
    have hat : Hid (atD s.data.toList = 0) := Lib.hid (by unfold atD; rw [hhd.out, if_neg z4])
    have hsg : Hid (sgn s.data.toList = 1) := Lib.hid (by unfold sgn; rw [hhd.out, if_neg z4])
    clear z4
    by_cases z5 : 0 < k
    rotate_left
    · exfalso; omega
    have hfa : Hid (fixQ s.data.toList (p : Int) = fixA s.data.toList (piece s.data.toList 0 k) (piece s.data.toList (k + 1) s.size) p (1)) := Lib.hid (by
      rw [hfq.out, fixS_at ⟨by rw [hll.out]; exact z1, by rw [hll.out]; exact z2, by rw [hll.out, ← hk'.out]; exact h46.out, by rw [hll.out, ← hk'.out, hat.out]; exact z5⟩, hat.out, hsg.out, hll.out, ← hk'.out, hkp.out])
    have g1 : (0 : Int) ≤ (k : Int) := by omega
    have g2 : (k : Int) ≤ (s.size : Int) := by omega
    have g3 : (k : Int) + 1 ≤ (s.size : Int) := by omega
    have g4 : 0 ≤ k := by omega
    have g5 : k ≤ s.size := by omega
    have g6 : k + 1 ≤ s.size := by omega
    have c1 := dig_part s 0 k (by omega) (by omega) (by omega)
    have c2 := dig_part s (k + 1) s.size (by omega) (by omega) (by omega)
    have l2 : (piece s.data.toList (k + 1) s.size).length ≤ 6 := by rw [piece_len _ _ _ (by rw [len_data]; exact Nat.le_refl _)]; omega
    obtain ⟨p1, hp1⟩ : ∃ x, x = piece s.data.toList 0 k := ⟨_, rfl⟩
    obtain ⟨p2, hp2⟩ : ∃ x, x = piece s.data.toList (k + 1) s.size := ⟨_, rfl⟩
    rw [← hp1] at c1
    rw [← hp2] at c2 l2
    have hfb : Hid (fixQ s.data.toList (p : Int) = fixA s.data.toList p1 p2 p (1)) := Lib.hid (by rw [hfa.out, hp1, hp2])
    have t5 : decide ((k : Int) ≤ 0) = false := by simp; omega
    clear hp1 hp2 hfa
    cases b1 : digA p1
    · have hr : Hid (optV (fixQ s.data.toList (p : Int)) = .tuple #[.int .i64 0, .bool false]) := Lib.hid (by rw [hfb.out]; unfold fixA; rw [if_neg (by rintro ⟨h, _⟩; rw [show digA p1 = true from h] at b1; cases b1)]; rfl)
      rw [b1, digV_f b1] at c1
      cases b2 : digA p2
      · rw [b2, digV_f b2] at c2
        go_enter Tryd.func25, Tryd.ntmps25
        go_wp2_with (first
      | (go_at_call 60; refine (l02Places_any _ _).mono ?_; rintro e w' ⟨rfl, rfl⟩)
      | (go_at_call 57; (with_reducible refine (c1.out _).mono ?_); rintro e w' ⟨rfl, rfl⟩)
      | (go_at_call 57; (with_reducible refine (c2.out _).mono ?_); rintro e w' ⟨rfl, rfl⟩))
        go_ret2
        exact ⟨congrArg Ending.returned hr.out.symm, Below.refl _ _⟩
      · rw [b2, digV_t b2] at c2
        go_enter Tryd.func25, Tryd.ntmps25
        go_wp2_with (first
      | (go_at_call 60; refine (l02Places_any _ _).mono ?_; rintro e w' ⟨rfl, rfl⟩)
      | (go_at_call 57; (with_reducible refine (c1.out _).mono ?_); rintro e w' ⟨rfl, rfl⟩)
      | (go_at_call 57; (with_reducible refine (c2.out _).mono ?_); rintro e w' ⟨rfl, rfl⟩))
        go_ret2
        exact ⟨congrArg Ending.returned hr.out.symm, Below.refl _ _⟩
    rw [b1, digV_t b1] at c1
    cases b2 : digA p2
    · have hr : Hid (optV (fixQ s.data.toList (p : Int)) = .tuple #[.int .i64 0, .bool false]) := Lib.hid (by rw [hfb.out]; unfold fixA; rw [if_neg (by rintro ⟨_, h, _⟩; rw [show digA p2 = true from h] at b2; cases b2)]; rfl)
      rw [b2, digV_f b2] at c2
      go_enter Tryd.func25, Tryd.ntmps25
      go_wp2_with (first
      | (go_at_call 60; refine (l02Places_any _ _).mono ?_; rintro e w' ⟨rfl, rfl⟩)
      | (go_at_call 57; (with_reducible refine (c1.out _).mono ?_); rintro e w' ⟨rfl, rfl⟩)
      | (go_at_call 57; (with_reducible refine (c2.out _).mono ?_); rintro e w' ⟨rfl, rfl⟩))
      go_ret2
      exact ⟨congrArg Ending.returned hr.out.symm, Below.refl _ _⟩
    rw [b2, digV_t b2] at c2
    have y6 : valF 0 p2 < 1000000 := by
      have h1 := val_part p2 p2.length b2 rfl
      have h3 := Nat.pow_le_pow_right (n := 10) (by omega) l2
      omega
    have hfc : Hid (fixQ s.data.toList (p : Int) = if valF 0 p1 ≤ 1000000000 then (if fixT ((1) * ((valF 0 p1 * 10 ^ p + valF 0 p2 : Nat) : Int)) p = s.data.toList then some ((1) * ((valF 0 p1 * 10 ^ p + valF 0 p2 : Nat) : Int)) else none) else none) := Lib.hid (by
      rw [hfb.out]; unfold fixA
      by_cases hv : valF 0 p1 ≤ 1000000000
      · rw [if_pos hv, if_pos ⟨b1, b2, hv⟩]
      · rw [if_neg hv, if_neg (fun h => hv h.2.2)])
    obtain ⟨x, hx⟩ : ∃ x, x = valF 0 p1 := ⟨_, rfl⟩
    obtain ⟨y, hy⟩ : ∃ y, y = valF 0 p2 := ⟨_, rfl⟩
    rw [← hx] at c1 hfc
    rw [← hy] at c2 hfc y6
    clear hx hy b1 b2 hfb l2
    by_cases z6 : x ≤ 1000000000
    rotate_left
    · have hr : Hid (optV (fixQ s.data.toList (p : Int)) = .tuple #[.int .i64 0, .bool false]) := Lib.hid (by rw [hfc.out, if_neg z6]; rfl)
      have t6 : decide ((1000000000 : Int) < (x : Int)) = true := by simp; omega
      go_enter Tryd.func25, Tryd.ntmps25
      go_wp2_with (first
      | (go_at_call 60; refine (l02Places_any _ _).mono ?_; rintro e w' ⟨rfl, rfl⟩)
      | (go_at_call 57; (with_reducible refine (c1.out _).mono ?_); rintro e w' ⟨rfl, rfl⟩)
      | (go_at_call 57; (with_reducible refine (c2.out _).mono ?_); rintro e w' ⟨rfl, rfl⟩))
      go_ret2
      exact ⟨congrArg Ending.returned hr.out.symm, Below.refl _ _⟩
    have hm := mul_bdT (a := (x : Int)) (t := tenV p) (by omega) (by omega) ht.1 ht.2
    obtain ⟨X, hX⟩ : ∃ X : Int, X = (x : Int) * tenV p := ⟨_, rfl⟩
    rw [← hX] at hm
    have hX15 : X ≤ 1000000000000000 := by
      have := Int.mul_le_mul (show (x : Int) ≤ 1000000000 by omega) ht.2 (by omega) (by omega)
      omega
    have e1 : IntKind.i64.wrap ((x : Int) * tenV p) = X := by rw [← hX]; exact IntWalk.i64_in _ (by omega)
    obtain ⟨Y, hY⟩ : ∃ Y : Int, Y = X + (y : Int) := ⟨_, rfl⟩
    have e2 : IntKind.i64.wrap (X + (y : Int)) = Y := by rw [hY]; exact IntWalk.i64_in _ (by omega)
    have y0 : 0 ≤ Y := by omega
    have y1 : Y ≤ 2000000000000000 := by omega
    have hYe : Hid (((x * 10 ^ p + y : Nat) : Int) = Y) := Lib.hid (by rw [hY, hX]; unfold tenV; rw [Int.natCast_add, Int.natCast_mul])
    clear hX hY hm hX15
    have hfd : Hid (fixQ s.data.toList (p : Int) = if fixT (Y) p = s.data.toList then some (Y) else none) := Lib.hid (by
      rw [hfc.out, if_pos z6, hYe.out, Int.one_mul])
    have e3 : (1 : Int) * Y = Y := by omega
    cases z7 : inB (Y) (-1000000000) 1000000000
    · have hr : Hid (optV (fixQ s.data.toList (p : Int)) = .tuple #[.int .i64 0, .bool false]) := Lib.hid (by rw [hfd.out, if_neg (by rw [fixT_no _ _ (by rw [z7]; rfl)]; intro h; rw [← len_data, ← h] at i0; exact absurd i0 (Nat.lt_irrefl 0))]; rfl)
      go_enter Tryd.func25, Tryd.ntmps25
      go_wp2_with (first
      | (go_at_call 60; refine (l02Places_any _ _).mono ?_; rintro e w' ⟨rfl, rfl⟩)
      | (go_at_call 57; (with_reducible refine (c1.out _).mono ?_); rintro e w' ⟨rfl, rfl⟩)
      | (go_at_call 57; (with_reducible refine (c2.out _).mono ?_); rintro e w' ⟨rfl, rfl⟩)
      | (go_at_call 65; refine (l02Ten_any p (by omega) _).mono ?_; rintro e w' ⟨rfl, rfl⟩)
      | (go_at_call 59; refine (l02Whole_any _ _).mono ?_; rintro e w' ⟨rfl, rfl⟩))
      go_ret2
      exact ⟨congrArg Ending.returned hr.out.symm, Below.refl _ _⟩
    obtain ⟨m1, m2⟩ := inB_iff.1 z7
    obtain ⟨D, hD, hDs, cF0⟩ := str_all (C := fun _ => True) (fun W _ => l02Fixed_any (Y) p m1 m2 (by omega) (by omega) W)
    have cF : Hid (∀ W, Calls Tryd.prog 61 #[.int .i64 (Y), .int .i64 p] W fun e w' => e = .returned (.string D) ∧ Below W.heap.size W w') := Lib.hid (fun W => cF0.out W trivial)
    clear cF0 hDs
    by_cases z8 : D.data.toList = s.data.toList
    rotate_left
    · have hr : Hid (optV (fixQ s.data.toList (p : Int)) = .tuple #[.int .i64 0, .bool false]) := Lib.hid (by rw [hfd.out, if_neg (by rw [← hD]; exact z8)]; rfl)
      have t8 := str_ne z8
      clear z8 hD
      go_enter Tryd.func25, Tryd.ntmps25
      go_wp2_with (first
      | (go_at_call 60; refine (l02Places_any _ _).mono ?_; rintro e w' ⟨rfl, rfl⟩)
      | (go_at_call 57; (with_reducible refine (c1.out _).mono ?_); rintro e w' ⟨rfl, rfl⟩)
      | (go_at_call 57; (with_reducible refine (c2.out _).mono ?_); rintro e w' ⟨rfl, rfl⟩)
      | (go_at_call 65; refine (l02Ten_any p (by omega) _).mono ?_; rintro e w' ⟨rfl, rfl⟩)
      | (go_at_call 59; refine (l02Whole_any _ _).mono ?_; rintro e w' ⟨rfl, rfl⟩)
      | (go_at_call 61; refine (cF.out _).mono ?_; rintro e w' ⟨rfl, b1⟩))
      go_ret2
      exact ⟨congrArg Ending.returned hr.out.symm, b1⟩
    have hr : Hid (optV (fixQ s.data.toList (p : Int)) = .tuple #[.int .i64 (Y), .bool true]) := Lib.hid (by rw [hfd.out, if_pos (by rw [← hD]; exact z8)]; rfl)
    have e8 := str_eq z8
    clear z8 hD
    subst e8
    go_enter Tryd.func25, Tryd.ntmps25
    go_wp2_with (first
      | (go_at_call 60; refine (l02Places_any _ _).mono ?_; rintro e w' ⟨rfl, rfl⟩)
      | (go_at_call 57; (with_reducible refine (c1.out _).mono ?_); rintro e w' ⟨rfl, rfl⟩)
      | (go_at_call 57; (with_reducible refine (c2.out _).mono ?_); rintro e w' ⟨rfl, rfl⟩)
      | (go_at_call 65; refine (l02Ten_any p (by omega) _).mono ?_; rintro e w' ⟨rfl, rfl⟩)
      | (go_at_call 59; refine (l02Whole_any _ _).mono ?_; rintro e w' ⟨rfl, rfl⟩)
      | (go_at_call 61; refine (cF.out _).mono ?_; rintro e w' ⟨rfl, b1⟩))
    go_ret2
    exact ⟨congrArg Ending.returned hr.out.symm, b1⟩
end Go.Proofs.YtglpmdoigoicbaaDoor
