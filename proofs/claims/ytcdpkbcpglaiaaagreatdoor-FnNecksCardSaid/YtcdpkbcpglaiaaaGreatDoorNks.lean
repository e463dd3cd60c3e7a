/-
  What the law of necks asks of each part, over opaque values.
-/
import Derived.Test.YtcdpkbcpglaiaaaGreatDoorNckS
import Derived.Test.YtcdpkbcpglaiaaaGreatDoorNckV
import Derived.Test.YtcdpkbcpglaiaaaGreatDoorNckX
import Derived.Test.YtcdpkbcpglaiaaaGreatDoorNckRd
import Derived.Test.YtcdpkbcpglaiaaaGreatDoorBackMath
import Derived.Test.YtcdpkbcpglaiaaaGreatDoorDrn2
import Derived.Test.YtcdpkbcpglaiaaaGreatDoorTen
namespace Go.Proofs.YtcdpkbcpglaiaaaGreatDoor
open Go.ChangeShapes Go.WideShapes Go.ChangeAt Go.RowKit Go.Deep
set_option linter.unusedVariables false
set_option maxRecDepth 1000000
set_option linter.unusedSimpArgs false
def babs (x : Int) : Int := if x < 0 then -x else x
theorem babs_neg {x : Int} (h : x < 0) : babs x = -x := if_pos h
theorem babs_pos {x : Int} (h : ¬ x < 0) : babs x = x := if_neg h
theorem b10Abs_any (x : Int) (h0 : -1000000 ≤ x) (h1 : x ≤ 1000000) (w : World) : Calls Tryz.prog 18 #[.int .i64 x] w fun e w' => e = .returned (.int .i64 (babs x)) ∧ w = w' := by
  by_cases h : x < 0
  · go_enter Tryz.func18, Tryz.ntmps18
    go_wp2
    go_ret
    exact ⟨ret_int (babs_neg (by omega)).symm, rfl⟩
  · go_enter Tryz.func18, Tryz.ntmps18
    go_wp2
    go_ret
    exact ⟨ret_int (babs_pos (by omega)).symm, rfl⟩
theorem b10Div_any (x y : Int) (h0 : -100000000000 ≤ x) (h1 : x ≤ 100000000000) (hy : 0 < y) (hy1 : y ≤ 100000) (w : World) : Calls Tryz.prog 10 #[.int .i64 x, .int .i64 y] w fun e w' => e = .returned (.int .i64 (rnd x y)) ∧ w = w' := by
  have pos : ∀ (z : Int), 0 ≤ z → z ≤ 100000000000 → ∀ W : World, Calls Tryz.prog 10 #[.int .i64 z, .int .i64 y] W fun e w' => e = .returned (.int .i64 (rnd z y)) ∧ W = w' := fun z hz0 hz1 W => by
    have hr : Hid ((2 * z + y) / (2 * y) = rnd z y) := Lib.hid (by rw [rnd_of_pos hy, rp_pos hz0])
    have q0 := Int.ediv_nonneg (a := 2 * z + y) (b := 2 * y) (by omega) (by omega)
    have q1 := Int.ediv_le_self (a := 2 * z + y) (2 * y) (by omega)
    have e1 : (2 * z + y).tdiv (2 * y) = (2 * z + y) / (2 * y) := Int.tdiv_eq_ediv_of_nonneg (by omega)
    have e2 : IntKind.i64.wrap ((2 * z + y) / (2 * y)) = (2 * z + y) / (2 * y) := IntWalk.i64_in _ (by omega)
    have e3 : (2 * y == 0) = false := by simpa using (show ¬ 2 * y = 0 by omega)
    have hn : ¬ z < 0 := by omega
    go_enter Tryz.func10, Tryz.ntmps10
    go_wp2
    go_ret
    exact ⟨ret_int hr.out, rfl⟩
  by_cases hx : x < 0
  · have hc := Lib.hid (pos (-x) (by omega) (by omega))
    have hb := rnd_odd (a := x) hy
    have hbd := rnd_nonneg (a := -x) (b := y) hy (by omega)
    have hb2 := rnd_bd (-x) y hy
    have hv : Hid (-(rnd (-x) y) = rnd x y) := Lib.hid (by omega)
    obtain ⟨r, hr⟩ : ∃ r, r = rnd (-x) y := ⟨_, rfl⟩
    rw [← hr] at hc hbd hb2 hv
    have hrr : r ≤ 100000000001 := by omega
    clear hr hb pos hb2
    go_enter Tryz.func10, Tryz.ntmps10
    go_wp2_with (go_at_call 10; (with_reducible refine (hc.out _).mono ?_); rintro e w' ⟨rfl, rfl⟩)
    go_ret
    exact ⟨ret_int hv.out, rfl⟩
  · exact pos x (by omega) h1 w
theorem lst_spec {p : Nat → Bool} {n r : Nat} (h : lstN p n = r) (hr : r < n) : p r = true ∧ ∀ j, j < r → p j = false := by
  unfold lstN at h
  cases hf : (List.range n).find? p with
  | none => rw [hf] at h; simp at h; omega
  | some q =>
    rw [hf] at h
    simp at h
    subst h
    obtain ⟨h1, _, h3⟩ := List.find?_range_eq_some.1 hf
    exact ⟨h1, fun j hj => by have := h3 j hj; simpa using this⟩
theorem lst_le (p : Nat → Bool) (n : Nat) : lstN p n ≤ n := by
  unfold lstN
  cases hf : (List.range n).find? p with
  | none => simp
  | some q =>
    have := List.mem_range.1 (List.mem_of_find?_eq_some hf)
    simp; omega
theorem part1 (a b c d h : Int) : ∃ k c1 : Int, Hid (∀ W : World, Calls Tryz.prog 6 #[.agg #[.int .i64 a, .int .i64 b, .int .i64 c, .int .i64 d], .int .i64 h] W fun e w' => e = .returned (.tuple #[.int .i64 (k), .int .i64 (c1)]) ∧ Below W.heap.size W w') ∧ Hid (c1 ≠ 0 → k = 0) ∧
    Hid (c1 = 0 → ∃ A B c3 : Int, Hid (∀ W : World, Calls Tryz.prog 7 #[.agg #[.int .i64 a, .int .i64 b, .int .i64 c, .int .i64 (k)]] W fun e w' => e = .returned (.tuple #[.int .i64 (A), .int .i64 (0)]) ∧ Below W.heap.size W w') ∧ Hid (∀ W : World, Calls Tryz.prog 7 #[.agg #[.int .i64 a, .int .i64 b, .int .i64 c, .int .i64 (k - 1)]] W fun e w' => e = .returned (.tuple #[.int .i64 (B), .int .i64 (c3)]) ∧ Below W.heap.size W w') ∧ h ≤ A ∧ ((c3 = 0 ∧ B < h) ∨ (c3 = 1 ∧ B = 0)) ∧ 0 ≤ k ∧ k ≤ 300) := by
  refine ⟨_, _, Lib.hid (fun W => implAngleFor_any a b c d h W), Lib.hid (fun hc => ?_), Lib.hid (fun hc => ?_)⟩
  · cases h1 : nckB ⟨a, b, c, d⟩ <;> cases h2 : inB h 0 2000 <;> rw [h1, h2] at hc
    · rfl
    · rfl
    · rfl
    · have hl : lstN (agP b c h) 301 ≠ 301 → False := fun hne => hc (by show agC b c h = 0; unfold agC lfC; rw [if_neg hne])
      have he : lstN (agP b c h) 301 = 301 := by
        rcases Nat.lt_or_ge (lstN (agP b c h) 301) 301 with q | q
        · exact absurd (by omega) hl
        · have := lst_le (agP b c h) 301; omega
      show agV b c h = 0
      unfold agV lfV
      rw [if_pos he]
  · cases h1 : nckB ⟨a, b, c, d⟩ <;> cases h2 : inB h 0 2000 <;> rw [h1, h2] at hc
    · exact absurd hc (by simp [cd3])
    · exact absurd hc (by simp [cd3])
    · exact absurd hc (by simp [cd3])
    · have hle := lst_le (agP b c h) 301
      obtain ⟨r, hr⟩ : ∃ r, r = lstN (agP b c h) 301 := ⟨_, rfl⟩
      have hne : r ≠ 301 := fun e => by
        have hc2 : agC b c h = 0 := hc
        unfold agC lfC at hc2
        rw [← hr, if_pos e] at hc2
        exact absurd hc2 (by decide)
      obtain ⟨hy, hno⟩ := lst_spec hr.symm (by omega)
      have hk : pick (true && true) (agV b c h) = (r : Int) := by
        show agV b c h = _
        unfold agV lfV
        rw [← hr, if_neg hne]; omega
      rw [hk]
      have hX := h1
      unfold nckB at hX
      simp only [Bool.and_eq_true] at hX
      have y1 : nckB ⟨a, b, c, (r : Int)⟩ = true := by
        unfold nckB
        simp only [Bool.and_eq_true]
        exact ⟨⟨⟨hX.1.1.1, hX.1.1.2⟩, hX.1.2⟩, inB_iff.2 (by omega)⟩
      have c1 := fun W => implProjectionOf_any a b c (r : Int) W
      rw [y1] at c1
      have c2 := fun W => implProjectionOf_any a b c ((r : Int) - 1) W
      refine ⟨prjV b c r, _, _, Lib.hid c1, Lib.hid c2, ?_, ?_, by omega, by omega⟩
      · have := hy; unfold agP at this; exact of_decide_eq_true this
      · by_cases h0 : r = 0
        · have y2 : nckB ⟨a, b, c, (r : Int) - 1⟩ = false := by
            unfold nckB
            have : inB ((r : Int) - 1) 0 300 = false := by
              rw [← Bool.not_eq_true, inB_iff]; omega
            simp only [this, Bool.and_false]
          rw [y2]; exact Or.inr ⟨rfl, rfl⟩
        · have y2 : nckB ⟨a, b, c, (r : Int) - 1⟩ = true := by
            unfold nckB
            simp only [Bool.and_eq_true]
            exact ⟨⟨⟨hX.1.1.1, hX.1.1.2⟩, hX.1.2⟩, inB_iff.2 (by omega)⟩
          rw [y2]
          refine Or.inl ⟨rfl, ?_⟩
          show prjV b c ((r : Int) - 1) < h
          have hq := hno (r - 1) (by omega)
          unfold agP at hq
          have := of_decide_eq_false hq
          rw [show ((r - 1 : Nat) : Int) = (r : Int) - 1 by omega] at this
          omega
theorem part2 (a b c d h j : Int) : ∃ s c4 : Int, Hid (∀ W : World, Calls Tryz.prog 9 #[.agg #[.int .i64 a, .int .i64 b, .int .i64 c, .int .i64 d], .int .i64 h, .int .i64 j] W fun e w' => e = .returned (.tuple #[.int .i64 (s), .int .i64 (c4)]) ∧ Below W.heap.size W w') ∧ Hid (c4 ≠ 0 → s = 0) ∧
    Hid (c4 = 0 → ∃ r1 q1 r2 q2 : Int, Hid (∀ W : World, Calls Tryz.prog 10 #[.int .i64 (1000 * s), .int .i64 (j)] W fun e w' => e = .returned (.int .i64 r1) ∧ W = w') ∧ Hid (∀ W : World, Calls Tryz.prog 10 #[.int .i64 (b * (d + r1)), .int .i64 (1000)] W fun e w' => e = .returned (.int .i64 q1) ∧ W = w') ∧ Hid (∀ W : World, Calls Tryz.prog 10 #[.int .i64 (1000 * (s - 1)), .int .i64 (j)] W fun e w' => e = .returned (.int .i64 r2) ∧ W = w') ∧ Hid (∀ W : World, Calls Tryz.prog 10 #[.int .i64 (b * (d + r2)), .int .i64 (1000)] W fun e w' => e = .returned (.int .i64 q2) ∧ W = w') ∧
      (0 ≤ s ∧ s ≤ 200) ∧ h ≤ c + q1 ∧ (0 < s → c + q2 < h) ∧ (0 ≤ d ∧ d ≤ 300) ∧ (-1000000 ≤ r1 ∧ r1 ≤ 1000000) ∧ (-1000000 ≤ r2 ∧ r2 ≤ 1000000) ∧ IntKind.i64.wrap (b * (d + r1)) = b * (d + r1) ∧ IntKind.i64.wrap (b * (d + r2)) = b * (d + r2) ∧ IntKind.i64.wrap (c + q1) = c + q1 ∧ IntKind.i64.wrap (c + q2) = c + q2) := by
  refine ⟨_, _, Lib.hid (fun W => implShimFor_any a b c d h j W), Lib.hid (fun hc => ?_), Lib.hid (fun hc => ?_)⟩
  · cases h1 : nckB ⟨a, b, c, d⟩ <;> cases h2 : (inB h 0 2000 && inB j 1 1000) <;> rw [h1, h2] at hc
    · rfl
    · rfl
    · rfl
    · have hl : lstN (shP b c d h j) 201 ≠ 201 → False := fun hne => hc (by show shC b c d h j = 0; unfold shC lfC; rw [if_neg hne])
      have he : lstN (shP b c d h j) 201 = 201 := by
        rcases Nat.lt_or_ge (lstN (shP b c d h j) 201) 201 with q | q
        · exact absurd (by omega) hl
        · have := lst_le (shP b c d h j) 201; omega
      show shV b c d h j = 0
      unfold shV lfV
      rw [if_pos he]
  · cases h1 : nckB ⟨a, b, c, d⟩ <;> cases h2 : (inB h 0 2000 && inB j 1 1000) <;> rw [h1, h2] at hc
    · exact absurd hc (by simp [cd3])
    · exact absurd hc (by simp [cd3])
    · exact absurd hc (by simp [cd3])
    · have hle := lst_le (shP b c d h j) 201
      obtain ⟨r, hr⟩ : ∃ r, r = lstN (shP b c d h j) 201 := ⟨_, rfl⟩
      have hne : r ≠ 201 := fun e => by
        have hc2 : shC b c d h j = 0 := hc
        unfold shC lfC at hc2
        rw [← hr, if_pos e] at hc2
        exact absurd hc2 (by decide)
      obtain ⟨hy, hno⟩ := lst_spec hr.symm (by omega)
      have hk : pick (true && true) (shV b c d h j) = (r : Int) := by
        show shV b c d h j = _
        unfold shV lfV
        rw [← hr, if_neg hne]; omega
      rw [hk]
      obtain ⟨ha, hb, hc3, hd⟩ := nck_bd h1
      have hj := inB_iff.1 (Bool.and_eq_true_iff.1 h2).2
      have z1 := rnd_bd (1000 * (r : Int)) j (by omega)
      have z2 := rnd_bd (1000 * ((r : Int) - 1)) j (by omega)
      obtain ⟨r1, hr1⟩ : ∃ r1, r1 = rnd (1000 * (r : Int)) j := ⟨_, rfl⟩
      obtain ⟨r2, hr2⟩ : ∃ r2, r2 = rnd (1000 * ((r : Int) - 1)) j := ⟨_, rfl⟩
      rw [← hr1] at z1
      rw [← hr2] at z2
      have y1 := mul_bd (a := d + r1) (b := b) (B := 1000000) (C := 10000) (by omega) (by omega) (by omega) (by omega) (by omega)
      rw [Int.mul_comm (d + r1) b] at y1
      have y2 := mul_bd (a := d + r2) (b := b) (B := 1000000) (C := 10000) (by omega) (by omega) (by omega) (by omega) (by omega)
      rw [Int.mul_comm (d + r2) b] at y2
      have v1 := rnd_bd (b * (d + r1)) 1000 (by omega)
      have v2 := rnd_bd (b * (d + r2)) 1000 (by omega)
      refine ⟨r1, rnd (b * (d + r1)) 1000, r2, rnd (b * (d + r2)) 1000, Lib.hid (fun W => by rw [hr1]; exact b10Div_any _ _ (by omega) (by omega) (by omega) (by omega) W), Lib.hid (fun W => b10Div_any _ _ (by omega) (by omega) (by omega) (by omega) W), Lib.hid (fun W => by rw [hr2]; exact b10Div_any _ _ (by omega) (by omega) (by omega) (by omega) W), Lib.hid (fun W => b10Div_any _ _ (by omega) (by omega) (by omega) (by omega) W), by omega, ?_, fun h0 => ?_, hd, by omega, by omega, IntWalk.i64_in _ (by omega), IntWalk.i64_in _ (by omega), IntWalk.i64_in _ (by omega), IntWalk.i64_in _ (by omega)⟩
      · have := of_decide_eq_true hy
        unfold prjV shmV at this
        rw [← hr1] at this; exact this
      · have hq := hno (r - 1) (by omega)
        have := of_decide_eq_false hq
        unfold prjV shmV at this
        rw [show ((r - 1 : Nat) : Int) = (r : Int) - 1 by omega, ← hr2] at this
        omega
theorem text_back {x : Nck} (h : nckB x = true) : nckO (nckT x) = some x ∧ (nckT x).length ≤ 1000 := by
  obtain ⟨a, b, c, d⟩ := x
  obtain ⟨hin, hft⟩ := nck_inI h
  have hb := nck_bd h
  have key : ∀ n ∈ [a, b, c, d], -1000000000000 ≤ n ∧ n ≤ 1000000000000 := by
    intro n hn
    simp only [List.mem_cons, List.not_mem_nil, or_false] at hn
    rcases hn with rfl | rfl | rfl | rfl <;> omega
  have e : nckT ⟨a, b, c, d⟩ = textZ [a, b, c, d] := by unfold nckT; rw [if_pos h]
  have hl : listR [a, b, c, d] = textZ [a, b, c, d] := by unfold listR; rw [if_pos hft]
  have hr := list_back [a, b, c, d] key (by simp) (by simp)
  rw [hl, ← e] at hr
  refine ⟨by rw [nckO_yes hr, if_pos h], ?_⟩
  have ht : textZ [a, b, c, d] = joinK [a, b, c, d] 4 := by
    have := joinK_all [a, b, c, d]
    unfold textZ
    rw [if_neg (by simp)]; exact this.symm
  rw [e, ht]
  have := joinK_le [a, b, c, d] 4 (fun n hn => by have := key n hn; omega)
  omega
theorem part3 (a b c d g : Int) : ∃ p c5 S c6 : Int, Hid (∀ W : World, Calls Tryz.prog 12 #[.agg #[.int .i64 a, .int .i64 b, .int .i64 c, .int .i64 d], .int .i64 g] W fun e w' => e = .returned (.tuple #[.int .i64 (p), .int .i64 (c5)]) ∧ Below W.heap.size W w') ∧ Hid (∀ W : World, Calls Tryz.prog 13 #[.agg #[.int .i64 a, .int .i64 b, .int .i64 c, .int .i64 d]] W fun e w' => e = .returned (.tuple #[.int .i64 (S), .int .i64 (c6)]) ∧ Below W.heap.size W w') ∧ Hid (c5 ≠ 0 → p = 0) ∧
    Hid (c5 = 0 → ∃ (T R v1 v2 : Int) (D : ByteArray), c6 = 0 ∧ S = a + b ∧ IntKind.i64.wrap (a + b) = a + b ∧ Hid (∀ W : World, Calls Tryz.prog 14 #[.agg #[.int .i64 a, .int .i64 b, .int .i64 c, .int .i64 d], .int .i64 p] W fun e w' => e = .returned (.tuple #[.int .i64 (T), .int .i64 (0)]) ∧ Below W.heap.size W w') ∧ Hid (∀ W : World, Calls Tryz.prog 15 #[.agg #[.int .i64 a, .int .i64 b, .int .i64 c, .int .i64 d]] W fun e w' => e = .returned (.tuple #[.int .i64 (R), .int .i64 (0)]) ∧ Below W.heap.size W w') ∧
      Hid (∀ W : World, TabP W → Calls Tryz.prog 17 #[.agg #[.int .i64 a, .int .i64 b, .int .i64 c, .int .i64 d]] W fun e w' => e = .returned (.string D) ∧ Below W.heap.size W w') ∧
      Hid (∀ W : World, TabP W → ErrsAt W → W.ShapedOpen Tryz.prog → Calls Tryz.prog 16 #[.string D] W fun e w' => e = .returned (.tuple #[.agg #[.int .i64 a, .int .i64 b, .int .i64 c, .int .i64 d], .bool true]) ∧ Below W.heap.size W w') ∧
      Hid (∀ W : World, Calls Tryz.prog 18 #[.int .i64 (T * (a + b) - 1000 * g)] W fun e w' => e = .returned (.int .i64 v1) ∧ W = w') ∧ Hid (∀ W : World, Calls Tryz.prog 18 #[.int .i64 (R * b - 1000 * a)] W fun e w' => e = .returned (.int .i64 v2) ∧ W = w') ∧ 2 * v1 ≤ a + b ∧ 2 * v2 ≤ b ∧ (0 ≤ v1 ∧ v1 ≤ 100000) ∧ (0 ≤ v2 ∧ v2 ≤ 100000) ∧ (0 ≤ g ∧ g ≤ 1000) ∧ (100 ≤ a ∧ a ≤ 10000) ∧ (100 ≤ b ∧ b ≤ 10000) ∧ IntKind.i64.wrap (T * (a + b)) = T * (a + b) ∧ IntKind.i64.wrap (R * b) = R * b ∧ IntKind.i64.wrap (T * (a + b) - 1000 * g) = T * (a + b) - 1000 * g ∧ IntKind.i64.wrap (R * b - 1000 * a) = R * b - 1000 * a) := by
  refine ⟨_, _, _, _, Lib.hid (fun W => implBridgeFor_any a b c d g W), Lib.hid (fun W => implScaleOf_any a b c d W), Lib.hid (fun hc => ?_), Lib.hid (fun hc => ?_)⟩
  · cases h1 : nckB ⟨a, b, c, d⟩ <;> cases h2 : inB g 0 1000 <;> rw [h1, h2] at hc
    · rfl
    · rfl
    · rfl
    · show brV b c d g = 0
      have hc2 : brC b c d g ≠ 0 := hc
      unfold brC at hc2
      unfold brV
      by_cases hq : prjV b c d + g ≤ 2000
      · rw [if_pos hq] at hc2; exact absurd rfl hc2
      · rw [if_neg hq]
  · cases h1 : nckB ⟨a, b, c, d⟩ <;> cases h2 : inB g 0 1000 <;> rw [h1, h2] at hc
    · exact absurd hc (by simp [cd3])
    · exact absurd hc (by simp [cd3])
    · exact absurd hc (by simp [cd3])
    · have hc2 : brC b c d g = 0 := hc
      have hq : prjV b c d + g ≤ 2000 := by
        rcases Int.lt_or_le 2000 (prjV b c d + g) with q | q
        · unfold brC at hc2; rw [if_neg (by omega)] at hc2; exact absurd hc2 (by decide)
        · exact q
      obtain ⟨ha, hb, hcc, hd⟩ := nck_bd h1
      have hg := inB_iff.1 h2
      have hp := prj_bd hb hcc (d := d) ⟨hd.1, by omega⟩
      have hv : pick (true && true) (brV b c d g) = prjV b c d + g := by
        show brV b c d g = _
        unfold brV; rw [if_pos hq]
      rw [hv]
      have hin : inB (prjV b c d + g) 0 2000 = true := inB_iff.2 ⟨by omega, hq⟩
      have cT := fun W => implStringAngle_any a b c d (prjV b c d + g) W
      rw [h1, hin] at cT
      have cR := fun W => implStopRatio_any a b c d W
      rw [h1] at cR
      obtain ⟨hT, hlen⟩ := text_back h1
      have cX := fun W (h : TabP W) => implNeckText_any a b c d W h
      have cY := fun W (h2 : TabP W) (h3 : ErrsAt W) (h4 : W.ShapedOpen Tryz.prog) => implReadNeck_any ⟨(nckT ⟨a, b, c, d⟩).toArray⟩ W (by show (nckT ⟨a, b, c, d⟩).toArray.size ≤ _; simp; omega) h2 h3 h4
      have hS : saV a b c d (prjV b c d + g) = rnd (1000 * g) (a + b) := by unfold saV; rw [show prjV b c d + g - prjV b c d = g by omega]
      have u1 := rnd_upper (a := 1000 * g) (b := a + b) (by omega)
      have l1 := rnd_lower (a := 1000 * g) (b := a + b) (by omega)
      have u2 := rnd_upper (a := 1000 * a) (b := b) (by omega)
      have l2 := rnd_lower (a := 1000 * a) (b := b) (by omega)
      obtain ⟨T, hT1⟩ : ∃ T, T = rnd (1000 * g) (a + b) := ⟨_, rfl⟩
      obtain ⟨R, hR1⟩ : ∃ R, R = rnd (1000 * a) b := ⟨_, rfl⟩
      rw [← hT1] at u1 l1
      rw [← hR1] at u2 l2
      rw [Int.mul_comm (a + b) T] at u1 l1
      rw [Int.mul_comm b R] at u2 l2
      obtain ⟨P1, hP1⟩ : ∃ P, P = T * (a + b) := ⟨_, rfl⟩
      obtain ⟨P2, hP2⟩ : ∃ P, P = R * b := ⟨_, rfl⟩
      rw [← hP1] at u1 l1
      rw [← hP2] at u2 l2
      refine ⟨T, R, babs (P1 - 1000 * g), babs (P2 - 1000 * a), ⟨(nckT ⟨a, b, c, d⟩).toArray⟩, rfl, rfl, IntWalk.i64_in _ (by omega), Lib.hid (fun W => ?_), Lib.hid (fun W => ?_), Lib.hid cX, Lib.hid (fun W h2 h3 h4 => ?_), Lib.hid (fun W => ?_), Lib.hid (fun W => ?_), ?_, ?_, ?_, ?_, hg, ha, hb, IntWalk.i64_in _ (by rw [← hP1]; omega), IntWalk.i64_in _ (by rw [← hP2]; omega), IntWalk.i64_in _ (by rw [← hP1]; omega), IntWalk.i64_in _ (by rw [← hP2]; omega)⟩
      · rw [hT1, ← hS]; exact cT W
      · rw [hR1]; exact cR W
      · have := cY W h2 h3 h4
        rw [show (⟨(nckT ⟨a, b, c, d⟩).toArray⟩ : ByteArray).data.toList = nckT ⟨a, b, c, d⟩ by simp, hT] at this
        exact this
      · rw [← hP1]; exact b10Abs_any _ (by omega) (by omega) W
      · rw [← hP2]; exact b10Abs_any _ (by omega) (by omega) W
      all_goals (unfold babs; split <;> omega)
end Go.Proofs.YtcdpkbcpglaiaaaGreatDoor
