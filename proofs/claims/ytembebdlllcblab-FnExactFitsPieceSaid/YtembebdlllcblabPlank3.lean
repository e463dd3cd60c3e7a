/-
  Contracts of speeds, gaps and pieces of planks by value.
-/
import Derived.Test.YtembebdlllcblabPlank2
namespace Go.Proofs.Ytembebdlllcblab
open Go.ChangeShapes Go.WideShapes Go.ChangeAt Go.RowKit
set_option linter.unusedVariables false
set_option linter.unusedSimpArgs false
/-- the code of two tests, one behind the other -/
def code2 (b1 b2 : Bool) (c1 c2 : Int) : Int := if b1 = true then (if b2 = true then 0 else c2) else c1
theorem implSpeedOf_any (s : ByteArray) (a b c d f : Int) (n : Int) (hs : s.size ≤ maxLen) (w : World) : Calls Try.prog 27 #[.agg #[.string s, .int .i64 a, .int .i64 b, .int .i64 c, .int .i64 d, .int .i64 f], .int .i64 n] w fun e w' => e = .returned (.tuple #[.int .i64 (pick (plkB ⟨s, a, b, c, d, f⟩ && inB n 1 10000) (2 * a * n / 1000)), .int .i64 (code2 (plkB ⟨s, a, b, c, d, f⟩) (inB n 1 10000) 1 2)]) ∧ Below w.heap.size w w' := by
  cases h : plkB ⟨s, a, b, c, d, f⟩
  · go_enter Try.func27, Try.ntmps27
    go_wp2_with (go_at_call 16; refine (implValidPlank_any _ _ _ _ _ _ hs _).mono ?_; rintro e w1 ⟨rfl, b1⟩; have C1 := bcell b1)
    go_ret2
    exact ⟨ret_int2 rfl rfl, ((Below.refl _ _).alloc (Nat.le_refl _) _).trans (b1.mono (by simp))⟩
  obtain ⟨ha, hb, hc, hd, hf, hab, habc⟩ := plk_bd h
  cases h2 : inB n 1 10000
  · go_enter Try.func27, Try.ntmps27
    go_wp2_with (first
      | (go_at_call 16; refine (implValidPlank_any _ _ _ _ _ _ hs _).mono ?_; rintro e w1 ⟨rfl, b1⟩; have C1 := bcell b1)
      | (go_at_call 41; refine (within64_any _ _ _ _).mono ?_; rintro e w' ⟨rfl, rfl⟩))
    go_ret2
    exact ⟨ret_int2 rfl rfl, ((Below.refl _ _).alloc (Nat.le_refl _) _).trans (b1.mono (by simp))⟩
  have hn := inB_iff.1 h2
  have hm := mul_bd ha.1 ha.2 hn.1 hn.2
  have hm2 : 1 ≤ 2 * a * n ∧ 2 * a * n ≤ 40000000 := by rw [Int.mul_assoc]; omega
  go_enter Try.func27, Try.ntmps27
  go_wp2_with (first
      | (go_at_call 16; refine (implValidPlank_any _ _ _ _ _ _ hs _).mono ?_; rintro e w1 ⟨rfl, b1⟩; have C1 := bcell b1)
      | (go_at_call 41; refine (within64_any _ _ _ _).mono ?_; rintro e w' ⟨rfl, rfl⟩))
  go_ret2
  exact ⟨ret_int2 rfl rfl, ((Below.refl _ _).alloc (Nat.le_refl _) _).trans (b1.mono (by simp))⟩
theorem specSpeedOf_any (s : ByteArray) (a b c d f : Int) (n : Int) (hs : s.size ≤ maxLen) (w : World) : Calls Try.prog 26 #[.agg #[.string s, .int .i64 a, .int .i64 b, .int .i64 c, .int .i64 d, .int .i64 f], .int .i64 n] w fun e w' => e = .returned (.tuple #[.int .i64 (pick (plkB ⟨s, a, b, c, d, f⟩ && inB n 1 10000) (2 * a * n / 1000)), .int .i64 (code2 (plkB ⟨s, a, b, c, d, f⟩) (inB n 1 10000) 1 2)]) ∧ Below w.heap.size w w' := by
  have hat := plk_box s a b c d f w
  cases h : plkB ⟨s, a, b, c, d, f⟩
  · go_enter Try.func26, Try.ntmps26
    go_wp2_with (go_at_call 38; refine (l03One_any _ _ _ _ _ _ hs _ _ _ hat).mono ?_; rintro e w' ⟨rfl, rfl⟩)
    go_ret2
    exact ⟨ret_int2 rfl rfl, ((Below.refl _ _).alloc (Nat.le_refl _) _)⟩
  obtain ⟨ha, hb, hc, hd, hf, hab, habc⟩ := plk_bd h
  cases h2 : inB n 1 10000
  · go_enter Try.func26, Try.ntmps26
    go_wp2_with (first
      | (go_at_call 38; refine (l03One_any _ _ _ _ _ _ hs _ _ _ hat).mono ?_; rintro e w' ⟨rfl, rfl⟩)
      | (go_at_call 50; refine (l00In_any _ _ _ _).mono ?_; rintro e w' ⟨rfl, rfl⟩))
    go_ret2
    exact ⟨ret_int2 rfl rfl, ((Below.refl _ _).alloc (Nat.le_refl _) _)⟩
  have hn := inB_iff.1 h2
  have hm := mul_bd ha.1 ha.2 hn.1 hn.2
  have hm2 : 1 ≤ 2 * a * n ∧ 2 * a * n ≤ 40000000 := by rw [Int.mul_assoc]; omega
  go_enter Try.func26, Try.ntmps26
  go_wp2_with (first
      | (go_at_call 38; refine (l03One_any _ _ _ _ _ _ hs _ _ _ hat).mono ?_; rintro e w' ⟨rfl, rfl⟩)
      | (go_at_call 50; refine (l00In_any _ _ _ _).mono ?_; rintro e w' ⟨rfl, rfl⟩))
  go_ret2
  exact ⟨ret_int2 rfl rfl, ((Below.refl _ _).alloc (Nat.le_refl _) _)⟩
theorem l03Piece_any (l v u : Int) (w : World) : Calls Try.prog 53 #[.int .i64 l, .int .i64 v, .int .i64 u] w fun e w' => e = .returned (.bool (inB l 1 2000 && inB v 1 2000 && inB u 1 2000)) ∧ w = w' := by
  cases h1 : inB l 1 2000
  · go_enter Try.func53, Try.ntmps53
    go_wp2_with (go_at_call 58; refine (l03Size_any _ _).mono ?_; rintro e w' ⟨rfl, rfl⟩)
    go_ret
    exact ⟨ret_bool (by first | rfl | simp [h1]), rfl⟩
  cases h2 : inB v 1 2000
  · go_enter Try.func53, Try.ntmps53
    go_wp2_with (go_at_call 58; refine (l03Size_any _ _).mono ?_; rintro e w' ⟨rfl, rfl⟩)
    go_ret
    exact ⟨ret_bool (by first | rfl | simp [h1, h2]), rfl⟩
  cases h3 : inB u 1 2000
  · go_enter Try.func53, Try.ntmps53
    go_wp2_with (go_at_call 58; refine (l03Size_any _ _).mono ?_; rintro e w' ⟨rfl, rfl⟩)
    go_ret
    exact ⟨ret_bool (by first | rfl | simp [h1, h2, h3]), rfl⟩
  go_enter Try.func53, Try.ntmps53
  go_wp2_with (go_at_call 58; refine (l03Size_any _ _).mono ?_; rintro e w' ⟨rfl, rfl⟩)
  go_ret
  exact ⟨ret_bool (by first | rfl | simp [h1, h2, h3]), rfl⟩
theorem isPiece_any (l v u : Int) (w : World) : Calls Try.prog 55 #[.agg #[.int .i64 l, .int .i64 v, .int .i64 u]] w fun e w' => e = .returned (.bool (inB l 1 2000 && inB v 1 2000 && inB u 1 2000)) ∧ Below w.heap.size w w' := by
  cases h1 : inB l 1 2000
  · go_enter Try.func55, Try.ntmps55
    go_wp2_with (go_at_call 40; refine (isSize_any _ _).mono ?_; rintro e w' ⟨rfl, rfl⟩)
    go_ret
    exact ⟨ret_bool (by first | rfl | simp [h1]), ((Below.refl _ _).alloc (Nat.le_refl _) _)⟩
  cases h2 : inB v 1 2000
  · go_enter Try.func55, Try.ntmps55
    go_wp2_with (go_at_call 40; refine (isSize_any _ _).mono ?_; rintro e w' ⟨rfl, rfl⟩)
    go_ret
    exact ⟨ret_bool (by first | rfl | simp [h1, h2]), ((Below.refl _ _).alloc (Nat.le_refl _) _)⟩
  cases h3 : inB u 1 2000
  · go_enter Try.func55, Try.ntmps55
    go_wp2_with (go_at_call 40; refine (isSize_any _ _).mono ?_; rintro e w' ⟨rfl, rfl⟩)
    go_ret
    exact ⟨ret_bool (by first | rfl | simp [h1, h2, h3]), ((Below.refl _ _).alloc (Nat.le_refl _) _)⟩
  go_enter Try.func55, Try.ntmps55
  go_wp2_with (go_at_call 40; refine (isSize_any _ _).mono ?_; rintro e w' ⟨rfl, rfl⟩)
  go_ret
  exact ⟨ret_bool (by first | rfl | simp [h1, h2, h3]), ((Below.refl _ _).alloc (Nat.le_refl _) _)⟩
theorem quo_bd {a l : Int} (ha : 1 ≤ a) (ha2 : a ≤ 2000) (hl : 1 ≤ l) : 0 ≤ a / l ∧ a / l ≤ 2000 := by
  have h1 := Int.ediv_nonneg (a := a) (b := l) (by omega) (by omega)
  have h2 := Int.ediv_le_self (a := a) l (by omega)
  omega
theorem mul_bd0 {a b p q : Int} (ha1 : 0 ≤ a) (ha2 : a ≤ p) (hb1 : 0 ≤ b) (hb2 : b ≤ q) : 0 ≤ a * b ∧ a * b ≤ p * q :=
  ⟨Int.mul_nonneg ha1 hb1, Int.mul_le_mul ha2 hb2 hb1 (by omega)⟩
set_option maxHeartbeats 1000000 in
theorem implPiecesOf_any (s : ByteArray) (a b c d f : Int) (l v u : Int) (hs : s.size ≤ maxLen) (w : World) : Calls Try.prog 35 #[.agg #[.string s, .int .i64 a, .int .i64 b, .int .i64 c, .int .i64 d, .int .i64 f], .int .i64 l, .int .i64 v, .int .i64 u] w fun e w' => e = .returned (.tuple #[.int .i64 (pick (plkB ⟨s, a, b, c, d, f⟩ && (inB l 1 2000 && inB v 1 2000 && inB u 1 2000)) (a / l * (b / v) * (c / u))), .int .i64 (code2 (plkB ⟨s, a, b, c, d, f⟩) (inB l 1 2000 && inB v 1 2000 && inB u 1 2000) 1 2)]) ∧ Below w.heap.size w w' := by
  cases h : plkB ⟨s, a, b, c, d, f⟩
  · go_enter Try.func35, Try.ntmps35
    go_wp2_with (go_at_call 16; refine (implValidPlank_any _ _ _ _ _ _ hs _).mono ?_; rintro e w1 ⟨rfl, b1⟩; have C1 := bcell b1)
    go_ret2
    exact ⟨ret_int2 rfl rfl, ((Below.refl _ _).alloc (Nat.le_refl _) _).trans (b1.mono (by simp))⟩
  obtain ⟨ha, hb, hc, hd, hf, hab, habc⟩ := plk_bd h
  cases h2 : (inB l 1 2000 && inB v 1 2000 && inB u 1 2000)
  · go_enter Try.func35, Try.ntmps35
    go_wp2_with (first
      | (go_at_call 16; refine (implValidPlank_any _ _ _ _ _ _ hs _).mono ?_; rintro e w1 ⟨rfl, b1⟩; have C1 := bcell b1)
      | (go_at_call 55; refine (isPiece_any _ _ _ _).mono ?_; rintro e w2 ⟨rfl, b2⟩; have C2 := bcell (b1.trans (b2.mono b1.size))))
    go_ret2
    exact ⟨ret_int2 rfl rfl, ((Below.refl _ _).alloc (Nat.le_refl _) _).trans ((b1.trans (b2.mono b1.size)).mono (by simp))⟩
  obtain ⟨h3, hu⟩ := Bool.and_eq_true_iff.1 h2
  obtain ⟨hl, hv⟩ := Bool.and_eq_true_iff.1 h3
  have hl' := inB_iff.1 hl
  have hv' := inB_iff.1 hv
  have hu' := inB_iff.1 hu
  clear h3 hl hv hu
  have q1 := quo_bd ha.1 ha.2 hl'.1
  have q2 := quo_bd hb.1 hb.2 hv'.1
  have q3 := quo_bd hc.1 hc.2 hu'.1
  have q4 := mul_bd0 q1.1 q1.2 q2.1 q2.2
  have q5 := mul_bd0 q4.1 q4.2 q3.1 q3.2
  have q5' : a / l * (b / v) * (c / u) ≤ 8000000000 := by have := q5.2; omega
  have q4' : a / l * (b / v) ≤ 4000000 := by have := q4.2; omega
  have e1 : IntKind.i64.wrap (a.tdiv l) = a / l := by rw [Int.tdiv_eq_ediv_of_nonneg (by omega)]; exact IntWalk.i64_in _ (by omega)
  have e2 : IntKind.i64.wrap (b.tdiv v) = b / v := by rw [Int.tdiv_eq_ediv_of_nonneg (by omega)]; exact IntWalk.i64_in _ (by omega)
  have e3 : IntKind.i64.wrap (c.tdiv u) = c / u := by rw [Int.tdiv_eq_ediv_of_nonneg (by omega)]; exact IntWalk.i64_in _ (by omega)
  have e4 : IntKind.i64.wrap (a / l * (b / v)) = a / l * (b / v) := IntWalk.i64_in _ (by omega)
  have e5 : IntKind.i64.wrap (a / l * (b / v) * (c / u)) = a / l * (b / v) * (c / u) := IntWalk.i64_in _ (by omega)
  have z1 : (l == 0) = false := by rw [beq_eq_false_iff_ne]; omega
  have z2 : (v == 0) = false := by rw [beq_eq_false_iff_ne]; omega
  have z3 : (u == 0) = false := by rw [beq_eq_false_iff_ne]; omega
  clear q5 q4
  go_enter Try.func35, Try.ntmps35
  go_wp2_with (first
      | (go_at_call 16; refine (implValidPlank_any _ _ _ _ _ _ hs _).mono ?_; rintro e w1 ⟨rfl, b1⟩; have C1 := bcell b1)
      | (go_at_call 55; refine (isPiece_any _ _ _ _).mono ?_; rintro e w2 ⟨rfl, b2⟩; have C2 := bcell (b1.trans (b2.mono b1.size))))
  go_quiet (fail)
  go_wp2
  go_ret2
  exact ⟨ret_int2 rfl rfl, belowN (((Below.refl _ _).alloc (Nat.le_refl _) _).trans ((b1.trans (b2.mono b1.size)).mono (by simp))) _⟩
set_option maxHeartbeats 1000000 in
theorem specPiecesOf_any (s : ByteArray) (a b c d f : Int) (l v u : Int) (hs : s.size ≤ maxLen) (w : World) : Calls Try.prog 34 #[.agg #[.string s, .int .i64 a, .int .i64 b, .int .i64 c, .int .i64 d, .int .i64 f], .int .i64 l, .int .i64 v, .int .i64 u] w fun e w' => e = .returned (.tuple #[.int .i64 (pick (plkB ⟨s, a, b, c, d, f⟩ && (inB l 1 2000 && inB v 1 2000 && inB u 1 2000)) (a / l * (b / v) * (c / u))), .int .i64 (code2 (plkB ⟨s, a, b, c, d, f⟩) (inB l 1 2000 && inB v 1 2000 && inB u 1 2000) 1 2)]) ∧ Below w.heap.size w w' := by
  have hat := plk_box s a b c d f w
  cases h : plkB ⟨s, a, b, c, d, f⟩
  · go_enter Try.func34, Try.ntmps34
    go_wp2_with (go_at_call 38; refine (l03One_any _ _ _ _ _ _ hs _ _ _ hat).mono ?_; rintro e w' ⟨rfl, rfl⟩)
    go_ret2
    exact ⟨ret_int2 rfl rfl, ((Below.refl _ _).alloc (Nat.le_refl _) _)⟩
  obtain ⟨ha, hb, hc, hd, hf, hab, habc⟩ := plk_bd h
  cases h2 : (inB l 1 2000 && inB v 1 2000 && inB u 1 2000)
  · go_enter Try.func34, Try.ntmps34
    go_wp2_with (first
      | (go_at_call 38; refine (l03One_any _ _ _ _ _ _ hs _ _ _ hat).mono ?_; rintro e w' ⟨rfl, rfl⟩)
      | (go_at_call 53; refine (l03Piece_any _ _ _ _).mono ?_; rintro e w' ⟨rfl, rfl⟩))
    go_ret2
    exact ⟨ret_int2 rfl rfl, ((Below.refl _ _).alloc (Nat.le_refl _) _)⟩
  obtain ⟨h3, hu⟩ := Bool.and_eq_true_iff.1 h2
  obtain ⟨hl, hv⟩ := Bool.and_eq_true_iff.1 h3
  have hl' := inB_iff.1 hl
  have hv' := inB_iff.1 hv
  have hu' := inB_iff.1 hu
  clear h3 hl hv hu
  have q1 := quo_bd ha.1 ha.2 hl'.1
  have q2 := quo_bd hb.1 hb.2 hv'.1
  have q3 := quo_bd hc.1 hc.2 hu'.1
  have q4 := mul_bd0 q1.1 q1.2 q2.1 q2.2
  have q5 := mul_bd0 q4.1 q4.2 q3.1 q3.2
  have q5' : a / l * (b / v) * (c / u) ≤ 8000000000 := by have := q5.2; omega
  have q4' : a / l * (b / v) ≤ 4000000 := by have := q4.2; omega
  have e1 : IntKind.i64.wrap (a.tdiv l) = a / l := by rw [Int.tdiv_eq_ediv_of_nonneg (by omega)]; exact IntWalk.i64_in _ (by omega)
  have e2 : IntKind.i64.wrap (b.tdiv v) = b / v := by rw [Int.tdiv_eq_ediv_of_nonneg (by omega)]; exact IntWalk.i64_in _ (by omega)
  have e3 : IntKind.i64.wrap (c.tdiv u) = c / u := by rw [Int.tdiv_eq_ediv_of_nonneg (by omega)]; exact IntWalk.i64_in _ (by omega)
  have e4 : IntKind.i64.wrap (a / l * (b / v)) = a / l * (b / v) := IntWalk.i64_in _ (by omega)
  have e5 : IntKind.i64.wrap (a / l * (b / v) * (c / u)) = a / l * (b / v) * (c / u) := IntWalk.i64_in _ (by omega)
  have z1 : (l == 0) = false := by rw [beq_eq_false_iff_ne]; omega
  have z2 : (v == 0) = false := by rw [beq_eq_false_iff_ne]; omega
  have z3 : (u == 0) = false := by rw [beq_eq_false_iff_ne]; omega
  clear q5 q4
  go_enter Try.func34, Try.ntmps34
  go_wp2_with (first
      | (go_at_call 38; refine (l03One_any _ _ _ _ _ _ hs _ _ _ hat).mono ?_; rintro e w' ⟨rfl, rfl⟩)
      | (go_at_call 53; refine (l03Piece_any _ _ _ _).mono ?_; rintro e w' ⟨rfl, rfl⟩))
  go_quiet (fail)
  go_wp2
  go_ret2
  exact ⟨ret_int2 rfl rfl, belowN ((Below.refl _ _).alloc (Nat.le_refl _) _) _⟩
/-- can a piece be cut? -/
def fitsB (x : Plk) (l v u : Int) : Bool := decide (l ≤ x.len) && decide (v ≤ x.wid) && decide (u ≤ x.thk)
theorem fitsInto_any (l v u : Int) (s : ByteArray) (a b c d f : Int) (w : World) : Calls Try.prog 56 #[.agg #[.int .i64 l, .int .i64 v, .int .i64 u], .agg #[.string s, .int .i64 a, .int .i64 b, .int .i64 c, .int .i64 d, .int .i64 f]] w fun e w' => e = .returned (.bool (fitsB ⟨s, a, b, c, d, f⟩ l v u)) ∧ Below w.heap.size w w' := by
  have hx : Hid (fitsB ⟨s, a, b, c, d, f⟩ l v u = (decide (l ≤ a) && decide (v ≤ b) && decide (u ≤ c))) := Lib.hid rfl
  by_cases h1 : l ≤ a <;> by_cases h2 : v ≤ b <;> by_cases h3 : u ≤ c
  all_goals
    go_enter Try.func56, Try.ntmps56
    go_wp2
    go_ret
    exact ⟨ret_bool (by rw [hx.out]; simp [h1, h2, h3]), (((Below.refl _ _).alloc (Nat.le_refl _) _).alloc (by simp) _)⟩
theorem l03Fits_any (l v u : Int) (s : ByteArray) (a b c d f : Int) (g o : Nat) (w : World) (hat : PlkAt w g o ⟨s, a, b, c, d, f⟩) : Calls Try.prog 54 #[.pointer (some ⟨g, o, none⟩), .int .i64 l, .int .i64 v, .int .i64 u] w fun e w' => e = .returned (.bool (fitsB ⟨s, a, b, c, d, f⟩ l v u)) ∧ w = w' := by
  have hx : Hid (fitsB ⟨s, a, b, c, d, f⟩ l v u = (decide (l ≤ a) && decide (v ≤ b) && decide (u ≤ c))) := Lib.hid rfl
  obtain ⟨c0, c1, c2, c3, c4, c5⟩ := hat
  simp only at c0 c1 c2 c3 c4 c5
  by_cases h1 : l ≤ a <;> by_cases h2 : v ≤ b <;> by_cases h3 : u ≤ c
  all_goals
    go_enter Try.func54, Try.ntmps54
    go_wp2
    go_ret
    exact ⟨ret_bool (by rw [hx.out]; simp [h1, h2, h3]), rfl⟩
theorem specFitsPiece_any (s : ByteArray) (a b c d f : Int) (l v u : Int) (hs : s.size ≤ maxLen) (w : World) : Calls Try.prog 32 #[.agg #[.string s, .int .i64 a, .int .i64 b, .int .i64 c, .int .i64 d, .int .i64 f], .int .i64 l, .int .i64 v, .int .i64 u] w fun e w' => e = .returned (.bool (plkB ⟨s, a, b, c, d, f⟩ && (inB l 1 2000 && inB v 1 2000 && inB u 1 2000) && fitsB ⟨s, a, b, c, d, f⟩ l v u)) ∧ Below w.heap.size w w' := by
  have hat := plk_box s a b c d f w
  cases h : plkB ⟨s, a, b, c, d, f⟩
  · go_enter Try.func32, Try.ntmps32
    go_wp2_with (go_at_call 38; refine (l03One_any _ _ _ _ _ _ hs _ _ _ hat).mono ?_; rintro e w' ⟨rfl, rfl⟩)
    go_ret
    exact ⟨rfl, ((Below.refl _ _).alloc (Nat.le_refl _) _)⟩
  cases h2 : (inB l 1 2000 && inB v 1 2000 && inB u 1 2000)
  · go_enter Try.func32, Try.ntmps32
    go_wp2_with (first
      | (go_at_call 38; refine (l03One_any _ _ _ _ _ _ hs _ _ _ hat).mono ?_; rintro e w' ⟨rfl, rfl⟩)
      | (go_at_call 53; refine (l03Piece_any _ _ _ _).mono ?_; rintro e w' ⟨rfl, rfl⟩))
    go_ret
    exact ⟨rfl, ((Below.refl _ _).alloc (Nat.le_refl _) _)⟩
  go_enter Try.func32, Try.ntmps32
  go_wp2_with (first
      | (go_at_call 38; refine (l03One_any _ _ _ _ _ _ hs _ _ _ hat).mono ?_; rintro e w' ⟨rfl, rfl⟩)
      | (go_at_call 53; refine (l03Piece_any _ _ _ _).mono ?_; rintro e w' ⟨rfl, rfl⟩)
      | (go_at_call 54; refine (l03Fits_any _ _ _ _ _ _ _ _ _ _ _ _ hat).mono ?_; rintro e w' ⟨rfl, rfl⟩))
  go_ret
  exact ⟨rfl, ((Below.refl _ _).alloc (Nat.le_refl _) _)⟩
theorem implFitsPiece_any (s : ByteArray) (a b c d f : Int) (l v u : Int) (hs : s.size ≤ maxLen) (w : World) : Calls Try.prog 33 #[.agg #[.string s, .int .i64 a, .int .i64 b, .int .i64 c, .int .i64 d, .int .i64 f], .int .i64 l, .int .i64 v, .int .i64 u] w fun e w' => e = .returned (.bool (plkB ⟨s, a, b, c, d, f⟩ && (inB l 1 2000 && inB v 1 2000 && inB u 1 2000) && fitsB ⟨s, a, b, c, d, f⟩ l v u)) ∧ Below w.heap.size w w' := by
  cases h : plkB ⟨s, a, b, c, d, f⟩
  · go_enter Try.func33, Try.ntmps33
    go_wp2_with (go_at_call 16; refine (implValidPlank_any _ _ _ _ _ _ hs _).mono ?_; rintro e w1 ⟨rfl, b1⟩; have C1 := bcell b1)
    go_ret
    exact ⟨rfl, (((Below.refl _ _).alloc (Nat.le_refl _) _).alloc (by simp) _).trans (b1.mono (by simp <;> omega))⟩
  cases h2 : (inB l 1 2000 && inB v 1 2000 && inB u 1 2000)
  · go_enter Try.func33, Try.ntmps33
    go_wp2_with (first
      | (go_at_call 16; refine (implValidPlank_any _ _ _ _ _ _ hs _).mono ?_; rintro e w1 ⟨rfl, b1⟩; have C1 := bcell b1)
      | (go_at_call 55; refine (isPiece_any _ _ _ _).mono ?_; rintro e w2 ⟨rfl, b2⟩; have C2 := bcell (b1.trans (b2.mono b1.size))))
    go_ret
    exact ⟨rfl, (((Below.refl _ _).alloc (Nat.le_refl _) _).alloc (by simp) _).trans ((b1.trans (b2.mono b1.size)).mono (by simp <;> omega))⟩
  go_enter Try.func33, Try.ntmps33
  go_wp2_with (first
      | (go_at_call 16; refine (implValidPlank_any _ _ _ _ _ _ hs _).mono ?_; rintro e w1 ⟨rfl, b1⟩; have C1 := bcell b1)
      | (go_at_call 55; refine (isPiece_any _ _ _ _).mono ?_; rintro e w2 ⟨rfl, b2⟩; have C2 := bcell (b1.trans (b2.mono b1.size)))
      | (go_at_call 56; refine (fitsInto_any _ _ _ _ _ _ _ _ _ _).mono ?_; rintro e w3 ⟨rfl, b3⟩))
  go_ret
  exact ⟨rfl, (((Below.refl _ _).alloc (Nat.le_refl _) _).alloc (by simp) _).trans (((b1.trans (b2.mono b1.size)).trans (b3.mono (Nat.le_trans b1.size b2.size))).mono (by simp <;> omega))⟩
end Go.Proofs.Ytembebdlllcblab
