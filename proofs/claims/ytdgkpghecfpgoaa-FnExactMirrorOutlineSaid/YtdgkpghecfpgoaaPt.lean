/-
  Points: their tests, their complex numbers, products of vectors.
-/
import Derived.Test.YtdgkpghecfpgoaaMem
import Derived.Test.YtdgkpghecfpgoaaCore
import Derived.Test.YtdgkpghecfpgoaaFpMath
import Derived.WalkLawsBesides
namespace Go.Proofs.Ytdgkpghecfpgoaa
open Go.ChangeShapes Go.WideShapes Go.ChangeAt Go.RowKit Go.Deep
set_option linter.unusedVariables false
set_option linter.unusedSimpArgs false
set_option maxRecDepth 1000000
/-- a coordinate -/
def cooB (n : Int) : Bool := inB n (-100000) 100000
/-- a point -/
def ptB (x y : Int) : Bool := cooB x && cooB y
theorem cooB_bd {n : Int} (h : cooB n = true) : -100000 ≤ n ∧ n ≤ 100000 := by unfold cooB at h; exact inB_iff.1 h
theorem ptB_bd {x y : Int} (h : ptB x y = true) : (-100000 ≤ x ∧ x ≤ 100000) ∧ (-100000 ≤ y ∧ y ≤ 100000) := by
  unfold ptB at h
  simp only [Bool.and_eq_true] at h
  exact ⟨cooB_bd h.1, cooB_bd h.2⟩
theorem toPoint_any (x y : Int) (w : World) : Calls Try.prog 49 #[.agg #[.int .i64 x, .int .i64 y]] w fun e w' => e = .returned (.agg #[.int .i64 x, .int .i64 y]) ∧ Below w.heap.size w w' := by
  go_enter Try.func49, Try.ntmps49
  go_wp2
  exact bodyPost_ret (v := .agg #[.int .i64 x, .int .i64 y]) (by simp [results, Try.results49, go_sem]) rfl ⟨rfl, (((Below.refl _ _).alloc (Nat.le_refl _) _).alloc (by simp) _).alloc (by simp; omega) _⟩
theorem eqPoint_any (x y : Int) (w : World) : Calls Try.prog 79 #[.agg #[.int .i64 x, .int .i64 y], .agg #[.int .i64 x, .int .i64 y]] w fun e w' => e = .returned (.bool true) ∧ Below w.heap.size w w' := by
  go_enter Try.func79, Try.ntmps79
  go_wp2
  go_ret
  exact ⟨rfl, ((Below.refl _ _).alloc (Nat.le_refl _) _).alloc (by simp) _⟩
theorem isCoordinate_any (n : Int) (w : World) : Calls Try.prog 66 #[.int .i64 n] w fun e w' => e = .returned (.bool (cooB n)) ∧ w = w' := by
  go_enter Try.func66, Try.ntmps66
  go_wp2_with (go_at_call 63; refine (within64_any _ _ _ _).mono ?_; rintro e w' ⟨rfl, rfl⟩)
  go_ret
  exact ⟨rfl, rfl⟩
theorem isPoint_any (x y : Int) (w : World) : Calls Try.prog 77 #[.agg #[.int .i64 x, .int .i64 y]] w fun e w' => e = .returned (.bool (ptB x y)) ∧ Below w.heap.size w w' := by
  have hx : Hid (ptB x y = (cooB x && cooB y)) := Lib.hid rfl
  cases h1 : cooB x
  · go_enter Try.func77, Try.ntmps77
    go_wp2_with (go_at_call 66; refine (isCoordinate_any _ _).mono ?_; rintro e w' ⟨rfl, rfl⟩)
    go_ret
    exact ⟨ret_bool (by rw [hx.out, h1]; rfl), (Below.refl _ _).alloc (Nat.le_refl _) _⟩
  cases h2 : cooB y
  · go_enter Try.func77, Try.ntmps77
    go_wp2_with (go_at_call 66; refine (isCoordinate_any _ _).mono ?_; rintro e w' ⟨rfl, rfl⟩)
    go_ret
    exact ⟨ret_bool (by rw [hx.out, h1, h2]; rfl), (Below.refl _ _).alloc (Nat.le_refl _) _⟩
  go_enter Try.func77, Try.ntmps77
  go_wp2_with (go_at_call 66; refine (isCoordinate_any _ _).mono ?_; rintro e w' ⟨rfl, rfl⟩)
  go_ret
  exact ⟨ret_bool (by rw [hx.out, h1, h2]; rfl), (Below.refl _ _).alloc (Nat.le_refl _) _⟩
theorem l00In_coo (n : Int) (w : World) : Calls Try.prog 61 #[.int .i64 n, .int .i64 (-100000), .int .i64 100000] w fun e w' => e = .returned (.bool (cooB n)) ∧ w = w' := l00In_any n _ _ w
theorem l05Point_any (x y : Int) (w : World) : Calls Try.prog 64 #[.agg #[.int .i64 x, .int .i64 y]] w fun e w' => e = .returned (.bool (ptB x y)) ∧ Below w.heap.size w w' := by
  have hx : Hid (ptB x y = (cooB x && cooB y)) := Lib.hid rfl
  cases h1 : cooB x
  · go_enter Try.func64, Try.ntmps64
    go_wp2_with (go_at_call 61; refine (l00In_coo _ _).mono ?_; rintro e w' ⟨rfl, rfl⟩)
    go_ret
    exact ⟨ret_bool (by rw [hx.out, h1]; rfl), (Below.refl _ _).alloc (Nat.le_refl _) _⟩
  cases h2 : cooB y
  · go_enter Try.func64, Try.ntmps64
    go_wp2_with (go_at_call 61; refine (l00In_coo _ _).mono ?_; rintro e w' ⟨rfl, rfl⟩)
    go_ret
    exact ⟨ret_bool (by rw [hx.out, h1, h2]; rfl), (Below.refl _ _).alloc (Nat.le_refl _) _⟩
  go_enter Try.func64, Try.ntmps64
  go_wp2_with (go_at_call 61; refine (l00In_coo _ _).mono ?_; rintro e w' ⟨rfl, rfl⟩)
  go_ret
  exact ⟨ret_bool (by rw [hx.out, h1, h2]; rfl), (Below.refl _ _).alloc (Nat.le_refl _) _⟩
/-- the square of the distance -/
def sqd (ax ay bx bY : Int) : Int := (ax - bx) * (ax - bx) + (ay - bY) * (ay - bY)
theorem prod_bd {a b A B : Int} (h1 : -A ≤ a ∧ a ≤ A) (h2 : -B ≤ b ∧ b ≤ B) : -(A * B) ≤ a * b ∧ a * b ≤ A * B := by
  have ha : a.natAbs ≤ A.natAbs := by omega
  have hb : b.natAbs ≤ B.natAbs := by omega
  have h := Nat.mul_le_mul ha hb
  rw [← Int.natAbs_mul, ← Int.natAbs_mul] at h
  have hA : 0 ≤ A := by omega
  have hB : 0 ≤ B := by omega
  have hAB := Int.mul_nonneg hA hB
  omega
theorem sq_pos (a : Int) : 0 ≤ a * a := by
  rcases Int.le_total 0 a with h | h
  · exact Int.mul_nonneg h h
  · exact Int.mul_nonneg_of_nonpos_of_nonpos h h
theorem sqd_bd {ax ay bx bY : Int} (h1 : ptB ax ay = true) (h2 : ptB bx bY = true) : 0 ≤ sqd ax ay bx bY ∧ sqd ax ay bx bY ≤ 80000000000 := by
  have p1 := ptB_bd h1
  have p2 := ptB_bd h2
  have h3 := prod_bd (a := ax - bx) (b := ax - bx) (A := 200000) (B := 200000) (by omega) (by omega)
  have h4 := prod_bd (a := ay - bY) (b := ay - bY) (A := 200000) (B := 200000) (by omega) (by omega)
  have h5 : 0 ≤ (ax - bx) * (ax - bx) := by exact sq_pos _
  have h6 : 0 ≤ (ay - bY) * (ay - bY) := by exact sq_pos _
  unfold sqd
  omega
theorem l05Square_any (ax ay bx bY : Int) (ha : ptB ax ay = true) (hb : ptB bx bY = true) (w : World) : Calls Try.prog 56 #[.agg #[.int .i64 ax, .int .i64 ay], .agg #[.int .i64 bx, .int .i64 bY]] w fun e w' => e = .returned (.int .i64 (sqd ax ay bx bY)) ∧ Below w.heap.size w w' := by
  have p1 := ptB_bd ha
  have p2 := ptB_bd hb
  have h3 := prod_bd (a := ax - bx) (b := ax - bx) (A := 200000) (B := 200000) (by omega) (by omega)
  have h4 := prod_bd (a := ay - bY) (b := ay - bY) (A := 200000) (B := 200000) (by omega) (by omega)
  go_enter Try.func56, Try.ntmps56
  go_wp2
  go_ret
  exact ⟨rfl, ((Below.refl _ _).alloc (Nat.le_refl _) _).alloc (by simp) _⟩
/-- a complex number of whole parts -/
def CxIs (v : Value) (a b : Int) : Prop := ∃ x y : Nat, v = .complex .f64 x y ∧ FpIs x a ∧ FpIs y b
theorem number_any (x y : Int) (w : World) : Calls Try.prog 74 #[.agg #[.int .i64 x, .int .i64 y]] w fun e w' => e = .returned (.complex .f64 (floatOfInt .f64 x) (floatOfInt .f64 y)) ∧ Below w.heap.size w w' := by
  go_enter Try.func74, Try.ntmps74
  go_wp2
  go_ret
  exact ⟨rfl, (Below.refl _ _).alloc (Nat.le_refl _) _⟩
theorem wide_lt {n : Int} (h : -1000000000000 ≤ n ∧ n ≤ 1000000000000) : n.natAbs < 2 ^ 53 := by omega
theorem cx_product {p q r s : Nat} {a b c d : Int} (h1 : FpIs p a) (h2 : FpIs q b) (h3 : FpIs r c) (h4 : FpIs s d) (ha : -200000 ≤ a ∧ a ≤ 200000) (hb : -200000 ≤ b ∧ b ≤ 200000) (hc : -200000 ≤ c ∧ c ≤ 200000) (hd : -200000 ≤ d ∧ d ≤ 200000) :
    ∃ re im, cMulBits p (Op.negFloat .f64 q) r s = some (re, im) ∧ FpIs re (a * c + b * d) ∧ FpIs im (a * d - b * c) := by
  have e1 := prod_bd ha hc
  have e2 := prod_bd hb hd
  have e3 := prod_bd ha hd
  have e4 := prod_bd hb hc
  have hq : FpIs (Op.negFloat .f64 q) (-b) := fp_neg h2 (wide_lt (by omega))
  have m1 : -b * d = -(b * d) := Int.neg_mul b d
  have m2 : -b * c = -(b * c) := Int.neg_mul b c
  obtain ⟨ac, r1, f1⟩ := fp_mul h1 h3 (wide_lt (by omega)) (wide_lt (by omega)) (wide_lt (by omega))
  obtain ⟨bd, r2, f2⟩ := fp_mul hq h4 (wide_lt (by omega)) (wide_lt (by omega)) (wide_lt (by rw [m1]; omega))
  obtain ⟨ad, r3, f3⟩ := fp_mul h1 h4 (wide_lt (by omega)) (wide_lt (by omega)) (wide_lt (by omega))
  obtain ⟨bc, r4, f4⟩ := fp_mul hq h3 (wide_lt (by omega)) (wide_lt (by omega)) (wide_lt (by rw [m2]; omega))
  rw [m1] at f2
  rw [m2] at f4
  obtain ⟨re, r5, f5⟩ := fp_sub f1 f2 (wide_lt (by omega)) (wide_lt (by omega)) (wide_lt (by omega))
  obtain ⟨im, r6, f6⟩ := fp_add f3 f4 (wide_lt (by omega)) (wide_lt (by omega)) (wide_lt (by omega))
  refine ⟨re, im, ?_, ?_, ?_⟩
  · unfold cMulBits
    rw [r1, r2, r3, r4]
    simp only [Option.bind_some, r5, r6]
  · rw [Int.sub_neg] at f5; exact f5
  · rw [← Int.sub_eq_add_neg] at f6; exact f6
theorem run_neg_float (k : FloatKind) (b : Nat) (w : World) : (Op.unary .neg (.float k b)).run Try.prog w = .ok (.float k (Op.negFloat k b)) w := rfl
theorem conjugateProduct_any (p q r s : Nat) (a b c d : Int) (h1 : FpIs p a) (h2 : FpIs q b) (h3 : FpIs r c) (h4 : FpIs s d) (ha : -200000 ≤ a ∧ a ≤ 200000) (hb : -200000 ≤ b ∧ b ≤ 200000) (hc : -200000 ≤ c ∧ c ≤ 200000) (hd : -200000 ≤ d ∧ d ≤ 200000) (w : World) :
    Calls Try.prog 81 #[.complex .f64 p q, .complex .f64 r s] w fun e w' => ∃ re im : Nat, e = .returned (.complex .f64 re im) ∧ Hid (FpIs re (a * c + b * d) ∧ FpIs im (a * d - b * c)) ∧ w = w' := by
  obtain ⟨re, im, hm, hf⟩ := cx_product h1 h2 h3 h4 ha hb hc hd
  have hf' := Lib.hid hf
  clear hf h1 h2 h3 h4
  go_enter Try.func81, Try.ntmps81
  go_wp2_with (first
    | (rw [run_neg_float]; go_simp)
    | (rw [run_complex_mul _ _ _ _ _ _ _ _ hm]; go_simp))
  go_ret
  exact ⟨_, _, rfl, hf', rfl⟩
theorem dotProduct_any (p q r s : Nat) (a b c d : Int) (h1 : FpIs p a) (h2 : FpIs q b) (h3 : FpIs r c) (h4 : FpIs s d) (ha : -200000 ≤ a ∧ a ≤ 200000) (hb : -200000 ≤ b ∧ b ≤ 200000) (hc : -200000 ≤ c ∧ c ≤ 200000) (hd : -200000 ≤ d ∧ d ≤ 200000) (w : World) :
    Calls Try.prog 78 #[.complex .f64 p q, .complex .f64 r s] w fun e w' => e = .returned (.int .i64 (a * c + b * d)) ∧ w = w' := by
  have e1 := prod_bd ha hc
  have e2 := prod_bd hb hd
  have hn := wide_lt (n := a * c + b * d) (by omega)
  have hC : ∀ w, _ := fun w => conjugateProduct_any p q r s a b c d h1 h2 h3 h4 ha hb hc hd w
  have hC' := Lib.hid hC
  have hn' := Lib.hid hn
  clear hC hn e1 e2 h1 h2 h3 h4 ha hb hc hd
  go_enter Try.func78, Try.ntmps78
  go_wp2_with (first
    | (go_at_call 81; refine (hC'.out _).mono ?_; rintro e w' ⟨re, im, rfl, hf, rfl⟩)
    | (rw [run_convert_float_int _ _ _ .f64 .i64 _ _ rfl rfl (fp_toInt hf.out.1 hn'.out)]; go_simp))
  go_ret
  exact ⟨rfl, rfl⟩
theorem crossProduct_any (p q r s : Nat) (a b c d : Int) (h1 : FpIs p a) (h2 : FpIs q b) (h3 : FpIs r c) (h4 : FpIs s d) (ha : -200000 ≤ a ∧ a ≤ 200000) (hb : -200000 ≤ b ∧ b ≤ 200000) (hc : -200000 ≤ c ∧ c ≤ 200000) (hd : -200000 ≤ d ∧ d ≤ 200000) (w : World) :
    Calls Try.prog 73 #[.complex .f64 p q, .complex .f64 r s] w fun e w' => e = .returned (.int .i64 (a * d - b * c)) ∧ w = w' := by
  have e1 := prod_bd ha hd
  have e2 := prod_bd hb hc
  have hn := wide_lt (n := a * d - b * c) (by omega)
  have hC : ∀ w, _ := fun w => conjugateProduct_any p q r s a b c d h1 h2 h3 h4 ha hb hc hd w
  have hC' := Lib.hid hC
  have hn' := Lib.hid hn
  clear hC hn e1 e2 h1 h2 h3 h4 ha hb hc hd
  go_enter Try.func73, Try.ntmps73
  go_wp2_with (first
    | (go_at_call 81; refine (hC'.out _).mono ?_; rintro e w' ⟨re, im, rfl, hf, rfl⟩)
    | (rw [run_convert_float_int _ _ _ .f64 .i64 _ _ rfl rfl (fp_toInt hf.out.2 hn'.out)]; go_simp))
  go_ret
  exact ⟨rfl, rfl⟩
/-- the difference of two points' complex numbers -/
theorem cx_sub (a b c d : Int) (ha : -100000 ≤ a ∧ a ≤ 100000) (hb : -100000 ≤ b ∧ b ≤ 100000) (hc : -100000 ≤ c ∧ c ≤ 100000) (hd : -100000 ≤ d ∧ d ≤ 100000) :
    ∃ re im : Nat, (∀ (t : TypeId) (w : World), (binOp .sub t (.complex .f64 (floatOfInt .f64 a) (floatOfInt .f64 b)) (.complex .f64 (floatOfInt .f64 c) (floatOfInt .f64 d))).run Try.prog w = .ok (.complex .f64 re im) w) ∧ FpIs re (a - c) ∧ FpIs im (b - d) := by
  obtain ⟨re, r1, f1⟩ := fp_sub (fp_ofInt a) (fp_ofInt c) (wide_lt (by omega)) (wide_lt (by omega)) (wide_lt (by omega))
  obtain ⟨im, r2, f2⟩ := fp_sub (fp_ofInt b) (fp_ofInt d) (wide_lt (by omega)) (wide_lt (by omega)) (wide_lt (by omega))
  refine ⟨re, im, fun t w => ?_, f1, f2⟩
  refine run_complex_sum w .sub (Or.inr rfl) t .f64 _ _ _ _ _ _ ?_
  unfold cSumBits
  rw [r1, r2]
  rfl
end Go.Proofs.Ytdgkpghecfpgoaa
