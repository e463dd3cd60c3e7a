/- Floats of 64 bits that hold whole numbers below 2^53: sums, differences, products, signs and the way
   back to whole numbers are exact. -/
import Derived.Laws.ComplexArith
set_option linter.unusedSimpArgs false
set_option maxRecDepth 100000
namespace Go.Proofs.Ytdgkpghecfpgoaa
open Go

/-- The bits of a whole number (of zero: both signs). -/
def FpIs (x : Nat) (n : Int) : Prop :=
  ∃ s : Bool, x = Ieee.double.nearest s n.natAbs 0 ∧ (n ≠ 0 → s = decide (n < 0))

theorem fp_shiftLeft (a b : Nat) : a <<< b = a * 2 ^ b := Nat.shiftLeft_eq a b

theorem fp_cut_exact (s : Bool) (way : Ieee.Toward) (a k : Nat) (hl : k ≤ (a * 2 ^ k).log2 + 2) :
    way.cut s (a * 2 ^ k) k = a := by
  have hp : 0 < 2 ^ k := Nat.two_pow_pos k
  have hg : (1 <<< min k ((a * 2 ^ k).log2 + 2)) = 2 ^ k := by
    rw [Nat.min_eq_left hl, fp_shiftLeft, Nat.one_mul]
  unfold Ieee.Toward.cut
  simp only [hg]
  have h1 : a * 2 ^ k / 2 ^ k = a := Nat.mul_div_cancel a hp
  have h2 : a * 2 ^ k % 2 ^ k = 0 := Nat.mul_mod_left a (2 ^ k)
  rw [h1, h2]
  cases way <;> simp <;> omega

theorem fp_cut_zero (s : Bool) (way : Ieee.Toward) (k : Nat) : way.cut s 0 k = 0 := by
  unfold Ieee.Toward.cut
  have hp : 0 < (1 <<< min k ((0:Nat).log2 + 2)) := by rw [fp_shiftLeft, Nat.one_mul]; exact Nat.two_pow_pos _
  simp only [Nat.zero_div, Nat.zero_mod]
  cases way <;> simp <;> omega

theorem fp_log2_mul_pow (a k : Nat) (ha : a ≠ 0) : (a * 2 ^ k).log2 = a.log2 + k := by
  have hp : 0 < 2 ^ k := Nat.two_pow_pos k
  have hne : a * 2 ^ k ≠ 0 := Nat.mul_ne_zero ha (by omega)
  apply (Nat.log2_eq_iff hne).2
  obtain ⟨h1, h2⟩ := (Nat.log2_eq_iff ha).1 rfl
  constructor
  · rw [Nat.pow_add]; exact Nat.mul_le_mul_right _ h1
  · rw [show a.log2 + k + 1 = (a.log2 + 1) + k by omega, Nat.pow_add]
    exact Nat.mul_lt_mul_of_pos_right h2 hp

/-- The word of a whole number below 2^53, also where it is told by a greater one and a place below zero. -/
def fpWord (s : Bool) (a : Nat) : Nat := if a = 0 then Ieee.double.word s 0 else
  Ieee.double.word s ((a.log2 + 1022) * 2 ^ 52 + a * 2 ^ (52 - a.log2))

theorem fp_log2_lt {a : Nat} (ha : a < 2 ^ 53) : a.log2 ≤ 52 := by
  by_cases h0 : a = 0
  · subst h0; decide
  · have := (Nat.log2_lt h0).2 ha
    omega

theorem fp_kept {a : Nat} (h0 : a ≠ 0) (ha : a < 2 ^ 53) : 2 ^ 52 ≤ a * 2 ^ (52 - a.log2) ∧ a * 2 ^ (52 - a.log2) < 2 ^ 53 := by
  obtain ⟨h1, h2⟩ := (Nat.log2_eq_iff h0).1 rfl
  have hl := fp_log2_lt ha
  have hp : 0 < 2 ^ (52 - a.log2) := Nat.two_pow_pos _
  constructor
  · have := Nat.mul_le_mul_right (2 ^ (52 - a.log2)) h1
    rw [← Nat.pow_add, show a.log2 + (52 - a.log2) = 52 by omega] at this
    exact this
  · have := Nat.mul_lt_mul_of_pos_right h2 hp
    rw [← Nat.pow_add, show a.log2 + 1 + (52 - a.log2) = 53 by omega] at this
    exact this

theorem fp_leastPlace : Ieee.double.leastPlace = -1074 := by decide
theorem fp_binade : Ieee.double.binade = 2 ^ 52 := rfl
theorem fp_infRung : Ieee.double.infRung = 2047 * 2 ^ 52 := by decide
theorem fp_signWeight : Ieee.double.signWeight = 2 ^ 63 := rfl

theorem fp_nearest (s : Bool) {a : Nat} (d : Nat) (ha : a < 2 ^ 53) : Ieee.double.nearest s (a * 2 ^ d) (-(d : Int)) = fpWord s a := by
  have hp : 0 < 2 ^ d := Nat.two_pow_pos d
  unfold Ieee.Format.nearest fpWord
  by_cases h0 : a = 0
  · subst h0; simp
  · have hne : a * 2 ^ d ≠ 0 := Nat.mul_ne_zero h0 (by omega)
    rw [if_neg hne, if_neg h0, fp_log2_mul_pow a d h0, fp_leastPlace, fp_binade, fp_infRung]
    have hl := fp_log2_lt ha
    have hlast : max (-(d : Int) + ((a.log2 + d : Nat) : Int) - (Ieee.double.fractionBits : Int)) (-1074) = (a.log2 : Int) - 52 := by
      have : (Ieee.double.fractionBits : Int) = 52 := rfl
      rw [this]
      omega
    simp only [hlast]
    obtain ⟨hk1, hk2⟩ := fp_kept h0 ha
    have hcut : Ieee.Toward.even.cut s ((a * 2 ^ d) <<< (-(d : Int) - ((a.log2 : Int) - 52)).toNat) (((a.log2 : Int) - 52) - -(d : Int)).toNat = a * 2 ^ (52 - a.log2) := by
      by_cases hd : d ≤ 52 - a.log2
      · have e1 : (-(d : Int) - ((a.log2 : Int) - 52)).toNat = 52 - a.log2 - d := by omega
        have e2 : (((a.log2 : Int) - 52) - -(d : Int)).toNat = 0 := by omega
        rw [e1, e2, fp_shiftLeft, Nat.mul_assoc, ← Nat.pow_add, show d + (52 - a.log2 - d) = 52 - a.log2 by omega]
        have := fp_cut_exact s .even (a * 2 ^ (52 - a.log2)) 0 (by omega)
        simpa using this
      · have e1 : (-(d : Int) - ((a.log2 : Int) - 52)).toNat = 0 := by omega
        have e2 : (((a.log2 : Int) - 52) - -(d : Int)).toNat = d - (52 - a.log2) := by omega
        have e3 : a * 2 ^ d = a * 2 ^ (52 - a.log2) * 2 ^ (d - (52 - a.log2)) := by
          rw [Nat.mul_assoc, ← Nat.pow_add, show 52 - a.log2 + (d - (52 - a.log2)) = d by omega]
        rw [e1, e2, fp_shiftLeft, Nat.pow_zero, Nat.mul_one, e3]
        refine fp_cut_exact s .even _ _ ?_
        rw [fp_log2_mul_pow _ _ (by omega)]
        omega
    rw [hcut]
    have e4 : ((a.log2 : Int) - 52 - -1074).toNat = a.log2 + 1022 := by omega
    rw [e4, Nat.min_eq_left (by omega)]

theorem fp_nearest0 (s : Bool) {a : Nat} (ha : a < 2 ^ 53) : Ieee.double.nearest s a 0 = fpWord s a := by
  have := fp_nearest s 0 ha
  simpa using this

/-- What a word of a whole number stands for. -/
theorem fp_read (s : Bool) {a : Nat} (h0 : a ≠ 0) (ha : a < 2 ^ 53) :
    Ieee.double.read (fpWord s a) = .number s (a * 2 ^ (52 - a.log2)) (-((52 - a.log2 : Nat) : Int)) := by
  obtain ⟨hk1, hk2⟩ := fp_kept h0 ha
  have hl := fp_log2_lt ha
  unfold fpWord Ieee.Format.read Ieee.Format.word
  rw [if_neg h0, fp_leastPlace, fp_binade, fp_infRung, fp_signWeight]
  generalize a * 2 ^ (52 - a.log2) = k at hk1 hk2 ⊢
  generalize a.log2 = l at hl ⊢
  have hr1 : ¬ ((l + 1022) * 2 ^ 52 + k < 2 ^ 52) := by omega
  have hr2 : (l + 1022) * 2 ^ 52 + k < 2047 * 2 ^ 52 := by omega
  have hr3 : ((l + 1022) * 2 ^ 52 + k) % 2 ^ 52 = k - 2 ^ 52 := by omega
  have hr4 : ((l + 1022) * 2 ^ 52 + k) / 2 ^ 52 = l + 1023 := by omega
  cases s
  · have hm : ((l + 1022) * 2 ^ 52 + k) % 2 ^ 63 = (l + 1022) * 2 ^ 52 + k := by omega
    have hd : ((l + 1022) * 2 ^ 52 + k) / 2 ^ 63 % 2 = 0 := by omega
    simp only [Bool.false_eq_true, if_false, hm, hd, hr1, hr2, hr3, hr4, if_true]
    simp only [Ieee.Datum.number.injEq]
    refine ⟨rfl, by omega, by omega⟩
  · have hm : (2 ^ 63 + ((l + 1022) * 2 ^ 52 + k)) % 2 ^ 63 = (l + 1022) * 2 ^ 52 + k := by omega
    have hd : (2 ^ 63 + ((l + 1022) * 2 ^ 52 + k)) / 2 ^ 63 % 2 = 1 := by omega
    simp only [if_true, hm, hd, hr1, hr2, hr3, hr4, if_false]
    simp only [Ieee.Datum.number.injEq]
    refine ⟨rfl, by omega, by omega⟩

theorem fp_read_zero (s : Bool) : ∃ d : Nat, d = 1074 ∧ Ieee.double.read (fpWord s 0) = .number s (0 * 2 ^ d) (-(d : Int)) := by
  obtain ⟨d, hd⟩ : ∃ d : Nat, d = 1074 := ⟨_, rfl⟩
  refine ⟨d, hd, ?_⟩
  rw [Nat.zero_mul, hd]
  cases s <;> decide

/-- One form for both: the magnitude is the whole number times a power of two. -/
theorem fp_read_any (s : Bool) {a : Nat} (ha : a < 2 ^ 53) :
    ∃ d : Nat, Ieee.double.read (fpWord s a) = .number s (a * 2 ^ d) (-(d : Int)) ∧ d ≤ 1074 ∧ (a ≠ 0 → d ≤ 52) := by
  by_cases h0 : a = 0
  · subst h0; obtain ⟨d, hd, hr⟩ := fp_read_zero s
    exact ⟨d, hr, by omega, fun h => absurd rfl h⟩
  · exact ⟨52 - a.log2, fp_read s h0 ha, by omega, fun _ => by omega⟩

theorem fp_signed (s : Bool) (a d e : Nat) : Ieee.signed s (a * 2 ^ d) e = (if s then -(a : Int) else (a : Int)) * ((2 ^ (d + e) : Nat) : Int) := by
  unfold Ieee.signed
  rw [fp_shiftLeft, Nat.mul_assoc, ← Nat.pow_add]
  cases s
  · simp
  · simp [Int.neg_mul]

/-- The whole number of a sign and a magnitude. -/
theorem fp_sign (n : Int) (s : Bool) (h : n ≠ 0 → s = decide (n < 0)) : (if s then -(n.natAbs : Int) else (n.natAbs : Int)) = n := by
  by_cases h0 : n = 0
  · subst h0; cases s <;> rfl
  · rw [h h0]
    by_cases hn : n < 0
    · simp [hn]; omega
    · simp [hn]; omega

theorem fp_bound {n : Int} (h : -(2 ^ 53 : Int) < n ∧ n < 2 ^ 53) : n.natAbs < 2 ^ 53 := by omega

theorem fpIs_word {x : Nat} {n : Int} (h : FpIs x n) (hn : n.natAbs < 2 ^ 53) : ∃ s : Bool, x = fpWord s n.natAbs ∧ (n ≠ 0 → s = decide (n < 0)) := by
  obtain ⟨s, hx, hs⟩ := h
  exact ⟨s, by rw [hx, fp_nearest0 s hn], hs⟩

theorem word_fpIs {n : Int} (s : Bool) (hn : n.natAbs < 2 ^ 53) (hs : n ≠ 0 → s = decide (n < 0)) : FpIs (fpWord s n.natAbs) n :=
  ⟨s, (fp_nearest0 s hn).symm, hs⟩

theorem fp_sum_write {s t : Bool} {a b : Int} {d e : Nat} (hc : (a + b).natAbs < 2 ^ 53)
    (hs : a ≠ 0 → s = decide (a < 0)) (ht : b ≠ 0 → t = decide (b < 0)) :
    ∃ r, ((Ieee.Datum.sum (.number s (a.natAbs * 2 ^ d) (-(d : Int))) (.number t (b.natAbs * 2 ^ e) (-(e : Int)))).map Ieee.double.write) = some r ∧ FpIs r (a + b) := by
  unfold Ieee.Datum.sum
  simp only [Option.map_some, Ieee.Format.write, fp_signed, fp_sign a s hs, fp_sign b t ht]
  have hm : min (-(d : Int)) (-(e : Int)) = -((max d e : Nat) : Int) := by omega
  rw [hm]
  have h1 : d + (-(d : Int) - -((max d e : Nat) : Int)).toNat = max d e := by omega
  have h2 : e + (-(e : Int) - -((max d e : Nat) : Int)).toNat = max d e := by omega
  rw [h1, h2]
  generalize max d e = m
  have hp : 0 < 2 ^ m := Nat.two_pow_pos m
  have hsum : a * ((2 ^ m : Nat) : Int) + b * ((2 ^ m : Nat) : Int) = (a + b) * ((2 ^ m : Nat) : Int) := (Int.add_mul _ _ _).symm
  rw [hsum]
  have hz : (a + b) * ((2 ^ m : Nat) : Int) = 0 ↔ a + b = 0 := by
    constructor
    · intro h
      rcases Int.mul_eq_zero.1 h with h | h
      · exact h
      · omega
    · intro h; rw [h, Int.zero_mul]
  have hneg : (a + b) * ((2 ^ m : Nat) : Int) < 0 ↔ a + b < 0 := by
    constructor
    · intro h
      rcases Int.lt_or_le (a + b) 0 with h' | h'
      · exact h'
      · have := Int.mul_nonneg h' (show (0 : Int) ≤ ((2 ^ m : Nat) : Int) by omega)
        omega
    · intro h; exact Int.mul_neg_of_neg_of_pos h (by omega)
  have habs : ((a + b) * ((2 ^ m : Nat) : Int)).natAbs = (a + b).natAbs * 2 ^ m := by
    rw [Int.natAbs_mul, Int.natAbs_natCast]
  rw [habs, fp_nearest _ m hc]
  refine ⟨_, rfl, word_fpIs _ hc ?_⟩
  intro h
  rw [if_neg (fun h' => h (hz.1 h'))]
  exact decide_eq_decide.2 hneg

theorem fp_add {x y : Nat} {a b : Int} (hx : FpIs x a) (hy : FpIs y b) (ha : a.natAbs < 2 ^ 53) (hb : b.natAbs < 2 ^ 53) (hc : (a + b).natAbs < 2 ^ 53) :
    ∃ r, floatBits .add .f64 x y = some r ∧ FpIs r (a + b) := by
  obtain ⟨s, rfl, hs⟩ := fpIs_word hx ha
  obtain ⟨t, rfl, ht⟩ := fpIs_word hy hb
  obtain ⟨d, hd, -, -⟩ := fp_read_any s ha
  obtain ⟨e, he, -, -⟩ := fp_read_any t hb
  show ∃ r, Ieee.double.add _ _ = some r ∧ _
  unfold Ieee.Format.add
  rw [hd, he]
  exact fp_sum_write hc hs ht

theorem fp_sub {x y : Nat} {a b : Int} (hx : FpIs x a) (hy : FpIs y b) (ha : a.natAbs < 2 ^ 53) (hb : b.natAbs < 2 ^ 53) (hc : (a - b).natAbs < 2 ^ 53) :
    ∃ r, floatBits .sub .f64 x y = some r ∧ FpIs r (a - b) := by
  obtain ⟨s, rfl, hs⟩ := fpIs_word hx ha
  obtain ⟨t, rfl, ht⟩ := fpIs_word hy hb
  obtain ⟨d, hd, -, -⟩ := fp_read_any s ha
  obtain ⟨e, he, -, -⟩ := fp_read_any t hb
  show ∃ r, Ieee.double.sub _ _ = some r ∧ _
  unfold Ieee.Format.sub
  rw [hd, he]
  have hab : b.natAbs = (-b).natAbs := by omega
  show ∃ r, ((Ieee.Datum.sum _ (.number (!t) (b.natAbs * 2 ^ e) (-(e : Int)))).map Ieee.double.write) = some r ∧ _
  rw [hab, Int.sub_eq_add_neg]
  refine fp_sum_write (by rw [← Int.sub_eq_add_neg]; exact hc) hs ?_
  intro h
  rw [ht (by omega)]
  by_cases h1 : b < 0
  · simp [h1]; omega
  · simp [h1]; omega

theorem fp_mul {x y : Nat} {a b : Int} (hx : FpIs x a) (hy : FpIs y b) (ha : a.natAbs < 2 ^ 53) (hb : b.natAbs < 2 ^ 53) (hc : (a * b).natAbs < 2 ^ 53) :
    ∃ r, floatBits .mul .f64 x y = some r ∧ FpIs r (a * b) := by
  obtain ⟨s, rfl, hs⟩ := fpIs_word hx ha
  obtain ⟨t, rfl, ht⟩ := fpIs_word hy hb
  obtain ⟨d, hd, -, -⟩ := fp_read_any s ha
  obtain ⟨e, he, -, -⟩ := fp_read_any t hb
  show ∃ r, Ieee.double.mul _ _ = some r ∧ _
  unfold Ieee.Format.mul
  rw [hd, he]
  unfold Ieee.Datum.product
  simp only [Option.map_some, Ieee.Format.write]
  have h1 : a.natAbs * 2 ^ d * (b.natAbs * 2 ^ e) = (a * b).natAbs * 2 ^ (d + e) := by
    rw [Int.natAbs_mul, Nat.pow_add]
    simp only [Nat.mul_assoc, Nat.mul_left_comm, Nat.mul_comm]
  have h2 : (-(d : Int) + -(e : Int)) = -((d + e : Nat) : Int) := by omega
  rw [h1, h2, fp_nearest _ _ hc]
  refine ⟨_, rfl, word_fpIs _ hc ?_⟩
  intro h
  have ha0 : a ≠ 0 := fun h' => h (by rw [h', Int.zero_mul])
  have hb0 : b ≠ 0 := fun h' => h (by rw [h', Int.mul_zero])
  rw [hs ha0, ht hb0]
  rcases Int.lt_trichotomy a 0 with h3 | h3 | h3
  · rcases Int.lt_trichotomy b 0 with h4 | h4 | h4
    · have := Int.mul_pos_of_neg_of_neg h3 h4
      simp [h3, h4]; omega
    · exact absurd h4 hb0
    · have := Int.mul_neg_of_neg_of_pos h3 h4
      have hb1 : ¬ b < 0 := by omega
      simp [h3, hb1, this]
  · exact absurd h3 ha0
  · have ha1 : ¬ a < 0 := by omega
    rcases Int.lt_trichotomy b 0 with h4 | h4 | h4
    · have := Int.mul_neg_of_pos_of_neg h3 h4
      simp [ha1, h4, this]
    · exact absurd h4 hb0
    · have := Int.mul_pos h3 h4
      have hb1 : ¬ b < 0 := by omega
      simp [ha1, hb1]; omega

/-- A whole number made a float. -/
theorem fp_ofInt (n : Int) : FpIs (floatOfInt .f64 n) n := ⟨decide (n < 0), rfl, fun _ => rfl⟩

/-- A float of a whole number made whole again. -/
theorem fp_toInt {x : Nat} {n : Int} (hx : FpIs x n) (hn : n.natAbs < 2 ^ 53) : floatToIntVal .f64 x .i64 = some n := by
  obtain ⟨s, rfl, hs⟩ := fpIs_word hx hn
  obtain ⟨d, hd, -, hd2⟩ := fp_read_any s hn
  unfold floatToIntVal
  show (match (Ieee.double.read (fpWord s n.natAbs)).toInt .zero with | some m => _ | none => _) = _
  rw [hd]
  have e1 : (-(d : Int)).toNat = 0 := by omega
  have e2 : (- -(d : Int)).toNat = d := by omega
  have hcut : Ieee.Toward.zero.cut s (n.natAbs * 2 ^ d) d = n.natAbs := by
    by_cases h0 : n.natAbs = 0
    · rw [h0, Nat.zero_mul]; exact fp_cut_zero _ _ _
    · refine fp_cut_exact _ _ _ _ ?_
      rw [fp_log2_mul_pow _ _ h0]; omega
  have ht : (Ieee.Datum.number s (n.natAbs * 2 ^ d) (-(d : Int))).toInt .zero = some n := by
    unfold Ieee.Datum.toInt Ieee.Datum.integral
    simp only [e1, e2, fp_shiftLeft, Nat.pow_zero, Nat.mul_one, hcut]
    have := fp_signed s n.natAbs 0 0
    rw [Nat.pow_zero, Nat.mul_one] at this
    rw [this, fp_sign n s hs]
    simp
  rw [ht]
  have hmin : IntKind.i64.min ≤ n := by show -(2 ^ 63 : Int) ≤ n; omega
  have hmax : n ≤ IntKind.i64.max := by show n ≤ 2 ^ 63 - 1; omega
  show (if IntKind.i64.min ≤ n ∧ n ≤ IntKind.i64.max then some n else none) = some n
  rw [if_pos ⟨hmin, hmax⟩]

theorem fp_xor_top {a : Nat} (h : a < 2 ^ 63) : a ^^^ 2 ^ 63 = 2 ^ 63 + a ∧ (2 ^ 63 + a) ^^^ 2 ^ 63 = a := by
  have h1 : a ^^^ 2 ^ 63 = 2 ^ 63 + a := by
    rw [← Nat.two_pow_add_eq_or_of_lt h 1 |> fun e => (by simpa using e.symm : 2 ^ 63 ||| a = 2 ^ 63 + a)]
    apply Nat.eq_of_testBit_eq
    intro i
    rw [Nat.testBit_xor, Nat.testBit_or, Nat.testBit_two_pow]
    by_cases hi : 63 = i
    · subst hi
      rw [Nat.testBit_lt_two_pow h]; simp
    · simp [hi]
  refine ⟨h1, ?_⟩
  rw [← h1, Nat.xor_assoc, Nat.xor_self, Nat.xor_zero]

/-- The sign turned. -/
theorem fp_neg {x : Nat} {n : Int} (hx : FpIs x n) (hn : n.natAbs < 2 ^ 53) : FpIs (Op.negFloat .f64 x) (-n) := by
  obtain ⟨s, rfl, hs⟩ := fpIs_word hx hn
  have hab : n.natAbs = (-n).natAbs := by omega
  have key : Op.negFloat .f64 (fpWord s n.natAbs) = fpWord (!s) n.natAbs := by
    show (fpWord s n.natAbs) ^^^ 2 ^ 63 = _
    unfold fpWord Ieee.Format.word
    rw [fp_signWeight]
    have hl := fp_log2_lt hn
    by_cases h0 : n.natAbs = 0
    · rw [if_pos h0, if_pos h0]
      cases s <;> decide
    · rw [if_neg h0, if_neg h0]
      obtain ⟨hk1, hk2⟩ := fp_kept h0 hn
      generalize n.natAbs * 2 ^ (52 - n.natAbs.log2) = k at hk1 hk2 ⊢
      generalize n.natAbs.log2 = l at hl ⊢
      have hlt : (l + 1022) * 2 ^ 52 + k < 2 ^ 63 := by omega
      generalize (l + 1022) * 2 ^ 52 + k = z at hlt
      obtain ⟨h1, h2⟩ := fp_xor_top hlt
      cases s
      · simpa using h1
      · simpa using h2
  rw [key, hab]
  refine word_fpIs _ (by omega) ?_
  intro h
  rw [hs (by omega)]
  by_cases h1 : n < 0
  · simp [h1]; omega
  · simp [h1]; omega

end Go.Proofs.Ytdgkpghecfpgoaa
