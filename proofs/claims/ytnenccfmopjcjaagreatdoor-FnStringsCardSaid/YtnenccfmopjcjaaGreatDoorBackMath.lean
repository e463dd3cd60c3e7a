/-
  Texts are read back: lists of numbers that are not too great. Nothing of the program stands here.
-/
import Derived.Test.YtnenccfmopjcjaaGreatDoorCutMath
import Derived.Test.YtnenccfmopjcjaaGreatDoorListMath
import Derived.Test.YtnenccfmopjcjaaGreatDoorRootMath
import Derived.Test.YtnenccfmopjcjaaGreatDoorCore2
namespace Go.Proofs.YtnenccfmopjcjaaGreatDoor
set_option linter.unusedVariables false
set_option linter.unusedSimpArgs false

theorem itoa_short (n : Int) (h0 : -1000000000000 ≤ n) (h1 : n ≤ 1000000000000) : ((Lib.itoa n).drop (atD (Lib.itoa n))).length ≤ 18 := by
  rcases itoa_parts n with ⟨hh, hn, e⟩ | ⟨hn, hh⟩
  · have hat : atD (Lib.itoa n) = 1 := by unfold atD; rw [if_pos hh]
    rw [hat, e]
    have := digsN_len 18 n.natAbs (by omega)
    simpa using this
  · have hat : atD (Lib.itoa n) = 0 := by unfold atD; rw [if_neg hh]
    rw [hat, List.drop_zero]
    rcases Int.lt_or_eq_of_le hn with h | h
    · obtain ⟨N, rfl⟩ := Int.eq_ofNat_of_zero_le hn
      rw [itoa_pos N (by omega)]
      exact digsN_len 18 N (by omega)
    · rw [← h, itoa_zero]; decide
theorem back_D (n : Int) (h0 : -1000000000000 ≤ n) (h1 : n ≤ 1000000000000) : readD (Lib.itoa n) = some n := readD_itoa n (itoa_short n h0 h1)
theorem inV_of {n : Int} (h0 : -1000000000000 ≤ n) (h1 : n ≤ 1000000000000) : inV n = true := inB_iff.2 ⟨h0, h1⟩
theorem back_v (n : Int) (h0 : -1000000000000 ≤ n) (h1 : n ≤ 1000000000000) : rv (Lib.itoa n) = some n := by
  unfold rv
  rw [back_D n h0 h1]
  show (if inV n then some n else none) = some n
  rw [if_pos (inV_of h0 h1)]
theorem digs_ne44 (N : Nat) : ∀ c ∈ digsN N, c ≠ 44 := by
  intro c hc h
  have := (List.all_eq_true.1 (digs_all N)) c hc
  have := (db_iff c).1 this
  rw [h] at this
  have e : (44 : UInt8).toNat = 44 := rfl
  omega
theorem itoa_ne44 (n : Int) : ∀ c ∈ Lib.itoa n, c ≠ 44 := by
  rcases Int.lt_trichotomy n 0 with h | h | h
  · obtain ⟨N, rfl⟩ : ∃ N : Nat, n = -(N : Int) := ⟨n.natAbs, by omega⟩
    rw [itoa_negp N (by omega)]
    intro c hc
    rcases List.mem_cons.1 hc with h | h
    · rw [h]; decide
    · exact digs_ne44 N c h
  · subst h; rw [itoa_zero]; intro c hc
    rcases List.mem_cons.1 hc with h | h
    · rw [h]; decide
    · cases h
  · obtain ⟨N, rfl⟩ := Int.eq_ofNat_of_zero_le (Int.le_of_lt h)
    rw [itoa_pos N (by omega)]
    exact digs_ne44 N
theorem split_tail (x : List UInt8) (hx : ∀ c ∈ x, c ≠ 44) : ∀ (r : List Int), splitL 44 (x ++ Lib.joinTail [44] (r.map Lib.itoa)) = x :: r.map Lib.itoa
  | [] => by
    show splitL 44 (x ++ []) = [x]
    rw [List.append_nil]; exact splitL_miss 44 x hx
  | n :: r => by
    have e : x ++ Lib.joinTail [44] ((n :: r).map Lib.itoa) = x ++ 44 :: (Lib.itoa n ++ Lib.joinTail [44] (r.map Lib.itoa)) := by
      simp [Lib.joinTail]
    rw [e, splitL_hit 44 x _ hx, split_tail (Lib.itoa n) (itoa_ne44 n) r]
    rfl
theorem parts_back : ∀ (Z : List Int), (∀ n ∈ Z, -1000000000000 ≤ n ∧ n ≤ 1000000000000) → readParts (Z.map Lib.itoa) = some Z
  | [], _ => rfl
  | n :: r, h => by
    have h1 := back_v n (h n (List.mem_cons_self ..)).1 (h n (List.mem_cons_self ..)).2
    have h2 := parts_back r (fun m hm => h m (List.mem_cons_of_mem _ hm))
    simp only [List.map_cons, readParts, h1, h2]
    rfl
theorem list_back (Z : List Int) (h : ∀ n ∈ Z, -1000000000000 ≤ n ∧ n ≤ 1000000000000) (h1 : 0 < Z.length) (h2 : Z.length ≤ 64) : readL (listR Z) = some Z := by
  have hf : fitsZ Z = true := by
    unfold fitsZ
    rw [Bool.and_eq_true]
    exact ⟨List.all_eq_true.2 (fun n hn => inV_of (h n hn).1 (h n hn).2), by simpa using h2⟩
  have ht : listR Z = Lib.join (Z.map Lib.itoa) [44] := by unfold listR textZ; rw [if_pos hf, if_neg (by omega)]
  rw [ht]
  cases Z with
  | nil => simp at h1
  | cons n r =>
    have hj : Lib.join ((n :: r).map Lib.itoa) [44] = Lib.itoa n ++ Lib.joinTail [44] (r.map Lib.itoa) := by rw [List.map_cons, Lib.join_cons]
    have hs := split_tail (Lib.itoa n) (itoa_ne44 n) r
    rw [hj]
    unfold readL
    rw [hs]
    have hp := parts_back (n :: r) h
    rw [List.map_cons] at hp
    rw [if_neg, if_neg, hp]
    · simp at h2 ⊢; omega
    · intro e
      have hd := (back_D n (h n (List.mem_cons_self ..)).1 (h n (List.mem_cons_self ..)).2)
      rw [e] at hs
      have e2 : splitL 44 [45] = [[45]] := by decide
      rw [e2] at hs
      have e3 : Lib.itoa n = [45] := by injection hs with a b; exact a.symm
      rw [e3] at hd
      revert hd
      have : readD [45] = none := readD_bad (Or.inl (by decide))
      rw [this]; intro hd; cases hd
/-- quotients -/
theorem rnd_near0 (a b : Int) (hb : 0 < b) (ha : 0 ≤ a) : 2 * (a - rnd a b * b) ≤ b ∧ -b ≤ 2 * (a - rnd a b * b) := by
  have h1 := Int.mul_ediv_add_emod a b
  have h2 := Int.emod_nonneg a (b := b) (by omega)
  have h3 := Int.emod_lt_of_pos a hb
  rw [rnd_pp a b hb ha]
  split
  · rw [Int.mul_comm (a / b) b]; omega
  · rw [Int.add_mul, Int.mul_comm (a / b) b]; omega
theorem rnd_near (a b : Int) (hb : 0 < b) : 2 * (a - rnd a b * b) ≤ b ∧ -b ≤ 2 * (a - rnd a b * b) := by
  rcases Int.lt_or_le a 0 with h | h
  · rw [rnd_np a b hb h, Int.neg_mul]
    have := rnd_near0 (-a) b hb (by omega)
    omega
  · exact rnd_near0 a b hb h
theorem rnd_minus (a b : Int) (hb : 0 < b) : rnd (-a) b = -(rnd a b) := by
  rcases Int.lt_trichotomy a 0 with h | h | h
  · rw [rnd_np a b hb h]; omega
  · subst h; rw [show (-0 : Int) = 0 from rfl, rnd_zero]; rfl
  · rw [rnd_np (-a) b hb (by omega), Int.neg_neg]
/-- lines -/
theorem line_between (y z x : Int) (h0 : 0 ≤ x) (h1 : x < 1000) : min y z ≤ lineR 0 y 1000 z x ∧ lineR 0 y 1000 z x ≤ max y z := by
  unfold lineR
  split
  · omega
  · rw [if_neg (by omega), if_neg (by omega)]
    have hn := rnd_near ((z - y) * (x - 0)) 1000 (by decide)
    rw [show (1000 : Int) - 0 = 1000 from rfl]
    rw [Int.sub_zero] at hn ⊢
    obtain ⟨q, hq⟩ : ∃ q, q = rnd ((z - y) * x) 1000 := ⟨_, rfl⟩
    rw [← hq] at hn ⊢
    rcases Int.lt_or_le z y with h | h
    · have a1 : 0 ≤ (y - z) * x := Int.mul_nonneg (by omega) h0
      have a2 : (y - z) * x ≤ (y - z) * 1000 := Int.mul_le_mul_of_nonneg_left (by omega) (by omega)
      have a3 : (z - y) * x = -((y - z) * x) := by rw [← Int.neg_mul]; congr 1; omega
      omega
    · have a1 : 0 ≤ (z - y) * x := Int.mul_nonneg (by omega) h0
      have a2 : (z - y) * x ≤ (z - y) * 1000 := Int.mul_le_mul_of_nonneg_left (by omega) (by omega)
      omega
theorem blend_line (y z x : Int) (hy : in6 y = true) (hz : in6 z = true) : blendR 0 y 1000 z x = lineR 0 y 1000 z x := by
  unfold blendR
  rw [hy, hz]; rfl
theorem line_first (y z : Int) : lineR 0 y 1000 z 0 = y := by unfold lineR; rw [if_pos (by decide)]
theorem line_last (y z : Int) : lineR 0 y 1000 z 1000 = z := by unfold lineR; rw [if_neg (by decide), if_neg (by decide), if_pos (by decide)]
theorem divR_rnd (a b : Int) (h0 : -1000000000000 ≤ a) (h1 : a ≤ 1000000000000) (h2 : 1 ≤ b) (h3 : b ≤ 1000000000000) : divR a b = rnd a b := by
  unfold divR
  rw [if_neg (by omega), if_neg (by rw [inB_iff.2 ⟨h0, h1⟩]; decide), if_neg (by rw [inB_iff.2 ⟨by omega, h3⟩]; decide)]
/-- roots -/
theorem rootR_facts (a : Int) (h0 : 0 ≤ a) (h1 : a ≤ 3600000000) : 0 ≤ rootR a ∧ rootR a ≤ 60000 ∧ rootR a * rootR a ≤ a ∧ a < (rootR a + 1) * (rootR a + 1) := by
  obtain ⟨N, rfl⟩ := Int.eq_ofNat_of_zero_le h0
  have h := rootN_sq N
  unfold rootR
  have e : ((N : Int)).toNat = N := rfl
  rw [e]
  have p1 : ((rootN N : Nat) : Int) * (rootN N : Int) ≤ (N : Int) := by exact_mod_cast h.1
  have p2 : (N : Int) < ((rootN N : Nat) + 1 : Int) * ((rootN N : Int) + 1) := by exact_mod_cast h.2
  refine ⟨by omega, ?_, p1, p2⟩
  rcases Int.lt_or_le 60000 (rootN N : Int) with hh | hh
  · have := sq_lt (a := 60001) (b := (rootN N : Int)) (by decide) (by omega)
    omega
  · exact hh
end Go.Proofs.YtnenccfmopjcjaaGreatDoor
