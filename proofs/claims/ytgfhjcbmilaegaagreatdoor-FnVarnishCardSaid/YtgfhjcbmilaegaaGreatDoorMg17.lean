/-
  Texts that stand together: BackMath, Vrm, Bas, Afs, Mxs.
-/
import Derived.Deep.CutRange
import Derived.IntWalk
import Derived.Deep.Cut
import Derived.Test.YtgfhjcbmilaegaaGreatDoorMg1
import Derived.Test.YtgfhjcbmilaegaaGreatDoorMg2
import Derived.Test.YtgfhjcbmilaegaaGreatDoorMg6
import Derived.Test.YtgfhjcbmilaegaaGreatDoorMg10
import Derived.Test.YtgfhjcbmilaegaaGreatDoorMg11
import Derived.Test.YtgfhjcbmilaegaaGreatDoorMg12
import Derived.Test.YtgfhjcbmilaegaaGreatDoorMg13
import Derived.Test.YtgfhjcbmilaegaaGreatDoorMg16
namespace Go.Proofs.YtgfhjcbmilaegaaGreatDoor
set_option linter.unusedVariables false
set_option linter.unusedSimpArgs false

theorem itoa_short (n : Int) (h0 : -1000000000000 ≤ n) (h1 : n ≤ 1000000000000) : ((Lib.itoa n).drop (atD (Lib.itoa n))).length ≤ 18 := by
  rcases itoa_parts n with ⟨hh, hn, e⟩ | ⟨hn, hh⟩
  · have hat : atD (Lib.itoa n) = 1 := by unfold atD; rw [if_pos hh]
    rw [hat, e]
    have := digsN_len 18 n.natAbs (by omega)
    simpa using this
  · have hat : atD (Lib.itoa n) = 0 := by unfold atD; rw [if_neg hh]
    rw [hat, List.drop_zero]
    rcases Int.lt_or_eq_of_le hn with h | h
    · obtain ⟨N, rfl⟩ := Int.eq_ofNat_of_zero_le hn
      rw [itoa_pos N (by omega)]
      exact digsN_len 18 N (by omega)
    · rw [← h, itoa_zero]; decide
theorem back_D (n : Int) (h0 : -1000000000000 ≤ n) (h1 : n ≤ 1000000000000) : readD (Lib.itoa n) = some n := readD_itoa n (itoa_short n h0 h1)
theorem inV_of {n : Int} (h0 : -1000000000000 ≤ n) (h1 : n ≤ 1000000000000) : inV n = true := inB_iff.2 ⟨h0, h1⟩
theorem back_v (n : Int) (h0 : -1000000000000 ≤ n) (h1 : n ≤ 1000000000000) : rv (Lib.itoa n) = some n := by
  unfold rv
  rw [back_D n h0 h1]
  show (if inV n then some n else none) = some n
  rw [if_pos (inV_of h0 h1)]
theorem digs_ne44 (N : Nat) : ∀ c ∈ digsN N, c ≠ 44 := by
  intro c hc h
  have := (List.all_eq_true.1 (digs_all N)) c hc
  have := (db_iff c).1 this
  rw [h] at this
  have e : (44 : UInt8).toNat = 44 := rfl
  omega
theorem itoa_ne44 (n : Int) : ∀ c ∈ Lib.itoa n, c ≠ 44 := by
  rcases Int.lt_trichotomy n 0 with h | h | h
  · obtain ⟨N, rfl⟩ : ∃ N : Nat, n = -(N : Int) := ⟨n.natAbs, by omega⟩
    rw [itoa_negp N (by omega)]
    intro c hc
    rcases List.mem_cons.1 hc with h | h
    · rw [h]; decide
    · exact digs_ne44 N c h
  · subst h; rw [itoa_zero]; intro c hc
    rcases List.mem_cons.1 hc with h | h
    · rw [h]; decide
    · cases h
  · obtain ⟨N, rfl⟩ := Int.eq_ofNat_of_zero_le (Int.le_of_lt h)
    rw [itoa_pos N (by omega)]
    exact digs_ne44 N
theorem split_tail (x : List UInt8) (hx : ∀ c ∈ x, c ≠ 44) : ∀ (r : List Int), splitL 44 (x ++ Lib.joinTail [44] (r.map Lib.itoa)) = x :: r.map Lib.itoa
  | [] => by
    show splitL 44 (x ++ []) = [x]
    rw [List.append_nil]; exact splitL_miss 44 x hx
  | n :: r => by
    have e : x ++ Lib.joinTail [44] ((n :: r).map Lib.itoa) = x ++ 44 :: (Lib.itoa n ++ Lib.joinTail [44] (r.map Lib.itoa)) := by
      simp [Lib.joinTail]
    rw [e, splitL_hit 44 x _ hx, split_tail (Lib.itoa n) (itoa_ne44 n) r]
    rfl
theorem parts_back : ∀ (Z : List Int), (∀ n ∈ Z, -1000000000000 ≤ n ∧ n ≤ 1000000000000) → readParts (Z.map Lib.itoa) = some Z
  | [], _ => rfl
  | n :: r, h => by
    have h1 := back_v n (h n (List.mem_cons_self ..)).1 (h n (List.mem_cons_self ..)).2
    have h2 := parts_back r (fun m hm => h m (List.mem_cons_of_mem _ hm))
    simp only [List.map_cons, readParts, h1, h2]
    rfl
theorem list_back (Z : List Int) (h : ∀ n ∈ Z, -1000000000000 ≤ n ∧ n ≤ 1000000000000) (h1 : 0 < Z.length) (h2 : Z.length ≤ 64) : readL (listR Z) = some Z := by
  have hf : fitsZ Z = true := by
    unfold fitsZ
    rw [Bool.and_eq_true]
    exact ⟨List.all_eq_true.2 (fun n hn => inV_of (h n hn).1 (h n hn).2), by simpa using h2⟩
  have ht : listR Z = Lib.join (Z.map Lib.itoa) [44] := by unfold listR textZ; rw [if_pos hf, if_neg (by omega)]
  rw [ht]
  cases Z with
  | nil => simp at h1
  | cons n r =>
    have hj : Lib.join ((n :: r).map Lib.itoa) [44] = Lib.itoa n ++ Lib.joinTail [44] (r.map Lib.itoa) := by rw [List.map_cons, Lib.join_cons]
    have hs := split_tail (Lib.itoa n) (itoa_ne44 n) r
    rw [hj]
    unfold readL
    rw [hs]
    have hp := parts_back (n :: r) h
    rw [List.map_cons] at hp
    rw [if_neg, if_neg, hp]
    · simp at h2 ⊢; omega
    · intro e
      have hd := (back_D n (h n (List.mem_cons_self ..)).1 (h n (List.mem_cons_self ..)).2)
      rw [e] at hs
      have e2 : splitL 44 [45] = [[45]] := by decide
      rw [e2] at hs
      have e3 : Lib.itoa n = [45] := by injection hs with a b; exact a.symm
      rw [e3] at hd
      revert hd
      have : readD [45] = none := readD_bad (Or.inl (by decide))
      rw [this]; intro hd; cases hd
/-- quotients -/
theorem rnd_near0 (a b : Int) (hb : 0 < b) (ha : 0 ≤ a) : 2 * (a - rnd a b * b) ≤ b ∧ -b ≤ 2 * (a - rnd a b * b) := by
  have h1 := Int.mul_ediv_add_emod a b
  have h2 := Int.emod_nonneg a (b := b) (by omega)
  have h3 := Int.emod_lt_of_pos a hb
  rw [rnd_pp a b hb ha]
  split
  · rw [Int.mul_comm (a / b) b]; omega
  · rw [Int.add_mul, Int.mul_comm (a / b) b]; omega
theorem rnd_near (a b : Int) (hb : 0 < b) : 2 * (a - rnd a b * b) ≤ b ∧ -b ≤ 2 * (a - rnd a b * b) := by
  rcases Int.lt_or_le a 0 with h | h
  · rw [rnd_np a b hb h, Int.neg_mul]
    have := rnd_near0 (-a) b hb (by omega)
    omega
  · exact rnd_near0 a b hb h
theorem rnd_minus (a b : Int) (hb : 0 < b) : rnd (-a) b = -(rnd a b) := by
  rcases Int.lt_trichotomy a 0 with h | h | h
  · rw [rnd_np a b hb h]; omega
  · subst h; rw [show (-0 : Int) = 0 from rfl, rnd_zero]; rfl
  · rw [rnd_np (-a) b hb (by omega), Int.neg_neg]
/-- lines -/
theorem line_between (y z x : Int) (h0 : 0 ≤ x) (h1 : x < 1000) : min y z ≤ lineR 0 y 1000 z x ∧ lineR 0 y 1000 z x ≤ max y z := by
  unfold lineR
  split
  · omega
  · rw [if_neg (by omega), if_neg (by omega)]
    have hn := rnd_near ((z - y) * (x - 0)) 1000 (by decide)
    rw [show (1000 : Int) - 0 = 1000 from rfl]
    rw [Int.sub_zero] at hn ⊢
    obtain ⟨q, hq⟩ : ∃ q, q = rnd ((z - y) * x) 1000 := ⟨_, rfl⟩
    rw [← hq] at hn ⊢
    rcases Int.lt_or_le z y with h | h
    · have a1 : 0 ≤ (y - z) * x := Int.mul_nonneg (by omega) h0
      have a2 : (y - z) * x ≤ (y - z) * 1000 := Int.mul_le_mul_of_nonneg_left (by omega) (by omega)
      have a3 : (z - y) * x = -((y - z) * x) := by rw [← Int.neg_mul]; congr 1; omega
      omega
    · have a1 : 0 ≤ (z - y) * x := Int.mul_nonneg (by omega) h0
      have a2 : (z - y) * x ≤ (z - y) * 1000 := Int.mul_le_mul_of_nonneg_left (by omega) (by omega)
      omega
theorem blend_line (y z x : Int) (hy : in6 y = true) (hz : in6 z = true) : blendR 0 y 1000 z x = lineR 0 y 1000 z x := by
  unfold blendR
  rw [hy, hz]; rfl
theorem line_first (y z : Int) : lineR 0 y 1000 z 0 = y := by unfold lineR; rw [if_pos (by decide)]
theorem line_last (y z : Int) : lineR 0 y 1000 z 1000 = z := by unfold lineR; rw [if_neg (by decide), if_neg (by decide), if_pos (by decide)]
theorem divR_rnd (a b : Int) (h0 : -1000000000000 ≤ a) (h1 : a ≤ 1000000000000) (h2 : 1 ≤ b) (h3 : b ≤ 1000000000000) : divR a b = rnd a b := by
  unfold divR
  rw [if_neg (by omega), if_neg (by rw [inB_iff.2 ⟨h0, h1⟩]; decide), if_neg (by rw [inB_iff.2 ⟨by omega, h3⟩]; decide)]
/-- roots -/
theorem rootR_facts (a : Int) (h0 : 0 ≤ a) (h1 : a ≤ 3600000000) : 0 ≤ rootR a ∧ rootR a ≤ 60000 ∧ rootR a * rootR a ≤ a ∧ a < (rootR a + 1) * (rootR a + 1) := by
  obtain ⟨N, rfl⟩ := Int.eq_ofNat_of_zero_le h0
  have h := rootN_sq N
  unfold rootR
  have e : ((N : Int)).toNat = N := rfl
  rw [e]
  have p1 : ((rootN N : Nat) : Int) * (rootN N : Int) ≤ (N : Int) := by exact_mod_cast h.1
  have p2 : (N : Int) < ((rootN N : Nat) + 1 : Int) * ((rootN N : Int) + 1) := by exact_mod_cast h.2
  refine ⟨by omega, ?_, p1, p2⟩
  rcases Int.lt_or_le 60000 (rootN N : Int) with hh | hh
  · have := sq_lt (a := 60001) (b := (rootN N : Int)) (by decide) (by omega)
    omega
  · exact hh
end Go.Proofs.YtgfhjcbmilaegaaGreatDoor
namespace Go.Proofs.YtgfhjcbmilaegaaGreatDoor
open Go.ChangeShapes Go.WideShapes Go.ChangeAt Go.RowKit Go.Deep
set_option linter.unusedVariables false
set_option maxRecDepth 1000000
set_option linter.unusedSimpArgs false
/-- texts are read back -/
theorem digs_ne32 (N : Nat) : ∀ c ∈ digsN N, c ≠ 32 := by
  intro c hc h
  have := (List.all_eq_true.1 (digs_all N)) c hc
  have := (db_iff c).1 this
  rw [h] at this
  have e : (32 : UInt8).toNat = 32 := rfl
  omega
theorem itoa_ne32 (n : Int) : ∀ c ∈ Lib.itoa n, c ≠ 32 := by
  rcases Int.lt_trichotomy n 0 with h | h | h
  · obtain ⟨N, rfl⟩ : ∃ N : Nat, n = -(N : Int) := ⟨n.natAbs, by omega⟩
    rw [itoa_negp N (by omega)]
    intro c hc
    rcases List.mem_cons.1 hc with h | h
    · rw [h]; decide
    · exact digs_ne32 N c h
  · subst h; rw [itoa_zero]; intro c hc
    rcases List.mem_cons.1 hc with h | h
    · rw [h]; decide
    · cases h
  · obtain ⟨N, rfl⟩ := Int.eq_ofNat_of_zero_le (Int.le_of_lt h)
    rw [itoa_pos N (by omega)]
    exact digs_ne32 N
theorem tail_ne32 : ∀ (r : List Int), ∀ c ∈ Lib.joinTail [44] (r.map Lib.itoa), c ≠ 32
  | [], c, hc => by cases hc
  | n :: r, c, hc => by
    have e : Lib.joinTail [44] ((n :: r).map Lib.itoa) = 44 :: (Lib.itoa n ++ Lib.joinTail [44] (r.map Lib.itoa)) := by simp [Lib.joinTail]
    rw [e] at hc
    rcases List.mem_cons.1 hc with h | h
    · rw [h]; decide
    · rcases List.mem_append.1 h with h | h
      · exact itoa_ne32 n c h
      · exact tail_ne32 r c h
theorem textZ_ne32 (Z : List Int) : ∀ c ∈ textZ Z, c ≠ 32 := by
  intro c hc
  unfold textZ at hc
  split at hc
  · rcases List.mem_cons.1 hc with h | h
    · rw [h]; decide
    · cases h
  · cases Z with
    | nil => cases hc
    | cons n r =>
      rw [List.map_cons, Lib.join_cons] at hc
      rcases List.mem_append.1 hc with h | h
      · exact itoa_ne32 n c h
      · exact tail_ne32 r c h
theorem name_ne32 {l : List UInt8} (h : nameL l = true) : ∀ c ∈ l, c ≠ 32 := by
  intro c hc e
  unfold nameL at h
  have h2 := List.all_eq_true.1 (Bool.and_eq_true_iff.1 h).2 c hc
  subst e
  revert h2; decide
theorem textZ_back {Z : List Int} (h : ∀ n ∈ Z, 0 ≤ n ∧ n ≤ 1000) (h1 : 0 < Z.length) (h2 : Z.length ≤ 64) : readL (textZ Z) = some Z := by
  have h' : ∀ n ∈ Z, -1000000000000 ≤ n ∧ n ≤ 1000000000000 := fun n hn => by have := h n hn; omega
  have hf : fitsZ Z = true := by
    unfold fitsZ
    rw [Bool.and_eq_true]
    exact ⟨List.all_eq_true.2 (fun n hn => inV_of (h' n hn).1 (h' n hn).2), by simpa using h2⟩
  have := list_back Z h' h1 h2
  unfold listR at this
  rwa [if_pos hf] at this
theorem ct_back {x : Ct} (h : ctB x = true) : ctO (ctT x) = some x := by
  have hb := ctB_bd h
  obtain ⟨p, q, r, hc, b1, b2, b3⟩ := colB_iff hb.2.2
  have hn : nameL x.id.data.toList = true := by
    unfold ctB at h
    simp only [Bool.and_eq_true] at h
    exact h.1.1.1
  have r1 : readM (textZ [x.days, x.cover]) 2 = some [x.days, x.cover] := readM_yes (textZ_back (by intro n hn; simp only [List.mem_cons, List.mem_nil_iff, or_false] at hn; rcases hn with rfl | rfl <;> omega) (by simp) (by simp)) rfl
  have r2 : readL (textZ x.col) = some x.col := textZ_back (by rw [hc]; intro n hn; simp only [List.mem_cons, List.mem_nil_iff, or_false] at hn; rcases hn with rfl | rfl | rfl <;> omega) (by rw [hc]; simp) (by rw [hc]; simp)
  have hs : splitL 32 (ctT x) = [x.id.data.toList, textZ [x.days, x.cover], textZ x.col] := by
    unfold ctT
    rw [if_pos h, splitL_hit 32 _ _ (name_ne32 hn), splitL_hit 32 _ _ (textZ_ne32 _), splitL_miss 32 _ (textZ_ne32 _)]
  have hx : (⟨⟨x.id.data.toList.toArray⟩, ([x.days, x.cover] : List Int).getD 0 0, ([x.days, x.cover] : List Int).getD 1 0, x.col⟩ : Ct) = x := by
    obtain ⟨⟨⟨l⟩⟩, a, b, c⟩ := x; rfl
  unfold ctO
  rw [hs]
  show ctOf _ _ _ = _
  rw [ctOf_yes r1 r2, hx, if_pos h]
/-- orders -/
theorem vr_ord {n : Nat} {O : List Int} (h : ∀ x ∈ O, 0 ≤ x ∧ x < (n : Int)) (hl : O.length ≤ 10) : ordC n O = true := by
  unfold ordC
  rw [decide_eq_true hl, allI_iff.2 (fun x hx => by have := h x hx; omega)]
  rfl
theorem colB_of {G : List Int} (h : col3 G) : colB G = true := by
  obtain ⟨a, b, c, rfl, h1, h2, h3⟩ := h
  unfold colB
  rw [allI_iff.2 (by intro n hn; simp only [List.mem_cons, List.mem_nil_iff, or_false] at hn; rcases hn with rfl | rfl | rfl <;> omega)]
  rfl
theorem aft_yes {Z : List Ct} {O G : List Int} (hz : ctsB Z = true) (hG : col3 G) (ho : ordC Z.length O = true) : aftC Z O G = 0 ∧ aftV Z O G = aftK Z O G O.length ∧ col3 (aftK Z O G O.length) := by
  have hg := colB_of hG
  refine ⟨?_, ?_, aft_col hz ho hg _ (Nat.le_refl _)⟩
  · unfold aftC code; rw [hz, hg, ho]; rfl
  · unfold aftV; rw [hz, hg, ho]; rfl
theorem one_ord {n : Nat} {x : Int} (h : 0 ≤ x ∧ x < (n : Int)) : ordC n [x] = true := vr_ord (by intro y hy; simp only [List.mem_cons, List.mem_nil_iff, or_false] at hy; subst hy; exact h) (by simp)
theorem aft_step {Z : List Ct} {O G : List Int} (k : Nat) : aftK Z [O.getD k 0] (aftK Z O G k) 1 = aftK Z O G (k + 1) := rfl
theorem ov3_getD {c : List Int} {v : Int} {G : List Int} {k : Nat} (hk : k < 3) : (ov3 c v G).getD k 0 = ovN (G.getD k 0) (c.getD k 0) v := by
  match k, hk with
  | 0, _ => rfl
  | 1, _ => rfl
  | 2, _ => rfl
theorem ov_between {n c v : Int} (hn : 0 ≤ n ∧ n ≤ 255) (hc : 0 ≤ c ∧ c ≤ 255) (hv : 0 ≤ v ∧ v ≤ 1000) :
    min n c ≤ ovN n c v ∧ ovN n c v ≤ max n c ∧ 2 * (1000 * ovN n c v - n * (1000 - v) - c * v) ≤ 1000 ∧ -1000 ≤ 2 * (1000 * ovN n c v - n * (1000 - v) - c * v) := by
  have h := rnd_near (n * (1000 - v) + c * v) 1000 (by decide)
  unfold ovN
  have l1 : min n c * (1000 - v) ≤ n * (1000 - v) := Int.mul_le_mul_of_nonneg_right (by omega) (by omega)
  have l2 : min n c * v ≤ c * v := Int.mul_le_mul_of_nonneg_right (by omega) (by omega)
  have u1 : n * (1000 - v) ≤ max n c * (1000 - v) := Int.mul_le_mul_of_nonneg_right (by omega) (by omega)
  have u2 : c * v ≤ max n c * v := Int.mul_le_mul_of_nonneg_right (by omega) (by omega)
  have e1 : min n c * (1000 - v) + min n c * v = 1000 * min n c := by rw [← Int.mul_add]; rw [show (1000 - v + v) = 1000 by omega, Int.mul_comm]
  have e2 : max n c * (1000 - v) + max n c * v = 1000 * max n c := by rw [← Int.mul_add]; rw [show (1000 - v + v) = 1000 by omega, Int.mul_comm]
  generalize n * (1000 - v) = p at *
  generalize c * v = q at *
  generalize min n c * (1000 - v) = a at *
  generalize min n c * v = b at *
  generalize max n c * (1000 - v) = d at *
  generalize max n c * v = e at *
  omega
theorem col3_getD {G : List Int} (h : col3 G) {k : Nat} (hk : k < 3) : 0 ≤ G.getD k 0 ∧ G.getD k 0 ≤ 255 := by
  obtain ⟨a, b, c, rfl, h1, h2, h3⟩ := h
  match k, hk with
  | 0, _ => exact h1
  | 1, _ => exact h2
  | 2, _ => exact h3
theorem col3_len {G : List Int} (h : col3 G) : G.length = 3 := by obtain ⟨a, b, c, rfl, _⟩ := h; rfl
/-- days -/
theorem day_yes {Z : List Ct} {O : List Int} (hz : ctsB Z = true) (ho : ordC Z.length O = true) : dayC Z O = 0 ∧ dayV Z O = sumK (dayF Z O) O.length := by
  unfold dayC dayV pick code
  rw [if_pos hz, if_pos hz, if_pos ho, if_pos ho]
  exact ⟨rfl, rfl⟩
/-- gaps -/
theorem absC_comm (p q : Int) : absC p q = absC q p := by unfold absC; split <;> split <;> omega
theorem gapL_comm (A B : List Int) : gapL A B = gapL B A := by
  unfold gapL gap3
  rw [absC_comm (A.getD 0 0), absC_comm (A.getD 1 0), absC_comm (A.getD 2 0)]
theorem gap_yes {A B : List Int} (ha : col3 A) (hb : col3 B) : gapC A B = 0 ∧ gapV A B = gapL A B ∧ 0 ≤ gapL A B ∧ gapL A B ≤ 765 := by
  have e : (colB A && colB B) = true := by rw [colB_of ha, colB_of hb]; rfl
  refine ⟨by unfold gapC code; rw [if_pos e], by unfold gapV pick; rw [if_pos e], ?_⟩
  unfold gapL gap3
  have h0 := absC_bd (col3_getD ha (k := 0) (by omega)) (col3_getD hb (k := 0) (by omega))
  have h1 := absC_bd (col3_getD ha (k := 1) (by omega)) (col3_getD hb (k := 1) (by omega))
  have h2 := absC_bd (col3_getD ha (k := 2) (by omega)) (col3_getD hb (k := 2) (by omega))
  omega
/-- mixtures -/
theorem sumK_congr {f g : Nat → Int} : ∀ n, (∀ i, i < n → f i = g i) → sumK f n = sumK g n
  | 0, _ => rfl
  | n + 1, h => by unfold sumK; rw [sumK_congr n (fun i hi => h i (by omega)), h n (by omega)]
theorem ps_snoc (P : List Int) (x : Int) : sumK (psF (P ++ [x])) (P ++ [x]).length = sumK (psF P) P.length + x := by
  rw [List.length_append]
  have h1 : sumK (psF (P ++ [x])) P.length = sumK (psF P) P.length := sumK_congr (g := psF P) P.length (fun i hi => by unfold psF; simp only [List.getD_eq_getElem?_getD]; rw [List.getElem?_append_left hi])
  have h2 : psF (P ++ [x]) P.length = x := by
    unfold psF
    simp only [List.getD_eq_getElem?_getD]
    rw [List.getElem?_append_right (Nat.le_refl _), Nat.sub_self]; rfl
  show sumK (psF (P ++ [x])) P.length + psF (P ++ [x]) P.length = _
  rw [h1, h2]
theorem ps_nonneg {P : List Int} (h : ∀ x ∈ P, 0 ≤ x ∧ x ≤ 5) : 0 ≤ sumK (psF P) P.length ∧ sumK (psF P) P.length ≤ 5 * P.length := by
  have := sumK_bd (f := psF P) (lo := 0) (hi := 5) P.length (fun i hi => by
    unfold psF
    rw [getD_of _ hi]
    exact h _ (List.getElem_mem hi))
  omega
theorem mix_code {Z : List Ct} {P : List Int} (hz : ctsB Z = true) (hl : P.length = Z.length) (h : ∀ x ∈ P, 0 ≤ x ∧ x ≤ 5) :
    (0 < sumK (psF P) P.length → mixC Z P = 0 ∧ mixV Z P = mix3 Z P ∧ parB Z.length P = true) ∧ (¬ 0 < sumK (psF P) P.length → mixC Z P = 7 ∧ mixV Z P = []) := by
  have hg : ∀ i, i < P.length → 0 ≤ P.getD i 0 := fun i hi => by rw [getD_of _ hi]; exact (h _ (List.getElem_mem hi)).1
  have hp := ps_pos hg
  have h0 := ps_nonneg h
  have ha : allI P 0 1000 = true := allI_iff.2 (fun x hx => by have := h x hx; omega)
  constructor
  · intro hS
    have hno : allI P 0 0 = false := by
      cases hb : allI P 0 0 with
      | false => rfl
      | true => have := hp.2 hb; omega
    have hb : parB Z.length P = true := by unfold parB; rw [decide_eq_true hl, ha, hno]; rfl
    exact ⟨by unfold mixC code; rw [if_pos hz, if_pos hb], by unfold mixV; rw [if_pos hz, if_pos hb], hb⟩
  · intro hS
    have hyes : allI P 0 0 = true := hp.1 (by omega)
    have hb : parB Z.length P = false := by unfold parB; rw [hyes]; simp
    exact ⟨by unfold mixC code; rw [if_pos hz, hb]; rfl, by unfold mixV; rw [if_pos hz, hb]; rfl⟩
theorem sumK_le {f g : Nat → Int} : ∀ n, (∀ i, i < n → f i ≤ g i) → sumK f n ≤ sumK g n
  | 0, _ => Int.le_refl _
  | n + 1, h => by
    have := sumK_le n (fun i hi => h i (by omega))
    have := h n (by omega)
    unfold sumK; omega
theorem sumK_mul (f : Nat → Int) (c : Int) : ∀ n, sumK (fun i => c * f i) n = c * sumK f n
  | 0 => by unfold sumK; omega
  | n + 1 => by unfold sumK; rw [sumK_mul f c n, Int.mul_add]
theorem mix_between {Z : List Ct} {P : List Int} {k : Nat} {lo hi : Int} (h : ∀ x ∈ P, 0 ≤ x ∧ x ≤ 5) (hS : 0 < sumK (psF P) P.length)
    (hc : ∀ i, i < P.length → lo ≤ (Z.getD i ct0).col.getD k 0 ∧ (Z.getD i ct0).col.getD k 0 ≤ hi) : lo ≤ mix1 Z P k ∧ mix1 Z P k ≤ hi := by
  have hn := rnd_near (sumK (mxP Z P k) P.length) (sumK (psF P) P.length) hS
  have l1 : sumK (fun i => lo * psF P i) P.length ≤ sumK (mxP Z P k) P.length := sumK_le _ (fun i hi => by
    have h1 : 0 ≤ psF P i := by unfold psF; rw [getD_of _ hi]; exact (h _ (List.getElem_mem hi)).1
    exact Int.mul_le_mul_of_nonneg_right (hc i hi).1 h1)
  have l2 : sumK (mxP Z P k) P.length ≤ sumK (fun i => hi * psF P i) P.length := sumK_le _ (fun i hi => by
    have h1 : 0 ≤ psF P i := by unfold psF; rw [getD_of _ hi]; exact (h _ (List.getElem_mem hi)).1
    exact Int.mul_le_mul_of_nonneg_right (hc i hi).2 h1)
  rw [sumK_mul] at l1 l2
  show lo ≤ rnd _ _ ∧ rnd _ _ ≤ hi
  generalize sumK (psF P) P.length = S at *
  generalize sumK (mxP Z P k) P.length = T at *
  generalize rnd T S = r at *
  constructor
  · refine Int.not_lt.1 (fun hlt => ?_)
    have h1 : (r + 1) * S ≤ lo * S := Int.mul_le_mul_of_nonneg_right (by omega) (by omega)
    rw [Int.add_mul] at h1
    omega
  · refine Int.not_lt.1 (fun hlt => ?_)
    have h1 : (hi + 1) * S ≤ r * S := Int.mul_le_mul_of_nonneg_right (by omega) (by omega)
    rw [Int.add_mul] at h1
    omega
/-- the strongest -/
theorem str_yes {Z : List Ct} (hz : ctsB Z = true) : (Z.length = 0 → strC Z = 3 ∧ strV Z = 0) ∧ (0 < Z.length → strC Z = 0 ∧ ∃ m : Nat, strV Z = (m : Int) ∧ m < Z.length ∧ ∀ i, i < Z.length → (Z.getD i ct0).cover ≤ (Z.getD m ct0).cover) := by
  unfold strC strV
  rw [if_pos hz, if_pos hz]
  constructor
  · intro h; rw [if_pos h, if_pos h]; exact ⟨rfl, rfl⟩
  · intro h
    rw [if_neg (by omega), if_neg (by omega)]
    exact ⟨rfl, _, rfl, fgI_lt _ h, fun i hi => fgI_ge (f := covF Z) _ i hi⟩
/-- the fewest coats -/
theorem fst_spec {p : Nat → Bool} : ∀ f s, (fstK p f s ≤ s + f) ∧ (∀ k, s ≤ k → k < s + f → p k = true → fstK p f s ≤ k) ∧ (fstK p f s < s + f → p (fstK p f s) = true)
  | 0, s => ⟨Nat.le_refl _, fun k h1 h2 => by omega, fun h => by unfold fstK at h; omega⟩
  | f + 1, s => by
    have ih := fst_spec (p := p) f (s + 1)
    unfold fstK
    by_cases hp : p s = true
    · rw [if_pos hp]
      exact ⟨by omega, fun k h1 _ _ => h1, fun _ => hp⟩
    · rw [if_neg hp]
      refine ⟨by omega, fun k h1 h2 hk => ?_, fun h => ih.2.2 (by omega)⟩
      have : k ≠ s := fun e => hp (e ▸ hk)
      exact ih.2.1 k (by omega) (by omega) hk
theorem few_yes {s : ByteArray} {a b : Int} {L G H : List Int} {z : Int} (hx : ctB ⟨s, a, b, L⟩ = true) (hG : col3 G) (hH : col3 H) (hz : 0 ≤ z ∧ z ≤ 765) :
    ∃ F : Nat, F ≤ 11 ∧ (F < 11 → fewC s a b L G H z = 0 ∧ fewV s a b L G H z = (F : Int) ∧ gapL (itK L b G F) H ≤ z) ∧ (F = 11 → fewC s a b L G H z = 3 ∧ fewV s a b L G H z = 0) ∧ ∀ k, k < 11 → gapL (itK L b G k) H ≤ z → F ≤ k := by
  have ho : fewOk s a b L G H = true := by unfold fewOk; rw [hx, colB_of hG, colB_of hH]; rfl
  have hb : inB z 0 765 = true := inB_iff.2 hz
  obtain ⟨f1, f2, f3⟩ := fst_spec (p := fewP b L G H z) 11 0
  refine ⟨fewN b L G H z, by unfold fewN; omega, fun h => ?_, fun h => ?_, fun k hk hg => ?_⟩
  · unfold fewC fewV
    rw [if_pos ho, if_pos ho, if_pos hb, if_pos hb, if_pos h, if_pos h]
    exact ⟨rfl, rfl, of_decide_eq_true (f3 (by unfold fewN at h; omega))⟩
  · unfold fewC fewV
    rw [if_pos ho, if_pos ho, if_pos hb, if_pos hb, if_neg (by omega), if_neg (by omega)]
    exact ⟨rfl, rfl⟩
  · exact f2 k (Nat.zero_le _) (by omega) (decide_eq_true hg)
theorem it_step {Z : List Ct} {i : Nat} {G : List Int} (hi : i < Z.length) (k : Nat) : aftK Z [(i : Int)] (itK Z[i].col Z[i].cover G k) 1 = itK Z[i].col Z[i].cover G (k + 1) := by
  show ov3 (Z.getD (([(i : Int)] : List Int).getD 0 0).toNat ct0).col _ _ = ov3 _ _ _
  have e : (([(i : Int)] : List Int).getD 0 0).toNat = i := by simp
  rw [e, cts_getD hi]
  rfl
end Go.Proofs.YtgfhjcbmilaegaaGreatDoor
namespace Go.Proofs.YtgfhjcbmilaegaaGreatDoor
open Go.ChangeShapes Go.WideShapes Go.ChangeAt Go.RowKit
set_option linter.unusedVariables false
set_option linter.unusedSimpArgs false

/-- the byte at place k, 0 behind the end -/
def at8 (Z : List Int) (k : Nat) : Int := Z.getD k 0
theorem at8_in {Z : List Int} (h : ∀ n ∈ Z, 0 ≤ n ∧ n ≤ 255) (k : Nat) : 0 ≤ at8 Z k ∧ at8 Z k ≤ 255 := by
  unfold at8
  by_cases hk : k < Z.length
  · rw [List.getD_eq_getElem?_getD, List.getElem?_eq_getElem hk]; exact h _ (List.getElem_mem hk)
  · rw [List.getD_eq_getElem?_getD, List.getElem?_eq_none (by omega)]; decide

set_option maxHeartbeats 1600000 in
set_option maxRecDepth 1000000 in
theorem r8At_any (k B : Nat) (v : Value) (Z : List Int) (w : World) (hk : k ≤ 100) (hZ : Z.length ≤ 1048576) (hu : U8Old B w v Z) :
    Calls Tryz.prog 7 #[v, .int .i64 k, .int .i64 256] w fun e w' => e = .returned (.int .i64 (at8 Z k)) ∧ ∃ m, w' = w.drewN m := by
  obtain ⟨a, cap, rfl, hcap, hin, hread⟩ := hu
  have hi := at8_in hin k
  by_cases hlt : k < Z.length
  · rcases hread with rfl | ⟨g, o, rfl, hg0, hg, hc⟩
    · simp at hlt
    obtain ⟨x, hx⟩ : ∃ x, x = at8 Z k := ⟨_, rfl⟩
    have hx2 : x = Z[k] := by rw [hx]; unfold at8; rw [List.getD_eq_getElem?_getD, List.getElem?_eq_getElem hlt]; rfl
    have c3 : w.cell? ⟨g, o + k, none⟩ = some (.int .u8 x) := by rw [hx2]; exact hc k hlt
    rw [← hx] at hi ⊢
    have hx3 : x % 256 = x := by omega
    have hd : decide ((Z.length : Int) ≤ (k : Int)) = false := by simp; omega
    clear hc hin hx hx2
    go_enter Tryz.func7, Tryz.ntmps7
    go_wp2
    go_ret
    exact ⟨ret_int hx3, 0, rfl⟩
  · have hx : at8 Z k = 0 := by unfold at8; rw [List.getD_eq_getElem?_getD, List.getElem?_eq_none (by omega)]; rfl
    rw [hx]
    clear hread hin hi hx
    have hd : decide ((Z.length : Int) ≤ (k : Int)) = true := by simp; omega
    go_enter Tryz.func7, Tryz.ntmps7
    go_wp2
    go_ret
    exact ⟨rfl, 0, rfl⟩
/-- two bytes, below n -/
def wide8 (Z : List Int) (k : Nat) (n : Int) : Int := (256 * at8 Z k + at8 Z (k + 1)) % n
theorem wide8_in (Z : List Int) (k : Nat) (n : Int) (h : 0 < n) : 0 ≤ wide8 Z k n ∧ wide8 Z k n < n := ⟨Int.emod_nonneg _ (by omega), Int.emod_lt_of_pos _ h⟩

set_option maxHeartbeats 1600000 in
set_option maxRecDepth 1000000 in
theorem r8Abs_any (n : Int) (h0 : -9000000000000000000 ≤ n) (h1 : n ≤ 9000000000000000000) (w : World) :
    Calls Tryz.prog 12 #[.int .i64 n] w fun e w' => e = .returned (.int .i64 (max n (-n))) ∧ w = w' := by
  go_enter Tryz.func12, Tryz.ntmps12
  go_wp2 <;> go_ret
  all_goals exact ⟨ret_int (by omega), rfl⟩

set_option maxHeartbeats 1600000 in
set_option maxRecDepth 1000000 in
theorem r8Same_any (v v' : Value) (Z : List Int) (w : World) (hn : Z.length ≤ 1048577) (h1 : IntsAt w v Z) (h2 : IntsAt w v' Z) :
    Calls Tryz.prog 13 #[v, v'] w fun e w' => e = .returned (.bool true) ∧ ∃ m, w' = w.drewN m := by
  obtain ⟨a, cap, rfl, hcap, _, hread⟩ := h1
  obtain ⟨a', cap', rfl, hcap', _, hread'⟩ := h2
  rcases hread with rfl | ⟨g, o, rfl, hg, hc⟩
  · go_enter Tryz.func13, Tryz.ntmps13
    go_wp2
    refine wp_loop_rounds 1 ?_
    rw [rounds_succ]
    go_wp2
    go_ret
    exact ⟨rfl, 0, rfl⟩
  rcases hread' with rfl | ⟨g', o', rfl, hg', hc'⟩
  · go_enter Tryz.func13, Tryz.ntmps13
    go_wp2
    refine wp_loop_rounds 1 ?_
    rw [rounds_succ]
    go_wp2
    go_ret
    exact ⟨rfl, 0, rfl⟩
  have h1' := Lib.hid hc
  have h2' := Lib.hid hc'
  clear hc hc'
  go_enter Tryz.func13, Tryz.ntmps13
  go_wp2
  go_loopw [5] (fun i wr => ∃ j q : Nat, j ≤ Z.length ∧ i = .int .i64 j ∧ wr = w.drewN q) (fun i _ => Z.length - (intOf i).toNat)
  case atStart => exact ⟨0, 0, by omega, rfl, rfl⟩
  case round =>
    obtain ⟨j, q, hj, rfl, rfl⟩ := hrel
    by_cases hlt : j < Z.length
    · obtain ⟨x, hx⟩ : ∃ x, x = Z[j] := ⟨_, rfl⟩
      have c1 : w.cell? ⟨g, o + j, none⟩ = some (.int .i64 x) := by rw [hx]; exact h1'.out j hlt
      have c2 : w.cell? ⟨g', o' + j, none⟩ = some (.int .i64 x) := by rw [hx]; exact h2'.out j hlt
      clear hx
      go_wp2
      go_quiet (fail)
      go_wp2
      go_roundw
      case rel => exact ⟨j + 1, _, by omega, by go_num, rfl⟩
      case measure => simp [intOf]; omega
    · go_wp2
      go_ret
      exact ⟨rfl, q, rfl⟩

set_option maxHeartbeats 1600000 in
set_option maxRecDepth 1000000 in
theorem r8Long_no (a0 : Option Addr) (len0 cap0 : Nat) (a1 : Option Addr) (len1 cap1 : Nat) (h0 : len0 ≤ 1048576) (h1 : len1 ≤ 1048576) (w : World) :
    Calls Tryz.prog 4 #[.slice a0 len0 cap0, .slice a1 len1 cap1] w fun e w' => e = .returned (.bool false) ∧ w = w' := by
  go_enter Tryz.func4, Tryz.ntmps4
  go_wp2
  go_ret
  exact ⟨ret_bool (by rw [decide_eq_false (show ¬ (1048576 : Int) < (len0 : Int) by omega), decide_eq_false (show ¬ (1048576 : Int) < (len1 : Int) by omega)]; rfl), rfl⟩
set_option maxHeartbeats 1600000 in
set_option maxRecDepth 1000000 in
theorem r8Long_first (a0 : Option Addr) (len0 cap0 : Nat) (a1 : Option Addr) (len1 cap1 : Nat) (h0 : ¬ len0 ≤ 1048576) (h2 : len0 ≤ maxLen) (w : World) :
    Calls Tryz.prog 4 #[.slice a0 len0 cap0, .slice a1 len1 cap1] w fun e w' => e = .returned (.bool true) ∧ w = w' := by
  go_enter Tryz.func4, Tryz.ntmps4
  go_wp2
  go_ret
  exact ⟨rfl, rfl⟩
set_option maxHeartbeats 1600000 in
set_option maxRecDepth 1000000 in
theorem r8Long_second (a0 : Option Addr) (len0 cap0 : Nat) (a1 : Option Addr) (len1 cap1 : Nat) (h0 : len0 ≤ 1048576) (h1 : ¬ len1 ≤ 1048576) (h2 : len1 ≤ maxLen) (w : World) :
    Calls Tryz.prog 4 #[.slice a0 len0 cap0, .slice a1 len1 cap1] w fun e w' => e = .returned (.bool true) ∧ w = w' := by
  go_enter Tryz.func4, Tryz.ntmps4
  go_wp2
  go_ret
  exact ⟨ret_bool (by rw [decide_eq_false (show ¬ (1048576 : Int) < (len0 : Int) by omega), decide_eq_true (show (1048576 : Int) < (len1 : Int) by omega)]; rfl), rfl⟩
/-- a new row of five numbers -/
theorem ints_five (W : World) (t : TypeId) (a b x y z : Int) (ha : inI a) (hb : inI b) (hx : inI x) (hy : inI y) (hz : inI z) :
    IntsAt (W.alloc (.cells #[.int .i64 a, .int .i64 b, .int .i64 x, .int .i64 y, .int .i64 z] t)) (.slice (some ⟨W.heap.size, 0, none⟩) 5 5) [a, b, x, y, z] := by
  refine ⟨some ⟨W.heap.size, 0, none⟩, 5, rfl, Nat.le_refl 5, ?_, Or.inr ⟨W.heap.size, 0, rfl, by simp, ?_⟩⟩
  · intro n hn
    simp only [List.mem_cons, List.mem_nil_iff, or_false] at hn
    rcases hn with rfl | rfl | rfl | rfl | rfl <;> assumption
  · intro i hi
    rw [Nat.zero_add, World.cell?_alloc_mark]
    match i, hi with
    | 0, _ => rfl
    | 1, _ => rfl
    | 2, _ => rfl
    | 3, _ => rfl
    | 4, _ => rfl
end Go.Proofs.YtgfhjcbmilaegaaGreatDoor
namespace Go.Proofs.YtgfhjcbmilaegaaGreatDoor
open Go.ChangeShapes Go.WideShapes Go.ChangeAt Go.RowKit Go.Deep
set_option linter.unusedVariables false
set_option linter.unusedSimpArgs false
set_option maxRecDepth 1000000
set_option maxHeartbeats 3200000 in
theorem specColourAfter_any (v : Value) (Z : List Ct) (v' : Value) (O : List Int) (v2 : Value) (G : List Int) (w : World) (hz : Z.length ≤ 1048576) (hv : CtsAt w v Z) (ho : O.length ≤ 1048576) (hv' : IntsAt w v' O) (hg9 : G.length ≤ 1048576) (hv2 : IntsAt w v2 G) : Calls Tryz.prog 20 #[v, v', v2] w (RowC (aftV Z O G) (aftC Z O G) w) := by
  have cV := l13Ok_any v Z w hz hv
  have hV : Hid (aftV Z O G = if (ctsB Z && colB G) = true then (if ordC Z.length O = true then aftK Z O G O.length else []) else []) := Lib.hid rfl
  have hC : Hid (aftC Z O G = if (ctsB Z && colB G) = true then code (ordC Z.length O) 7 else 1) := Lib.hid rfl
  have cG := fun W (hb : Below w.heap.size w W) => l13Colour_any v2 G W (by unfold maxLen; omega) (hv2.below hb)
  obtain ⟨p9, c9, hv9, _, _, hread9⟩ := hv
  have cO := fun W (hb : Below w.heap.size w W) => l13Order_any v p9 Z.length c9 hv9 v' O W hz ho (hv'.below hb)
  subst hv9
  obtain ⟨p7, c7, hv7, _⟩ := id hv2
  obtain ⟨p8, c8, hv8, _, _, hread8⟩ := hv'
  subst hv8
  have hv2' := Lib.hid hv2
  clear hv2
  subst hv7
  cases q1 : ctsB Z
  · rw [q1] at cV hV hC
    replace cV := Lib.hid cV
    clear cO cG hread9 hread8
    go_enter Tryz.func20, Tryz.ntmps20
    go_wp2_with (first | (go_at_call 43; (with_reducible refine (cV.out).mono ?_); rintro e w1 ⟨rfl, b1⟩))
    go_ret2
    exact rowC_nil hV.out hC.out b1.below
  cases q3 : colB G
  · rw [q1] at cV hV hC
    rw [q3] at cG hV hC
    replace cV := Lib.hid cV
    replace cG := Lib.hid cG
    clear cO hread9 hread8
    go_enter Tryz.func20, Tryz.ntmps20
    go_wp2_with (first | (go_at_call 43; (with_reducible refine (cV.out).mono ?_); rintro e w1 ⟨rfl, b1⟩) | (go_at_call 41; (with_reducible refine (cG.out _ b1.below).mono ?_); rintro e w2 ⟨rfl, rfl⟩))
    go_ret2
    exact rowC_nil hV.out hC.out b1.below
  cases q2 : ordC Z.length O
  · rw [q1] at cV hV hC
    rw [q3] at cG hV hC
    rw [q2] at cO hV hC
    replace cV := Lib.hid cV
    replace cG := Lib.hid cG
    replace cO := Lib.hid cO
    clear hread9 hread8
    go_enter Tryz.func20, Tryz.ntmps20
    go_wp2_with (first | (go_at_call 43; (with_reducible refine (cV.out).mono ?_); rintro e w1 ⟨rfl, b1⟩) | (go_at_call 41; (with_reducible refine (cG.out _ b1.below).mono ?_); rintro e w2 ⟨rfl, rfl⟩) | (go_at_call 44; (with_reducible refine (cO.out _ b1.below).mono ?_); rintro e w2 ⟨rfl, rfl⟩))
    go_ret2
    exact rowC_nil hV.out hC.out b1.below
  have hcol := Lib.hid (fun k hk => aft_col q1 q2 q3 k hk)
  have hoB := Lib.hid q2
  have hzB := Lib.hid q1
  have hl10 := ordC_len q2
  rw [q1] at cV hV hC
  rw [q3] at cG hV hC
  rw [q2] at cO hV hC
  obtain ⟨x0, y0, z0, hG0, _, _, _⟩ := col3_of q3
  have hG0' := Lib.hid hG0
  have cN : Hid (∀ W, Below w.heap.size w W → Calls Tryz.prog 45 #[.slice p7 G.length c7] W (RowI G W)) := Lib.hid (fun W hb => by
    have := (hv2'.out).below hb
    rw [hG0] at this ⊢
    exact own3_any _ x0 y0 z0 W this)
  replace cV := Lib.hid cV
  replace cG := Lib.hid cG
  replace cO := Lib.hid cO
  have hr9 := Lib.hid hread9
  have hr8 := Lib.hid hread8
  clear hread9 hread8 q1 q2 q3 hG0
  go_enter Tryz.func20, Tryz.ntmps20
  go_wp2_with (first | (go_at_call 43; (with_reducible refine (cV.out).mono ?_); rintro e w1 ⟨rfl, b1⟩) | (go_at_call 41; (with_reducible refine (cG.out _ b1.below).mono ?_); rintro e w2 ⟨rfl, rfl⟩) | (go_at_call 44; (with_reducible refine (cO.out _ b1.below).mono ?_); rintro e w2 ⟨rfl, rfl⟩) | (go_at_call 45; (with_reducible refine (cN.out _ b1.below).mono ?_); rintro e w3 ⟨v3, rfl, o3, b3⟩))
  have hB3 := below2 b1.below b3
  have hB3' := Lib.hid hB3
  have o3' := Lib.hid (own_low o3 b1.below.size)
  clear o3 b3
  go_loopw [8, 9] (fun u i wr => ∃ (k : Nat) (L : List Int), k ≤ O.length ∧ i = .int .i64 k ∧ Hid (L = aftK Z O G k) ∧ Hid (wr.ownsRow w.heap.size 2 1 u L.length (L.map encI)) ∧ Hid (Below w.heap.size w wr)) (fun _ i _ => O.length - (intOf i).toNat)
  case atStart => exact ⟨0, G, by omega, rfl, Lib.hid rfl, o3', hB3'⟩
  case round =>
    obtain ⟨k, L, hk, rfl, hL, hown, hb⟩ := hrel
    by_cases hlt : k < O.length
    · rcases hr8.out with h | ⟨g8, o8, rfl, hg8, hc8⟩
      · subst h; simp at hlt
      have c0 := rowcell hb.out hg8 hc8 hlt
      rcases hr9.out with h | ⟨g, o, rfl, hg, hc⟩
      · have := (ordC_at hoB.out hlt).2.1; rw [h] at this; simp at this
      obtain ⟨j, u, hj, hjl, hat, hgd⟩ := ordCell hb.out hg hc hoB.out hlt
      have hvx := ctB_bd (cts_one hzB.out hjl)
      rw [← cts_getD hjl] at hvx
      have hLn : ov3 (Z.getD j ct0).col (Z.getD j ct0).cover L = aftK Z O G (k + 1) := by conv => rhs; unfold aftK; rw [hgd, ← hL.out]
      rw [hj] at c0
      have hjI : (j : Int) < (Z.length : Int) := by omega
      have hcl := hcol.out k hk
      rw [← hL.out] at hcl
      obtain ⟨x, y, z, hLe, bx, by9, bz⟩ := hcl
      obtain ⟨p, q, r, hpe, bp, bq, br⟩ := col3_of hvx.2.2
      obtain ⟨⟨s, a, b, cc⟩, hX⟩ : ∃ X, X = Z.getD j ct0 := ⟨_, rfl⟩
      rw [← hX] at hat hvx hLn hpe
      simp only at hpe hvx hLn
      subst hpe
      subst hLe
      have hinn : ∀ n ∈ [x, y, z], inI n := (col3_inn ⟨x, y, z, rfl, bx, by9, bz⟩).1
      have cS := Lib.hid (l13Over_any g (o + j * 4) _ s a b u p q r x y z bx by9 bz bp bq br hvx.2.1 wr (Nat.lt_of_lt_of_le hg hb.out.size) hat (ints_own hown.out hinn))
      have hLn' : Hid ([ovN x p b, ovN y q b, ovN z r b] = aftK Z O G (k + 1)) := Lib.hid hLn
      obtain ⟨N, hN⟩ : ∃ N, N = [ovN x p b, ovN y q b, ovN z r b] := ⟨_, rfl⟩
      rw [← hN] at cS hLn'
      obtain ⟨ua, uc, hue⟩ := ownShape hown.out
      have hun : ([x, y, z] : List Int).length = 3 := rfl
      rw [hun] at hue
      subst hue
      clear hN hX hat hvx hLn hinn hj hgd hc hc8 hL
      go_wp2_with (go_at_call 46; (with_reducible refine (cS.out).mono ?_); rintro e w9 ⟨v9, rfl, o9, b9⟩)
      have hb9 := Lib.hid (below2 hb.out b9)
      have o9' := Lib.hid (own_low o9 hb.out.size)
      clear o9 b9
      go_roundw
      case rel => exact ⟨k + 1, N, by omega, by go_num, hLn', o9', hb9⟩
      case measure => simp [intOf]; omega
    · obtain rfl : k = O.length := by omega
      have hfin : Hid (aftV Z O G = L) := Lib.hid (by rw [hV.out]; simp; exact hL.out.symm)
      go_wp2
      go_ret2
      exact rowC_mk hfin.out hC.out (Nat.le_refl _) hown.out hb.out
end Go.Proofs.YtgfhjcbmilaegaaGreatDoor
namespace Go.Proofs.YtgfhjcbmilaegaaGreatDoor
open Go.ChangeShapes Go.WideShapes Go.ChangeAt Go.RowKit Go.Deep
set_option linter.unusedVariables false
set_option linter.unusedSimpArgs false
set_option maxRecDepth 1000000
/-- the first k numbers of a mixture -/
def mixL (Z : List Ct) (P : List Int) (k : Nat) : List Int := (List.range k).map (mix1 Z P)
theorem mixL_succ (Z : List Ct) (P : List Int) (k : Nat) : mixL Z P (k + 1) = mixL Z P k ++ [mix1 Z P k] := by unfold mixL; rw [List.range_succ, List.map_append]; rfl
/-- one number of the colour of a coat, in memory -/
theorem mixCell {w wr : World} {g o : Nat} {Z : List Ct} (hb : Below w.heap.size w wr) (hg : g < w.heap.size) (hc : ∀ i (hi : i < Z.length), ∃ u, w.rangeAt g (o + i * 4) (Z[i].cells u) ∧ IntsAt w u Z[i].col) (hz : ctsB Z = true) {i : Nat} (hi : i < Z.length) :
    ∃ gc oc uc, gc < w.heap.size ∧ wr.cell? ⟨g, o + i * 4 + 3, none⟩ = some (.slice (some ⟨gc, oc, none⟩) 3 uc) ∧ ∀ k, k < 3 → wr.cell? ⟨gc, oc + k, none⟩ = some (.int .i64 ((Z.getD i ct0).col.getD k 0)) := by
  obtain ⟨u, hu, hui⟩ := hc i hi
  obtain ⟨a, b, c, e, _, _, _⟩ := col3_of (cts_col hz hi)
  rw [e] at hui
  obtain ⟨gc, oc, uc, rfl, hgc, k0, k1, k2⟩ := row3 hui
  refine ⟨gc, oc, uc, hgc, (bcell hb _ _ hg).trans (hu 3 _ rfl), fun k hk => ?_⟩
  rw [cts_getD hi, e]
  match k, hk with
  | 0, _ => exact (bcell hb _ _ hgc).trans k0
  | 1, _ => exact (bcell hb _ _ hgc).trans k1
  | 2, _ => exact (bcell hb _ _ hgc).trans k2
theorem drewBelow {a w w' : World} (h : Below a.heap.size a w) (d : DrewOf w w') : Below a.heap.size a w' := below2 h d.below
end Go.Proofs.YtgfhjcbmilaegaaGreatDoor
