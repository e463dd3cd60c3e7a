/-
  Plain lemmas on reading decimal texts. Nothing of the program stands here.
-/
import Derived.Test.YtcgmpomhklhmaaaDoorDigMath
import Derived.Lib.ParseIntBCases
import Derived.Lib.Strings
namespace Go.Proofs.YtcgmpomhklhmaaaDoor
def valF (acc : Nat) (l : List UInt8) : Nat := l.foldl (fun n c => 10 * n + (c.toNat - 48)) acc
theorem valF_nil (acc : Nat) : valF acc [] = acc := rfl
theorem valF_cons (acc : Nat) (c : UInt8) (l : List UInt8) : valF acc (c :: l) = valF (10 * acc + (c.toNat - 48)) l := by unfold valF; rw [List.foldl_cons]
theorem valF_snoc (acc : Nat) (l : List UInt8) (c : UInt8) : valF acc (l ++ [c]) = 10 * valF acc l + (c.toNat - 48) := by unfold valF; rw [List.foldl_append]; rfl
theorem db_iff (c : UInt8) : db c = true ↔ 48 ≤ c.toNat ∧ c.toNat ≤ 57 := by unfold db; rw [inB_iff]; omega
theorem valF_ge (l : List UInt8) : ∀ acc, acc ≤ valF acc l := by
  induction l with
  | nil => intro acc; exact Nat.le_refl _
  | cons c l ih => intro acc; rw [valF_cons]; have := ih (10 * acc + (c.toNat - 48)); omega
theorem valF_lt (l : List UInt8) (h : l.all db = true) : ∀ acc, valF acc l < (acc + 1) * 10 ^ l.length := by
  induction l with
  | nil => intro acc; rw [valF_nil]; simp
  | cons c l ih =>
    intro acc
    rw [List.all_cons, Bool.and_eq_true] at h
    have hc := (db_iff c).1 h.1
    rw [valF_cons]
    refine Nat.lt_of_lt_of_le (ih h.2 _) ?_
    rw [List.length_cons, Nat.pow_succ, Nat.mul_comm (10 ^ l.length) 10, ← Nat.mul_assoc]
    exact Nat.mul_le_mul_right _ (by omega)
theorem val_lt18 (l : List UInt8) (h : l.all db = true) (hl : l.length ≤ 18) : valF 0 l < 1000000000000000000 := by
  have h1 := valF_lt l h 0
  have h2 : 10 ^ l.length ≤ 10 ^ 18 := Nat.pow_le_pow_right (by omega) hl
  simp only [Nat.zero_add, Nat.one_mul] at h1
  omega
theorem digit_back (c : UInt8) (h : db c = true) : UInt8.ofNat (48 + (c.toNat - 48)) = c := by
  have := (db_iff c).1 h
  apply UInt8.toNat_inj.1
  rw [UInt8.toNat_ofNat']
  have := c.toNat_lt
  omega
theorem digs_val (n : Nat) : valF 0 (digsN n) = n := by
  induction n using Nat.strongRecOn with
  | _ n ih =>
    by_cases h : n = 0
    · subst h; rw [digsN_zero]; rfl
    · rw [digsN_pos n (by omega), valF_snoc, ih (n / 10) (by omega), UInt8.toNat_ofNat']; omega
theorem digs_all (n : Nat) : (digsN n).all db = true := by
  induction n using Nat.strongRecOn with
  | _ n ih =>
    by_cases h : n = 0
    · subst h; rw [digsN_zero]; rfl
    · rw [digsN_pos n (by omega), List.all_append, ih (n / 10) (by omega)]
      have : db (UInt8.ofNat (48 + n % 10)) = true := by rw [db_iff, UInt8.toNat_ofNat']; omega
      rw [List.all_cons, List.all_nil, this]; rfl
theorem headD_app (l m : List UInt8) (h : 0 < l.length) : (l ++ m).headD 0 = l.headD 0 := by
  cases l with
  | nil => simp at h
  | cons a t => rfl
theorem digs_head (n : Nat) (h : 0 < n) : (digsN n).headD 0 ≠ 48 := by
  induction n using Nat.strongRecOn with
  | _ n ih =>
    rw [digsN_pos n h]
    by_cases h1 : n / 10 = 0
    · rw [h1, digsN_zero]
      show UInt8.ofNat (48 + n % 10) ≠ 48
      intro e
      have e2 := congrArg UInt8.toNat e
      rw [UInt8.toNat_ofNat'] at e2
      have : (48 : UInt8).toNat = 48 := rfl
      omega
    · rw [headD_app _ _ (digsN_ne _ (by omega))]
      exact ih (n / 10) (by omega) (by omega)
theorem val_digs : ∀ (k : Nat) (b : List UInt8), b.length = k → b.all db = true → 0 < b.length → b.headD 0 ≠ 48 → digsN (valF 0 b) = b ∧ 0 < valF 0 b
  | 0, b, hk, _, hp, _ => by omega
  | k + 1, b, hk, ha, hp, hh => by
    obtain ⟨t, c, rfl⟩ : ∃ t c, b = t ++ [c] := ⟨b.dropLast, b.getLast (by intro e; subst e; simp at hp), (List.dropLast_concat_getLast _).symm⟩
    rw [List.all_append, Bool.and_eq_true] at ha
    have hc : db c = true := by simpa using ha.2
    have hcn := (db_iff c).1 hc
    rw [valF_snoc]
    by_cases ht : t.length = 0
    · have : t = [] := List.eq_nil_of_length_eq_zero ht
      subst this
      have hne : c ≠ 48 := hh
      have hne' : c.toNat ≠ 48 := fun e => hne (UInt8.toNat_inj.1 e)
      refine ⟨?_, by rw [valF_nil]; omega⟩
      rw [valF_nil, digsN_pos _ (by omega)]
      have e1 : (10 * 0 + (c.toNat - 48)) / 10 = 0 := by omega
      have e2 : (10 * 0 + (c.toNat - 48)) % 10 = c.toNat - 48 := by omega
      rw [e1, e2, digsN_zero, digit_back c hc]
    · rw [headD_app _ _ (by omega)] at hh
      have hlen : t.length = k := by simp at hk; exact hk
      obtain ⟨h1, h2⟩ := val_digs k t hlen ha.1 (by omega) hh
      refine ⟨?_, by omega⟩
      rw [digsN_pos _ (by omega)]
      have e1 : (10 * valF 0 t + (c.toNat - 48)) / 10 = valF 0 t := by omega
      have e2 : (10 * valF 0 t + (c.toNat - 48)) % 10 = c.toNat - 48 := by omega
      rw [e1, e2, h1, digit_back c hc]

def atD (l : List UInt8) : Nat := if l.headD 0 = 45 then 1 else 0
def badD (l : List UInt8) : Prop := (l.drop (atD l)).length = 0 ∨ 18 < (l.drop (atD l)).length ∨ ((l.drop (atD l)).headD 0 = 48 ∧ 1 < l.length) ∨ (l.drop (atD l)).all db = false
instance (l : List UInt8) : Decidable (badD l) := by unfold badD; infer_instance
/-- the number with a decimal form -/
def readD (l : List UInt8) : Option Int := if badD l then none else some (if l.headD 0 = 45 then -(valF 0 (l.drop (atD l)) : Int) else (valF 0 (l.drop (atD l)) : Int))
theorem readD_bad {l : List UInt8} (h : badD l) : readD l = none := by unfold readD; rw [if_pos h]

theorem parseM_digits (l : List UInt8) : ∀ acc, l.all db = true → valF acc l < 1000000000000000000 → Lib.parseUintM (2 ^ 64 - 1) acc l = .ok (valF acc l) := by
  induction l with
  | nil => intro acc _ _; rfl
  | cons c l ih =>
    intro acc h hv
    rw [List.all_cons, Bool.and_eq_true] at h
    have hc := (db_iff c).1 h.1
    rw [valF_cons] at hv ⊢
    have g := valF_ge l (10 * acc + (c.toNat - 48))
    unfold Lib.parseUintM
    rw [if_pos hc, if_neg (by omega), if_neg (by omega)]
    have e : acc * 10 + (c.toNat - 48) = 10 * acc + (c.toNat - 48) := by omega
    rw [e]
    exact ih _ h.2 hv
theorem parseU_digits (l : List UInt8) (h0 : 0 < l.length) (h : l.all db = true) (hl : l.length ≤ 18) : Lib.parseUintB 64 l = .ok (valF 0 l) := by
  unfold Lib.parseUintB
  rw [if_neg (by intro e; subst e; simp at h0)]
  exact parseM_digits l 0 h (val_lt18 l h hl)

/-- what is read has this text, and the library reads it alike -/
theorem readD_some {l : List UInt8} {n : Int} (h : readD l = some n) : Lib.itoa n = l ∧ Lib.parseIntB 64 l = .ok n := by
  unfold readD at h
  split at h
  · cases h
  · rename_i hb
    have hb' := hb
    unfold badD at hb'
    simp only [not_or, Nat.not_lt] at hb'
    obtain ⟨b1, b2, b3, b4⟩ := hb'
    have ha : (l.drop (atD l)).all db = true := by simpa using b4
    have hv := val_lt18 _ ha b2
    by_cases hneg : l.headD 0 = 45
    · rw [if_pos hneg] at h
      have hat : atD l = 1 := by unfold atD; rw [if_pos hneg]
      rw [hat] at h b1 b2 b3 ha hv
      cases l with
      | nil => simp at b1
      | cons c r =>
        have hc : c = 45 := hneg
        subst hc
        simp only [List.drop_succ_cons, List.drop_zero] at h b1 b2 b3 ha hv
        have hh : r.headD 0 ≠ 48 := fun e => b3 ⟨e, by simp only [List.length_cons]; omega⟩
        obtain ⟨d1, d2⟩ := val_digs _ r rfl ha (by omega) hh
        cases h
        refine ⟨?_, ?_⟩
        · rw [itoa_negp _ d2, d1]
        · rw [Lib.parseIntB_minus, parseU_digits r (by omega) ha b2]
          unfold Lib.signedC
          simp only
          rw [if_neg (by omega)]
    · rw [if_neg hneg] at h
      have hat : atD l = 0 := by unfold atD; rw [if_neg hneg]
      rw [hat, List.drop_zero] at h b1 b2 b3 ha hv
      cases h
      have hp : Lib.parseIntB 64 l = .ok (valF 0 l : Int) := by
        cases l with
        | nil => simp at b1
        | cons c r =>
          have hcd : db c = true := by rw [List.all_cons, Bool.and_eq_true] at ha; exact ha.1
          have hcn := (db_iff c).1 hcd
          rw [Lib.parseIntB_plain 64 c r (by omega) (by omega), parseU_digits (c :: r) (by simp) ha b2]
          unfold Lib.signlessC
          simp only
          rw [if_neg (by omega)]
      refine ⟨?_, hp⟩
      by_cases hh : l.headD 0 = 48
      · have hl1 : l.length = 1 := by
          have : ¬ 1 < l.length := fun e => b3 ⟨hh, e⟩
          omega
        obtain ⟨c, rfl⟩ := List.length_eq_one_iff.1 hl1
        have hc : c = 48 := hh
        subst hc
        exact itoa_zero
      · obtain ⟨d1, d2⟩ := val_digs _ l rfl ha (by omega) hh
        rw [itoa_pos _ d2, d1]
theorem itoa_parts (n : Int) : (Lib.itoa n).headD 0 = 45 ∧ n < 0 ∧ (Lib.itoa n) = 45 :: digsN n.natAbs ∨ 0 ≤ n ∧ (Lib.itoa n).headD 0 ≠ 45 := by
  rcases Int.lt_trichotomy n 0 with h | h | h
  · left
    obtain ⟨N, rfl⟩ : ∃ N : Nat, n = -(N : Int) := ⟨n.natAbs, by omega⟩
    rw [itoa_negp N (by omega), Int.natAbs_neg, Int.natAbs_natCast]
    exact ⟨rfl, h, rfl⟩
  · right; subst h; rw [itoa_zero]; exact ⟨by omega, by decide⟩
  · right
    obtain ⟨N, rfl⟩ := Int.eq_ofNat_of_zero_le (Int.le_of_lt h)
    refine ⟨by omega, ?_⟩
    rw [itoa_pos N (by omega)]
    have ha := digs_all N
    have hp := digsN_ne N (by omega)
    cases e : digsN N with
    | nil => rw [e] at hp; simp at hp
    | cons c r =>
      rw [e, List.all_cons, Bool.and_eq_true] at ha
      have := (db_iff c).1 ha.1
      show c ≠ 45
      intro h45; subst h45
      have : (45 : UInt8).toNat = 45 := rfl
      omega
/-- a decimal text that is not too long is read -/
theorem readD_itoa (n : Int) (hl : ((Lib.itoa n).drop (atD (Lib.itoa n))).length ≤ 18) : readD (Lib.itoa n) = some n := by
  rcases itoa_parts n with ⟨hh, hn, e⟩ | ⟨hn, hh⟩
  · have hat : atD (Lib.itoa n) = 1 := by unfold atD; rw [if_pos hh]
    have hN : 0 < n.natAbs := by omega
    have hd : (Lib.itoa n).drop (atD (Lib.itoa n)) = digsN n.natAbs := by rw [hat, e]; rfl
    unfold readD
    rw [if_neg, if_pos hh, hd, digs_val]
    · congr 1; omega
    · unfold badD
      rw [hd] at hl ⊢
      have h1 := digsN_ne n.natAbs hN
      have h2 := digs_head n.natAbs hN
      have h3 := digs_all n.natAbs
      simp only [not_or, Nat.not_lt]
      refine ⟨by omega, hl, fun h => h2 h.1, by rw [h3]; decide⟩
  · have hat : atD (Lib.itoa n) = 0 := by unfold atD; rw [if_neg hh]
    rw [hat, List.drop_zero] at hl
    unfold readD
    rw [if_neg, if_neg hh, hat, List.drop_zero]
    · rcases Int.lt_or_eq_of_le hn with h | h
      · obtain ⟨N, rfl⟩ := Int.eq_ofNat_of_zero_le hn
        rw [itoa_pos N (by omega), digs_val]
      · rw [← h, itoa_zero]; rfl
    · unfold badD
      rw [hat, List.drop_zero]
      rcases Int.lt_or_eq_of_le hn with h | h
      · obtain ⟨N, rfl⟩ := Int.eq_ofNat_of_zero_le hn
        rw [itoa_pos N (by omega)] at hl ⊢
        have h1 := digsN_ne N (by omega)
        have h2 := digs_head N (by omega)
        have h3 := digs_all N
        simp only [not_or, Nat.not_lt]
        refine ⟨by omega, hl, fun h => h2 h.1, by rw [h3]; decide⟩
      · rw [← h, itoa_zero]; decide
theorem trim_at (l : List UInt8) : Lib.trimPrefix l [45] = l.drop (atD l) := by
  unfold Lib.trimPrefix Lib.hasPrefix atD
  cases l with
  | nil => rfl
  | cons c r =>
    by_cases h : c = 45
    · subst h; simp
    · have : ([45] : List UInt8).isPrefixOf (c :: r) = false := by simp [List.isPrefixOf]; exact fun e => h e.symm
      simp [this, h]
end Go.Proofs.YtcgmpomhklhmaaaDoor
