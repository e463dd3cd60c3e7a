/-
  Plain lemmas on the program's readers of chapter 2: parts that are numbers of 32 bits. Nothing of the program stands here.
-/
import Derived.Test.YtjgpckocmjolmaaGreatDoorFixMath
namespace Go.Proofs.YtjgpckocmjolmaaGreatDoor
/-- a part that is a number of 32 bits -/
def pu32 (p : List UInt8) : Option Nat := match Lib.parseUintB 32 p with | .ok u => some u | _ => none
def rpAll : List (List UInt8) → Option (List Nat)
  | [] => some []
  | p :: r => match pu32 p with | none => none | some n => (rpAll r).map (n :: ·)
theorem rpAll_bad {P : List (List UInt8)} {p : List UInt8} (h : p ∈ P) (hp : pu32 p = none) : rpAll P = none := by
  induction P with
  | nil => cases h
  | cons q r ih =>
    unfold rpAll
    rcases List.mem_cons.1 h with e | e
    · rw [← e, hp]
    · cases pu32 q with
      | none => rfl
      | some n => simp only; rw [ih e]; rfl
theorem rpAll_snoc {P : List (List UInt8)} {Z : List Nat} {p : List UInt8} {n : Nat} (h : rpAll P = some Z) (hp : pu32 p = some n) : rpAll (P ++ [p]) = some (Z ++ [n]) := by
  induction P generalizing Z with
  | nil => cases h; simp [rpAll, hp]
  | cons q r ih =>
    unfold rpAll at h
    rw [List.cons_append]
    unfold rpAll
    cases hq : pu32 q with
    | none => rw [hq] at h; cases h
    | some m =>
      rw [hq] at h
      simp only at h ⊢
      cases hr : rpAll r with
      | none => rw [hr] at h; cases h
      | some Y =>
        rw [hr] at h
        rw [ih hr]
        cases h; rfl
theorem rpAll_take {P : List (List UInt8)} {k : Nat} {Z : List Nat} {n : Nat} (hk : k < P.length) (h : rpAll (P.take k) = some Z) (hp : pu32 P[k] = some n) : rpAll (P.take (k + 1)) = some (Z ++ [n]) := by
  rw [List.take_succ_eq_append_getElem hk]; exact rpAll_snoc h hp
theorem pu32_le {p : List UInt8} {n : Nat} (h : pu32 p = some n) : n ≤ 4294967295 := by
  unfold pu32 at h
  cases hp : Lib.parseUintB 32 p with
  | ok u =>
    rw [hp] at h
    have := Lib.parseUintB_le hp
    cases h; simpa using this
  | _ => rw [hp] at h; cases h
theorem pu32_ok {p : List UInt8} {n : Nat} (h : pu32 p = some n) : Lib.parseUintB 32 p = .ok n := by
  unfold pu32 at h
  cases hp : Lib.parseUintB 32 p with
  | ok u => rw [hp] at h; cases h; rfl
  | _ => rw [hp] at h; cases h
theorem pu32_no {p : List UInt8} (h : pu32 p = none) : ∀ u, Lib.parseUintB 32 p ≠ .ok u := by
  intro u hu
  unfold pu32 at h
  rw [hu] at h; cases h
theorem rpAll_le : ∀ {P : List (List UInt8)} {Z : List Nat}, rpAll P = some Z → ∀ n ∈ Z, n ≤ 4294967295
  | [], Z, h, n, hn => by cases h; cases hn
  | p :: r, Z, h, n, hn => by
    unfold rpAll at h
    cases hp : pu32 p with
    | none => rw [hp] at h; cases h
    | some m =>
      rw [hp] at h
      simp only at h
      cases hr : rpAll r with
      | none => rw [hr] at h; cases h
      | some Y =>
        rw [hr] at h
        cases h
        rcases List.mem_cons.1 hn with e | e
        · subst e; exact pu32_le hp
        · exact rpAll_le hr n e
theorem rpAll_len : ∀ {P : List (List UInt8)} {Z : List Nat}, rpAll P = some Z → Z.length = P.length
  | [], Z, h => by cases h; rfl
  | p :: r, Z, h => by
    unfold rpAll at h
    cases hp : pu32 p with
    | none => rw [hp] at h; cases h
    | some m =>
      rw [hp] at h
      simp only at h
      cases hr : rpAll r with
      | none => rw [hr] at h; cases h
      | some Y =>
        rw [hr] at h
        cases h
        rw [List.length_cons, List.length_cons, rpAll_len hr]
/-- the numbers of a text with so many parts -/
def rpL (c : UInt8) (m : Nat) (l : List UInt8) : Option (List Nat) := if (splitL c l).length = m then rpAll (splitL c l) else none
theorem parseM_dig (M : Nat) (hM : M ≤ 4294967295) (l : List UInt8) : ∀ acc, l.all db = true → valF acc l ≤ M → Lib.parseUintM M acc l = .ok (valF acc l) := by
  induction l with
  | nil => intro acc _ _; rfl
  | cons c l ih =>
    intro acc h hv
    rw [List.all_cons, Bool.and_eq_true] at h
    have hc := (db_iff c).1 h.1
    rw [valF_cons] at hv ⊢
    have g := valF_ge l (10 * acc + (c.toNat - 48))
    unfold Lib.parseUintM
    rw [if_pos hc, if_neg (by omega), if_neg (by omega)]
    have e : acc * 10 + (c.toNat - 48) = 10 * acc + (c.toNat - 48) := by omega
    rw [e]
    exact ih _ h.2 hv
theorem pu32_dig (l : List UInt8) (h0 : 0 < l.length) (h : l.all db = true) (hv : valF 0 l ≤ 4294967295) : pu32 l = some (valF 0 l) := by
  unfold pu32 Lib.parseUintB
  rw [if_neg (by intro e; subst e; simp at h0), parseM_dig _ (by decide) l 0 h (by simpa using hv)]
theorem pu32_dN (p n : Nat) (hp : 0 < p) (h : n < 10 ^ p) (hn : n ≤ 4294967295) : pu32 (dN p n) = some n := by
  have hv := dN_val p n h
  have := pu32_dig (dN p n) (by rw [dN_len]; exact hp) (dN_all p n) (by rw [hv]; exact hn)
  rw [hv] at this; exact this
theorem pu32_itoa (n : Nat) (hn : n ≤ 4294967295) : pu32 (Lib.itoa (n : Int)) = some n := by
  have hv := itoa_val n
  have := pu32_dig (Lib.itoa (n : Int)) (itoa_pos_len n) (itoa_all n) (by rw [hv]; exact hn)
  rw [hv] at this; exact this
/-! ### what the program's readers compute -/
def clockT (n : Int) : List UInt8 := if 0 ≤ n ∧ n ≤ 1439 then clockL n.toNat else []
def lapT (n : Int) : List UInt8 := if 0 ≤ n ∧ n ≤ 1000000000 then lapL n.toNat else []
/-- two parts of sixties whose text is the one that was read -/
def sixR (T : Int → List UInt8) (l : List UInt8) : Option Int :=
  match rpL 58 2 l with
  | some [a, b] => if T (60 * a + b) = l then some (60 * a + b) else none
  | _ => none
theorem rpL_two {c : UInt8} {a b : List UInt8} {l : List UInt8} {x y : Nat} (h : splitL c l = [a, b]) (ha : pu32 a = some x) (hb : pu32 b = some y) : rpL c 2 l = some [x, y] := by
  unfold rpL
  rw [h, if_pos (by rfl)]
  simp [rpAll, ha, hb]
theorem sixR_clock (l : List UInt8) : sixR clockT l = clockR l := by
  cases hr : clockR l with
  | some n =>
    obtain ⟨k, rfl, hk, e⟩ := clock_sound hr
    have h1 : rpL 58 2 l = some [k / 60, k % 60] := by
      rw [← e]
      exact rpL_two (clock_split k) (pu32_dN 2 _ (by omega) (by omega) (by omega)) (pu32_dN 2 _ (by omega) (by omega) (by omega))
    have e2 : 60 * ((k / 60 : Nat) : Int) + ((k % 60 : Nat) : Int) = (k : Int) := by omega
    unfold sixR
    rw [h1]
    simp only
    rw [e2, if_pos]
    unfold clockT
    rw [if_pos (by omega)]
    exact e
  | none =>
    unfold sixR
    split
    · rename_i a b h
      split
      · rename_i ht
        exfalso
        unfold clockT at ht
        split at ht
        · rename_i hb
          have := clock_full (60 * (a : Int) + b).toNat (by omega)
          rw [ht, hr] at this; cases this
        · rw [← ht] at h
          unfold rpL at h
          rw [show splitL 58 [] = [[]] from rfl] at h
          simp at h
      · rfl
    · rfl
theorem sixR_lap (l : List UInt8) : sixR lapT l = lapR l := by
  cases hr : lapR l with
  | some n =>
    obtain ⟨k, rfl, hk, e⟩ := lap_sound hr
    have h1 : rpL 58 2 l = some [k / 60, k % 60] := by
      rw [← e]
      exact rpL_two (lap_split k) (pu32_itoa _ (by omega)) (pu32_dN 2 _ (by omega) (by omega) (by omega))
    have e2 : 60 * ((k / 60 : Nat) : Int) + ((k % 60 : Nat) : Int) = (k : Int) := by omega
    unfold sixR
    rw [h1]
    simp only
    rw [e2, if_pos]
    unfold lapT
    rw [if_pos (by omega)]
    exact e
  | none =>
    unfold sixR
    split
    · rename_i a b h
      split
      · rename_i ht
        exfalso
        unfold lapT at ht
        split at ht
        · rename_i hb
          have := lap_full (60 * (a : Int) + b).toNat (by omega)
          rw [ht, hr] at this; cases this
        · rw [← ht] at h
          unfold rpL at h
          rw [show splitL 58 [] = [[]] from rfl] at h
          simp at h
      · rfl
    · rfl
theorem rpL_three {c : UInt8} {a b d : List UInt8} {l : List UInt8} {x y z : Nat} (h : splitL c l = [a, b, d]) (ha : pu32 a = some x) (hb : pu32 b = some y) (hd : pu32 d = some z) : rpL c 3 l = some [x, y, z] := by
  unfold rpL
  rw [h, if_pos (by rfl)]
  simp [rpAll, ha, hb, hd]
/-- the program's reader of dates -/
def dateP (l : List UInt8) : Option Int :=
  match rpL 45 3 l with
  | some [y, m, d] => if dateB y m d = true ∧ dateL y m d = l then some (numD y m d) else none
  | _ => none
theorem dateP_eq (l : List UInt8) : dateP l = dateR l := by
  cases hr : dateR l with
  | some n =>
    obtain ⟨y, m, d, hb, hn, e⟩ := date_sound hr
    obtain ⟨a1, a2, a3, a4, a5, a6⟩ := dateB_iff.1 hb
    have hbd := mlen_bd (y : Int) (m : Int)
    have h1 : rpL 45 3 l = some [y, m, d] := by
      rw [← e]
      exact rpL_three (date_split y m d) (pu32_dN 4 _ (by omega) (by omega) (by omega)) (pu32_dN 2 _ (by omega) (by omega) (by omega)) (pu32_dN 2 _ (by omega) (by omega) (by omega))
    unfold dateP
    rw [h1]
    simp only
    rw [if_pos ⟨hb, e⟩, hn]
  | none =>
    unfold dateP
    split
    · rename_i y m d h
      split
      · rename_i ht
        exfalso
        have := date_full y m d ht.1
        rw [ht.2, hr] at this; cases this
      · rfl
    · rfl
/-- numbers with places -/
def fixT (n : Int) (p : Int) : List UInt8 := if (-1000000000 ≤ n ∧ n ≤ 1000000000) ∧ (1 ≤ p ∧ p ≤ 6) then fixL n p.toNat else []
theorem opt_eq {R S : Option Int} {Q : Int → Prop} (h1 : ∀ n, R = some n → Q n) (h2 : ∀ n, Q n → R = some n) (k1 : ∀ n, S = some n → Q n) (k2 : ∀ n, Q n → S = some n) : R = S := by
  cases h : R with
  | some n => exact (k2 n (h1 n h)).symm
  | none =>
    cases k : S with
    | none => rfl
    | some n => have := h2 n (k1 n k); rw [h] at this; cases this
def sgn (l : List UInt8) : Int := if l.headD 0 = 45 then -1 else 1
/-- what the program's reader of numbers with places computes -/
def fixP (l : List UInt8) (p : Nat) : Option Int :=
  match rpL 46 2 (l.drop (atD l)) with
  | some [a, b] => if fixT (sgn l * ((a * 10 ^ p + b : Nat) : Int)) p = l then some (sgn l * ((a * 10 ^ p + b : Nat) : Int)) else none
  | _ => none
/-- what the model's reader of numbers with places computes -/
def fixS (l : List UInt8) (p : Nat) : Option Int :=
  if l.length ≤ 20 ∧ p + 2 ≤ l.length ∧ l.getD (l.length - p - 1) 0 = 46 ∧ atD l < l.length - p - 1 ∧ (piece l (atD l) (l.length - p - 1)).all db = true ∧ (piece l (l.length - p) l.length).all db = true ∧ valF 0 (piece l (atD l) (l.length - p - 1)) ≤ 1000000000 then
    (if fixT (sgn l * ((valF 0 (piece l (atD l) (l.length - p - 1)) * 10 ^ p + valF 0 (piece l (l.length - p) l.length) : Nat) : Int)) p = l then some (sgn l * ((valF 0 (piece l (atD l) (l.length - p - 1)) * 10 ^ p + valF 0 (piece l (l.length - p) l.length) : Nat) : Int)) else none)
  else none
theorem fixT_in {n p : Int} (h : fixT n p ≠ []) : (-1000000000 ≤ n ∧ n ≤ 1000000000) ∧ (1 ≤ p ∧ p ≤ 6) := by
  unfold fixT at h
  split at h
  · assumption
  · exact absurd rfl h
theorem itoa_hd (n : Nat) : (Lib.itoa (n : Int)).headD 0 ≠ 45 := by
  have h1 := itoa_pos_len n
  have h2 := itoa_all n
  cases h : Lib.itoa (n : Int) with
  | nil => rw [h] at h1; simp at h1
  | cons c r =>
    rw [h, List.all_cons, Bool.and_eq_true] at h2
    intro e
    have e' : c = 45 := e
    rw [e'] at h2
    exact absurd h2.1 (by decide)
theorem fixU_hd (n p : Nat) : (fixU n p).headD 0 ≠ 45 := by
  unfold fixU
  rw [headD_app _ _ (itoa_pos_len _)]
  exact itoa_hd _
theorem fixL_pos {n : Int} (h : 0 ≤ n) (p : Nat) : fixL n p = fixU n.natAbs p ∧ atD (fixL n p) = 0 ∧ sgn (fixL n p) = 1 := by
  have e : fixL n p = fixU n.natAbs p := by unfold fixL; rw [if_neg (by omega)]
  refine ⟨e, ?_, ?_⟩
  · rw [e]; unfold atD; rw [if_neg (fixU_hd _ _)]
  · rw [e]; unfold sgn; rw [if_neg (fixU_hd _ _)]
theorem fixL_neg {n : Int} (h : n < 0) (p : Nat) : fixL n p = 45 :: fixU n.natAbs p ∧ atD (fixL n p) = 1 ∧ sgn (fixL n p) = -1 := by
  have e : fixL n p = 45 :: fixU n.natAbs p := by unfold fixL; rw [if_pos h]
  refine ⟨e, ?_, ?_⟩
  · rw [e]; rfl
  · rw [e]; rfl
theorem fixL_drop (n : Int) (p : Nat) : (fixL n p).drop (atD (fixL n p)) = fixU n.natAbs p := by
  by_cases h : 0 ≤ n
  · obtain ⟨e1, e2, _⟩ := fixL_pos h p
    rw [e2, e1]; rfl
  · obtain ⟨e1, e2, _⟩ := fixL_neg (show n < 0 by omega) p
    rw [e2, e1]; rfl
theorem fixL_sgn (n : Int) (p : Nat) : sgn (fixL n p) * ((n.natAbs : Nat) : Int) = n := by
  by_cases h : 0 ≤ n
  · obtain ⟨_, _, e⟩ := fixL_pos h p
    rw [e]; omega
  · obtain ⟨_, _, e⟩ := fixL_neg (show n < 0 by omega) p
    rw [e]; omega
theorem fixU_ne (n p : Nat) : fixU n p ≠ [] := by unfold fixU; simp
theorem fixL_ne (n : Int) (p : Nat) : fixL n p ≠ [] := by
  unfold fixL; split
  · simp
  · exact fixU_ne _ _
theorem fixT_full {n : Int} {p : Nat} (h : -1000000000 ≤ n ∧ n ≤ 1000000000) (hp : 1 ≤ p ∧ p ≤ 6) : fixT n p = fixL n p := by
  unfold fixT; rw [if_pos ⟨h, by omega⟩]; rfl
theorem pow_ten_le {p : Nat} (hp : p ≤ 6) : 10 ^ p ≤ 1000000 := by
  have := Nat.pow_le_pow_right (n := 10) (by omega) hp
  omega
theorem divmod_ten (n p : Nat) : n / 10 ^ p * 10 ^ p + n % 10 ^ p = n := by
  have := Nat.div_add_mod n (10 ^ p)
  rw [Nat.mul_comm] at this; exact this
theorem fixP_sound {l : List UInt8} {p : Nat} {n : Int} (h : fixP l p = some n) : fixT n p = l ∧ l ≠ [] := by
  unfold fixP at h
  split at h
  · rename_i a b hr
    split at h
    · rename_i ht
      cases h
      refine ⟨ht, fun e => ?_⟩
      subst e
      unfold rpL at hr
      rw [show splitL 46 (List.drop (atD []) []) = [[]] from rfl] at hr
      simp at hr
    · cases h
  · cases h
theorem fixP_full {l : List UInt8} {p : Nat} {n : Int} (h : fixT n p = l ∧ l ≠ []) : fixP l p = some n := by
  obtain ⟨ht, hne⟩ := h
  have hb := fixT_in (n := n) (p := p) (by rw [ht]; exact hne)
  have hp : 1 ≤ p ∧ p ≤ 6 := by omega
  rw [fixT_full hb.1 hp] at ht
  have h10 := Nat.pow_pos (n := p) (show 0 < 10 by omega)
  have h6 := pow_ten_le hp.2
  have hm := Nat.mod_lt n.natAbs h10
  have hd := Nat.div_le_self n.natAbs (10 ^ p)
  have h1 : rpL 46 2 (l.drop (atD l)) = some [n.natAbs / 10 ^ p, n.natAbs % 10 ^ p] := by
    rw [← ht, fixL_drop]
    exact rpL_two (fix_split _ _) (pu32_itoa _ (by omega)) (pu32_dN p _ (by omega) hm (by omega))
  have h2 : sgn l * (((n.natAbs / 10 ^ p) * 10 ^ p + n.natAbs % 10 ^ p : Nat) : Int) = n := by
    rw [divmod_ten, ← ht, fixL_sgn]
  unfold fixP
  rw [h1]
  simp only
  rw [h2, fixT_full hb.1 hp, if_pos ht]
theorem fixS_sound {l : List UInt8} {p : Nat} {n : Int} (h : fixS l p = some n) : fixT n p = l ∧ l ≠ [] := by
  unfold fixS at h
  split at h
  · rename_i hc
    split at h
    · rename_i ht
      cases h
      refine ⟨ht, fun e => ?_⟩
      subst e
      simp at hc
    · cases h
  · cases h
theorem fixU_len (m p : Nat) : (fixU m p).length = (Lib.itoa ((m / 10 ^ p : Nat) : Int)).length + 1 + p := by
  unfold fixU; rw [List.length_append, List.length_cons, dN_len]; omega
/-- a text A in front of digits, a point and places -/
theorem fix_pieces (A : List UInt8) (q r p : Nat) (l : List UInt8) (hl : l = A ++ (Lib.itoa (q : Int) ++ 46 :: dN p r)) :
    l.length - p - 1 = A.length + (Lib.itoa (q : Int)).length ∧ l.length = A.length + (Lib.itoa (q : Int)).length + 1 + p ∧ l.getD (l.length - p - 1) 0 = 46 ∧ piece l A.length (l.length - p - 1) = Lib.itoa (q : Int) ∧ piece l (l.length - p) l.length = dN p r := by
  have e0 : l.length = A.length + (Lib.itoa (q : Int)).length + 1 + p := by rw [hl]; simp [dN_len]; omega
  have e1 : l.length - p - 1 = A.length + (Lib.itoa (q : Int)).length := by omega
  refine ⟨e1, e0, ?_, ?_, ?_⟩
  · rw [e1]
    have : l = (A ++ Lib.itoa (q : Int)) ++ 46 :: dN p r := by rw [hl]; simp
    rw [this]
    exact getD_at _ _ _ _ (by simp)
  · rw [e1, hl]
    exact piece_mid A (Lib.itoa (q : Int)) (46 :: dN p r) A.length _ rfl rfl
  · have e2 : l.length - p = A.length + (Lib.itoa (q : Int)).length + 1 := by omega
    have : l = (A ++ Lib.itoa (q : Int) ++ [46]) ++ (dN p r ++ []) := by rw [hl]; simp
    rw [e2, e0]
    conv => lhs; rw [this]
    exact piece_mid _ _ _ _ _ (by simp; omega) (by rw [dN_len])
theorem fixL_form (n : Int) (p : Nat) : ∃ A : List UInt8, A.length = atD (fixL n p) ∧ A.length ≤ 1 ∧ fixL n p = A ++ (Lib.itoa ((n.natAbs / 10 ^ p : Nat) : Int) ++ 46 :: dN p (n.natAbs % 10 ^ p)) := by
  by_cases h : 0 ≤ n
  · obtain ⟨e1, e2, _⟩ := fixL_pos h p
    exact ⟨[], by rw [e2]; rfl, by simp, by rw [e1]; rfl⟩
  · obtain ⟨e1, e2, _⟩ := fixL_neg (show n < 0 by omega) p
    exact ⟨[45], by rw [e2]; rfl, by simp, by rw [e1]; rfl⟩
theorem fixS_full {l : List UInt8} {p : Nat} {n : Int} (h : fixT n p = l ∧ l ≠ []) : fixS l p = some n := by
  obtain ⟨ht, hne⟩ := h
  have hb := fixT_in (n := n) (p := p) (by rw [ht]; exact hne)
  have hp : 1 ≤ p ∧ p ≤ 6 := by omega
  have ht' := ht
  rw [fixT_full hb.1 hp] at ht
  have h10 := Nat.pow_pos (n := p) (show 0 < 10 by omega)
  have h6 := pow_ten_le hp.2
  have hm := Nat.mod_lt n.natAbs h10
  have hd := Nat.div_le_self n.natAbs (10 ^ p)
  obtain ⟨A, hA, hA1, hl⟩ := fixL_form n p
  rw [ht] at hA hl
  obtain ⟨c1, c2, c3, c4, c5⟩ := fix_pieces A _ _ p l hl
  have c6 := itoa_len_le 9 (n.natAbs / 10 ^ p) (by omega)
  have c7 := itoa_pos_len (n.natAbs / 10 ^ p)
  have c8 := itoa_val (n.natAbs / 10 ^ p)
  have c9 := dN_val p (n.natAbs % 10 ^ p) hm
  rw [hA] at c4
  unfold fixS
  rw [c4, c5, c8, c9, divmod_ten]
  have hs : sgn l * ((n.natAbs : Nat) : Int) = n := by rw [← ht, fixL_sgn]
  rw [hs, if_pos, if_pos ht']
  exact ⟨by omega, by omega, c3, by omega, itoa_all _, dN_all _ _, by omega⟩
theorem fixP_eq (l : List UInt8) (p : Nat) : fixP l p = fixS l p :=
  opt_eq (Q := fun n => fixT n p = l ∧ l ≠ []) (fun _ h => fixP_sound h) (fun _ h => fixP_full h) (fun _ h => fixS_sound h) (fun _ h => fixS_full h)
/-! ### lengths -/
def mmL : List UInt8 := [32, 109, 109]
def lenT (n : Int) : List UInt8 := if 0 ≤ n ∧ n ≤ 1000000000 then fixL n 1 ++ mmL else []
def lenS (l : List UInt8) : Option Int :=
  if 4 ≤ l.length ∧ l.drop (l.length - 3) = mmL then
    (match fixS (l.take (l.length - 3)) 1 with
      | some n => if 0 ≤ n ∧ n ≤ 1000000000 then some n else none
      | none => none)
  else none
def lenP (l : List UInt8) : Option Int :=
  match fixS (Lib.trimSuffix l mmL) 1 with
  | some n => if lenT n = l then some n else none
  | none => none
theorem trim_mm (l : List UInt8) : Lib.trimSuffix (l ++ mmL) mmL = l := by
  unfold Lib.trimSuffix
  rw [if_pos]
  · rw [List.length_append, Nat.add_sub_cancel, List.take_left']; rfl
  · unfold Lib.hasSuffix
    simp
theorem lenT_ne {n : Int} (h : 0 ≤ n ∧ n ≤ 1000000000) : lenT n = fixL n 1 ++ mmL := by unfold lenT; rw [if_pos h]
theorem lenP_eq (l : List UInt8) : lenP l = lenS l := by
  refine opt_eq (Q := fun n => lenT n = l ∧ l ≠ []) ?_ ?_ ?_ ?_
  · intro n h
    unfold lenP at h
    split at h
    · rename_i m hm
      split at h
      · rename_i ht
        cases h
        refine ⟨ht, fun e => ?_⟩
        subst e
        exact absurd (fixS_sound hm).2 (by decide)
      · cases h
    · cases h
  · intro n h
    obtain ⟨ht, hne⟩ := h
    have hb : 0 ≤ n ∧ n ≤ 1000000000 := by
      unfold lenT at ht
      split at ht
      · assumption
      · exact absurd ht.symm hne
    have ht2 := ht
    rw [lenT_ne hb] at ht2
    have hf : fixS (Lib.trimSuffix l mmL) 1 = some n := by
      rw [← ht2, trim_mm]
      exact fixS_full ⟨fixT_full (p := 1) (by omega) (by omega), fixL_ne _ _⟩
    unfold lenP
    rw [hf]
    simp only
    rw [if_pos ht]
  · intro n h
    unfold lenS at h
    split at h
    · rename_i hc
      split at h
      · rename_i m hm
        split at h
        · rename_i hb
          cases h
          obtain ⟨h1, h2⟩ := fixS_sound hm
          refine ⟨?_, by intro e; subst e; simp at hc⟩
          rw [lenT_ne hb]
          rw [fixT_full (p := 1) (by omega) (by omega)] at h1
          rw [h1, ← hc.2, List.take_append_drop]
        · cases h
      · cases h
    · cases h
  · intro n h
    obtain ⟨ht, hne⟩ := h
    have hb : 0 ≤ n ∧ n ≤ 1000000000 := by
      unfold lenT at ht
      split at ht
      · assumption
      · exact absurd ht.symm hne
    have ht2 := ht
    rw [lenT_ne hb] at ht2
    have hl : l.length - 3 = (fixL n 1).length := by rw [← ht2, List.length_append]; rfl
    have h1 : l.take (l.length - 3) = fixL n 1 := by rw [hl, ← ht2, List.take_left']; rfl
    have h2 : l.drop (l.length - 3) = mmL := by rw [hl, ← ht2, List.drop_left']; rfl
    have h3 : 4 ≤ l.length := by
      have : 0 < (fixL n 1).length := List.length_pos_iff.2 (fixL_ne n 1)
      omega
    have hf : fixS (l.take (l.length - 3)) 1 = some n := by
      rw [h1]; exact fixS_full ⟨fixT_full (p := 1) (by omega) (by omega), fixL_ne _ _⟩
    unfold lenS
    rw [if_pos ⟨h3, h2⟩, hf]
    simp only
    rw [if_pos hb]
end Go.Proofs.YtjgpckocmjolmaaGreatDoor
