/-
  Texts that stand together: DateMath, TextMath, FixMath, PlankRM, Month, Nam9.
-/
import Derived.Lib.IndexMore
import Derived.Deep.RegionHeld3
import Derived.Test.YtgfhjcbmilaegaaGreatDoorMg3
import Derived.Test.YtgfhjcbmilaegaaGreatDoorMg12
import Derived.Test.YtgfhjcbmilaegaaGreatDoorMg13
import Derived.Test.YtgfhjcbmilaegaaGreatDoorMg14
namespace Go.Proofs.YtgfhjcbmilaegaaGreatDoor
def leapN (y : Int) : Bool := decide (y % 4 = 0)
def ylen (y : Int) : Int := if leapN y = true then 366 else 365
def mlen (y m : Int) : Int := if m = 2 then (if leapN y = true then 29 else 28) else if m = 4 ∨ m = 6 ∨ m = 9 ∨ m = 11 then 30 else 31
def dby (y : Int) : Int := 365 * (y - 2000) + (y - 1997) / 4
def cum0 (m : Int) : Int := if m ≤ 1 then 0 else if m = 2 then 31 else if m = 3 then 59 else if m = 4 then 90 else if m = 5 then 120 else if m = 6 then 151 else if m = 7 then 181 else if m = 8 then 212 else if m = 9 then 243 else if m = 10 then 273 else if m = 11 then 304 else if m = 12 then 334 else 365
def cum (y m : Int) : Int := cum0 m + if leapN y = true ∧ 2 < m then 1 else 0
def numD (y m d : Int) : Int := dby y + cum y m + (d - 1)
/-- is this a date of the calendar? -/
def dateB (y m d : Int) : Bool := decide (2000 ≤ y) && decide (y ≤ 2099) && decide (1 ≤ m) && decide (m ≤ 12) && decide (1 ≤ d) && decide (d ≤ mlen y m)
theorem dateB_iff {y m d : Int} : dateB y m d = true ↔ 2000 ≤ y ∧ y ≤ 2099 ∧ 1 ≤ m ∧ m ≤ 12 ∧ 1 ≤ d ∧ d ≤ mlen y m := by
  unfold dateB; simp; constructor
  · rintro ⟨⟨⟨⟨⟨a, b⟩, c⟩, d⟩, e⟩, f⟩; exact ⟨a, b, c, d, e, f⟩
  · rintro ⟨a, b, c, d, e, f⟩; exact ⟨⟨⟨⟨⟨a, b⟩, c⟩, d⟩, e⟩, f⟩
theorem months {m : Int} (h1 : 1 ≤ m) (h2 : m ≤ 12) : m = 1 ∨ m = 2 ∨ m = 3 ∨ m = 4 ∨ m = 5 ∨ m = 6 ∨ m = 7 ∨ m = 8 ∨ m = 9 ∨ m = 10 ∨ m = 11 ∨ m = 12 := by omega
theorem ylen_bd (y : Int) : 365 ≤ ylen y ∧ ylen y ≤ 366 := by unfold ylen; split <;> omega
theorem mlen_bd (y m : Int) : 28 ≤ mlen y m ∧ mlen y m ≤ 31 := by
  unfold mlen
  split
  · split <;> omega
  · split <;> omega
theorem dby_zero : dby 2000 = 0 := by decide
theorem dby_succ (y : Int) : dby (y + 1) = dby y + ylen y := by
  unfold dby ylen leapN
  by_cases h : y % 4 = 0
  · simp [h]; omega
  · simp [h]; omega
theorem dby_mono {y z : Int} (h : y ≤ z) : dby y ≤ dby z := by unfold dby; omega
theorem dby_bd {y : Int} (h0 : 2000 ≤ y) (h1 : y ≤ 2100) : 0 ≤ dby y ∧ dby y ≤ 36525 := by unfold dby; omega
theorem dby_end : dby 2100 = 36525 := by decide
theorem dby_year {y : Int} (h : dby y ≤ 36524) : y ≤ 2099 := by unfold dby at h; omega
theorem cum_one (y : Int) : cum y 1 = 0 := by unfold cum cum0; simp
theorem cum_succ (y m : Int) (h1 : 1 ≤ m) (h2 : m ≤ 12) : cum y (m + 1) = cum y m + mlen y m := by
  unfold cum mlen
  rcases months h1 h2 with rfl | rfl | rfl | rfl | rfl | rfl | rfl | rfl | rfl | rfl | rfl | rfl <;> cases leapN y <;> simp [cum0]
theorem cum_end (y : Int) : cum y 13 = ylen y := by unfold cum ylen; cases leapN y <;> simp [cum0]
theorem cum_le (y m : Int) (k : Nat) (h1 : 1 ≤ m) (h2 : m + k ≤ 13) : cum y m + 28 * k ≤ cum y (m + k) := by
  induction k with
  | zero => simp
  | succ k ih =>
    have := ih (by omega)
    have h := cum_succ y (m + k) (by omega) (by omega)
    have hb := mlen_bd y (m + k)
    rw [show m + ((k + 1 : Nat) : Int) = m + k + 1 by omega, h]; omega
theorem cum_mono {y m m' : Int} (h1 : 1 ≤ m) (h : m ≤ m') (h2 : m' ≤ 13) : cum y m ≤ cum y m' := by
  obtain ⟨k, rfl⟩ : ∃ k : Nat, m' = m + k := ⟨(m' - m).toNat, by omega⟩
  have := cum_le y m k h1 h2; omega
theorem cum_bd {y m : Int} (h1 : 1 ≤ m) (h2 : m ≤ 13) : 0 ≤ cum y m ∧ cum y m ≤ 366 := by
  have a := cum_mono (y := y) (m := 1) (by omega) h1 h2
  have b := cum_mono (y := y) h1 h2 (by omega)
  have c := ylen_bd y
  rw [cum_one] at a; rw [cum_end] at b; omega
theorem num_bd {y m d : Int} (h : dateB y m d = true) : 0 ≤ numD y m d ∧ numD y m d ≤ 36524 ∧ dby y ≤ numD y m d ∧ numD y m d < dby (y + 1) := by
  obtain ⟨a, b, c, e, f, g⟩ := dateB_iff.1 h
  have h1 := cum_succ y m c e
  have h2 := cum_mono (y := y) (m := m + 1) (m' := 13) (by omega) (by omega) (by omega)
  have h3 := cum_bd (y := y) c (by omega)
  have h4 := dby_succ y
  have h5 := dby_mono (y := y + 1) (z := 2100) (by omega)
  have h6 := dby_bd a (by omega)
  rw [dby_end] at h5; rw [cum_end] at h2
  unfold numD; omega
theorem num_inj {y m d y' m' d' : Int} (h : dateB y m d = true) (h' : dateB y' m' d' = true) (e : numD y m d = numD y' m' d') : y = y' ∧ m = m' ∧ d = d' := by
  have b := num_bd h
  have b' := num_bd h'
  obtain ⟨a1, a2, a3, a4, a5, a6⟩ := dateB_iff.1 h
  obtain ⟨c1, c2, c3, c4, c5, c6⟩ := dateB_iff.1 h'
  have hy : y = y' := by
    rcases Int.lt_trichotomy y y' with l | l | l
    · have := dby_mono (y := y + 1) (z := y') (by omega); omega
    · exact l
    · have := dby_mono (y := y' + 1) (z := y) (by omega); omega
  subst hy
  have k1 := cum_succ y m a3 a4
  have k2 := cum_succ y m' c3 c4
  unfold numD at e
  have hm : m = m' := by
    rcases Int.lt_trichotomy m m' with l | l | l
    · have := cum_mono (y := y) (m := m + 1) (m' := m') (by omega) (by omega) (by omega); omega
    · exact l
    · have := cum_mono (y := y) (m := m' + 1) (m' := m) (by omega) (by omega) (by omega); omega
  subst hm
  exact ⟨rfl, rfl, by omega⟩
theorem date_next {y m d : Int} (h : dateB y m d = true) (hl : numD y m d < 36524) : ∃ y' m' d', dateB y' m' d' = true ∧ numD y' m' d' = numD y m d + 1 := by
  have b := num_bd h
  obtain ⟨a1, a2, a3, a4, a5, a6⟩ := dateB_iff.1 h
  have k := cum_succ y m a3 a4
  by_cases hd : d < mlen y m
  · exact ⟨y, m, d + 1, dateB_iff.2 ⟨a1, a2, a3, a4, by omega, by omega⟩, by unfold numD; omega⟩
  by_cases hm : m < 12
  · have q := mlen_bd y (m + 1)
    exact ⟨y, m + 1, 1, dateB_iff.2 ⟨a1, a2, by omega, by omega, by omega, by omega⟩, by unfold numD; omega⟩
  have hm' : m = 12 := by omega
  subst hm'
  have ce := cum_end y
  have ds := dby_succ y
  have k' : cum y 13 = cum y 12 + mlen y 12 := k
  have e : numD y 12 d + 1 = dby (y + 1) := by unfold numD; omega
  have hy : y + 1 ≤ 2099 := dby_year (by omega)
  have q := mlen_bd (y + 1) 1
  have c1 := cum_one (y + 1)
  exact ⟨y + 1, 1, 1, dateB_iff.2 ⟨by omega, by omega, by omega, by omega, by omega, by omega⟩, by rw [e]; unfold numD; omega⟩
theorem date_ex : ∀ k : Nat, k ≤ 36524 → ∃ y m d, dateB y m d = true ∧ numD y m d = (k : Int)
  | 0, _ => ⟨2000, 1, 1, by decide, by decide⟩
  | k + 1, h => by
    obtain ⟨y, m, d, hb, hn⟩ := date_ex k (by omega)
    obtain ⟨y', m', d', hb', hn'⟩ := date_next hb (by omega)
    exact ⟨y', m', d', hb', by rw [hn', hn]; omega⟩
open Classical in
/-- the date of a day -/
noncomputable def dateN (day : Int) : Int × Int × Int := if h : ∃ p : Int × Int × Int, dateB p.1 p.2.1 p.2.2 = true ∧ numD p.1 p.2.1 p.2.2 = day then Classical.choose h else (0, 0, 0)
theorem dateN_of {y m d day : Int} (h : dateB y m d = true) (e : numD y m d = day) : dateN day = (y, m, d) := by
  have hx : ∃ p : Int × Int × Int, dateB p.1 p.2.1 p.2.2 = true ∧ numD p.1 p.2.1 p.2.2 = day := ⟨(y, m, d), h, e⟩
  have hs := Classical.choose_spec hx
  unfold dateN; rw [dif_pos hx]
  obtain ⟨a, b, c⟩ := num_inj hs.1 h (hs.2.trans e.symm)
  rw [Prod.ext_iff, Prod.ext_iff]; exact ⟨a, b, c⟩
theorem dateN_ok {day : Int} (h0 : 0 ≤ day) (h1 : day ≤ 36524) : dateB (dateN day).1 (dateN day).2.1 (dateN day).2.2 = true ∧ numD (dateN day).1 (dateN day).2.1 (dateN day).2.2 = day := by
  obtain ⟨y, m, d, hb, hn⟩ := date_ex day.toNat (by omega)
  have e := dateN_of (day := day) hb (by omega)
  rw [e]; exact ⟨hb, by rw [hn]; omega⟩
/-- working days -/
def workF (from_ : Int) : Nat → Int
  | 0 => 0
  | k + 1 => workF from_ k + if (5 + (from_ + k)) % 7 < 5 then 1 else 0
theorem workF_bd (a : Int) (k : Nat) : 0 ≤ workF a k ∧ workF a k ≤ k := by
  induction k with
  | zero => simp [workF]
  | succ k ih => unfold workF; split <;> omega
theorem workF_succ (a : Int) (k : Nat) : workF a (k + 1) = workF a k + if (5 + (a + k)) % 7 < 5 then 1 else 0 := rfl
theorem workF_add (a : Int) (k j : Nat) : workF a (k + j) = workF a k + workF (a + k) j := by
  induction j with
  | zero => simp [workF]
  | succ j ih =>
    rw [show k + (j + 1) = (k + j) + 1 by omega, workF_succ, workF_succ, ih, show a + ((k + j : Nat) : Int) = a + (k : Int) + (j : Int) by omega, Int.add_assoc]
theorem work_one (r : Int) (k : Nat) (a : Int) (q : Int) (h : a = 7 * q + r) : (if (5 + (a + k)) % 7 < 5 then (1 : Int) else 0) = if (5 + (r + k)) % 7 < 5 then 1 else 0 := by
  have : (5 + (a + (k : Int))) % 7 = (5 + (r + k)) % 7 := by omega
  rw [this]
theorem workF_mod (r : Int) (a : Int) (q : Int) (h : a = 7 * q + r) : ∀ k : Nat, workF a k = workF r k
  | 0 => rfl
  | k + 1 => by rw [workF_succ, workF_succ, workF_mod r a q h k, work_one r k a q h]
theorem workF_week (a : Int) : workF a 7 = 5 := by
  rw [workF_mod (a % 7) a (a / 7) (by omega) 7]
  have : a % 7 = 0 ∨ a % 7 = 1 ∨ a % 7 = 2 ∨ a % 7 = 3 ∨ a % 7 = 4 ∨ a % 7 = 5 ∨ a % 7 = 6 := by omega
  rcases this with h | h | h | h | h | h | h <;> rw [h] <;> decide
theorem workF_weeks (a : Int) (n : Nat) : workF a (7 * n) = 5 * n := by
  induction n with
  | zero => simp [workF]
  | succ n ih =>
    rw [show 7 * (n + 1) = 7 * n + 7 by omega, workF_add, ih, workF_week]; omega
end Go.Proofs.YtgfhjcbmilaegaaGreatDoor
namespace Go.Proofs.YtgfhjcbmilaegaaGreatDoor
theorem valF_app (acc : Nat) (a b : List UInt8) : valF acc (a ++ b) = valF (valF acc a) b := by unfold valF; rw [List.foldl_append]
/-- the bytes of a text that is made of three digits parts and so on: cutting it at a known place -/
theorem piece_app (a b : List UInt8) (k : Nat) (h : a.length = k) : piece (a ++ b) 0 k = a := by
  unfold piece; subst h; simp
theorem piece_mid (a b c : List UInt8) (i j : Nat) (h : a.length = i) (h2 : i + b.length = j) : piece (a ++ (b ++ c)) i j = b := by
  unfold piece; subst h; subst h2; simp
theorem getD_at (a : List UInt8) (x : UInt8) (b : List UInt8) (k : Nat) (h : a.length = k) : (a ++ x :: b).getD k 0 = x := by
  subst h
  rw [List.getD_eq_getElem?_getD, List.getElem?_append_right (Nat.le_refl _), Nat.sub_self]; rfl
/-- a text with one separator -/
theorem split_one (s : UInt8) (a b : List UInt8) (ha : ∀ x ∈ a, x ≠ s) (hb : ∀ x ∈ b, x ≠ s) : splitL s (a ++ s :: b) = [a, b] := by
  unfold splitL
  have e1 := splitSt_more s [] a ha
  have e0 : splitSt s [] = ([], []) := rfl
  rw [e0] at e1
  simp only [List.nil_append] at e1
  have e2 := splitSt_hit s a s rfl
  rw [e1] at e2
  have e3 := splitSt_more s (a ++ [s]) b hb
  rw [e2] at e3
  rw [show a ++ s :: b = a ++ [s] ++ b by simp, e3]; simp
theorem split_two (s : UInt8) (a b c : List UInt8) (ha : ∀ x ∈ a, x ≠ s) (hb : ∀ x ∈ b, x ≠ s) (hc : ∀ x ∈ c, x ≠ s) : splitL s (a ++ s :: (b ++ s :: c)) = [a, b, c] := by
  unfold splitL
  have e1 := splitSt_more s [] a ha
  have e0 : splitSt s [] = ([], []) := rfl
  rw [e0] at e1
  simp only [List.nil_append] at e1
  have e2 := splitSt_hit s a s rfl
  rw [e1] at e2
  have e3 := splitSt_more s (a ++ [s]) b hb
  rw [e2] at e3
  have e4 := splitSt_hit s (a ++ [s] ++ b) s rfl
  rw [e3] at e4
  have e5 := splitSt_more s (a ++ [s] ++ b ++ [s]) c hc
  rw [e4] at e5
  rw [show a ++ s :: (b ++ s :: c) = a ++ [s] ++ b ++ [s] ++ c by simp, e5]; simp
/-- the texts -/
def clockL (n : Nat) : List UInt8 := dN 2 (n / 60) ++ 58 :: dN 2 (n % 60)
def lapL (n : Nat) : List UInt8 := Lib.itoa ((n / 60 : Nat) : Int) ++ 58 :: dN 2 (n % 60)
def dateL (y m d : Nat) : List UInt8 := dN 4 y ++ 45 :: (dN 2 m ++ 45 :: dN 2 d)
def fixU (n p : Nat) : List UInt8 := Lib.itoa ((n / 10 ^ p : Nat) : Int) ++ 46 :: dN p (n % 10 ^ p)
def fixL (n : Int) (p : Nat) : List UInt8 := if n < 0 then 45 :: fixU n.natAbs p else fixU n.natAbs p
theorem itoa_all (n : Nat) : (Lib.itoa (n : Int)).all db = true := by
  by_cases h : n = 0
  · subst h; rw [show ((0 : Nat) : Int) = 0 from rfl, itoa_zero]; decide
  · rw [itoa_pos n (by omega)]; exact digs_all n
theorem itoa_val (n : Nat) : valF 0 (Lib.itoa (n : Int)) = n := by
  by_cases h : n = 0
  · subst h; rw [show ((0 : Nat) : Int) = 0 from rfl, itoa_zero]; rfl
  · rw [itoa_pos n (by omega)]; exact digs_val n
theorem all_ne {l : List UInt8} {c : UInt8} (h : l.all db = true) (hc : db c = false) : ∀ x ∈ l, x ≠ c := by
  intro x hx e
  subst e
  have := List.all_eq_true.1 h x hx
  rw [hc] at this; exact absurd this (by decide)
theorem itoa_pos_len (n : Nat) : 0 < (Lib.itoa (n : Int)).length := by
  by_cases h : n = 0
  · subst h; rw [show ((0 : Nat) : Int) = 0 from rfl, itoa_zero]; decide
  · rw [itoa_pos n (by omega)]; exact digsN_ne n (by omega)
/-- digits without a leading zero are the decimal form of their value -/
theorem itoa_back (b : List UInt8) (h0 : 0 < b.length) (h : b.all db = true) (hz : b.headD 0 ≠ 48 ∨ b.length = 1) : Lib.itoa ((valF 0 b : Nat) : Int) = b := by
  by_cases h1 : b.headD 0 = 48
  · have hl : b.length = 1 := by rcases hz with h' | h'; exact absurd h1 h'; exact h'
    match b, hl with
    | [c], _ =>
      have : c = 48 := h1
      subst this; exact itoa_zero
  · obtain ⟨e, hp⟩ := val_digs _ b rfl h h0 h1
    rw [itoa_pos _ hp, e]

/-! ### What the model's readers compute -/
def clockR (l : List UInt8) : Option Int := if l.length = 5 ∧ l.getD 2 0 = 58 ∧ (piece l 0 2).all db = true ∧ (piece l 3 5).all db = true ∧ valF 0 (piece l 0 2) ≤ 23 ∧ valF 0 (piece l 3 5) ≤ 59 then some ((60 * valF 0 (piece l 0 2) + valF 0 (piece l 3 5) : Nat) : Int) else none
theorem piece_len (l : List UInt8) (i j : Nat) (h : j ≤ l.length) : (piece l i j).length = j - i := by
  unfold piece; rw [List.length_take, List.length_drop]; omega
theorem parts3 (l : List UInt8) (c : UInt8) (h : l.length = 5) (hc : l.getD 2 0 = c) : l = piece l 0 2 ++ c :: piece l 3 5 := by
  match l, h with
  | [a, b, x, d, e], _ =>
    have : x = c := hc
    subst this; rfl
theorem clock_sound {l : List UInt8} {n : Int} (h : clockR l = some n) : ∃ k : Nat, n = k ∧ k ≤ 1439 ∧ clockL k = l := by
  unfold clockR at h
  split at h
  · rename_i hc
    obtain ⟨h1, h2, h3, h4, h5, h6⟩ := hc
    have e := Option.some.inj h
    refine ⟨_, e.symm, by omega, ?_⟩
    unfold clockL
    rw [show (60 * valF 0 (piece l 0 2) + valF 0 (piece l 3 5)) / 60 = valF 0 (piece l 0 2) by omega, show (60 * valF 0 (piece l 0 2) + valF 0 (piece l 3 5)) % 60 = valF 0 (piece l 3 5) by omega]
    rw [dN_back 2 _ (by rw [piece_len _ _ _ (by omega)]) h3, dN_back 2 _ (by rw [piece_len _ _ _ (by omega)]) h4]
    exact (parts3 l 58 h1 h2).symm
  · cases h
theorem clock_full (k : Nat) (h : k ≤ 1439) : clockR (clockL k) = some (k : Int) := by
  have l1 := dN_len 2 (k / 60)
  have l2 := dN_len 2 (k % 60)
  have p1 : piece (clockL k) 0 2 = dN 2 (k / 60) := piece_app _ _ _ l1
  have p2 : piece (clockL k) 3 5 = dN 2 (k % 60) := by
    unfold clockL
    rw [show dN 2 (k / 60) ++ 58 :: dN 2 (k % 60) = (dN 2 (k / 60) ++ [58]) ++ (dN 2 (k % 60) ++ []) by simp]
    exact piece_mid _ _ _ 3 5 (by simp [l1]) (by simp [l2])
  have v1 := dN_val 2 (k / 60) (by omega)
  have v2 := dN_val 2 (k % 60) (by omega)
  unfold clockR
  rw [p1, p2, v1, v2, if_pos]
  · congr 1; omega
  · refine ⟨by simp [clockL, l1, l2], ?_, dN_all _ _, dN_all _ _, by omega, by omega⟩
    exact getD_at _ _ _ _ l1
def dateR (l : List UInt8) : Option Int := if l.length = 10 ∧ l.getD 4 0 = 45 ∧ l.getD 7 0 = 45 ∧ (piece l 0 4).all db = true ∧ (piece l 5 7).all db = true ∧ (piece l 8 10).all db = true ∧ dateB (valF 0 (piece l 0 4)) (valF 0 (piece l 5 7)) (valF 0 (piece l 8 10)) = true then some (numD (valF 0 (piece l 0 4)) (valF 0 (piece l 5 7)) (valF 0 (piece l 8 10))) else none
theorem parts10 (l : List UInt8) (c d : UInt8) (h : l.length = 10) (hc : l.getD 4 0 = c) (hd : l.getD 7 0 = d) : l = piece l 0 4 ++ c :: (piece l 5 7 ++ d :: piece l 8 10) := by
  match l, h with
  | [a0, a1, a2, a3, a4, a5, a6, a7, a8, a9], _ =>
    have e1 : a4 = c := hc
    have e2 : a7 = d := hd
    subst e1; subst e2; rfl
theorem date_sound {l : List UInt8} {n : Int} (h : dateR l = some n) : ∃ y m d : Nat, dateB y m d = true ∧ numD y m d = n ∧ dateL y m d = l := by
  unfold dateR at h
  split at h
  · rename_i hc
    obtain ⟨h1, h2, h3, h4, h5, h6, h7⟩ := hc
    refine ⟨_, _, _, h7, Option.some.inj h, ?_⟩
    unfold dateL
    rw [dN_back 4 _ (by rw [piece_len _ _ _ (by omega)]) h4, dN_back 2 _ (by rw [piece_len _ _ _ (by omega)]) h5, dN_back 2 _ (by rw [piece_len _ _ _ (by omega)]) h6]
    exact (parts10 l 45 45 h1 h2 h3).symm
  · cases h
theorem date_full (y m d : Nat) (h : dateB y m d = true) : dateR (dateL y m d) = some (numD y m d) := by
  obtain ⟨a1, a2, a3, a4, a5, a6⟩ := dateB_iff.1 h
  have hb := mlen_bd (y : Int) (m : Int)
  have l1 := dN_len 4 y
  have l2 := dN_len 2 m
  have l3 := dN_len 2 d
  have p1 : piece (dateL y m d) 0 4 = dN 4 y := piece_app _ _ _ l1
  have p2 : piece (dateL y m d) 5 7 = dN 2 m := by
    unfold dateL
    rw [show dN 4 y ++ 45 :: (dN 2 m ++ 45 :: dN 2 d) = (dN 4 y ++ [45]) ++ (dN 2 m ++ (45 :: dN 2 d)) by simp]
    exact piece_mid _ _ _ 5 7 (by simp [l1]) (by simp [l2])
  have p3 : piece (dateL y m d) 8 10 = dN 2 d := by
    unfold dateL
    rw [show dN 4 y ++ 45 :: (dN 2 m ++ 45 :: dN 2 d) = (dN 4 y ++ [45] ++ dN 2 m ++ [45]) ++ (dN 2 d ++ []) by simp]
    exact piece_mid _ _ _ 8 10 (by simp [l1, l2]) (by simp [l3])
  have v1 := dN_val 4 y (by omega)
  have v2 := dN_val 2 m (by omega)
  have v3 := dN_val 2 d (by omega)
  unfold dateR
  rw [p1, p2, p3, v1, v2, v3, if_pos]
  refine ⟨by simp [dateL, l1, l2, l3], ?_, ?_, dN_all _ _, dN_all _ _, dN_all _ _, h⟩
  · exact getD_at _ _ _ _ l1
  · unfold dateL
    rw [show dN 4 y ++ 45 :: (dN 2 m ++ 45 :: dN 2 d) = (dN 4 y ++ [45] ++ dN 2 m) ++ 45 :: dN 2 d by simp]
    exact getD_at _ _ _ _ (by simp [l1, l2])
end Go.Proofs.YtgfhjcbmilaegaaGreatDoor
namespace Go.Proofs.YtgfhjcbmilaegaaGreatDoor
/-- the model's reader of laps -/
def lapR (l : List UInt8) : Option Int :=
  match splitL 58 l with
  | [a, b] => if b.length = 2 ∧ b.all db = true then
      (match readD a with
        | some m => if 0 ≤ m ∧ m ≤ 1000000000 ∧ valF 0 b ≤ 59 ∧ 60 * m + valF 0 b ≤ 1000000000 then some (60 * m + valF 0 b) else none
        | none => none) else none
  | _ => none
theorem split_cases (s : UInt8) (l : List UInt8) : (splitL s l = [l] ∧ ∀ c ∈ l, c ≠ s) ∨ ∃ x r, l = x ++ s :: r ∧ (∀ c ∈ x, c ≠ s) ∧ splitL s l = x :: splitL s r := by
  by_cases h : s ∈ l
  · obtain ⟨x, r, e, hn⟩ := List.eq_append_cons_of_mem h
    have hx : ∀ c ∈ x, c ≠ s := fun c hc e => hn (e ▸ hc)
    exact Or.inr ⟨x, r, e, hx, by rw [e]; exact splitL_hit s x r hx⟩
  · have hx : ∀ c ∈ l, c ≠ s := fun c hc e => h (e ▸ hc)
    exact Or.inl ⟨splitL_miss s l hx, hx⟩
theorem split_join2 (s : UInt8) (l a b : List UInt8) (h : splitL s l = [a, b]) : l = a ++ s :: b := by
  rcases split_cases s l with ⟨h1, _⟩ | ⟨x, r, e, _, h1⟩
  · rw [h1] at h; simp at h
  · rw [h1] at h
    injection h with h2 h3
    rcases split_cases s r with ⟨h4, _⟩ | ⟨y, q, _, _, h4⟩
    · rw [h4] at h3
      injection h3 with h5 _
      rw [e, h2, h5]
    · rw [h4] at h3
      injection h3 with _ h6
      have := splitL_pos' s q
      rw [h6] at this; simp at this
theorem lap_sound {l : List UInt8} {n : Int} (h : lapR l = some n) : ∃ k : Nat, n = k ∧ k ≤ 1000000000 ∧ lapL k = l := by
  unfold lapR at h
  split at h
  · rename_i a b hs
    split at h
    · rename_i hb
      split at h
      · rename_i m hm
        split at h
        · rename_i hc
          obtain ⟨M, rfl⟩ := Int.eq_ofNat_of_zero_le hc.1
          have e := Option.some.inj h
          refine ⟨60 * M + valF 0 b, by omega, by omega, ?_⟩
          unfold lapL
          rw [show (60 * M + valF 0 b) / 60 = M by omega, show (60 * M + valF 0 b) % 60 = valF 0 b by omega, dN_back 2 b hb.1 hb.2, (readD_some hm).1]
          exact (split_join2 58 l a b hs).symm
        · cases h
      · cases h
    · cases h
  · cases h
theorem itoa_len_le (j : Nat) (n : Nat) (h : n < 10 ^ (j + 1)) : (Lib.itoa (n : Int)).length ≤ j + 1 := by
  by_cases h0 : n = 0
  · subst h0; rw [show ((0 : Nat) : Int) = 0 from rfl, itoa_zero]; simp
  · rw [itoa_pos n (by omega)]; exact digsN_len _ _ h
theorem db58 : db 58 = false := by decide
theorem db45 : db 45 = false := by decide
theorem db46 : db 46 = false := by decide
theorem lap_split (k : Nat) : splitL 58 (lapL k) = [Lib.itoa ((k / 60 : Nat) : Int), dN 2 (k % 60)] :=
  split_one 58 _ _ (all_ne (itoa_all _) db58) (all_ne (dN_all _ _) db58)
theorem lap_full (k : Nat) (h : k ≤ 1000000000) : lapR (lapL k) = some (k : Int) := by
  have hm : readD (Lib.itoa ((k / 60 : Nat) : Int)) = some ((k / 60 : Nat) : Int) := by
    apply readD_itoa
    rw [List.length_drop]
    have := itoa_len_le 9 (k / 60) (by omega)
    omega
  unfold lapR
  rw [lap_split]
  simp only [dN_len, dN_all, and_self, if_true, hm]
  rw [dN_val 2 (k % 60) (by omega), if_pos (by omega)]
  congr 1; omega
theorem clock_split (k : Nat) : splitL 58 (clockL k) = [dN 2 (k / 60), dN 2 (k % 60)] :=
  split_one 58 _ _ (all_ne (dN_all _ _) db58) (all_ne (dN_all _ _) db58)
theorem date_split (y m d : Nat) : splitL 45 (dateL y m d) = [dN 4 y, dN 2 m, dN 2 d] :=
  split_two 45 _ _ _ (all_ne (dN_all _ _) db45) (all_ne (dN_all _ _) db45) (all_ne (dN_all _ _) db45)
theorem fix_split (n p : Nat) : splitL 46 (fixU n p) = [Lib.itoa ((n / 10 ^ p : Nat) : Int), dN p (n % 10 ^ p)] :=
  split_one 46 _ _ (all_ne (itoa_all _) db46) (all_ne (dN_all _ _) db46)
end Go.Proofs.YtgfhjcbmilaegaaGreatDoor
namespace Go.Proofs.YtgfhjcbmilaegaaGreatDoor
theorem mem_split (s : UInt8) (c : UInt8) (hc : c ≠ s) : ∀ (n : Nat) (l : List UInt8), l.length ≤ n → c ∈ l → ∃ p ∈ splitL s l, c ∈ p := by
  intro n
  induction n with
  | zero =>
    intro l hl h
    have : l = [] := List.eq_nil_of_length_eq_zero (by omega)
    subst this; cases h
  | succ n ih =>
    intro l hl h
    rcases split_cases s l with ⟨h1, _⟩ | ⟨x, r, e, _, h1⟩
    · exact ⟨l, by rw [h1]; simp, h⟩
    · rw [e] at h hl
      rcases List.mem_append.1 h with h2 | h2
      · exact ⟨x, by rw [h1]; simp, h2⟩
      · rcases List.mem_cons.1 h2 with h3 | h3
        · exact absurd h3 hc
        · obtain ⟨p, hp, hcp⟩ := ih r (by simp at hl; omega) h3
          exact ⟨p, by rw [h1]; exact List.mem_cons_of_mem _ hp, hcp⟩
theorem readD_blank {p : List UInt8} {c : UInt8} (hc : db c = false) (h45 : c ≠ 45) (h : c ∈ p) : readD p = none := by
  refine readD_bad (Or.inr (Or.inr (Or.inr ?_)))
  refine all_fail (c := c) ?_ hc
  unfold atD
  split
  · rename_i he
    cases p with
    | nil => cases h
    | cons a t =>
      have ha : a = 45 := he
      rcases List.mem_cons.1 h with e | e
      · rw [e, ha] at h45; exact absurd rfl h45
      · exact e
  · exact h
theorem readL_blank {l : List UInt8} {c : UInt8} (hc : db c = false) (h45 : c ≠ 45) (h44 : c ≠ 44) (h : c ∈ l) : readL l = none := by
  unfold readL
  rw [if_neg (by intro e; rw [e] at h; simp at h; exact h45 h)]
  split
  · rfl
  · obtain ⟨p, hp, hcp⟩ := mem_split 44 c h44 _ l (Nat.le_refl _) h
    exact readParts_bad hp (by unfold rv; rw [readD_blank hc h45 hcp])
theorem readL_nil : readL [] = none := by
  unfold readL
  rw [if_neg (by decide)]
  have e : splitL 44 [] = [[]] := rfl
  rw [e, if_neg (by decide)]
  exact readParts_bad (p := []) (by simp) (by unfold rv; rw [readD_bad (Or.inl rfl)])
/-- the text behind the first blank, and what stands before it -/
theorem cut_cases (l : List UInt8) : ((Lib.cut l [32]).2.1 = [] ∧ ∀ a b, splitL 32 l ≠ [a, b]) ∨ ∃ r, (Lib.cut l [32]).2.1 = r ∧ ((32 ∈ r ∧ ∀ a b, splitL 32 l ≠ [a, b]) ∨ splitL 32 l = [(Lib.cut l [32]).1, r]) := by
  by_cases hi : Lib.index l [32] = -1
  · left
    have hn := idx_none 32 l hi
    refine ⟨?_, fun a b h => ?_⟩
    · unfold Lib.cut; rw [hi]; rfl
    · rw [splitL_miss 32 l hn] at h; simp at h
  · right
    obtain ⟨i, hi'⟩ : ∃ i : Nat, Lib.index l [32] = i := ⟨(Lib.index l [32]).toNat, by have := Lib.index_ge l [32]; omega⟩
    obtain ⟨e, hx⟩ := idx_some 32 l i hi'
    have c1 : (Lib.cut l [32]).1 = l.take i := by unfold Lib.cut; rw [hi']; simp
    have c2 : (Lib.cut l [32]).2.1 = l.drop (i + 1) := by unfold Lib.cut; rw [hi']; simp
    have hs : splitL 32 l = l.take i :: splitL 32 (l.drop (i + 1)) := by
      conv => lhs; rw [e]
      rw [splitL_hit 32 _ _ hx]
    refine ⟨l.drop (i + 1), c2, ?_⟩
    by_cases hm : (32 : UInt8) ∈ l.drop (i + 1)
    · left
      refine ⟨hm, fun a b h => ?_⟩
      rw [hs] at h
      injection h with _ h2
      rcases split_cases 32 (l.drop (i + 1)) with ⟨_, h3⟩ | ⟨x, r, _, _, h3⟩
      · exact h3 _ hm rfl
      · rw [h3] at h2
        injection h2 with _ h4
        have := splitL_pos' 32 r
        rw [h4] at this; simp at this
    · right
      rw [hs, c1, splitL_miss 32 _ (fun c hc e => hm (e ▸ hc))]
end Go.Proofs.YtgfhjcbmilaegaaGreatDoor
namespace Go.Proofs.YtgfhjcbmilaegaaGreatDoor
open Go.ChangeShapes Go.WideShapes Go.ChangeAt Go.RowKit
set_option linter.unusedVariables false
set_option linter.unusedSimpArgs false
theorem below3 {w a b c : World} (h1 : Below w.heap.size w a) (h2 : Below a.heap.size a b) (h3 : Below b.heap.size b c) : Below w.heap.size w c := below2 (below2 h1 h2) h3
/-- an integer is handed back, whatever memory was made -/
def IntRet (n : Int) (w : World) (e : Ending) (w' : World) : Prop := e = .returned (.int .i64 n) ∧ Below w.heap.size w w'
end Go.Proofs.YtgfhjcbmilaegaaGreatDoor
namespace Go.Proofs.YtgfhjcbmilaegaaGreatDoor
open Go.ChangeShapes Go.WideShapes Go.ChangeAt Go.RowKit
set_option linter.unusedVariables false
set_option linter.unusedSimpArgs false
set_option maxRecDepth 1000000
theorem str_ret {D : ByteArray} {l : List UInt8} {w w' : World} (h : D.data.toList = l) (hb : Below w.heap.size w w') : StrRet l w (.returned (.string D)) w' := ⟨by rw [bytes_of D l h], hb⟩
theorem cat_data (a b : ByteArray) : (a ++ b).data.toList = a.data.toList ++ b.data.toList := by rw [ByteArray.data_append, Array.toList_append]
theorem cat_size (a b : ByteArray) : (a ++ b).size = a.size + b.size := by rw [← len_data, cat_data, List.length_append, len_data, len_data]
theorem name_le {l : List UInt8} (h : nameL l = true) : l.length ≤ 10 := by
  unfold nameL at h; simp at h; omega
theorem listR_in {Z : List Int} (h : Z.all inV = true) (hl : Z.length ≤ 64) : listR Z = textZ Z := by
  unfold listR; rw [fits_all h, decide_eq_true hl]; rfl
theorem fresh_b (w : World) (o : Obj) : Below w.heap.size w (w.alloc o) := (Below.refl _ _).alloc (Nat.le_refl _) _
/-- one name for a text behind a first byte string -/
theorem add_named (s t : ByteArray) (h : s.size + t.size ≤ 9223372036854775807) : ∃ S : ByteArray, S.data.toList = s.data.toList ++ t.data.toList ∧ S.size = s.size + t.size ∧ ∀ w, (Op.stringOp .add s t).run Tryz.prog w = .ok (.string S) w :=
  ⟨s ++ t, cat_data s t, cat_size s t, fun w => run_string_add_sum w s t h⟩
theorem textZ_le (Z : List Int) (hz : ∀ n ∈ Z, inI n) : (textZ Z).length ≤ 22 * Z.length + 1 := by
  by_cases h : Z = []
  · subst h; show (textZ []).length ≤ 1; decide
  · have h1 := joinK_le Z Z.length hz
    have e : joinK Z Z.length = textZ Z := by
      unfold textZ
      rw [if_neg (fun e => h (List.eq_nil_of_length_eq_zero e))]
      exact joinK_all _
    rw [e] at h1; omega
set_option maxHeartbeats 1600000 in
theorem namedText_any (s : ByteArray) (hs : s.size ≤ 10) (v : Value) (Z : List Int) (hZ : Z.all inV = true) (hl : Z.length ≤ 64) (w : World) (hv : IntsAt w v Z) (hT : TabP w) : Calls Tryz.prog 38 #[.string s, v] w (StrRet (s.data.toList ++ 32 :: textZ Z) w) := by
  have hzz : ∀ n ∈ Z, inI n := by obtain ⟨_, _, _, _, h, _⟩ := hv; exact h
  have hle := textZ_le Z hzz
  obtain ⟨D, hD⟩ : ∃ D : ByteArray, D = ⟨(textZ Z).toArray⟩ := ⟨_, rfl⟩
  have hDl : D.data.toList = textZ Z := by rw [hD]
  have hDs : D.size ≤ 2000 := by rw [← len_data, hDl]; omega
  have cD : Hid (∀ W, Below w.heap.size w W → Calls Tryz.prog 39 #[v] W fun e w' => e = .returned (.string D) ∧ Below W.heap.size W w') := Lib.hid (fun W hb => by
    have := implListText_any v Z W (by omega) (hv.below hb) (hT.below hb)
    rw [listR_in hZ hl] at this
    rw [hD]; exact this)
  obtain ⟨S1, hS1, hS1s, add1⟩ := add_named s ⟨#[32]⟩ (by show s.size + 1 ≤ _; omega)
  have hS1s' : S1.size ≤ 11 := by rw [hS1s]; show s.size + 1 ≤ 11; omega
  obtain ⟨S2, hS2, hS2s, add2⟩ := add_named S1 D (by omega)
  have hr : Hid (S2.data.toList = s.data.toList ++ 32 :: textZ Z) := Lib.hid (by rw [hS2, hS1, hDl, List.append_assoc]; rfl)
  clear hzz hle hD hDl hS1 hS1s hS2 hS2s hv hT hZ
  go_enter Tryz.func38, Tryz.ntmps38
  go_wp2_with (go_at_call 39; (with_reducible refine (cD.out _ (Below.refl _ _)).mono ?_); rintro e w1 ⟨rfl, b1⟩)
  go_ret
  exact str_ret hr.out b1
/-- an Id and so many numbers, as a text tells them -/
def namOf (p q : List UInt8) (m : Nat) : Option (List UInt8 × List Int) :=
  match readL q with
  | some Z => if Z.length = m then some (p, Z) else none
  | none => none
def namO (l : List UInt8) (m : Nat) : Option (List UInt8 × List Int) :=
  match splitL 32 l with
  | [p, q] => namOf p q m
  | _ => none
theorem namO_no {l : List UInt8} {m : Nat} (h : ∀ p q, splitL 32 l ≠ [p, q]) : namO l m = none := by
  unfold namO
  split
  · rename_i p q e; exact absurd e (h p q)
  · rfl
theorem namO_two {l p q : List UInt8} (m : Nat) (h : splitL 32 l = [p, q]) : namO l m = namOf p q m := by unfold namO; rw [h]
theorem namO_cut (l : List UInt8) (m : Nat) : namO l m = namOf (Lib.cut l [32]).1 (Lib.cut l [32]).2.1 m := by
  rcases cut_cases l with ⟨h1, h2⟩ | ⟨r, h1, h2 | h2⟩
  · rw [namO_no h2, h1]; unfold namOf; rw [readL_nil]
  · rw [namO_no h2.2, h1]; unfold namOf; rw [readL_blank (c := 32) (by decide) (by decide) (by decide) h2.1]
  · rw [namO_two m h2, h1]
theorem namOf_none {p q : List UInt8} {m : Nat} (h : readL q = none) : namOf p q m = none := by unfold namOf; rw [h]
theorem namOf_len {p q : List UInt8} {m : Nat} {Z : List Int} (h : readL q = some Z) (hl : Z.length ≠ m) : namOf p q m = none := by unfold namOf; rw [h]; exact if_neg hl
theorem namOf_yes {p q : List UInt8} {m : Nat} {Z : List Int} (h : readL q = some Z) (hl : Z.length = m) : namOf p q m = some (p, Z) := by unfold namOf; rw [h]; exact if_pos hl
theorem namO_len {l : List UInt8} {m : Nat} {p : List UInt8} {Z : List Int} (h : namO l m = some (p, Z)) : Z.length = m := by
  rw [namO_cut] at h
  unfold namOf at h
  split at h
  · split at h
    · cases h; assumption
    · cases h
  · cases h
theorem namO_id {l : List UInt8} {m : Nat} {p : List UInt8} {Z : List Int} (h : namO l m = some (p, Z)) : p.length ≤ l.length := by
  rw [namO_cut] at h
  have hp : (Lib.cut l [32]).1.length ≤ l.length := by
    unfold Lib.cut
    split
    · show (l.take _).length ≤ _; rw [List.length_take]; omega
    · exact Nat.le_refl _
  unfold namOf at h
  split at h
  · split at h
    · cases h; exact hp
    · cases h
  · cases h
/-- what a reader of an Id and numbers hands back: if it did not read, the Id and the row are any -/
def NamRet (o : Option (List UInt8 × List Int)) (w : World) (e : Ending) (w' : World) : Prop :=
  match o with
  | none => ∃ t v, e = .returned (.tuple #[.string t, v, .bool false]) ∧ Below w.heap.size w w'
  | some x => ∃ v, e = .returned (.tuple #[.string ⟨x.1.toArray⟩, v, .bool true]) ∧ w'.ownsRow w.heap.size 2 1 v x.2.length (x.2.map encI) ∧ Below w.heap.size w w'
theorem namRet_no {o : Option (List UInt8 × List Int)} (h : o = none) {t : ByteArray} {v : Value} {w w' : World} (hb : Below w.heap.size w w') : NamRet o w (.returned (.tuple #[.string t, v, .bool false])) w' := by subst h; exact ⟨t, v, rfl, hb⟩
theorem namRet_yes {o : Option (List UInt8 × List Int)} {p : List UInt8} {Z : List Int} (h : o = some (p, Z)) {A : ByteArray} (hA : A = ⟨p.toArray⟩) {v : Value} {w w' : World} {B : Nat} (hB : w.heap.size ≤ B) (ho : w'.ownsRow B 2 1 v Z.length (Z.map encI)) (hb : Below w.heap.size w w') : NamRet o w (.returned (.tuple #[.string A, v, .bool true])) w' := by
  subst h hA; exact ⟨v, rfl, own_low ho hB, hb⟩
/-- what a list of numbers hands back, opened -/
theorem lret_open {o : Option (List Int)} {w w' : World} {e : Ending} (h : LRet o w e w') (hz : ∀ Z, o = some Z → ∀ n ∈ Z, inI n) : (o = none ∧ e = .returned (.tuple #[.slice none 0 0, .bool false]) ∧ Below w.heap.size w w') ∨ ∃ Z v, o = some Z ∧ e = .returned (.tuple #[v, .bool true]) ∧ IntsAt w' v Z ∧ Below w.heap.size w w' := by
  cases o with
  | none => exact Or.inl ⟨rfl, h.1, h.2⟩
  | some Z =>
    obtain ⟨v, he, ho, hb⟩ := h
    exact Or.inr ⟨Z, v, rfl, he, ints_own ho (hz Z rfl), hb⟩
theorem readL_in {l : List UInt8} {Z : List Int} (h : readL l = some Z) : ∀ n ∈ Z, inI n := by
  unfold readL at h
  split at h
  · cases h; intro n hn; cases hn
  · split at h
    · cases h
    · intro n hn
      have := readParts_in h n hn
      unfold inI; omega
theorem readL_len {l : List UInt8} {Z : List Int} (h : readL l = some Z) : Z.length ≤ 64 := by
  unfold readL at h
  split at h
  · cases h; simp
  · split at h
    · cases h
    · have := readParts_len h; omega
theorem rowI_form {w : World} {B : Nat} {v : Value} {Z : List Int} (h : w.ownsRow B 2 1 v Z.length (Z.map encI)) : ∃ a cap, v = .slice a Z.length cap ∧ Z.length ≤ cap := by
  rcases h.2 with ⟨h1, h2⟩ | ⟨g, cap, cur, hv, hg, hb, hn, hcap, _, _⟩
  · exact ⟨none, 0, by rw [h1, h2], by omega⟩
  · exact ⟨_, cap, hv, hn⟩
theorem cut_any (s : ByteArray) (hs : s.size ≤ 1048576) : ∃ A B : ByteArray, A.data.toList = (Lib.cut s.data.toList [32]).1 ∧ B.data.toList = (Lib.cut s.data.toList [32]).2.1 ∧ A = ⟨(Lib.cut s.data.toList [32]).1.toArray⟩ ∧ A.size ≤ 1048576 ∧ B.size ≤ 1048576 ∧ ∃ b, Hid (∀ W, W.ShapedOpen Tryz.prog → Calls Tryz.prog 35 #[.string s, .string ⟨#[32]⟩] W fun e w' => e = .returned (.tuple #[.string A, .string B, .bool b]) ∧ ∃ n, w' = W.drewN n) := by
  have hsz : (Lib.cut s.data.toList [32]).1.length ≤ 1048576 ∧ (Lib.cut s.data.toList [32]).2.1.length ≤ 1048576 := by
    unfold Lib.cut
    split
    · exact ⟨by show (s.data.toList.take _).length ≤ _; rw [List.length_take, len_data]; omega, by show (s.data.toList.drop _).length ≤ _; rw [List.length_drop, len_data]; omega⟩
    · exact ⟨by rw [len_data]; omega, by simp⟩
  exact ⟨⟨(Lib.cut s.data.toList [32]).1.toArray⟩, ⟨(Lib.cut s.data.toList [32]).2.1.toArray⟩, rfl, rfl, rfl, by rw [← len_data]; exact hsz.1, by rw [← len_data]; exact hsz.2, (Lib.cut s.data.toList [32]).2.2, Lib.hid (fun W h => Tryz.strings_Cut_shaped s ⟨#[32]⟩ W h (by omega))⟩
theorem namOf_M (p q : List UInt8) (m : Nat) : namOf p q m = (readM q m).map (fun Z => (p, Z)) := by
  cases h : readL q with
  | none => rw [namOf_none h, readM_none h]; rfl
  | some Z =>
    by_cases hl : Z.length = m
    · rw [namOf_yes h hl, readM_yes h hl]; rfl
    · rw [namOf_len h hl, readM_len h hl]; rfl
theorem rowS2 {w : World} {B : Nat} {v : Value} {a b : List UInt8} (h : w.ownsRow B 9 1 v 2 [encS a, encS b]) : ∃ g cap, v = .slice (some ⟨g, 0, none⟩) 2 cap ∧ 2 ≤ cap ∧ g < w.heap.size ∧ w.cell? ⟨g, 0, none⟩ = some (encS a) ∧ w.cell? ⟨g, 1, none⟩ = some (encS b) := by
  have h0 := h
  rcases h.2 with ⟨h1, h2⟩ | ⟨g, cap, cur, hv, hg, hb, hn, hcap, _, _⟩
  · omega
  · subst hv
    exact ⟨g, cap, rfl, hn, (h0.lt g rfl).2, by rw [h0.cellAt 0 (by omega)]; rfl, by rw [h0.cellAt 1 (by omega)]; rfl⟩
end Go.Proofs.YtgfhjcbmilaegaaGreatDoor
