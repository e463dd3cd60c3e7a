/-
  Plain arithmetic of the calendar. Nothing of the program stands here.
-/
namespace Go.Proofs.YtcgmpomhklhmaaaDoor
def leapN (y : Int) : Bool := decide (y % 4 = 0)
def ylen (y : Int) : Int := if leapN y = true then 366 else 365
def mlen (y m : Int) : Int := if m = 2 then (if leapN y = true then 29 else 28) else if m = 4 ∨ m = 6 ∨ m = 9 ∨ m = 11 then 30 else 31
def dby (y : Int) : Int := 365 * (y - 2000) + (y - 1997) / 4
def cum0 (m : Int) : Int := if m ≤ 1 then 0 else if m = 2 then 31 else if m = 3 then 59 else if m = 4 then 90 else if m = 5 then 120 else if m = 6 then 151 else if m = 7 then 181 else if m = 8 then 212 else if m = 9 then 243 else if m = 10 then 273 else if m = 11 then 304 else if m = 12 then 334 else 365
def cum (y m : Int) : Int := cum0 m + if leapN y = true ∧ 2 < m then 1 else 0
def numD (y m d : Int) : Int := dby y + cum y m + (d - 1)
/-- is this a date of the calendar? -/
def dateB (y m d : Int) : Bool := decide (2000 ≤ y) && decide (y ≤ 2099) && decide (1 ≤ m) && decide (m ≤ 12) && decide (1 ≤ d) && decide (d ≤ mlen y m)
theorem dateB_iff {y m d : Int} : dateB y m d = true ↔ 2000 ≤ y ∧ y ≤ 2099 ∧ 1 ≤ m ∧ m ≤ 12 ∧ 1 ≤ d ∧ d ≤ mlen y m := by
  unfold dateB; simp; constructor
  · rintro ⟨⟨⟨⟨⟨a, b⟩, c⟩, d⟩, e⟩, f⟩; exact ⟨a, b, c, d, e, f⟩
  · rintro ⟨a, b, c, d, e, f⟩; exact ⟨⟨⟨⟨⟨a, b⟩, c⟩, d⟩, e⟩, f⟩
theorem months {m : Int} (h1 : 1 ≤ m) (h2 : m ≤ 12) : m = 1 ∨ m = 2 ∨ m = 3 ∨ m = 4 ∨ m = 5 ∨ m = 6 ∨ m = 7 ∨ m = 8 ∨ m = 9 ∨ m = 10 ∨ m = 11 ∨ m = 12 := by omega
theorem ylen_bd (y : Int) : 365 ≤ ylen y ∧ ylen y ≤ 366 := by unfold ylen; split <;> omega
theorem mlen_bd (y m : Int) : 28 ≤ mlen y m ∧ mlen y m ≤ 31 := by
  unfold mlen
  split
  · split <;> omega
  · split <;> omega
theorem dby_zero : dby 2000 = 0 := by decide
theorem dby_succ (y : Int) : dby (y + 1) = dby y + ylen y := by
  unfold dby ylen leapN
  by_cases h : y % 4 = 0
  · simp [h]; omega
  · simp [h]; omega
theorem dby_mono {y z : Int} (h : y ≤ z) : dby y ≤ dby z := by unfold dby; omega
theorem dby_bd {y : Int} (h0 : 2000 ≤ y) (h1 : y ≤ 2100) : 0 ≤ dby y ∧ dby y ≤ 36525 := by unfold dby; omega
theorem dby_end : dby 2100 = 36525 := by decide
theorem dby_year {y : Int} (h : dby y ≤ 36524) : y ≤ 2099 := by unfold dby at h; omega
theorem cum_one (y : Int) : cum y 1 = 0 := by unfold cum cum0; simp
theorem cum_succ (y m : Int) (h1 : 1 ≤ m) (h2 : m ≤ 12) : cum y (m + 1) = cum y m + mlen y m := by
  unfold cum mlen
  rcases months h1 h2 with rfl | rfl | rfl | rfl | rfl | rfl | rfl | rfl | rfl | rfl | rfl | rfl <;> cases leapN y <;> simp [cum0]
theorem cum_end (y : Int) : cum y 13 = ylen y := by unfold cum ylen; cases leapN y <;> simp [cum0]
theorem cum_le (y m : Int) (k : Nat) (h1 : 1 ≤ m) (h2 : m + k ≤ 13) : cum y m + 28 * k ≤ cum y (m + k) := by
  induction k with
  | zero => simp
  | succ k ih =>
    have := ih (by omega)
    have h := cum_succ y (m + k) (by omega) (by omega)
    have hb := mlen_bd y (m + k)
    rw [show m + ((k + 1 : Nat) : Int) = m + k + 1 by omega, h]; omega
theorem cum_mono {y m m' : Int} (h1 : 1 ≤ m) (h : m ≤ m') (h2 : m' ≤ 13) : cum y m ≤ cum y m' := by
  obtain ⟨k, rfl⟩ : ∃ k : Nat, m' = m + k := ⟨(m' - m).toNat, by omega⟩
  have := cum_le y m k h1 h2; omega
theorem cum_bd {y m : Int} (h1 : 1 ≤ m) (h2 : m ≤ 13) : 0 ≤ cum y m ∧ cum y m ≤ 366 := by
  have a := cum_mono (y := y) (m := 1) (by omega) h1 h2
  have b := cum_mono (y := y) h1 h2 (by omega)
  have c := ylen_bd y
  rw [cum_one] at a; rw [cum_end] at b; omega
theorem num_bd {y m d : Int} (h : dateB y m d = true) : 0 ≤ numD y m d ∧ numD y m d ≤ 36524 ∧ dby y ≤ numD y m d ∧ numD y m d < dby (y + 1) := by
  obtain ⟨a, b, c, e, f, g⟩ := dateB_iff.1 h
  have h1 := cum_succ y m c e
  have h2 := cum_mono (y := y) (m := m + 1) (m' := 13) (by omega) (by omega) (by omega)
  have h3 := cum_bd (y := y) c (by omega)
  have h4 := dby_succ y
  have h5 := dby_mono (y := y + 1) (z := 2100) (by omega)
  have h6 := dby_bd a (by omega)
  rw [dby_end] at h5; rw [cum_end] at h2
  unfold numD; omega
theorem num_inj {y m d y' m' d' : Int} (h : dateB y m d = true) (h' : dateB y' m' d' = true) (e : numD y m d = numD y' m' d') : y = y' ∧ m = m' ∧ d = d' := by
  have b := num_bd h
  have b' := num_bd h'
  obtain ⟨a1, a2, a3, a4, a5, a6⟩ := dateB_iff.1 h
  obtain ⟨c1, c2, c3, c4, c5, c6⟩ := dateB_iff.1 h'
  have hy : y = y' := by
    rcases Int.lt_trichotomy y y' with l | l | l
    · have := dby_mono (y := y + 1) (z := y') (by omega); omega
    · exact l
    · have := dby_mono (y := y' + 1) (z := y) (by omega); omega
  subst hy
  have k1 := cum_succ y m a3 a4
  have k2 := cum_succ y m' c3 c4
  unfold numD at e
  have hm : m = m' := by
    rcases Int.lt_trichotomy m m' with l | l | l
    · have := cum_mono (y := y) (m := m + 1) (m' := m') (by omega) (by omega) (by omega); omega
    · exact l
    · have := cum_mono (y := y) (m := m' + 1) (m' := m) (by omega) (by omega) (by omega); omega
  subst hm
  exact ⟨rfl, rfl, by omega⟩
theorem date_next {y m d : Int} (h : dateB y m d = true) (hl : numD y m d < 36524) : ∃ y' m' d', dateB y' m' d' = true ∧ numD y' m' d' = numD y m d + 1 := by
  have b := num_bd h
  obtain ⟨a1, a2, a3, a4, a5, a6⟩ := dateB_iff.1 h
  have k := cum_succ y m a3 a4
  by_cases hd : d < mlen y m
  · exact ⟨y, m, d + 1, dateB_iff.2 ⟨a1, a2, a3, a4, by omega, by omega⟩, by unfold numD; omega⟩
  by_cases hm : m < 12
  · have q := mlen_bd y (m + 1)
    exact ⟨y, m + 1, 1, dateB_iff.2 ⟨a1, a2, by omega, by omega, by omega, by omega⟩, by unfold numD; omega⟩
  have hm' : m = 12 := by omega
  subst hm'
  have ce := cum_end y
  have ds := dby_succ y
  have k' : cum y 13 = cum y 12 + mlen y 12 := k
  have e : numD y 12 d + 1 = dby (y + 1) := by unfold numD; omega
  have hy : y + 1 ≤ 2099 := dby_year (by omega)
  have q := mlen_bd (y + 1) 1
  have c1 := cum_one (y + 1)
  exact ⟨y + 1, 1, 1, dateB_iff.2 ⟨by omega, by omega, by omega, by omega, by omega, by omega⟩, by rw [e]; unfold numD; omega⟩
theorem date_ex : ∀ k : Nat, k ≤ 36524 → ∃ y m d, dateB y m d = true ∧ numD y m d = (k : Int)
  | 0, _ => ⟨2000, 1, 1, by decide, by decide⟩
  | k + 1, h => by
    obtain ⟨y, m, d, hb, hn⟩ := date_ex k (by omega)
    obtain ⟨y', m', d', hb', hn'⟩ := date_next hb (by omega)
    exact ⟨y', m', d', hb', by rw [hn', hn]; omega⟩
open Classical in
/-- the date of a day -/
noncomputable def dateN (day : Int) : Int × Int × Int := if h : ∃ p : Int × Int × Int, dateB p.1 p.2.1 p.2.2 = true ∧ numD p.1 p.2.1 p.2.2 = day then Classical.choose h else (0, 0, 0)
theorem dateN_of {y m d day : Int} (h : dateB y m d = true) (e : numD y m d = day) : dateN day = (y, m, d) := by
  have hx : ∃ p : Int × Int × Int, dateB p.1 p.2.1 p.2.2 = true ∧ numD p.1 p.2.1 p.2.2 = day := ⟨(y, m, d), h, e⟩
  have hs := Classical.choose_spec hx
  unfold dateN; rw [dif_pos hx]
  obtain ⟨a, b, c⟩ := num_inj hs.1 h (hs.2.trans e.symm)
  rw [Prod.ext_iff, Prod.ext_iff]; exact ⟨a, b, c⟩
theorem dateN_ok {day : Int} (h0 : 0 ≤ day) (h1 : day ≤ 36524) : dateB (dateN day).1 (dateN day).2.1 (dateN day).2.2 = true ∧ numD (dateN day).1 (dateN day).2.1 (dateN day).2.2 = day := by
  obtain ⟨y, m, d, hb, hn⟩ := date_ex day.toNat (by omega)
  have e := dateN_of (day := day) hb (by omega)
  rw [e]; exact ⟨hb, by rw [hn]; omega⟩
/-- working days -/
def workF (from_ : Int) : Nat → Int
  | 0 => 0
  | k + 1 => workF from_ k + if (5 + (from_ + k)) % 7 < 5 then 1 else 0
theorem workF_bd (a : Int) (k : Nat) : 0 ≤ workF a k ∧ workF a k ≤ k := by
  induction k with
  | zero => simp [workF]
  | succ k ih => unfold workF; split <;> omega
theorem workF_succ (a : Int) (k : Nat) : workF a (k + 1) = workF a k + if (5 + (a + k)) % 7 < 5 then 1 else 0 := rfl
theorem workF_add (a : Int) (k j : Nat) : workF a (k + j) = workF a k + workF (a + k) j := by
  induction j with
  | zero => simp [workF]
  | succ j ih =>
    rw [show k + (j + 1) = (k + j) + 1 by omega, workF_succ, workF_succ, ih, show a + ((k + j : Nat) : Int) = a + (k : Int) + (j : Int) by omega, Int.add_assoc]
theorem work_one (r : Int) (k : Nat) (a : Int) (q : Int) (h : a = 7 * q + r) : (if (5 + (a + k)) % 7 < 5 then (1 : Int) else 0) = if (5 + (r + k)) % 7 < 5 then 1 else 0 := by
  have : (5 + (a + (k : Int))) % 7 = (5 + (r + k)) % 7 := by omega
  rw [this]
theorem workF_mod (r : Int) (a : Int) (q : Int) (h : a = 7 * q + r) : ∀ k : Nat, workF a k = workF r k
  | 0 => rfl
  | k + 1 => by rw [workF_succ, workF_succ, workF_mod r a q h k, work_one r k a q h]
theorem workF_week (a : Int) : workF a 7 = 5 := by
  rw [workF_mod (a % 7) a (a / 7) (by omega) 7]
  have : a % 7 = 0 ∨ a % 7 = 1 ∨ a % 7 = 2 ∨ a % 7 = 3 ∨ a % 7 = 4 ∨ a % 7 = 5 ∨ a % 7 = 6 := by omega
  rcases this with h | h | h | h | h | h | h <;> rw [h] <;> decide
theorem workF_weeks (a : Int) (n : Nat) : workF a (7 * n) = 5 * n := by
  induction n with
  | zero => simp [workF]
  | succ n ih =>
    rw [show 7 * (n + 1) = 7 * n + 7 by omega, workF_add, ih, workF_week]; omega
end Go.Proofs.YtcgmpomhklhmaaaDoor
