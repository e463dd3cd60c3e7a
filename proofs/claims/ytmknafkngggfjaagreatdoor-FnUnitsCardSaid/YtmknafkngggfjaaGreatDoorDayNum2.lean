/-
  Contracts of DayNumber, of the program.
-/
import Derived.Test.YtmknafkngggfjaaGreatDoorDayNum
namespace Go.Proofs.YtmknafkngggfjaaGreatDoor
open Go.ChangeShapes Go.WideShapes Go.ChangeAt Go.RowKit
set_option linter.unusedVariables false
set_option linter.unusedSimpArgs false
theorem num_bd31 {y m d : Int} (hy1 : 2000 ≤ y) (hy2 : y ≤ 2099) (hm1 : 1 ≤ m) (hm2 : m ≤ 12) (hd1 : 1 ≤ d) (hd2 : d ≤ 31) : 0 ≤ numD y m d ∧ numD y m d ≤ 36524 := by
  have h4 := dby_succ y
  have h5 := dby_mono (y := y + 1) (z := 2100) (by omega)
  have h6 := dby_bd hy1 (by omega)
  have hc := cum_bd (y := y) hm1 (by omega)
  have hs := cum_succ y m hm1 hm2
  have he := cum_end y
  rw [dby_end] at h5
  by_cases h12 : m = 12
  · subst h12
    rw [show (12 : Int) + 1 = 13 from rfl] at hs
    have : mlen y 12 = 31 := by simp [mlen]
    unfold numD; omega
  · have hb := mlen_bd y m
    have hs2 := cum_succ y (m + 1) (by omega) (by omega)
    have hb2 := mlen_bd y (m + 1)
    have hm := cum_mono (y := y) (m := m + 1 + 1) (m' := 13) (by omega) (by omega) (by omega)
    unfold numD; omega
theorem date_no {y m d : Int} (h : dateB y m d = false) (h0 : 0 ≤ numD y m d) (h1 : numD y m d ≤ 36524) : ∃ a b c, dateN (numD y m d) = (a, b, c) ∧ ((a == y) = false ∨ (a = y ∧ (b == m) = false) ∨ (a = y ∧ b = m ∧ (c == d) = false)) := by
  obtain ⟨hb, _⟩ := dateN_ok h0 h1
  obtain ⟨a, b, c, hp⟩ : ∃ a b c, dateN (numD y m d) = (a, b, c) := ⟨_, _, _, rfl⟩
  rw [hp] at hb
  refine ⟨a, b, c, hp, ?_⟩
  by_cases e1 : a = y
  · by_cases e2 : b = m
    · by_cases e3 : c = d
      · subst e1; subst e2; subst e3
        rw [h] at hb; exact absurd hb (by decide)
      · exact Or.inr (Or.inr ⟨e1, e2, by simpa using e3⟩)
    · exact Or.inr (Or.inl ⟨e1, by simpa using e2⟩)
  · exact Or.inl (by simpa using e1)
end Go.Proofs.YtmknafkngggfjaaGreatDoor
