/-
  What the law of dates asks of days, dates, weekdays and working days.
-/
import Derived.Test.YtolcmmjbdgmnaaaDoorReadsI2
import Derived.Test.YtolcmmjbdgmnaaaDoorWork
import Derived.Test.YtolcmmjbdgmnaaaDoorDayNum2
import Derived.Test.YtolcmmjbdgmnaaaDoorDraw
import Derived.Test.YtolcmmjbdgmnaaaDoorTen
namespace Go.Proofs.YtolcmmjbdgmnaaaDoor
open Go.ChangeShapes Go.WideShapes Go.ChangeAt Go.RowKit
set_option linter.unusedVariables false
set_option linter.unusedSimpArgs false
theorem work_low7 (r : Int) (h0 : 0 ≤ r) (h1 : r < 7) (k : Nat) (hk : k < 7) : 5 * (k : Int) - 12 ≤ 7 * workF r k := by
  have hr : r = 0 ∨ r = 1 ∨ r = 2 ∨ r = 3 ∨ r = 4 ∨ r = 5 ∨ r = 6 := by omega
  have hk' : k = 0 ∨ k = 1 ∨ k = 2 ∨ k = 3 ∨ k = 4 ∨ k = 5 ∨ k = 6 := by omega
  rcases hr with h | h | h | h | h | h | h <;> rw [h] <;> rcases hk' with e | e | e | e | e | e | e <;> rw [e] <;> decide
theorem work_low (a : Int) (k : Nat) : 5 * (k : Int) - 12 ≤ 7 * workF a k := by
  have e : workF a k = 5 * ((k / 7 : Nat) : Int) + workF ((a + ((7 * (k / 7) : Nat) : Int)) % 7) (k % 7) := by
    have h1 := workF_add a (7 * (k / 7)) (k % 7)
    rw [show 7 * (k / 7) + k % 7 = k by omega, workF_weeks] at h1
    rw [h1, workF_mod ((a + ((7 * (k / 7) : Nat) : Int)) % 7) (a + ((7 * (k / 7) : Nat) : Int)) ((a + ((7 * (k / 7) : Nat) : Int)) / 7) (by omega)]
  have h2 := work_low7 ((a + ((7 * (k / 7) : Nat) : Int)) % 7) (by omega) (by omega) (k % 7) (by omega)
  rw [e]
  omega
/-- what is known of the working days of two parts -/
theorem work_parts {f u m : Int} (h1 : f ≤ m) (h2 : m ≤ u) : workF f (m - f).toNat + workF m (u - m).toNat = workF f (u - f).toNat := by
  have h := workF_add f (m - f).toNat (u - m).toNat
  rw [show (m - f).toNat + (u - m).toNat = (u - f).toNat by omega, show f + ((m - f).toNat : Int) = m by omega] at h
  exact h.symm
theorem work_facts {f u : Int} (h : f ≤ u) : 0 ≤ workF f (u - f).toNat ∧ workF f (u - f).toNat ≤ u - f ∧ 5 * (u - f) - 12 ≤ 7 * workF f (u - f).toNat := by
  have h1 := workF_bd f (u - f).toNat
  have h2 := work_low f (u - f).toNat
  omega
theorem date_back {n : Int} (h0 : 0 ≤ n) (h1 : n ≤ 36524) : dateR (dateT n) = some n ∧ (dateT n).length = 10 := by
  obtain ⟨hb, hn⟩ := dateN_ok h0 h1
  obtain ⟨⟨y1, y2⟩, ⟨m1, m2⟩, ⟨d1, d2⟩⟩ := date_bounds h0 h1
  obtain ⟨y, hy⟩ := Int.eq_ofNat_of_zero_le (show 0 ≤ (dateN n).1 by omega)
  obtain ⟨m, hm⟩ := Int.eq_ofNat_of_zero_le (show 0 ≤ (dateN n).2.1 by omega)
  obtain ⟨d, hd⟩ := Int.eq_ofNat_of_zero_le (show 0 ≤ (dateN n).2.2 by omega)
  rw [hy, hm, hd] at hb hn
  rw [← hn, dateT_num hb]
  exact ⟨date_full y m d hb, by unfold dateL; simp [dN_len]⟩
theorem U8Old.at {B : Nat} {w W : World} {v : Value} {Z : List Int} (h : U8Old B w v Z) (hB : B ≤ W.heap.size) (hb : Below w.heap.size w W) : U8Old W.heap.size W v Z := by
  obtain ⟨a, cap, h1, h2, h3, h4⟩ := h.below hb
  refine ⟨a, cap, h1, h2, h3, ?_⟩
  rcases h4 with h4 | ⟨g, o, e, hg0, hg, hc⟩
  · exact Or.inl h4
  · exact Or.inr ⟨g, o, e, hg, hg, hc⟩
/-- a day's date, its text and its number -/
theorem date_text (n : Int) (h0 : 0 ≤ n) (h1 : n ≤ 36524) : ∃ D : ByteArray, Hid (∀ W, TabP W → Calls Tryd.prog 10 #[.int .i64 n] W fun e w' => e = .returned (.string D) ∧ Below W.heap.size W w') ∧
    Hid (∀ W, TabP W → ErrsAt W → W.ShapedOpen Tryd.prog → Calls Tryd.prog 9 #[.string D] W fun e w' => e = .returned (.tuple #[.int .i64 n, .bool true]) ∧ Below W.heap.size W w') := by
  obtain ⟨D, hD, hsz, hc⟩ := str_all (fun W (h : TabP W) => implDateText_any n W h)
  obtain ⟨hb, hl⟩ := date_back h0 h1
  refine ⟨D, hc, Lib.hid (fun W t e s => ?_)⟩
  have := implReadDate_any D W (by rw [hsz, hl]; decide) t e s
  rw [hD, hb] at this
  exact this
theorem date_of (n : Int) (h0 : 0 ≤ n) (h1 : n ≤ 36524) : ∃ y m d : Int, Hid (∀ W, Calls Tryd.prog 7 #[.int .i64 n] W fun e w' => e = .returned (.tuple #[.int .i64 y, .int .i64 m, .int .i64 d, .int .i64 0]) ∧ Below W.heap.size W w') ∧
    Hid (∀ W, Calls Tryd.prog 8 #[.int .i64 y, .int .i64 m, .int .i64 d] W fun e w' => e = .returned (.tuple #[.int .i64 n, .int .i64 0]) ∧ Below W.heap.size W w') := by
  obtain ⟨hb, hn⟩ := dateN_ok h0 h1
  have hin : inB n 0 36524 = true := inB_iff.2 ⟨h0, h1⟩
  refine ⟨(dateN n).1, (dateN n).2.1, (dateN n).2.2, Lib.hid (fun W => ?_), Lib.hid (fun W => ?_)⟩
  · have := implDateOf_any n W
    simp only [pick_t hin, code_t hin] at this
    exact this
  · have := implDayNumber_any (dateN n).1 (dateN n).2.1 (dateN n).2.2 W
    simp only [numV, pick_t hb, code_t hb, hn] at this
    exact this
theorem date_none (n : Int) (h : ¬ (0 ≤ n ∧ n ≤ 36524)) : Hid (∀ W, Calls Tryd.prog 7 #[.int .i64 n] W fun e w' => e = .returned (.tuple #[.int .i64 0, .int .i64 0, .int .i64 0, .int .i64 2]) ∧ Below W.heap.size W w') := Lib.hid (fun W => by
  have hin : inB n 0 36524 = false := by cases h2 : inB n 0 36524; rfl; exact absurd (inB_iff.1 h2) h
  have := implDateOf_any n W
  simp only [pick_f hin, code_f hin] at this
  exact this)
theorem week_yes (n : Int) (h0 : 0 ≤ n) (h1 : n ≤ 36524) : Hid (∀ W, Calls Tryd.prog 11 #[.int .i64 n] W fun e w' => e = .returned (.tuple #[.int .i64 ((5 + n) % 7), .int .i64 0]) ∧ W = w') := Lib.hid (fun W => by
  have hin : inB n 0 36524 = true := inB_iff.2 ⟨h0, h1⟩
  have := implWeekdayOf_any n W
  simp only [pick_t hin, code_t hin] at this
  exact this)
theorem week_no (n : Int) (h : ¬ (0 ≤ n ∧ n ≤ 36524)) : Hid (∀ W, Calls Tryd.prog 11 #[.int .i64 n] W fun e w' => e = .returned (.tuple #[.int .i64 0, .int .i64 2]) ∧ W = w') := Lib.hid (fun W => by
  have hin : inB n 0 36524 = false := by cases h2 : inB n 0 36524; rfl; exact absurd (inB_iff.1 h2) h
  have := implWeekdayOf_any n W
  simp only [pick_f hin, code_f hin] at this
  exact this)
theorem work_yes (f u : Int) (h0 : 0 ≤ f ∧ f ≤ 36524) (h1 : f ≤ u ∧ u ≤ 36525) : Hid (∀ W, Calls Tryd.prog 13 #[.int .i64 f, .int .i64 u] W fun e w' => e = .returned (.tuple #[.int .i64 (workF f (u - f).toNat), .int .i64 0]) ∧ W = w') := Lib.hid (fun W => by
  have hin : (inB f 0 36524 && inB u f 36525) = true := by rw [inB_iff.2 h0, inB_iff.2 h1]; rfl
  have := implWorkDays_any f u W
  simp only [pick_t hin, code_t hin] at this
  exact this)
theorem work_no (f u : Int) (h : ¬ ((0 ≤ f ∧ f ≤ 36524) ∧ (f ≤ u ∧ u ≤ 36525))) : Hid (∀ W, Calls Tryd.prog 13 #[.int .i64 f, .int .i64 u] W fun e w' => e = .returned (.tuple #[.int .i64 0, .int .i64 2]) ∧ W = w') := Lib.hid (fun W => by
  have hin : (inB f 0 36524 && inB u f 36525) = false := by
    cases h2 : (inB f 0 36524 && inB u f 36525)
    · rfl
    · rw [Bool.and_eq_true] at h2
      exact absurd ⟨inB_iff.1 h2.1, inB_iff.1 h2.2⟩ h
  have := implWorkDays_any f u W
  simp only [pick_f hin, code_f hin] at this
  exact this)
end Go.Proofs.YtolcmmjbdgmnaaaDoor
