/-
  Contracts of DateOf and DayNumber, of the model and of the program.
-/
import Derived.Test.YtjgpckocmjolmaaGreatDoorDate
import Derived.Test.YtjgpckocmjolmaaGreatDoorDateOf
import Derived.Deep.RegionHeld3
namespace Go.Proofs.YtjgpckocmjolmaaGreatDoor
open Go.ChangeShapes Go.WideShapes Go.ChangeAt Go.RowKit
set_option linter.unusedVariables false
set_option linter.unusedSimpArgs false
theorem ret_ib {a b : Int} {c d : Bool} (h1 : a = b) (h2 : c = d) : Ending.returned (.tuple #[.int .i64 a, .bool c]) = .returned (.tuple #[.int .i64 b, .bool d]) := by rw [h1, h2]
/-- is this a date? and its day, else 0 -/
def numV (y m d : Int) : Int := pick (dateB y m d) (numD y m d)
theorem dateB_split (y m d : Int) : dateB y m d = (inB y 2000 2099 && inB m 1 12 && inB d 1 (mlen y m)) := by
  unfold dateB inB; simp only [Bool.and_assoc]
set_option maxHeartbeats 1000000 in
theorem l02Number_any (y m d : Int) (w : World) : Calls Tryz.prog 29 #[.int .i64 y, .int .i64 m, .int .i64 d] w fun e w' => e = .returned (.tuple #[.int .i64 (numV y m d), .bool (dateB y m d)]) ∧ Below w.heap.size w w' := by
  have hsp := dateB_split y m d
  cases h1 : inB y 2000 2099
  · have hf : Hid (dateB y m d = false) := Lib.hid (by rw [hsp, h1]; rfl)
    clear hsp
    go_enter Tryz.func29, Tryz.ntmps29
    go_wp2_with (go_at_call 27; refine (l00In_any _ _ _ _).mono ?_; rintro e w' ⟨rfl, rfl⟩)
    go_ret2
    exact ⟨by unfold numV; rw [hf.out]; rfl, Below.refl _ _⟩
  cases h2 : inB m 1 12
  · have hf : Hid (dateB y m d = false) := Lib.hid (by rw [hsp, h1, h2]; rfl)
    clear hsp
    go_enter Tryz.func29, Tryz.ntmps29
    go_wp2_with (go_at_call 27; refine (l00In_any _ _ _ _).mono ?_; rintro e w' ⟨rfl, rfl⟩)
    go_ret2
    exact ⟨by unfold numV; rw [hf.out]; rfl, Below.refl _ _⟩
  have by0 := inB_iff.1 h1
  have bm0 := inB_iff.1 h2
  have hml := mlen_bd y m
  cases h3 : inB d 1 (mlen y m)
  · have hf : Hid (dateB y m d = false) := Lib.hid (by rw [hsp, h1, h2, h3]; rfl)
    clear hsp
    go_enter Tryz.func29, Tryz.ntmps29
    go_wp2_with (first
      | (go_at_call 27; refine (l00In_any _ _ _ _).mono ?_; rintro e w' ⟨rfl, rfl⟩)
      | (go_at_call 50; refine (l02Length_any _ _ (by omega) (by omega) (by omega) (by omega) _).mono ?_; rintro e w1 ⟨rfl, b1⟩))
    go_ret2
    exact ⟨by unfold numV; rw [hf.out]; rfl, b1⟩
  have hf : Hid (dateB y m d = true) := Lib.hid (by rw [hsp, h1, h2, h3]; rfl)
  have bd0 := inB_iff.1 h3
  have hnum : Hid (numD y m d = d - 1 + dby y + cum y m) := Lib.hid (by unfold numD; omega)
  clear hsp
  go_enter Tryz.func29, Tryz.ntmps29
  go_wp2_with (first
      | (go_at_call 27; refine (l00In_any _ _ _ _).mono ?_; rintro e w' ⟨rfl, rfl⟩)
      | (go_at_call 50; refine (l02Length_any _ _ (by omega) (by omega) (by omega) (by omega) _).mono ?_; rintro e w1 ⟨rfl, b1⟩))
  obtain ⟨wo, hwo, rfl⟩ : ∃ wo : World, Below w.heap.size w wo ∧ wo = w1 := ⟨_, b1, rfl⟩
  clear b1
  go_loop [8, 9] (fun s i => ∃ k s0 : Int, 2000 ≤ k ∧ k ≤ y ∧ i = .int .i64 k ∧ s = .int .i64 s0 ∧ 0 ≤ s0 ∧ s0 ≤ 40000 ∧ Hid (s0 = d - 1 + dby k)) (fun _ i => (y - intOf i).toNat)
  case atStart => exact ⟨2000, d - 1, by omega, by omega, rfl, rfl, by omega, by omega, Lib.hid (by rw [dby_zero]; omega)⟩
  case round =>
    obtain ⟨k, s0, hk1, hk2, rfl, rfl, hs0, hs1, hs⟩ := hrel
    have hdb := dby_bd hk1 (by omega)
    by_cases hlt : k < y
    · have hdb2 := dby_bd (y := k + 1) (by omega) (by omega)
      by_cases hlp : k % 4 = 0
      · have hn : Hid (s0 + 365 + 1 = d - 1 + dby (k + 1)) := Lib.hid (by rw [dby_succ]; have := hs.out; unfold ylen leapN; simp [hlp]; omega)
        have hup : s0 + 365 + 1 ≤ 40000 := by have := hn.out; omega
        go_wp2
        go_round
        case rel => exact ⟨k + 1, s0 + 365 + 1, by omega, by omega, by go_num, rfl, by omega, by omega, hn⟩
        case measure => simp [intOf]; omega
      · have hn : Hid (s0 + 365 = d - 1 + dby (k + 1)) := Lib.hid (by rw [dby_succ]; have := hs.out; unfold ylen leapN; simp [hlp]; omega)
        have hup : s0 + 365 ≤ 40000 := by have := hn.out; omega
        go_wp2
        go_round
        case rel => exact ⟨k + 1, s0 + 365, by omega, by omega, by go_num, rfl, by omega, by omega, hn⟩
        case measure => simp [intOf]; omega
    · obtain rfl : k = y := by omega
      go_wp2
      go_loopw [8, 10] (fun s i wr => ∃ q s1 : Int, 1 ≤ q ∧ q ≤ m ∧ i = .int .i64 q ∧ s = .int .i64 s1 ∧ 0 ≤ s1 ∧ s1 ≤ 50000 ∧ Hid (s1 = d - 1 + dby k + cum k q) ∧ Below w.heap.size w wr) (fun _ i _ => (m - intOf i).toNat)
      case atStart => exact ⟨1, s0, by omega, by omega, rfl, rfl, by omega, by omega, Lib.hid (by rw [cum_one]; have := hs.out; omega), hwo⟩
      case round =>
        obtain ⟨q, s1, hq1, hq2, rfl, rfl, hs10, hs11, hs2, hb⟩ := hrel
        by_cases hlt2 : q < m
        · have hcb := cum_bd (y := k) (m := q + 1) (by omega) (by omega)
          have hml2 := mlen_bd k q
          have hn : Hid (s1 + mlen k q = d - 1 + dby k + cum k (q + 1)) := Lib.hid (by rw [cum_succ k q hq1 (by omega)]; have := hs2.out; omega)
          have hup : s1 + mlen k q ≤ 50000 := by have := hn.out; omega
          go_wp2_with (go_at_call 50; refine (l02Length_any _ _ (by omega) (by omega) (by omega) (by omega) _).mono ?_; rintro e w2 ⟨rfl, b2⟩)
          go_roundw
          case rel => exact ⟨q + 1, s1 + mlen k q, by omega, by omega, by go_num, rfl, by omega, by omega, hn, below2 hb b2⟩
          case measure => simp [intOf]; omega
        · obtain rfl : q = m := by omega
          go_wp2
          go_ret2
          exact ⟨ret_ib (by unfold numV; rw [hf.out, pick_t rfl, hnum.out, ← hs2.out]) hf.out.symm, hb⟩
end Go.Proofs.YtjgpckocmjolmaaGreatDoor
