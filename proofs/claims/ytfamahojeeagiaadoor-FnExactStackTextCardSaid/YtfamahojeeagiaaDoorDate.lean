/-
  Contracts of the model's dates.
-/
import Derived.Test.YtfamahojeeagiaaDoorMonth
namespace Go.Proofs.YtfamahojeeagiaaDoor
open Go.ChangeShapes Go.WideShapes Go.ChangeAt Go.RowKit
set_option linter.unusedVariables false
set_option linter.unusedSimpArgs false
/-- three integers are handed back -/
def Int3Ret (p : Int × Int × Int) (w : World) (e : Ending) (w' : World) : Prop := e = .returned (.tuple #[.int .i64 p.1, .int .i64 p.2.1, .int .i64 p.2.2]) ∧ Below w.heap.size w w'
set_option maxHeartbeats 1000000 in
theorem l02Date_any (day : Int) (h0 : 0 ≤ day) (h1 : day ≤ 36524) (w : World) : Calls Tryd.prog 73 #[.int .i64 day] w (Int3Ret (dateN day) w) := by
  go_enter Tryd.func73, Tryd.ntmps73
  go_wp2
  go_loopw [0, 5, 6] (fun r y m wr => ∃ (y0 m0 r0 : Int), 2000 ≤ y0 ∧ y0 ≤ 2099 ∧ 1 ≤ m0 ∧ m0 ≤ 12 ∧ 0 ≤ r0 ∧ r0 ≤ 36524 ∧ r = .int .i64 r0 ∧ y = .int .i64 y0 ∧ m = .int .i64 m0 ∧ Hid (r0 + cum y0 m0 + dby y0 = day) ∧ Below w.heap.size w wr) (fun r _ _ _ => (intOf r).toNat)
  case atStart => exact ⟨2000, 1, day, by omega, by omega, by omega, by omega, h0, h1, rfl, rfl, rfl, Lib.hid (by rw [cum_one, dby_zero]; omega), Below.refl _ _⟩
  case round =>
    obtain ⟨y0, m0, r0, hy1, hy2, hm1, hm2, hr0, hr1, rfl, rfl, rfl, hs, hb⟩ := hrel
    have hl := mlen_bd y0 m0
    by_cases hge : mlen y0 m0 ≤ r0
    · have hc := Lib.hid (cum_succ y0 m0 hm1 hm2)
      have hz := hb.size
      by_cases hm : 12 ≤ m0
      · obtain rfl : m0 = 12 := by omega
        have hce := Lib.hid (cum_end y0)
        have hds := Lib.hid (dby_succ y0)
        have hlt : y0 < 2099 := by
          have a := hs.out; have b := hc.out; have c := hce.out; have d := hds.out
          rw [show (12 : Int) + 1 = 13 from rfl] at b
          have e := dby_year (y := y0 + 1) (by omega)
          omega
        have hnew : Hid (r0 - mlen y0 12 + cum (y0 + 1) 1 + dby (y0 + 1) = day) := Lib.hid (by
          have a := hs.out; have b := hc.out; have c := hce.out; have d := hds.out
          rw [show (12 : Int) + 1 = 13 from rfl] at b
          rw [cum_one]; omega)
        go_wp2_with (go_at_call 87; refine (l02Length_any _ _ (by omega) (by omega) (by omega) (by omega) _).mono ?_; rintro e w1 ⟨rfl, b1⟩)
        go_roundw
        case rel => exact ⟨y0 + 1, 1, r0 - mlen y0 12, by omega, by omega, by omega, by omega, by omega, by omega, rfl, rfl, rfl, hnew, below3 hb (by assumption) b1⟩
        case measure => simp [intOf]; omega
      · have hm' : m0 + 1 ≤ 12 := by omega
        have hnew : Hid (r0 - mlen y0 m0 + cum y0 (m0 + 1) + dby y0 = day) := Lib.hid (by
          have a := hs.out; have b := hc.out; omega)
        go_wp2_with (go_at_call 87; refine (l02Length_any _ _ (by omega) (by omega) (by omega) (by omega) _).mono ?_; rintro e w1 ⟨rfl, b1⟩)
        go_roundw
        case rel => exact ⟨y0, m0 + 1, r0 - mlen y0 m0, by omega, by omega, by omega, by omega, by omega, by omega, rfl, rfl, rfl, hnew, below3 hb (by assumption) b1⟩
        case measure => simp [intOf]; omega
    · have hd : Hid (dateN day = (y0, m0, r0 + 1)) := Lib.hid (dateN_of (dateB_iff.2 ⟨hy1, hy2, hm1, hm2, by omega, by omega⟩) (by have := hs.out; unfold numD; omega))
      go_wp2_with (go_at_call 87; refine (l02Length_any _ _ (by omega) (by omega) (by omega) (by omega) _).mono ?_; rintro e w1 ⟨rfl, b1⟩)
      go_ret3
      rw [hd.out]
      exact ⟨rfl, hb.trans (b1.mono hb.size)⟩
end Go.Proofs.YtfamahojeeagiaaDoor
