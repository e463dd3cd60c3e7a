/-
  Outlines without corners.
-/
import Derived.Test.YtdgkpghecfpgoaaArcD
namespace Go.Proofs.Ytdgkpghecfpgoaa
open Go.ChangeShapes Go.WideShapes Go.ChangeAt Go.RowKit Go.Deep
set_option linter.unusedVariables false
set_option linter.unusedSimpArgs false
set_option maxRecDepth 1000000
/-- an outline without corners -/
def smoothB (Z : List Arc) : Bool := outB Z && decide ((corL Z Z.length).length = 0)
theorem rowI_open {w : World} {B n : Nat} {v : Value} {xs : List Value} (h : w.ownsRow B 2 1 v n xs) : ∃ a cap, v = .slice a n cap := by
  rcases h.2 with ⟨h1, h2⟩ | ⟨g, cap, cur, hv, _⟩
  · exact ⟨none, 0, by rw [h1, h2]⟩
  · exact ⟨_, cap, hv⟩
theorem implIsSmooth_any (v : Value) (Z : List Arc) (w : World) (hn : Z.length ≤ 1048576) (hv : ArcsAt w v Z) : Calls Try.prog 34 #[v] w fun e w' => e = .returned (.bool (smoothB Z)) ∧ Below w.heap.size w w' := by
  have cC := Lib.hid (implCornersOf_any v Z w hn hv)
  have hl16 := (corV_in Z).2
  cases h : outB Z
  · have hc1 : okC Z = 1 := by unfold okC; rw [h]; rfl
    have hs : Hid (smoothB Z = false) := Lib.hid (by unfold smoothB; rw [h]; rfl)
    rw [hc1] at cC
    clear hl16
    go_enter Try.func34, Try.ntmps34
    go_wp2_with (go_at_call 28; (with_reducible refine cC.out.mono ?_); rintro e w' ⟨v', rfl, ho, hbel⟩)
    go_ret
    exact ⟨ret_bool hs.out.symm, hbel⟩
  · have hc1 : okC Z = 0 := by unfold okC; rw [h]; rfl
    have hc2 : corV Z = corL Z Z.length := by unfold corV; rw [if_pos h]
    have hs : Hid (smoothB Z = decide ((corL Z Z.length).length = 0)) := Lib.hid (by unfold smoothB; rw [h]; rfl)
    rw [hc1] at cC
    rw [hc2] at cC hl16
    generalize corL Z Z.length = L at cC hl16 hs
    have fin : ∀ b : Bool, b = decide (L.length = 0) → b = smoothB Z := fun b hb => by rw [hb, hs.out]
    have fin' := Lib.hid fin
    clear fin hs hc2
    by_cases h0 : L.length = 0
    all_goals
      go_enter Try.func34, Try.ntmps34
      go_wp2_with fail
      refine cC.out.mono ?_
      rintro e w' ⟨v', rfl, ho, hbel⟩
      obtain ⟨a, cap, rfl⟩ := rowI_open ho
      clear ho
      go_wp2
      go_ret
      exact ⟨ret_bool (fin'.out _ (by first | (simp [h0]; done) | (simp; omega))), hbel⟩
set_option maxHeartbeats 1600000 in
theorem specIsSmooth_any (v : Value) (Z : List Arc) (w : World) (hn : Z.length ≤ 1048576) (hv : ArcsAt w v Z) : Calls Try.prog 33 #[v] w fun e w' => e = .returned (.bool (smoothB Z)) ∧ Below w.heap.size w w' := by
  have cO := Lib.hid (l05Ok_any v Z w hn hv)
  cases h : outB Z
  · have hs : Hid (smoothB Z = false) := Lib.hid (by unfold smoothB; rw [h]; rfl)
    rw [h] at cO
    go_enter Try.func33, Try.ntmps33
    go_wp2_with (go_at_call 52; (with_reducible refine cO.out.mono ?_); rintro e w' ⟨rfl, hbel⟩)
    go_ret
    exact ⟨ret_bool hs.out.symm, hbel⟩
  · have cC : ∀ W, Below w.heap.size w W → Calls Try.prog 60 #[v] W (RowN (corL Z Z.length) W) := fun W hb => l05Corners_any v Z W h (hv.below hb)
    have cC' := Lib.hid cC
    have hs : Hid (smoothB Z = decide ((corL Z Z.length).length = 0)) := Lib.hid (by unfold smoothB; rw [h]; rfl)
    have hl16 : (corL Z Z.length).length ≤ 16 := Nat.le_trans (corL_len _ _) (out_len h).2
    rw [h] at cO
    clear cC
    generalize corL Z Z.length = L at cC' hl16 hs
    have fin : ∀ b : Bool, b = decide (L.length = 0) → b = smoothB Z := fun b hb => by rw [hb, hs.out]
    have fin' := Lib.hid fin
    clear fin hs
    by_cases h0 : L.length = 0
    all_goals
      go_enter Try.func33, Try.ntmps33
      go_wp2_with fail
      refine cO.out.mono ?_
      rintro e w' ⟨rfl, hbel⟩
      go_wp2_with fail
      refine (cC'.out _ hbel).mono ?_
      rintro e w2 ⟨v', rfl, ho, hbel2⟩
      obtain ⟨a, cap, rfl⟩ := rowI_open ho
      clear ho
      go_wp2
      go_ret
      exact ⟨ret_bool (fin'.out _ (by first | (simp [h0]; done) | (simp; omega))), below2 hbel hbel2⟩
end Go.Proofs.Ytdgkpghecfpgoaa
