/-
  Contracts of the program's readers of dates, numbers with places and lengths.
-/
import Derived.Test.YtjgpckocmjolmaaGreatDoorReadsI
import Derived.Deep.RegionWith
namespace Go.Proofs.YtjgpckocmjolmaaGreatDoor
open Go.ChangeShapes Go.WideShapes Go.ChangeAt Go.RowKit
set_option linter.unusedVariables false
set_option linter.unusedSimpArgs false
theorem dateT_num {y m d : Nat} (h : dateB y m d = true) : dateT (numD y m d) = dateL y m d := by
  obtain ⟨a1, a2, a3, a4, a5, a6⟩ := dateB_iff.1 h
  have hb := mlen_bd (y : Int) (m : Int)
  have hn := num_bd h
  have e := dateN_of h rfl
  unfold dateT
  rw [if_pos ⟨hn.1, hn.2.1⟩, e]
  show padL 4 (y : Int) ++ 45 :: (padL 2 (m : Int) ++ 45 :: padL 2 (d : Int)) = _
  rw [padL_dN 4 y (by omega) (by omega), padL_dN 2 m (by omega) (by omega), padL_dN 2 d (by omega) (by omega)]; rfl
set_option maxHeartbeats 3200000 in
set_option maxRecDepth 1000000 in
theorem implReadDate_any (s : ByteArray) (w : World) (hs : s.size ≤ 1048576) (hT : TabP w) (hE : ErrsAt w) (hSh : w.ShapedOpen Tryz.prog) :
    Calls Tryz.prog 10 #[.string s] w fun e w' => e = .returned (optV (dateR s.data.toList)) ∧ Below w.heap.size w w' := by
  have hc0 := readParts_any s 45 3 3 rfl (by omega) (by omega) w hs hE hSh
  have hT' := Lib.hid hT
  have hde := dateP_eq s.data.toList
  rcases rpL_cases3 45 s.data.toList with hn | ⟨y, m, d, hy, hm, hd, hn⟩
  · have hr : Hid (optV (dateR s.data.toList) = .tuple #[.int .i64 0, .bool false]) := Lib.hid (by rw [← hde]; unfold dateP; rw [hn]; rfl)
    have hc := Lib.hid (hc0.mono fun e w' h => parts_none h hn)
    clear hc0 hn hT hde
    go_enter Tryz.func10, Tryz.ntmps10
    go_wp2_with (go_at_call 18; refine hc.out.mono ?_; rintro e w1 ⟨rfl, b1⟩)
    go_ret2
    exact ⟨congrArg Ending.returned hr.out.symm, b1⟩
  have hc := Lib.hid (hc0.mono fun e w' h => parts_three h hn)
  have hq : Hid (dateR s.data.toList = if dateB y m d = true ∧ dateL y m d = s.data.toList then some (numD y m d) else none) := Lib.hid (by rw [← hde]; unfold dateP; rw [hn])
  clear hc0 hn hT hde
  cases hb : dateB (y : Int) (m : Int) (d : Int)
  · have hr : Hid (optV (dateR s.data.toList) = .tuple #[.int .i64 0, .bool false]) := Lib.hid (by rw [hq.out, if_neg (by rintro ⟨h, _⟩; rw [hb] at h; cases h)]; rfl)
    have cN : Hid (∀ W, Calls Tryz.prog 19 #[.int .i64 y, .int .i64 m, .int .i64 d] W fun e w' => e = .returned (.tuple #[.int .i64 0, .int .i64 2]) ∧ Below W.heap.size W w') := Lib.hid (fun W => by
      have := implDayNumber_any (y : Int) (m : Int) (d : Int) W
      unfold numV at this
      rw [hb, pick_f rfl, code_f rfl] at this; exact this)
    clear hb
    go_enter Tryz.func10, Tryz.ntmps10
    go_wp2_with (go_at_call 18; refine hc.out.mono ?_; rintro e w1 ⟨g, cap, rfl, hcap, c0, c1, c2, b1⟩)
    go_region_with ((go_at_call 19; (with_reducible refine (cN.out _).mono ?_); rintro e w2 ⟨rfl, b2⟩))
    all_goals
      go_wp2
      go_ret2
      exact ⟨congrArg Ending.returned hr.out.symm, below2 (belowN b1 1) b2⟩
  · have cN : Hid (∀ W, Calls Tryz.prog 19 #[.int .i64 y, .int .i64 m, .int .i64 d] W fun e w' => e = .returned (.tuple #[.int .i64 (numD y m d), .int .i64 0]) ∧ Below W.heap.size W w') := Lib.hid (fun W => by
      have := implDayNumber_any (y : Int) (m : Int) (d : Int) W
      unfold numV at this
      rw [hb, pick_t rfl, code_t rfl] at this; exact this)
    have hnb := num_bd hb
    obtain ⟨N, hN⟩ : ∃ N, N = numD (y : Int) (m : Int) (d : Int) := ⟨_, rfl⟩
    obtain ⟨D, hD, _, cD⟩ := str_all (C := TabP) (fun W h => implDateText_any N W h)
    have hDl : Hid (D.data.toList = dateL y m d) := Lib.hid (by rw [hD, hN, dateT_num hb])
    have hq2 : Hid (optV (backR N D s) = optV (dateR s.data.toList)) := Lib.hid (by
      unfold backR; rw [hq.out, hDl.out, hN]
      by_cases h : dateL y m d = s.data.toList
      · rw [if_pos h, if_pos ⟨hb, h⟩]
      · rw [if_neg h, if_neg (fun k => h k.2)])
    rw [← hN] at cN hnb
    clear hD hN hb
    go_enter Tryz.func10, Tryz.ntmps10
    go_wp2_with (go_at_call 18; refine hc.out.mono ?_; rintro e w1 ⟨g, cap, rfl, hcap, c0, c1, c2, b1⟩)
    go_region_with ((go_at_call 19; (with_reducible refine (cN.out _).mono ?_); rintro e w2 ⟨rfl, b2⟩))
    all_goals
      have b3 := below2 (belowN b1 1) b2
      clear b2 c0 c1 c2
      go_wp2_with fail
      refine (cD.out _ (hT'.out.below b3)).mono ?_
      rintro e w4 ⟨rfl, b4⟩
      go_wp2_with fail
      refine (readBack_any _ D s w4).mono ?_
      rintro e _ ⟨rfl, rfl⟩
      rw [hq2.out]
      cases ho : dateR s.data.toList
      all_goals
        simp only [optV]
        go_wp2
        go_ret2
        exact ⟨by rw [ho]; rfl, below2 b3 b4⟩
end Go.Proofs.YtjgpckocmjolmaaGreatDoor
