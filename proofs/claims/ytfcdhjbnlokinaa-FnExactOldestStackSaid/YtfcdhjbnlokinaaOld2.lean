/-
  The oldest stack: the model's contract.
-/
import Derived.Test.YtfcdhjbnlokinaaOld
namespace Go.Proofs.Ytfcdhjbnlokinaa
open Go.ChangeShapes Go.WideShapes Go.ChangeAt Go.RowKit Go.Deep
set_option linter.unusedVariables false
set_option linter.unusedSimpArgs false
theorem since_at {w wr : World} (hd : DrewOf w wr) {g o : Nat} {x : Stk} (hr : w.rangeAt g o x.cells) : wr.cell? ⟨g, o + 3, none⟩ = some (.int .i64 x.sin) ∧ wr.cell? ⟨g, o, none⟩ = some (.string x.id) := by
  have h := stkAt_of (hd.range hr)
  exact ⟨h.2.2.2, h.1⟩
set_option maxHeartbeats 3200000 in
theorem specOldestStack_any (v : Value) (Z : List Stk) (d : Int) (w : World) (hn : Z.length ≤ 1048576) (hv : StksAt w v Z) : Calls Try.prog 22 #[v, .int .i64 d] w (OldRet Z d w) := by
  cases h1 : stksB Z
  · have hr := Lib.hid (old_bad (show oldC Z d = 1 by unfold oldC; rw [h1]; rfl) (by decide))
    have cV := Lib.hid (l04Ok_any v Z w hn hv)
    rw [h1] at cV
    go_enter Try.func22, Try.ntmps22
    go_wp2_with fail
    refine cV.out.mono ?_
    rintro e w1 ⟨rfl, b1⟩
    go_wp2
    go_ret3
    exact ⟨ret_old hr.out.1.symm hr.out.2.1.symm hr.out.2.2.symm, b1.below⟩
  cases h2 : inB d 0 36524
  · have hr := Lib.hid (old_bad (show oldC Z d = 2 by unfold oldC; rw [h1, h2]; rfl) (by decide))
    have cV := Lib.hid (l04Ok_any v Z w hn hv)
    rw [h1] at cV
    go_enter Try.func22, Try.ntmps22
    go_wp2_with fail
    refine cV.out.mono ?_
    rintro e w1 ⟨rfl, b1⟩
    go_wp2_with (go_at_call 46; refine (l02Day_any _ _).mono ?_; rintro e w' ⟨rfl, rfl⟩)
    go_ret3
    exact ⟨ret_old hr.out.1.symm hr.out.2.1.symm hr.out.2.2.symm, b1.below⟩
  have cV := Lib.hid (l04Ok_any v Z w hn hv)
  rw [h1] at cV
  have hd := inB_iff.1 h2
  have hval := Lib.hid h1
  have hC : Hid (oldC Z d = if Z.length = 0 then 3 else if d < (oldS Z).sin then 6 else 0) := Lib.hid (by unfold oldC; rw [h1, h2, if_pos rfl, if_pos rfl])
  obtain ⟨p, cap, rfl, hcap, hids, hread⟩ := hv
  have hread' := Lib.hid hread
  clear hread hids
  go_enter Try.func22, Try.ntmps22
  go_wp2_with fail
  refine cV.out.mono ?_
  rintro e w1 ⟨rfl, b1⟩
  go_wp2_with (go_at_call 46; refine (l02Day_any _ _).mono ?_; rintro e w' ⟨rfl, rfl⟩)
  clear cV
  go_loopw [7, 8] (fun x i wr => ∃ (k : Nat) (bi : Int), k ≤ Z.length ∧ i = .int .i64 k ∧ x = .int .i64 bi ∧ Hid ((k = 0 → bi = -1) ∧ (0 < k → bi = oldK Z k)) ∧ DrewOf w wr) (fun _ i _ => Z.length - (intOf i).toNat)
  case atStart => exact ⟨0, -1, by omega, rfl, rfl, Lib.hid ⟨fun _ => rfl, by omega⟩, b1⟩
  case round =>
    obtain ⟨k, bi, hk, rfl, rfl, hbi, hd⟩ := hrel
    by_cases hlt : k < Z.length
    · rcases hread'.out with h | ⟨g, o, rfl, hg, hc⟩
      · subst h; simp at hlt
      have hltI : (k : Int) < (Z.length : Int) := by omega
      obtain ⟨c3, _⟩ := since_at hd (hc k hlt)
      rcases Nat.eq_zero_or_pos k with h0 | h0
      · subst h0
        obtain rfl : bi = -1 := hbi.out.1 rfl
        have hst : Hid ((0 + 1 = 0 → (((0 : Nat)) : Int) = -1) ∧ (0 < 0 + 1 → ((0 : Nat) : Int) = oldK Z (0 + 1))) := Lib.hid ⟨by omega, fun _ => by show _ = ((if (Z.getD 0 stk0).sin < (Z.getD 0 stk0).sin then 0 else 0 : Nat) : Int); split <;> rfl⟩
        clear hc
        go_wp2
        go_quiet (fail)
        go_wp2
        go_roundw
        case rel => exact ⟨0 + 1, 0, by omega, by go_num, by go_num, hst, hd.more _⟩
        case measure => simp [intOf]; omega
      · obtain rfl : bi = oldK Z k := hbi.out.2 h0
        obtain ⟨q, hq⟩ : ∃ q, q = oldK Z k := ⟨_, rfl⟩
        have hql : q < Z.length := by rw [hq]; exact oldK_lt k (by omega) (by omega)
        obtain ⟨e3, _⟩ := since_at hd (hc q hql)
        have hqI : (q : Int) < (Z.length : Int) := by omega
        have hq0 : decide ((q : Int) < 0) = false := by simp
        have hstep : oldK Z (k + 1) = if Z[k].sin < Z[q].sin then k else q := by
          show (if (Z.getD k stk0).sin < (Z.getD (oldK Z k) stk0).sin then k else oldK Z k) = _
          rw [← hq, stk_getD_at' hlt, stk_getD_at' hql]
        rw [← hq]
        obtain ⟨x1, hx1⟩ : ∃ x1, x1 = Z[k].sin := ⟨_, rfl⟩
        obtain ⟨x2, hx2⟩ : ∃ x2, x2 = Z[q].sin := ⟨_, rfl⟩
        rw [← hx1] at c3 hstep
        rw [← hx2] at e3 hstep
        clear hx1 hx2 hc hq hbi
        by_cases hcmp : x1 < x2
        · have hst : Hid ((k + 1 = 0 → (k : Int) = -1) ∧ (0 < k + 1 → (k : Int) = oldK Z (k + 1))) := Lib.hid ⟨by omega, fun _ => by rw [hstep, if_pos hcmp]⟩
          clear hstep
          go_wp2
          go_quiet (fail)
          go_wp2
          go_roundw
          case rel => exact ⟨k + 1, k, by omega, by go_num, by go_num, hst, hd.more _⟩
          case measure => simp [intOf]; omega
        · have hst : Hid ((k + 1 = 0 → (q : Int) = -1) ∧ (0 < k + 1 → (q : Int) = oldK Z (k + 1))) := Lib.hid ⟨by omega, fun _ => by rw [hstep, if_neg hcmp]⟩
          clear hstep
          go_wp2
          go_quiet (fail)
          go_wp2
          go_roundw
          case rel => exact ⟨k + 1, q, by omega, by go_num, by go_num, hst, hd.more _⟩
          case measure => simp [intOf]; omega
    · have hkl : k = Z.length := by omega
      by_cases h0 : Z.length = 0
      · have hr := Lib.hid (old_bad (show oldC Z d = 3 by rw [hC.out, if_pos h0]) (by decide))
        obtain rfl : bi = -1 := hbi.out.1 (by omega)
        clear hkl
        go_wp2
        go_ret3
        exact ⟨ret_old hr.out.1.symm hr.out.2.1.symm hr.out.2.2.symm, hd.below⟩
      rcases hread'.out with h | ⟨g, o, rfl, hg, hc⟩
      · subst h; simp at h0
      obtain rfl : bi = oldK Z k := hbi.out.2 (by omega)
      obtain ⟨q, hq⟩ : ∃ q, q = oldK Z k := ⟨_, rfl⟩
      have hql : q < Z.length := by rw [hq]; exact oldK_lt k (by omega) (by omega)
      obtain ⟨e3, e0⟩ := since_at hd (hc q hql)
      have hcb := stks_sin hval.out hql
      have hS : oldS Z = Z[q] := by unfold oldS; rw [← hkl, ← hq, stk_getD_at' hql]
      have hqI : (q : Int) < (Z.length : Int) := by omega
      have hq0 : decide ((q : Int) < 0) = false := by simp
      have hC' := hC.out
      rw [hS, if_neg h0] at hC'
      have hg1 := fun hh : oldC Z d = 0 => old_good hh
      rw [hS] at hg1
      rw [← hq]
      obtain ⟨x1, hx1⟩ : ∃ x1, x1 = Z[q] := ⟨_, rfl⟩
      rw [← hx1] at e3 e0 hcb hC' hg1
      obtain ⟨s1, a1, b1', c1⟩ := x1
      simp only at e3 e0 hcb hC' hg1
      clear hx1 hc hq hbi hS hkl
      by_cases hs : d < c1
      · have hr := Lib.hid (old_bad (show oldC Z d = 6 by rw [hC', if_pos hs]) (by decide))
        clear hC' hg1
        go_wp2
        go_ret3
        exact ⟨ret_old hr.out.1.symm hr.out.2.1.symm hr.out.2.2.symm, hd.below⟩
      · have hr := Lib.hid (hg1 (show oldC Z d = 0 by rw [hC', if_neg hs]))
        clear hC' hg1
        go_wp2
        go_quiet (fail)
        go_wp2
        go_ret3
        exact ⟨ret_old hr.out.1.symm hr.out.2.1.symm hr.out.2.2.symm, (hd.more _).below⟩
end Go.Proofs.Ytfcdhjbnlokinaa
