/-
  Contracts of the program's dates: a date in memory of the call's own.
-/
import Derived.Test.YtjgpckocmjolmaaGreatDoorMonth
import Derived.OneCell
import Derived.Deep.LoopGhost
import Derived.StillTailTactics
namespace Go.Proofs.YtjgpckocmjolmaaGreatDoor
open Go.ChangeShapes Go.WideShapes Go.ChangeAt Go.RowKit
set_option linter.unusedVariables false
set_option linter.unusedSimpArgs false
theorem cellB {w : World} {b : Nat} {cs : Array Value} {t : TypeId} (h : w.heap[b]? = some (.cells cs t (0, 0))) (i : Nat) (v : Value) (hv : cs[i]? = some v) : w.cell? ⟨b, i, none⟩ = some v := by rw [cell_of_row w b i cs t (0, 0) h, hv]
theorem freeB {w : World} {b : Nat} {cs : Array Value} {t : TypeId} (h : w.heap[b]? = some (.cells cs t (0, 0))) (i : Nat) : w.frozen? ⟨b, i, none⟩ = false := by simp [World.frozen?, h]
theorem Ss {P : Program} {f : FuncId} {args : Array Value} {w : World} {v : Value}
    (h : Calls P f args w fun e w' => e = .returned v ∧ w = w') : Calls P f args w fun e w'' => e = .returned v ∧ w'' = w :=
  h.mono fun _ _ ⟨he, hm⟩ => ⟨he, hm.symm⟩
/-- a date lies in the second of two new blocks -/
def DateIn (B : Nat) (y m d : Int) (w : World) : Prop := w.heap[B]? = some (.cells #[.int .i64 0, .int .i64 0, .int .i64 0] 57 (0, 0)) ∧ w.heap[B + 1]? = some (.cells #[.int .i64 y, .int .i64 m, .int .i64 d] 57 (0, 0))
theorem DateIn.facts {B : Nat} {y m d : Int} {w : World} (h : DateIn B y m d w) : w.cell? ⟨B + 1, 0, none⟩ = some (.int .i64 y) ∧ w.cell? ⟨B + 1, 1, none⟩ = some (.int .i64 m) ∧ w.cell? ⟨B + 1, 2, none⟩ = some (.int .i64 d) ∧ w.frozen? ⟨B + 1, 0, none⟩ = false ∧ w.frozen? ⟨B + 1, 1, none⟩ = false ∧ w.frozen? ⟨B + 1, 2, none⟩ = false :=
  ⟨cellB h.2 0 _ rfl, cellB h.2 1 _ rfl, cellB h.2 2 _ rfl, freeB h.2 0, freeB h.2 1, freeB h.2 2⟩
theorem DateIn.drewN {B : Nat} {y m d : Int} {w : World} (h : DateIn B y m d w) (n : Nat) : DateIn B y m d (w.drewN n) := h
theorem DateIn.set {B : Nat} {y m d : Int} {w : World} (h : DateIn B y m d w) (i : Nat) (v : Int) : DateIn B (if i = 0 then v else y) (if i = 1 then v else m) (if i = 2 then v else d) (w.setCell ⟨B + 1, i, none⟩ (.int .i64 v)) := by
  refine ⟨by rw [heap_setCell_other _ _ _ _ (by simp)]; exact h.1, ?_⟩
  rw [heap_setCell_same _ _ _ _ _ _ h.2]
  match i with
  | 0 => rfl
  | 1 => rfl
  | 2 => rfl
  | n + 3 =>
    have e0 : ¬ n + 3 = 0 := by omega
    have e1 : ¬ n + 3 = 1 := by omega
    have e2 : ¬ n + 3 = 2 := by omega
    rw [if_neg e0, if_neg e1, if_neg e2]; rfl
set_option maxHeartbeats 2000000 in
set_option maxRecDepth 1000000 in
theorem dateOf_any (day : Int) (h0 : 0 ≤ day) (h1 : day ≤ 36524) (w : World) : Calls Tryz.prog 42 #[.int .i64 day] w fun e w' => e = .returned (.agg #[.int .i64 (dateN day).1, .int .i64 (dateN day).2.1, .int .i64 (dateN day).2.2]) ∧ Below w.heap.size w w' := by
  go_enter Tryz.func42, Tryz.ntmps42
  go_wp2
  go_loopg [] (day.toNat + 1) (fun k wr => ∃ (y0 r0 : Int), 2000 ≤ y0 ∧ y0 ≤ 2099 ∧ 1 ≤ r0 ∧ r0 ≤ 36525 ∧ Hid (r0 = k) ∧ Hid (r0 + dby y0 = day + 1) ∧ DateIn w.heap.size y0 1 r0 wr ∧ Below w.heap.size w wr)
  case atStart => exact ⟨2000, day + 1, by omega, by omega, by omega, by omega, Lib.hid (by omega), Lib.hid (by rw [dby_zero]; omega), ⟨heap_alloc2_old _ _ _, heap_alloc2_new _ _ _⟩, ((Below.refl _ _).alloc (Nat.le_refl _) _).alloc (by simp) _⟩
  case round =>
    obtain ⟨y0, r0, hy1, hy2, hr0, hr1, hk, hs, hD, hb⟩ := hrel
    have hbl := ylen_bd y0
    obtain ⟨c0, c1, c2, f0, f1, f2⟩ := hD.facts
    by_cases hgt : ylen y0 < r0
    · have hnew : Hid (r0 - ylen y0 + dby (y0 + 1) = day + 1) := Lib.hid (by have := hs.out; have := dby_succ y0; omega)
      have hy3 : y0 + 1 ≤ 2099 := dby_year (by have := hnew.out; omega)
      go_wp2
      go_quiet ((go_at_call 61; exact Qs (yearDays_any _ (by omega) (by omega) _)))
      go_wp2
      generalize hwx : World.drewN wr _ = wx
      have hDx : DateIn w.heap.size y0 1 r0 wx := hwx ▸ hD.drewN _
      have hbx : Below w.heap.size w wx := hwx ▸ belowN hb _
      clear hwx c0 c1 c2 f0 f1 f2 hD hb
      obtain ⟨c0, c1, c2, f0, f1, f2⟩ := hDx.facts
      go_still_tail 7, (by kernel_rfl)
      still_call (Ss (yearDays_any _ (by omega) (by omega) _))
      repeat still_step
      refine wpStill_nil ?_
      change wpList _ _ _ _ _ wx.drew
      have hDy : DateIn w.heap.size y0 1 r0 wx.drew := hDx
      have hby : Below w.heap.size w wx.drew := belowN hbx 1
      generalize wx.drew = wy at hDy hby
      clear c0 c1 c2 f0 f1 f2 hDx hbx
      obtain ⟨c0, c1, c2, f0, f1, f2⟩ := hDy.facts
      go_wp2
      go_roundg (r0 - ylen y0).toNat
      case rel => exact ⟨y0 + 1, r0 - ylen y0, by omega, by omega, by omega, by omega, Lib.hid (by omega), hnew, (hDy.set 2 _).set 0 _, (hby.setCell (by simp) _).setCell (by simp) _⟩
      case measure => have := hk.out; omega
    · have hyl : r0 ≤ ylen y0 := by omega
      go_wp2
      go_quiet ((go_at_call 61; exact Qs (yearDays_any _ (by omega) (by omega) _)))
      go_wp2
      generalize hwx : World.drewN wr _ = wx
      have hDx : DateIn w.heap.size y0 1 r0 wx := hwx ▸ hD.drewN _
      have hbx : Below w.heap.size w wx := hwx ▸ belowN hb _
      clear hwx c0 c1 c2 f0 f1 f2 hD hb hgt
      have hce := Lib.hid (cum_end y0)
      have hc1 := Lib.hid (cum_one y0)
      go_loopg [] 13 (fun k wr => ∃ (m0 r1 : Int), 1 ≤ m0 ∧ m0 ≤ 12 ∧ 1 ≤ r1 ∧ r1 ≤ 366 ∧ Hid (m0 + k = 14) ∧ Hid (r1 + cum y0 m0 = r0) ∧ DateIn w.heap.size y0 m0 r1 wr ∧ Below w.heap.size w wr)
      case atStart => exact ⟨1, r0, by omega, by omega, by omega, by omega, Lib.hid (by omega), Lib.hid (by rw [hc1.out]; omega), hDx, hbx⟩
      case round =>
        obtain ⟨m0, r1, hm1, hm2, hq0, hq1, hk2, hs2, hD, hb⟩ := hrel
        have hml := mlen_bd y0 m0
        obtain ⟨c0, c1, c2, f0, f1, f2⟩ := hD.facts
        by_cases hgt : mlen y0 m0 < r1
        · have hcs := Lib.hid (cum_succ y0 m0 hm1 hm2)
          have hnew : Hid (r1 - mlen y0 m0 + cum y0 (m0 + 1) = r0) := Lib.hid (by have := hs2.out; have := hcs.out; omega)
          have hm3 : m0 + 1 ≤ 12 := by
            by_cases e : m0 = 12
            · subst e
              have := hcs.out; have := hce.out; have := hs2.out
              rw [show (12 : Int) + 1 = 13 from rfl] at *
              omega
            · omega
          go_wp2
          go_quiet ((go_at_call 62; exact Qs (monthDays_any _ _ (by omega) (by omega) (by omega) (by omega) _)))
          go_wp2
          generalize hwx : World.drewN wr _ = wx
          have hDx : DateIn w.heap.size y0 m0 r1 wx := hwx ▸ hD.drewN _
          have hbx : Below w.heap.size w wx := hwx ▸ belowN hb _
          clear hwx c0 c1 c2 f0 f1 f2 hD hb
          obtain ⟨c0, c1, c2, f0, f1, f2⟩ := hDx.facts
          go_still_tail 9, (by kernel_rfl)
          still_call (Ss (monthDays_any _ _ (by omega) (by omega) (by omega) (by omega) _))
          repeat still_step
          refine wpStill_nil ?_
          change wpList _ _ _ _ _ wx.drew
          have hDy : DateIn w.heap.size y0 m0 r1 wx.drew := hDx
          have hby : Below w.heap.size w wx.drew := belowN hbx 1
          generalize wx.drew = wy at hDy hby
          clear c0 c1 c2 f0 f1 f2 hDx hbx
          obtain ⟨c0, c1, c2, f0, f1, f2⟩ := hDy.facts
          go_wp2
          go_roundg (13 - m0).toNat
          case rel => exact ⟨m0 + 1, r1 - mlen y0 m0, by omega, by omega, by omega, by omega, Lib.hid (by omega), hnew, (hDy.set 2 _).set 1 _, (hby.setCell (by simp) _).setCell (by simp) _⟩
          case measure => have := hk2.out; omega
        · have hd : Hid (dateN day = (y0, m0, r1)) := Lib.hid (dateN_of (dateB_iff.2 ⟨hy1, hy2, hm1, hm2, by omega, by omega⟩) (by have := hs.out; have := hs2.out; unfold numD; omega))
          have z0 := cellB hD.1 0 _ rfl
          have z1 := cellB hD.1 1 _ rfl
          have z2 := cellB hD.1 2 _ rfl
          have e0 := freeB hD.1 0
          have e1 := freeB hD.1 1
          have e2 := freeB hD.1 2
          go_wp2
          go_quiet ((go_at_call 62; exact Qs (monthDays_any _ _ (by omega) (by omega) (by omega) (by omega) _)))
          go_wp2
          generalize hwx : World.drewN wr _ = wx
          have hDx : DateIn w.heap.size y0 m0 r1 wx := hwx ▸ hD.drewN _
          have hbx : Below w.heap.size w wx := hwx ▸ belowN hb _
          have hR := heap_setCell_same _ _ 2 _ _ (.int .i64 r1) (heap_setCell_same _ _ 1 _ _ (.int .i64 m0) (heap_setCell_same _ _ 0 _ _ (.int .i64 y0) hDx.1))
          have g0 := cellB hR 0 (.int .i64 y0) rfl
          have g1 := cellB hR 1 (.int .i64 m0) rfl
          have g2 := cellB hR 2 (.int .i64 r1) rfl
          have hL : Ending.returned (Value.agg #[.int .i64 y0, .int .i64 m0, .int .i64 r1]) = .returned (Value.agg #[.int .i64 (dateN day).1, .int .i64 (dateN day).2.1, .int .i64 (dateN day).2.2]) := by rw [hd.out]
          exact bodyPost_ret (v := .agg #[.int .i64 y0, .int .i64 m0, .int .i64 r1]) (by simp [results, Tryz.results42, go_sem, g0, g1, g2]) rfl ⟨hL, ((hbx.setCell (by simp) _).setCell (by simp) _).setCell (by simp) _⟩
end Go.Proofs.YtjgpckocmjolmaaGreatDoor
