/-
  A row of numbers all of which lie within bounds.
-/
import Derived.Test.YtcgmpomhklhmaaaDoorInts
import Derived.Test.YtcgmpomhklhmaaaDoorRowMath
import Derived.Test.YtcgmpomhklhmaaaDoorCore2
import Derived.Test.YtcgmpomhklhmaaaDoorMem
import Derived.BigQuiet
import Derived.Deep.QuietTactic
import Derived.Deep.RegionHeld3
namespace Go.Proofs.YtcgmpomhklhmaaaDoor
open Go.ChangeShapes Go.WideShapes Go.ChangeAt Go.RowKit Go.Deep
set_option linter.unusedVariables false
set_option linter.unusedSimpArgs false
set_option maxRecDepth 1000000
/-- number i lies within the bounds, and whether all do -/
def wAt (Z : List Int) (lo hi : Int) (i : Nat) : Bool := inB (Z.getD i 0) lo hi
def allI (Z : List Int) (lo hi : Int) : Bool := allK (wAt Z lo hi) Z.length
theorem allI_iff {Z : List Int} {lo hi : Int} : allI Z lo hi = true ↔ ∀ n ∈ Z, lo ≤ n ∧ n ≤ hi := by
  unfold allI
  rw [allK_iff]
  constructor
  · intro h n hn
    obtain ⟨i, hi, rfl⟩ := List.mem_iff_getElem.1 hn
    have := inB_iff.1 (h i hi)
    rwa [getD_of _ hi] at this
  · intro h i hi
    unfold wAt
    rw [getD_of _ hi]
    exact inB_iff.2 (h _ (List.getElem_mem hi))
theorem withinN_any (n lo hi : Int) (w : World) : Calls Tryd.prog 46 #[.int .i64 n, .int .i64 lo, .int .i64 hi] w fun e w' => e = .returned (.bool (inB n lo hi)) ∧ w = w' := by
  by_cases h1 : lo ≤ n
  · by_cases h2 : n ≤ hi
    · go_enter Tryd.func46, Tryd.ntmps46
      go_wp2
      go_ret
      exact ⟨ret_bool (by unfold inB; rw [decide_eq_true h1, decide_eq_true h2]; rfl), rfl⟩
    · go_enter Tryd.func46, Tryd.ntmps46
      go_wp2
      go_ret
      exact ⟨ret_bool (by unfold inB; rw [decide_eq_true h1, decide_eq_false (by omega), Bool.and_false]), rfl⟩
  · go_enter Tryd.func46, Tryd.ntmps46
    go_wp2
    go_ret
    exact ⟨ret_bool (by unfold inB; rw [decide_eq_false (by omega)]; rfl), rfl⟩
theorem allW1_any (n lo hi : Int) (p q : Nat) (w : World) (hp : w.cell? ⟨p, 0, none⟩ = some (.int .i64 lo)) (hq : w.cell? ⟨q, 0, none⟩ = some (.int .i64 hi)) : Calls Tryd.prog 60 #[.int .i64 n, .pointer (some ⟨p, 0, none⟩), .pointer (some ⟨q, 0, none⟩)] w fun e w' => e = .returned (.bool (!inB n lo hi)) ∧ Below w.heap.size w w' := by
  cases h : inB n lo hi
  all_goals
    have cW := fun W => within64_any n lo hi W
    rw [h] at cW
    go_enter Tryd.func60, Tryd.ntmps60
    go_wp2_with (go_at_call 34; (with_reducible refine (cW _).mono ?_); rintro e w' ⟨rfl, rfl⟩)
    go_ret
    exact ⟨rfl, Below.refl _ _⟩
theorem rowcell {w wr : World} {g o : Nat} {H : List Int} (hb : Below w.heap.size w wr) (hg : g < w.heap.size) (hc : ∀ i (hi : i < H.length), w.cell? ⟨g, o + i, none⟩ = some (.int .i64 H[i])) {k : Nat} (hk : k < H.length) : wr.cell? ⟨g, o + k, none⟩ = some (.int .i64 (H.getD k 0)) := by
  rw [getD_of _ hk]; exact (hb.cell (p := ⟨g, o + k, none⟩) hg).trans (hc k hk)
set_option maxHeartbeats 1600000 in
theorem indexW_any (v : Value) (H : List Int) (lo hi : Int) (p q : Nat) (w : World) (hn : H.length ≤ maxLen) (hv : IntsAt w v H) (hpl : p < w.heap.size) (hql : q < w.heap.size) (hp : w.cell? ⟨p, 0, none⟩ = some (.int .i64 lo)) (hq : w.cell? ⟨q, 0, none⟩ = some (.int .i64 hi)) :
    Calls Tryd.prog 74 #[v, .func (Fn.func 60) #[] #[.pointer (some ⟨p, 0, none⟩), .pointer (some ⟨q, 0, none⟩)]] w fun e w' => ∃ n : Int, e = .returned (.int .i64 n) ∧ decide (0 ≤ n) = !(allI H lo hi) ∧ Below w.heap.size w w' := by
  unfold maxLen at hn
  obtain ⟨a0, cap, rfl, hcap, hids, hread⟩ := hv
  have hread' := Lib.hid hread
  have hall0 : Hid (allI H lo hi = allK (wAt H lo hi) H.length) := Lib.hid rfl
  have hpq := Lib.hid (And.intro hp hq)
  clear hread hids hp hq
  go_enter Tryd.func74, Tryd.ntmps74
  go_wp2
  go_loopw [8] (fun i wr => ∃ k : Nat, k ≤ H.length ∧ i = .int .i64 k ∧ Hid (allK (wAt H lo hi) k = true) ∧ Hid (Below w.heap.size w wr)) (fun i _ => H.length - (intOf i).toNat)
  case atStart => exact ⟨0, by omega, rfl, Lib.hid rfl, Lib.hid (Below.refl _ _)⟩
  case round =>
    obtain ⟨k, hk, rfl, hall, hbel⟩ := hrel
    by_cases hlt : k < H.length
    · rcases hread'.out with h | ⟨g, o, rfl, hg, hc⟩
      · subst h; simp at hlt
      have hltI : (k : Int) < (H.length : Int) := by omega
      have c0 := rowcell hbel.out hg hc hlt
      have hst : Hid (wAt H lo hi k = inB (H.getD k 0) lo hi) := Lib.hid rfl
      obtain ⟨x, hx⟩ : ∃ x, x = H.getD k 0 := ⟨_, rfl⟩
      rw [← hx] at c0 hst
      have cT := Lib.hid (allW1_any x lo hi p q wr ((bcell hbel.out _ _ hpl).trans hpq.out.1) ((bcell hbel.out _ _ hql).trans hpq.out.2))
      clear hx hc
      cases hcmp : inB x lo hi
      · rw [hcmp] at cT hst
        have hno : Hid (allI H lo hi = false) := Lib.hid (hall0.out.trans (allK_no hst.out hlt))
        go_wp2_with (go_at_call 60; (with_reducible refine cT.out.mono ?_); rintro e w2 ⟨rfl, b2⟩)
        go_ret
        exact ⟨_, rfl, by rw [hno.out, decide_eq_true (by omega)]; rfl, below2 hbel.out b2⟩
      · rw [hcmp] at cT hst
        have hall2 : Hid (allK (wAt H lo hi) (k + 1) = true) := Lib.hid (allK_yes hall.out hst.out)
        go_wp2_with (go_at_call 60; (with_reducible refine cT.out.mono ?_); rintro e w2 ⟨rfl, b2⟩)
        go_roundw
        case rel => exact ⟨k + 1, by omega, by go_num, hall2, Lib.hid (below2 hbel.out b2)⟩
        case measure => simp [intOf]; omega
    · have hkl : k = H.length := by omega
      have hall2 : Hid (allI H lo hi = true) := Lib.hid (hall0.out.trans (by have h9 := hall.out; rw [hkl] at h9; exact h9))
      clear hkl
      go_wp2
      go_ret
      exact ⟨_, rfl, by rw [hall2.out]; rfl, hbel.out⟩
theorem containsW_any (v : Value) (H : List Int) (lo hi : Int) (p q : Nat) (w : World) (hn : H.length ≤ maxLen) (hv : IntsAt w v H) (hpl : p < w.heap.size) (hql : q < w.heap.size) (hp : w.cell? ⟨p, 0, none⟩ = some (.int .i64 lo)) (hq : w.cell? ⟨q, 0, none⟩ = some (.int .i64 hi)) :
    Calls Tryd.prog 59 #[v, .func (Fn.func 60) #[] #[.pointer (some ⟨p, 0, none⟩), .pointer (some ⟨q, 0, none⟩)]] w fun e w' => e = .returned (.bool (!(allI H lo hi))) ∧ Below w.heap.size w w' := by
  have cI := Lib.hid (indexW_any v H lo hi p q w hn hv hpl hql hp hq)
  obtain ⟨a0, cap, rfl, hcap, hids, hread⟩ := hv
  clear hread hids hp hq
  go_enter Tryd.func59, Tryd.ntmps59
  go_wp2_with (go_at_call 74; (with_reducible refine cI.out.mono ?_); rintro e w2 ⟨n, rfl, hd, b2⟩)
  go_ret
  exact ⟨ret_bool (by first | rfl | exact hd), b2⟩
set_option maxHeartbeats 1600000 in
theorem allWithin_any (v : Value) (H : List Int) (lo hi : Int) (w : World) (hn : H.length ≤ maxLen) (hv : IntsAt w v H) : Calls Tryd.prog 49 #[v, .int .i64 lo, .int .i64 hi] w fun e w' => e = .returned (.bool (allI H lo hi)) ∧ Below w.heap.size w w' := by
  obtain ⟨W, hW⟩ : ∃ W, W = (w.alloc (.cells #[.int .i64 lo] 2)).alloc (.cells #[.int .i64 hi] 2) := ⟨_, rfl⟩
  have hb0 : Below w.heap.size w W := by rw [hW]; exact ((Below.refl _ _).alloc (Nat.le_refl _) _).alloc (by simp) _
  have hvW := hv.below hb0
  have hs : W.heap.size = w.heap.size + 2 := by rw [hW]; simp
  have k1 : W.cell? ⟨w.heap.size, 0, none⟩ = some (.int .i64 lo) := by
    rw [hW]
    have hb : Below (w.alloc (.cells #[.int .i64 lo] 2)).heap.size (w.alloc (.cells #[.int .i64 lo] 2)) ((w.alloc (.cells #[.int .i64 lo] 2)).alloc (.cells #[.int .i64 hi] 2)) := (Below.refl _ _).alloc (Nat.le_refl _) _
    exact (bcell hb _ _ (by simp)).trans (cellB (heap_alloc_new _ _) 0 _ rfl)
  have k2 : W.cell? ⟨w.heap.size + 1, 0, none⟩ = some (.int .i64 hi) := by
    rw [hW, show w.heap.size + 1 = (w.alloc (.cells #[.int .i64 lo] 2)).heap.size by simp]
    exact cellB (heap_alloc_new _ _) 0 _ rfl
  have cC := Lib.hid (containsW_any v H lo hi w.heap.size (w.heap.size + 1) W hn hvW (by omega) (by omega) k1 k2)
  rw [hW] at cC
  have hb1 := Lib.hid hb0
  rw [hW] at hb1
  obtain ⟨q, hq⟩ : ∃ q, q = allI H lo hi := ⟨_, rfl⟩
  rw [← hq] at cC ⊢
  clear k1 k2 hs hvW hb0 hW hv hq
  cases q
  all_goals
    go_enter Tryd.func49, Tryd.ntmps49
    go_wp2_with (go_at_call 59; (with_reducible refine cC.out.mono ?_); rintro e w2 ⟨rfl, b2⟩)
    go_ret
    exact ⟨rfl, hb1.out.trans (b2.mono hb1.out.size)⟩
end Go.Proofs.YtcgmpomhklhmaaaDoor
