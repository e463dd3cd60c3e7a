/-
  Colours: three numbers in a row or by value; the gap of two.
-/
import Derived.Test.YtcgmpomhklhmaaaDoorAllW
import Derived.Test.YtcgmpomhklhmaaaDoorIntRow
import Derived.Deep.LoopGhost
import Derived.Deep.Draws
import Derived.Below
import Derived.BigRegion
namespace Go.Proofs.YtcgmpomhklhmaaaDoor
open Go.ChangeShapes Go.WideShapes Go.ChangeAt Go.RowKit Go.Deep
set_option linter.unusedVariables false
set_option linter.unusedSimpArgs false
set_option maxRecDepth 1000000
def absC (p q : Int) : Int := if q < p then p - q else q - p
theorem absC_bd {p q : Int} {M : Int} (h0 : 0 ≤ p ∧ p ≤ M) (h1 : 0 ≤ q ∧ q ≤ M) : 0 ≤ absC p q ∧ absC p q ≤ M := by unfold absC; split <;> omega
/-- a row is a colour -/
def colB (Z : List Int) : Bool := decide (Z.length = 3) && allI Z 0 255
theorem colB_iff {Z : List Int} (h : colB Z = true) : ∃ a b c : Int, Z = [a, b, c] ∧ (0 ≤ a ∧ a ≤ 255) ∧ (0 ≤ b ∧ b ≤ 255) ∧ (0 ≤ c ∧ c ≤ 255) := by
  unfold colB at h
  obtain ⟨h1, h2⟩ := Bool.and_eq_true_iff.1 h
  have h3 := of_decide_eq_true h1
  have h4 := allI_iff.1 h2
  match Z, h3 with
  | [a, b, c], _ => exact ⟨a, b, c, rfl, h4 a (by simp), h4 b (by simp), h4 c (by simp)⟩
theorem isColour_any (v : Value) (Z : List Int) (w : World) (hn : Z.length ≤ maxLen) (hv : IntsAt w v Z) : Calls Tryd.prog 35 #[v] w fun e w' => e = .returned (.bool (colB Z)) ∧ Below w.heap.size w w' := by
  have cA := Lib.hid (allWithin_any v Z 0 255 w hn hv)
  have hx : Hid (colB Z = (decide (Z.length = 3) && allI Z 0 255)) := Lib.hid rfl
  obtain ⟨q, hq⟩ : ∃ q, q = allI Z 0 255 := ⟨_, rfl⟩
  rw [← hq] at cA hx
  unfold maxLen at hn
  obtain ⟨a0, cap, rfl, _, _, _⟩ := hv
  clear hq
  by_cases h3 : Z.length = 3
  · rw [h3] at cA
    rw [h3]
    have hx2 : Hid (colB Z = (true && q)) := Lib.hid (by rw [hx.out, h3]; rfl)
    clear h3 hx hn
    cases q
    all_goals
      go_enter Tryd.func35, Tryd.ntmps35
      go_wp2_with (go_at_call 49; (with_reducible refine cA.out.mono ?_); rintro e w2 ⟨rfl, b2⟩)
      go_ret
      exact ⟨ret_bool (by rw [hx2.out]; rfl), b2⟩
  · have h3I : ¬((Z.length : Int) = 3) := by omega
    go_enter Tryd.func35, Tryd.ntmps35
    go_wp2
    go_ret
    exact ⟨ret_bool (by rw [hx.out]; simp [h3]), Below.refl _ _⟩
set_option maxHeartbeats 1600000 in
theorem l13Colour_any (v : Value) (Z : List Int) (w : World) (hn : Z.length ≤ maxLen) (hv : IntsAt w v Z) : Calls Tryd.prog 31 #[v] w fun e w' => e = .returned (.bool (colB Z)) ∧ w = w' := by
  have hx : Hid (colB Z = (decide (Z.length = 3) && allK (wAt Z 0 255) Z.length)) := Lib.hid rfl
  unfold maxLen at hn
  obtain ⟨a0, cap, rfl, hcap, hids, hread⟩ := hv
  have hread' := Lib.hid hread
  clear hread hids
  go_enter Tryd.func31, Tryd.ntmps31
  go_wp2
  go_loopw [3] (fun i wr => ∃ k : Nat, k ≤ Z.length ∧ i = .int .i64 k ∧ Hid (allK (wAt Z 0 255) k = true) ∧ wr = w) (fun i _ => Z.length - (intOf i).toNat)
  case atStart => exact ⟨0, by omega, rfl, Lib.hid rfl, rfl⟩
  case round =>
    obtain ⟨k, hk, rfl, hall, rfl⟩ := hrel
    by_cases hlt : k < Z.length
    · rcases hread'.out with h | ⟨g, o, rfl, hg, hc⟩
      · subst h; simp at hlt
      have hltI : (k : Int) < (Z.length : Int) := by omega
      have c0 := rowcell (Below.refl _ _) hg hc hlt
      have hst : Hid (wAt Z 0 255 k = inB (Z.getD k 0) 0 255) := Lib.hid rfl
      obtain ⟨x, hx'⟩ : ∃ x, x = Z.getD k 0 := ⟨_, rfl⟩
      rw [← hx'] at c0 hst
      have cT := fun W => l00In_any x 0 255 W
      clear hx' hc
      cases hcmp : inB x 0 255
      · rw [hcmp] at cT hst
        have hno : Hid (colB Z = false) := Lib.hid (by rw [hx.out, allK_no hst.out hlt, Bool.and_false])
        go_wp2_with (go_at_call 30; (with_reducible refine (cT _).mono ?_); rintro e w2 ⟨rfl, rfl⟩)
        go_ret
        exact ⟨ret_bool hno.out.symm, rfl⟩
      · rw [hcmp] at cT hst
        have hall2 : Hid (allK (wAt Z 0 255) (k + 1) = true) := Lib.hid (allK_yes hall.out hst.out)
        go_wp2_with (go_at_call 30; (with_reducible refine (cT _).mono ?_); rintro e w2 ⟨rfl, rfl⟩)
        go_roundw
        case rel => exact ⟨k + 1, by omega, by go_num, hall2, trivial⟩
        case measure => simp [intOf]; omega
    · have hkl : k = Z.length := by omega
      have hfin : Hid (colB Z = decide (Z.length = 3)) := Lib.hid (by have h9 := hall.out; rw [hkl] at h9; rw [hx.out, h9, Bool.and_true])
      clear hkl
      have hd : decide ((Z.length : Int) = 3) = decide (Z.length = 3) := decide_eq_decide.2 (by omega)
      go_wp2
      go_ret
      exact ⟨ret_bool (by rw [hfin.out]; trace_state; first | rfl | exact hd), rfl⟩
/-- the gap of two colours -/
def gap3 (a b c a' b' c' : Int) : Int := absC a a' + absC b b' + absC c c'
theorem two_boxC (w : World) (cs : Array Value) (T : TypeId) (cs' : Array Value) (T' : TypeId) : (∀ i v, cs[i]? = some v → ((w.alloc (.cells cs T)).alloc (.cells cs' T')).cell? ⟨w.heap.size, i, none⟩ = some v) ∧ (∀ i v, cs'[i]? = some v → ((w.alloc (.cells cs T)).alloc (.cells cs' T')).cell? ⟨w.heap.size + 1, i, none⟩ = some v) ∧ Below w.heap.size w ((w.alloc (.cells cs T)).alloc (.cells cs' T')) ∧ w.heap.size + 1 < ((w.alloc (.cells cs T)).alloc (.cells cs' T')).heap.size := by
  have e : (w.alloc (.cells cs T)).heap.size = w.heap.size + 1 := by simp
  have h1 := fun i v h => ((Below.refl (w.alloc (.cells cs T)).heap.size (w.alloc (.cells cs T))).alloc (Nat.le_refl _) (.cells cs' T')).cell (p := ⟨w.heap.size, i, none⟩) (by simp) |>.trans (cellB (heap_alloc_new w (.cells cs T)) i v h)
  have h2 := fun i v h => cellB (heap_alloc_new (w.alloc (.cells cs T)) (.cells cs' T')) i v h
  rw [e] at h2
  exact ⟨h1, h2, ((Below.refl _ _).alloc (Nat.le_refl _) _).alloc (by simp) _, by simp⟩
end Go.Proofs.YtcgmpomhklhmaaaDoor
