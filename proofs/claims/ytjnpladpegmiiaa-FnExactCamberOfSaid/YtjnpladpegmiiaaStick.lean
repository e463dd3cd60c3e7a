/-
  Heights of a stick: validity, depths and bends, on both sides.
-/
import Derived.Test.YtjnpladpegmiiaaInts
import Derived.Test.YtjnpladpegmiiaaAllW
import Derived.Test.YtjnpladpegmiiaaFg
import Derived.Test.YtjnpladpegmiiaaRowMath
import Derived.Test.YtjnpladpegmiiaaCore2
import Derived.BigQuiet
import Derived.Deep.QuietTactic
import Derived.Deep.RegionHeld3
namespace Go.Proofs.Ytjnpladpegmiiaa
open Go.ChangeShapes Go.WideShapes Go.ChangeAt Go.RowKit Go.Deep
set_option linter.unusedVariables false
set_option linter.unusedSimpArgs false
set_option maxRecDepth 1000000
/-- height number i, whether it is in its bounds, and whether all are -/
def hAt (H : List Int) (i : Nat) : Int := H.getD i 0
def hOk (H : List Int) (i : Nat) : Bool := inB (hAt H i) (-8000) 8000
def hsB (H : List Int) : Bool := allK (hOk H) H.length && (decide (3 ≤ H.length) && decide (H.length ≤ 64))
theorem hAt_at {H : List Int} {k : Nat} (hk : k < H.length) : hAt H k = H[k] := by unfold hAt; rw [getD_of _ hk]
theorem hs_bd {H : List Int} (h : hsB H = true) : 3 ≤ H.length ∧ H.length ≤ 64 ∧ ∀ i, i < H.length → -8000 ≤ hAt H i ∧ hAt H i ≤ 8000 := by
  unfold hsB at h
  obtain ⟨h1, h2⟩ := Bool.and_eq_true_iff.1 h
  obtain ⟨h3, h4⟩ := Bool.and_eq_true_iff.1 h2
  exact ⟨of_decide_eq_true h3, of_decide_eq_true h4, fun i hi => inB_iff.1 ((allK_iff _ _).1 h1 i hi)⟩
/-- the depth of a place, times the number of steps -/
def dpF (H : List Int) (i : Nat) : Int := hAt H 0 * ((H.length : Int) - 1 - i) + hAt H (H.length - 1) * i - hAt H i * ((H.length : Int) - 1)
/-- how far a height lies off the middle of its neighbours, twice -/
def bdD (H : List Int) (i : Nat) : Int := hAt H i + hAt H (i + 2) - 2 * hAt H (i + 1)
def bdF (H : List Int) (i : Nat) : Int := max (bdD H i) (-(bdD H i))
theorem mulS_bd {a b : Int} (ha : -8000 ≤ a ∧ a ≤ 8000) (hb : 0 ≤ b ∧ b ≤ 64) : -512000 ≤ a * b ∧ a * b ≤ 512000 := by
  have := mul_bd (a := a) (b := b) (B := 8000) (C := 64) ha.1 ha.2 hb.1 hb.2 (by omega)
  omega
theorem ints_cell {w wr : World} {g o : Nat} {H : List Int} (hb : Below w.heap.size w wr) (hg : g < w.heap.size) (hc : ∀ i (hi : i < H.length), w.cell? ⟨g, o + i, none⟩ = some (.int .i64 H[i])) {k : Nat} (hk : k < H.length) : wr.cell? ⟨g, o + k, none⟩ = some (.int .i64 (hAt H k)) := by
  rw [hAt_at hk]; exact (hb.cell (p := ⟨g, o + k, none⟩) hg).trans (hc k hk)
set_option maxHeartbeats 1600000 in
theorem isStick_any (v : Value) (H : List Int) (w : World) (hn : H.length ≤ 1048576) (hv : IntsAt w v H) : Calls Try.prog 73 #[v] w fun e w' => e = .returned (.bool (hsB H)) ∧ Below w.heap.size w w' := by
  have cC : Hid (Calls Try.prog 89 #[v, .int .i64 (-8000), .int .i64 8000] w fun e w' => e = .returned (.bool (allK (hOk H) H.length)) ∧ Below w.heap.size w w') := Lib.hid (allWithin_any v H (-8000) 8000 w (by unfold maxLen; omega) hv)
  have hx : Hid (hsB H = (allK (hOk H) H.length && (decide (3 ≤ H.length) && decide (H.length ≤ 64)))) := Lib.hid rfl
  have hw : inB (H.length : Int) 3 64 = (decide (3 ≤ H.length) && decide (H.length ≤ 64)) := by
    have e1 : ((3 : Int) ≤ (H.length : Int)) ↔ 3 ≤ H.length := by omega
    have e2 : ((H.length : Int) ≤ 64) ↔ H.length ≤ 64 := by omega
    unfold inB
    simp only [e1, e2]
  have cW := fun W => withinN_any (H.length : Int) 3 64 W
  obtain ⟨a0, cap, rfl, hcap, hids, hread⟩ := hv
  obtain ⟨q, hq⟩ : ∃ q, q = allK (hOk H) H.length := ⟨_, rfl⟩
  obtain ⟨r, hr⟩ : ∃ r, r = (decide (3 ≤ H.length) && decide (H.length ≤ 64)) := ⟨_, rfl⟩
  rw [hw] at cW
  rw [← hq] at cC hx
  rw [← hr] at cW hx
  replace cW := Lib.hid cW
  clear hread hids hq hw hr
  cases r
  · go_enter Try.func73, Try.ntmps73
    go_wp2_with (go_at_call 94; (with_reducible refine (cW.out _).mono ?_); rintro e w1 ⟨rfl, rfl⟩)
    go_ret
    exact ⟨ret_bool (by rw [hx.out, Bool.and_false]), Below.refl _ _⟩
  · go_enter Try.func73, Try.ntmps73
    go_wp2_with (first
      | (go_at_call 94; (with_reducible refine (cW.out _).mono ?_); rintro e w1 ⟨rfl, rfl⟩)
      | (go_at_call 89; (with_reducible refine cC.out.mono ?_); rintro e w2 ⟨rfl, b2⟩))
    go_ret
    exact ⟨ret_bool (by rw [hx.out, Bool.and_true]), b2⟩
set_option maxHeartbeats 1600000 in
theorem l11Heights_any (v : Value) (H : List Int) (w : World) (hn : H.length ≤ 1048576) (hv : IntsAt w v H) : Calls Try.prog 71 #[v] w fun e w' => e = .returned (.bool (hsB H)) ∧ w = w' := by
  have hx : Hid (hsB H = (allK (hOk H) H.length && (decide (3 ≤ H.length) && decide (H.length ≤ 64)))) := Lib.hid rfl
  obtain ⟨a0, cap, rfl, hcap, hids, hread⟩ := hv
  have hread' := Lib.hid hread
  clear hread hids
  go_enter Try.func71, Try.ntmps71
  go_wp2
  go_loopw [3] (fun i wr => ∃ k : Nat, k ≤ H.length ∧ i = .int .i64 k ∧ Hid (allK (hOk H) k = true) ∧ wr = w) (fun i _ => H.length - (intOf i).toNat)
  case atStart => exact ⟨0, by omega, rfl, Lib.hid rfl, rfl⟩
  case round =>
    obtain ⟨k, hk, rfl, hall, rfl⟩ := hrel
    by_cases hlt : k < H.length
    · rcases hread'.out with h | ⟨g, o, rfl, hg, hc⟩
      · subst h; simp at hlt
      have hltI : (k : Int) < (H.length : Int) := by omega
      have c0 := ints_cell (Below.refl _ _) hg hc hlt
      have hst : Hid (hOk H k = inB (hAt H k) (-8000) 8000) := Lib.hid rfl
      obtain ⟨x, hx2⟩ : ∃ x, x = hAt H k := ⟨_, rfl⟩
      rw [← hx2] at c0 hst
      have cT0 := fun W => l00In_any x (-8000) 8000 W
      clear hx2 hc
      cases hcmp : inB x (-8000) 8000 <;> rw [hcmp] at cT0 hst <;> have cT := Lib.hid cT0 <;> clear cT0
      · have hno : Hid (hsB H = false) := Lib.hid (by rw [hx.out, allK_no hst.out hlt]; rfl)
        go_wp2_with (go_at_call 65; (with_reducible refine (cT.out _).mono ?_); rintro e w2 ⟨rfl, rfl⟩)
        go_ret
        exact ⟨ret_bool hno.out.symm, rfl⟩
      · have hall2 : Hid (allK (hOk H) (k + 1) = true) := Lib.hid (allK_yes hall.out hst.out)
        go_wp2_with (go_at_call 65; (with_reducible refine (cT.out _).mono ?_); rintro e w2 ⟨rfl, rfl⟩)
        go_roundw
        case rel => exact ⟨k + 1, by omega, by go_num, hall2, by first | rfl | trivial⟩
        case measure => simp [intOf]; omega
    · have hkl : k = H.length := by omega
      have hall2 : Hid (allK (hOk H) H.length = true) := Lib.hid (by have h9 := hall.out; rw [hkl] at h9; exact h9)
      clear hkl
      by_cases h3 : 3 ≤ H.length
      · have h3I : (3 : Int) ≤ (H.length : Int) := by omega
        by_cases h6 : H.length ≤ 64
        · have h6I : (H.length : Int) ≤ 64 := by omega
          go_wp2
          go_ret
          exact ⟨ret_bool (by rw [hx.out, hall2.out, decide_eq_true h3, decide_eq_true h6]; simp), rfl⟩
        · have h6I : ¬ (H.length : Int) ≤ 64 := by omega
          go_wp2
          go_ret
          exact ⟨ret_bool (by rw [hx.out, hall2.out, decide_eq_true h3, decide_eq_false h6]; simp <;> omega), rfl⟩
      · have h3I : ¬ (3 : Int) ≤ (H.length : Int) := by omega
        go_wp2
        go_ret
        exact ⟨ret_bool (by rw [hx.out, hall2.out, decide_eq_false h3]; simp <;> omega), rfl⟩
end Go.Proofs.Ytjnpladpegmiiaa
