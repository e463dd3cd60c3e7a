/-
  Lists of strings: validity on both sides.
-/
import Derived.Test.YthnmlnhimglacaaCrds3
import Derived.Test.YthnmlnhimglacaaCrdT
import Derived.Test.YthnmlnhimglacaaRowMath
namespace Go.Proofs.Ythnmlnhimglacaa
open Go.ChangeShapes Go.WideShapes Go.ChangeAt Go.RowKit Go.Deep
set_option linter.unusedVariables false
set_option linter.unusedSimpArgs false
set_option maxRecDepth 1000000
def crd0 : Crd := ⟨0, 0, 0, 0⟩
/-- string number i is valid -/
def strS (Z : List Crd) (i : Nat) : Bool := crdB (Z.getD i crd0)
/-- a valid list of strings -/
def strsB (Z : List Crd) : Bool := allK (strS Z) Z.length && decide (Z.length ≤ 4)
theorem strs_4 {Z : List Crd} (h : strsB Z = true) : Z.length ≤ 4 := by unfold strsB at h; exact of_decide_eq_true (Bool.and_eq_true_iff.1 h).2
theorem strs_one {Z : List Crd} (h : strsB Z = true) {k : Nat} (hk : k < Z.length) : crdB Z[k] = true := by
  unfold strsB at h
  have := (allK_iff _ _).1 (Bool.and_eq_true_iff.1 h).1 k hk
  unfold strS at this
  rwa [getD_of _ hk] at this
theorem strsB_no {Z : List Crd} {k : Nat} (h : strS Z k = false) (hk : k < Z.length) : strsB Z = false := by unfold strsB; rw [allK_no h hk]; rfl
set_option maxHeartbeats 1600000 in
theorem areStrings1_any (a : Int) (b : Int) (c : Int) (d : Int) (w : World) : Calls Try.prog 95 #[.agg #[.int .i64 a, .int .i64 b, .int .i64 c, .int .i64 d]] w fun e w' => e = .returned (.bool (!crdB ⟨a, b, c, d⟩)) ∧ Below w.heap.size w w' := by
  have cV := Lib.hid (fun W => implValidString_any a b c d W)
  obtain ⟨q, hq⟩ : ∃ q, q = crdB ⟨a, b, c, d⟩ := ⟨_, rfl⟩
  rw [← hq] at cV ⊢
  clear hq
  go_enter Try.func95, Try.ntmps95
  go_wp2_with (go_at_call 17; (with_reducible refine (cV.out _).mono ?_); rintro e w' ⟨rfl, hbel⟩)
  go_ret
  exact ⟨rfl, below2 ((Below.refl _ _).alloc (Nat.le_refl _) _) hbel⟩
set_option maxHeartbeats 1600000 in
theorem indexStr_any (v : Value) (Z : List Crd) (w : World) (hn : Z.length ≤ 1048576) (hv : CrdsAt w v Z) :
    Calls Try.prog 119 #[v, .func (Fn.func 95) #[] #[]] w fun e w' => ∃ n : Int, e = .returned (.int .i64 n) ∧ decide (0 ≤ n) = !(allK (strS Z) Z.length) ∧ Below w.heap.size w w' := by
  obtain ⟨a0, cap, rfl, hcap, hids, hread⟩ := hv
  have hread' := Lib.hid hread
  clear hread hids
  go_enter Try.func119, Try.ntmps119
  go_wp2
  go_loopw [8] (fun i wr => ∃ k : Nat, k ≤ Z.length ∧ i = .int .i64 k ∧ Hid (allK (strS Z) k = true) ∧ Hid (Below w.heap.size w wr)) (fun i _ => Z.length - (intOf i).toNat)
  case atStart => exact ⟨0, by omega, rfl, Lib.hid rfl, Lib.hid (Below.refl _ _)⟩
  case round =>
    obtain ⟨k, hk, rfl, hall, hbel⟩ := hrel
    by_cases hlt : k < Z.length
    · rcases hread'.out with h | ⟨g, o, rfl, hg, hc⟩
      · subst h; simp at hlt
      have hltI : (k : Int) < (Z.length : Int) := by omega
      obtain ⟨x, hx⟩ : ∃ x, x = Z[k] := ⟨_, rfl⟩
      have hr0 := range_below (hc k hlt) hg hbel.out
      rw [← hx] at hr0
      have hst : Hid (strS Z k = crdB x) := Lib.hid (by unfold strS; rw [getD_of _ hlt, ← hx])
      obtain ⟨a, b, c, d⟩ := x
      have hr1 : wr.rangeAt g (o + k * 4) [.int .i64 a, .int .i64 b, .int .i64 c, .int .i64 d] := hr0
      have cT := Lib.hid (areStrings1_any a b c d wr)
      clear hr0 hx hc
      cases hcmp : crdB ⟨a, b, c, d⟩
      · rw [hcmp] at cT hst
        have hno : Hid (allK (strS Z) Z.length = false) := Lib.hid (allK_no hst.out hlt)
        go_wp2_with (first
          | (refine wpList_load_mid rfl _ _ rfl g (o + k * 4) rfl _ _ hr1 Try.underlying25 rfl rfl ?_)
          | (go_at_call 95; (with_reducible refine cT.out.mono ?_); rintro e w2 ⟨rfl, b2⟩))
        go_ret
        exact ⟨_, rfl, by rw [hno.out, decide_eq_true (by omega)]; rfl, below2 hbel.out b2⟩
      · rw [hcmp] at cT hst
        have hall2 : Hid (allK (strS Z) (k + 1) = true) := Lib.hid (allK_yes hall.out hst.out)
        go_wp2_with (first
          | (refine wpList_load_mid rfl _ _ rfl g (o + k * 4) rfl _ _ hr1 Try.underlying25 rfl rfl ?_)
          | (go_at_call 95; (with_reducible refine cT.out.mono ?_); rintro e w2 ⟨rfl, b2⟩))
        go_roundw
        case rel => exact ⟨k + 1, by omega, by go_num, hall2, Lib.hid (below2 hbel.out b2)⟩
        case measure => simp [intOf]; omega
    · have hkl : k = Z.length := by omega
      have hall2 : Hid (allK (strS Z) Z.length = true) := Lib.hid (hkl ▸ hall.out)
      clear hkl
      go_wp2
      go_ret
      exact ⟨_, rfl, by rw [hall2.out]; rfl, hbel.out⟩
theorem containsStr_any (v : Value) (Z : List Crd) (w : World) (hn : Z.length ≤ 1048576) (hv : CrdsAt w v Z) :
    Calls Try.prog 96 #[v, .func (Fn.func 95) #[] #[]] w fun e w' => e = .returned (.bool (!(allK (strS Z) Z.length))) ∧ Below w.heap.size w w' := by
  have cI := Lib.hid (indexStr_any v Z w hn hv)
  obtain ⟨a0, cap, rfl, hcap, hids, hread⟩ := hv
  clear hread hids
  go_enter Try.func96, Try.ntmps96
  go_wp2_with (go_at_call 119; (with_reducible refine cI.out.mono ?_); rintro e w2 ⟨n, rfl, hd, b2⟩)
  go_ret
  exact ⟨ret_bool (by first | rfl | exact hd), b2⟩
theorem areStrings_any (v : Value) (Z : List Crd) (w : World) (hn : Z.length ≤ 1048576) (hv : CrdsAt w v Z) : Calls Try.prog 68 #[v] w fun e w' => e = .returned (.bool (strsB Z)) ∧ Below w.heap.size w w' := by
  have cC := Lib.hid (containsStr_any v Z w hn hv)
  have hx : Hid (strsB Z = (allK (strS Z) Z.length && decide (Z.length ≤ 4))) := Lib.hid rfl
  obtain ⟨a0, cap, rfl, hcap, hids, hread⟩ := hv
  obtain ⟨q, hq⟩ : ∃ q, q = allK (strS Z) Z.length := ⟨_, rfl⟩
  rw [← hq] at cC hx
  clear hread hids hq
  by_cases h4 : Z.length ≤ 4
  · have h4I : (Z.length : Int) ≤ 4 := by omega
    go_enter Try.func68, Try.ntmps68
    go_wp2_with (go_at_call 96; (with_reducible refine cC.out.mono ?_); rintro e w2 ⟨rfl, b2⟩)
    go_ret
    exact ⟨ret_bool (by rw [hx.out, decide_eq_true h4]; simp), b2⟩
  · have h4I : (4 : Int) < (Z.length : Int) := by omega
    go_enter Try.func68, Try.ntmps68
    go_wp2
    go_ret
    exact ⟨ret_bool (by rw [hx.out, decide_eq_false h4]; simp), Below.refl _ _⟩
set_option maxHeartbeats 1600000 in
theorem l09List_any (v : Value) (Z : List Crd) (w : World) (hn : Z.length ≤ 1048576) (hv : CrdsAt w v Z) : Calls Try.prog 67 #[v] w fun e w' => e = .returned (.bool (strsB Z)) ∧ w = w' := by
  have hx : Hid (strsB Z = (allK (strS Z) Z.length && decide (Z.length ≤ 4))) := Lib.hid rfl
  obtain ⟨a0, cap, rfl, hcap, hids, hread⟩ := hv
  have hread' := Lib.hid hread
  clear hread hids
  go_enter Try.func67, Try.ntmps67
  go_wp2
  go_loopw [3] (fun i wr => ∃ k : Nat, k ≤ Z.length ∧ i = .int .i64 k ∧ Hid (allK (strS Z) k = true) ∧ wr = w) (fun i _ => Z.length - (intOf i).toNat)
  case atStart => exact ⟨0, by omega, rfl, Lib.hid rfl, rfl⟩
  case round =>
    obtain ⟨k, hk, rfl, hall, rfl⟩ := hrel
    by_cases hlt : k < Z.length
    · rcases hread'.out with h | ⟨g, o, rfl, hg, hc⟩
      · subst h; simp at hlt
      have hltI : (k : Int) < (Z.length : Int) := by omega
      obtain ⟨x, hx'⟩ : ∃ x, x = Z[k] := ⟨_, rfl⟩
      have hr0 := range_below (hc k hlt) hg (Below.refl _ _)
      rw [← hx'] at hr0
      have hst : Hid (strS Z k = crdB x) := Lib.hid (by unfold strS; rw [getD_of _ hlt, ← hx'])
      have hat := crdAt_of hr0
      obtain ⟨a, b, c, d⟩ := x
      have cT := Lib.hid (l09One_any a b c d wr g (o + k * 4) hat)
      clear hr0 hx' hc hat
      cases hcmp : crdB ⟨a, b, c, d⟩
      · rw [hcmp] at cT hst
        have hno := Lib.hid (strsB_no hst.out hlt)
        go_wp2_with (go_at_call 52; (with_reducible refine cT.out.mono ?_); rintro e w2 ⟨rfl, rfl⟩)
        go_ret
        exact ⟨ret_bool hno.out.symm, rfl⟩
      · rw [hcmp] at cT hst
        have hall2 : Hid (allK (strS Z) (k + 1) = true) := Lib.hid (allK_yes hall.out hst.out)
        go_wp2_with (go_at_call 52; (with_reducible refine cT.out.mono ?_); rintro e w2 ⟨rfl, rfl⟩)
        go_roundw
        case rel => exact ⟨k + 1, by omega, by go_num, hall2, by first | rfl | trivial⟩
        case measure => simp [intOf]; omega
    · have hkl : k = Z.length := by omega
      have hall2 : Hid (strsB Z = decide (Z.length ≤ 4)) := Lib.hid (by rw [hx.out, ← hkl, hall.out]; rfl)
      clear hkl
      by_cases h4 : Z.length ≤ 4
      · have h4I : (Z.length : Int) ≤ 4 := by omega
        go_wp2
        go_ret
        exact ⟨ret_bool (by rw [hall2.out, decide_eq_true h4] <;> (try exact decide_eq_true h4I)), rfl⟩
      · have h4I : ¬ (Z.length : Int) ≤ 4 := by omega
        go_wp2
        go_ret
        exact ⟨ret_bool (by rw [hall2.out, decide_eq_false h4] <;> (try exact decide_eq_false h4I)), rfl⟩
end Go.Proofs.Ythnmlnhimglacaa
