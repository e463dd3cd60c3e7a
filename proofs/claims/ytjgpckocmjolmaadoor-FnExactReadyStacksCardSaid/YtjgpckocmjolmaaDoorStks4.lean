/-
  Rows of Stack: the model's validity of a list.
-/
import Derived.Test.YtjgpckocmjolmaaDoorStks3
import Derived.Test.YtjgpckocmjolmaaDoorStkIn
import Derived.WalkLawsBesides
namespace Go.Proofs.YtjgpckocmjolmaaDoor
open Go.ChangeShapes Go.WideShapes Go.ChangeAt Go.RowKit Go.Deep
set_option linter.unusedVariables false
set_option linter.unusedSimpArgs false
set_option maxRecDepth 1000000
def stk0 : Stk := ⟨ByteArray.empty, 0, 0, 0⟩
/-- is plank number i valid, and its Id behind the one before it? -/
def stk_stepOK (Z : List Stk) (i : Nat) : Bool := stkB (Z.getD i stk0) && (decide (i = 0) || Op.bytesLess (Z.getD (i - 1) stk0).id.toList (Z.getD i stk0).id.toList)
def stk_okK (Z : List Stk) : Nat → Bool
  | 0 => true
  | k + 1 => stk_okK Z k && stk_stepOK Z k
def stksB (Z : List Stk) : Bool := stk_okK Z Z.length && decide (Z.length ≤ 12)
theorem stk_okK_no {Z : List Stk} {k : Nat} (h : stk_stepOK Z k = false) : ∀ n, k < n → stk_okK Z n = false
  | 0, hk => by omega
  | n + 1, hk => by
    unfold stk_okK
    by_cases e : k = n
    · subst e; rw [h, Bool.and_false]
    · rw [stk_okK_no h n (by omega), Bool.false_and]
theorem stk_okK_yes {Z : List Stk} {k : Nat} (h : stk_okK Z k = true) (hs : stk_stepOK Z k = true) : stk_okK Z (k + 1) = true := by unfold stk_okK; rw [h, hs]; rfl
theorem stksB_no {Z : List Stk} {k : Nat} (h : stk_stepOK Z k = false) (hk : k < Z.length) : stksB Z = false := by unfold stksB; rw [stk_okK_no h _ hk]; rfl
theorem stk_getD_at' {Z : List Stk} {k : Nat} (h : k < Z.length) : Z.getD k stk0 = Z[k] := by rw [List.getD_eq_getElem?_getD, List.getElem?_eq_getElem h]; rfl
theorem stk_step_bad {Z : List Stk} {k : Nat} (h : k < Z.length) {x : Stk} (hx : x = Z[k]) (hv : stkB x = false) : stk_stepOK Z k = false := by unfold stk_stepOK; rw [stk_getD_at' h, ← hx, hv]; rfl
theorem stk_step_first {Z : List Stk} (h : 0 < Z.length) {x : Stk} (hx : x = Z[0]) (hv : stkB x = true) : stk_stepOK Z 0 = true := by unfold stk_stepOK; rw [stk_getD_at' h, ← hx, hv]; rfl
theorem stk_step_next {Z : List Stk} {q : Nat} (h : q + 1 < Z.length) {x y : Stk} (hx : x = Z[q + 1]) (hy : y = Z[q]'(by omega)) (hv : stkB x = true) : stk_stepOK Z (q + 1) = Op.bytesLess y.id.toList x.id.toList := by
  unfold stk_stepOK
  rw [stk_getD_at' h, ← hx, hv, show q + 1 - 1 = q by omega, stk_getD_at' (by omega : q < Z.length), ← hy]; simp
set_option maxHeartbeats 1600000 in
theorem l04Ok_any (v : Value) (Z : List Stk) (w : World) (hn : Z.length ≤ 1048576) (hv : StksAt w v Z) : Calls Tryd.prog 14 #[v] w fun e w' => e = .returned (.bool (stksB Z)) ∧ DrewOf w w' := by
  obtain ⟨p, cap, rfl, hcap, hids, hread⟩ := hv
  have hread' := Lib.hid hread
  have hids' := Lib.hid hids
  clear hread hids
  go_enter Tryd.func14, Tryd.ntmps14
  go_wp2
  go_loopw [3] (fun i wr => ∃ k : Nat, k ≤ Z.length ∧ i = .int .i64 k ∧ Hid (stk_okK Z k = true) ∧ DrewOf w wr) (fun i _ => Z.length - (intOf i).toNat)
  case atStart => exact ⟨0, by omega, rfl, Lib.hid rfl, DrewOf.refl _⟩
  case round =>
    obtain ⟨k, hk, rfl, hok, hd⟩ := hrel
    by_cases hlt : k < Z.length
    · rcases hread'.out with h | ⟨g, o, rfl, hg, hc⟩
      · subst h; simp at hlt
      obtain ⟨x, hx⟩ : ∃ x, x = Z[k] := ⟨_, rfl⟩
      have hr := hd.range (hc k hlt)
      rw [← hx] at hr
      have hat := Lib.hid (stkAt_of hr)
      have hrn : ∀ n, (wr.drewN n).rangeAt g (o + k * 4) x.cells := fun n => by rw [hx]; exact (hd.more n).range (hc k hlt)
      have hrn' := Lib.hid hrn
      clear hrn
      have hxs : x.id.size ≤ maxLen := by rw [hx]; exact hids'.out _ (List.getElem_mem hlt)
      have hx' := Lib.hid hx
      obtain ⟨s, a, b, c⟩ := x
      have hxs' := Lib.hid hxs
      have cO0 : ∀ n, Calls Tryd.prog 28 #[.pointer (some ⟨g, o + k * 4, none⟩)] (wr.drewN n) fun e w' => e = .returned (.bool (stkB ⟨s, a, b, c⟩)) ∧ wr.drewN n = w' := fun n => l04One_any s a b c hxs'.out (wr.drewN n) g (o + k * 4) (stkAt_of (hrn'.out n))
      clear hr hx hxs
      cases hb : stkB ⟨s, a, b, c⟩
      · rw [hb] at cO0
        have cO := Lib.hid cO0
        have hno := Lib.hid (stksB_no (stk_step_bad hlt hx'.out hb) hlt)
        clear cO0 hc
        go_wp2
        go_quiet ((go_at_call 28; exact Qs (cO.out _)))
        go_wp2
        go_ret
        exact ⟨ret_bool hno.out.symm, hd.more _⟩
      · rw [hb] at cO0
        have cO := Lib.hid cO0
        clear cO0
        rcases Nat.eq_zero_or_pos k with hk0 | hk0
        · subst hk0
          have hst := Lib.hid (stk_okK_yes hok.out (stk_step_first hlt hx'.out hb))
          have hg0 : decide ((0 : Int) < ((0 : Nat) : Int)) = false := by decide
          clear hc
          go_wp2
          go_quiet ((go_at_call 28; exact Qs (cO.out _)))
          go_wp2
          go_roundw
          case rel => exact ⟨1, by omega, by go_num, hst, hd.more _⟩
          case measure => simp [intOf]; omega
        · obtain ⟨q, rfl⟩ : ∃ q, k = q + 1 := ⟨k - 1, by omega⟩
          obtain ⟨y, hy⟩ : ∃ y, y = Z[q] := ⟨_, rfl⟩
          have hr2 := hd.range (hc q (by omega))
          rw [← hy] at hr2
          have c0y := (stkAt_of hr2).1
          have hstep := stk_step_next hlt hx'.out hy hb
          have c0x := hat.out.1
          simp only at c0x
          have e1 : IntKind.i64.wrap ((q : Int) + 1 - 1) = (q : Int) := by rw [show (q : Int) + 1 - 1 = q by omega]; exact IntWalk.i64_in _ (by omega)
          have hg0 : decide ((0 : Int) < (q : Int) + 1) = true := by simp <;> omega
          have hq1 : (q : Int) < (Z.length : Int) := by omega
          clear hr2 hy hc
          cases hl : Op.bytesLess y.id.toList s.toList
          · rw [hl] at hstep
            have hno := Lib.hid (stksB_no hstep hlt)
            clear hstep
            go_wp2
            go_quiet ((go_at_call 28; exact Qs (cO.out _)))
            go_wp2
            go_ret
            exact ⟨ret_bool hno.out.symm, hd.more _⟩
          · rw [hl] at hstep
            have hst := Lib.hid (stk_okK_yes hok.out hstep)
            clear hstep
            go_wp2
            go_quiet ((go_at_call 28; exact Qs (cO.out _)))
            go_wp2
            go_roundw
            case rel => exact ⟨q + 1 + 1, by omega, by go_num, hst, hd.more _⟩
            case measure => simp [intOf]; omega
    · have hkl : k = Z.length := by omega
      have hall : Hid (stk_okK Z Z.length = true) := Lib.hid (hkl ▸ hok.out)
      have hfin : Hid (stksB Z = decide (Z.length ≤ 12)) := Lib.hid (by unfold stksB; rw [hall.out]; rfl)
      clear hkl
      by_cases h16 : Z.length ≤ 12
      all_goals
        go_wp2
        go_ret
        exact ⟨ret_bool (by rw [hfin.out]; first | (simp [h16]; done) | (simp; omega) | (simp [h16]; omega)), hd⟩
end Go.Proofs.YtjgpckocmjolmaaDoor
