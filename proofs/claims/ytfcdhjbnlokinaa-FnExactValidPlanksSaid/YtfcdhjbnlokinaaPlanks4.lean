/-
  Rows of planks: the model's validity of a list.
-/
import Derived.Test.YtfcdhjbnlokinaaPlanks3
import Derived.WalkLawsBesides
namespace Go.Proofs.Ytfcdhjbnlokinaa
open Go.ChangeShapes Go.WideShapes Go.ChangeAt Go.RowKit Go.Deep
set_option linter.unusedVariables false
set_option linter.unusedSimpArgs false
def plk0 : Plk := ⟨ByteArray.empty, 0, 0, 0, 0, 0⟩
/-- is plank number i valid, and its Id behind the one before it? -/
def stepOK (Z : List Plk) (i : Nat) : Bool := plkB (Z.getD i plk0) && (decide (i = 0) || Op.bytesLess (Z.getD (i - 1) plk0).id.toList (Z.getD i plk0).id.toList)
def okK (Z : List Plk) : Nat → Bool
  | 0 => true
  | k + 1 => okK Z k && stepOK Z k
def plksB (Z : List Plk) : Bool := okK Z Z.length && decide (Z.length ≤ 16)
theorem okK_no {Z : List Plk} {k : Nat} (h : stepOK Z k = false) : ∀ n, k < n → okK Z n = false
  | 0, hk => by omega
  | n + 1, hk => by
    unfold okK
    by_cases e : k = n
    · subst e; rw [h, Bool.and_false]
    · rw [okK_no h n (by omega), Bool.false_and]
theorem okK_yes {Z : List Plk} {k : Nat} (h : okK Z k = true) (hs : stepOK Z k = true) : okK Z (k + 1) = true := by unfold okK; rw [h, hs]; rfl
theorem plksB_no {Z : List Plk} {k : Nat} (h : stepOK Z k = false) (hk : k < Z.length) : plksB Z = false := by unfold plksB; rw [okK_no h _ hk]; rfl
theorem getD_at' {Z : List Plk} {k : Nat} (h : k < Z.length) : Z.getD k plk0 = Z[k] := by rw [List.getD_eq_getElem?_getD, List.getElem?_eq_getElem h]; rfl
theorem step_bad {Z : List Plk} {k : Nat} (h : k < Z.length) {x : Plk} (hx : x = Z[k]) (hv : plkB x = false) : stepOK Z k = false := by unfold stepOK; rw [getD_at' h, ← hx, hv]; rfl
theorem step_first {Z : List Plk} (h : 0 < Z.length) {x : Plk} (hx : x = Z[0]) (hv : plkB x = true) : stepOK Z 0 = true := by unfold stepOK; rw [getD_at' h, ← hx, hv]; rfl
theorem step_next {Z : List Plk} {q : Nat} (h : q + 1 < Z.length) {x y : Plk} (hx : x = Z[q + 1]) (hy : y = Z[q]'(by omega)) (hv : plkB x = true) : stepOK Z (q + 1) = Op.bytesLess y.id.toList x.id.toList := by
  unfold stepOK
  rw [getD_at' h, ← hx, hv, show q + 1 - 1 = q by omega, getD_at' (by omega : q < Z.length), ← hy]; simp
def DrewOf (w w' : World) : Prop := ∃ q, w' = w.drewN q
theorem DrewOf.refl (w : World) : DrewOf w w := ⟨0, rfl⟩
theorem DrewOf.more {w w' : World} (h : DrewOf w w') (n : Nat) : DrewOf w (w'.drewN n) := by obtain ⟨q, rfl⟩ := h; exact ⟨q + n, by rw [World.drewN_drewN]⟩
theorem DrewOf.range {w w' : World} (h : DrewOf w w') {g o : Nat} {cs : List Value} (hr : w.rangeAt g o cs) : w'.rangeAt g o cs := by obtain ⟨q, rfl⟩ := h; exact hr
theorem DrewOf.below {w w' : World} (h : DrewOf w w') : Below w.heap.size w w' := by obtain ⟨q, rfl⟩ := h; exact belowN (Below.refl _ _) q
set_option maxHeartbeats 1600000 in
theorem l03Ok_any (v : Value) (Z : List Plk) (w : World) (hn : Z.length ≤ 1048576) (hv : PlksAt w v Z) : Calls Try.prog 25 #[v] w fun e w' => e = .returned (.bool (plksB Z)) ∧ DrewOf w w' := by
  obtain ⟨p, cap, rfl, hcap, hids, hread⟩ := hv
  have hread' := Lib.hid hread
  have hids' := Lib.hid hids
  clear hread hids
  go_enter Try.func25, Try.ntmps25
  go_wp2
  go_loopw [3] (fun i wr => ∃ k : Nat, k ≤ Z.length ∧ i = .int .i64 k ∧ Hid (okK Z k = true) ∧ DrewOf w wr) (fun i _ => Z.length - (intOf i).toNat)
  case atStart => exact ⟨0, by omega, rfl, Lib.hid rfl, DrewOf.refl _⟩
  case round =>
    obtain ⟨k, hk, rfl, hok, hd⟩ := hrel
    by_cases hlt : k < Z.length
    · rcases hread'.out with h | ⟨g, o, rfl, hg, hc⟩
      · subst h; simp at hlt
      obtain ⟨x, hx⟩ : ∃ x, x = Z[k] := ⟨_, rfl⟩
      have hr := hd.range (hc k hlt)
      rw [← hx] at hr
      have hat := Lib.hid (plkAt_of hr)
      have hrn : ∀ n, (wr.drewN n).rangeAt g (o + k * 6) x.cells := fun n => by rw [hx]; exact (hd.more n).range (hc k hlt)
      have hrn' := Lib.hid hrn
      clear hrn
      have hxs : x.id.size ≤ maxLen := by rw [hx]; exact hids'.out _ (List.getElem_mem hlt)
      have hx' := Lib.hid hx
      obtain ⟨s, a, b, c, d, f⟩ := x
      have hxs' := Lib.hid hxs
      have cO0 : ∀ n, Calls Try.prog 48 #[.pointer (some ⟨g, o + k * 6, none⟩)] (wr.drewN n) fun e w' => e = .returned (.bool (plkB ⟨s, a, b, c, d, f⟩)) ∧ wr.drewN n = w' := fun n => l03One_any s a b c d f hxs'.out (wr.drewN n) g (o + k * 6) (plkAt_of (hrn'.out n))
      clear hr hx hxs
      cases hb : plkB ⟨s, a, b, c, d, f⟩
      · rw [hb] at cO0
        have cO := Lib.hid cO0
        have hno := Lib.hid (plksB_no (step_bad hlt hx'.out hb) hlt)
        clear cO0 hc
        go_wp2
        go_quiet ((go_at_call 48; exact Qs (cO.out _)))
        go_wp2
        go_ret
        exact ⟨ret_bool hno.out.symm, hd.more _⟩
      · rw [hb] at cO0
        have cO := Lib.hid cO0
        clear cO0
        rcases Nat.eq_zero_or_pos k with hk0 | hk0
        · subst hk0
          have hst := Lib.hid (okK_yes hok.out (step_first hlt hx'.out hb))
          have hg0 : decide ((0 : Int) < ((0 : Nat) : Int)) = false := by decide
          clear hc
          go_wp2
          go_quiet ((go_at_call 48; exact Qs (cO.out _)))
          go_wp2
          go_roundw
          case rel => exact ⟨1, by omega, by go_num, hst, hd.more _⟩
          case measure => simp [intOf]; omega
        · obtain ⟨q, rfl⟩ : ∃ q, k = q + 1 := ⟨k - 1, by omega⟩
          obtain ⟨y, hy⟩ : ∃ y, y = Z[q] := ⟨_, rfl⟩
          have hr2 := hd.range (hc q (by omega))
          rw [← hy] at hr2
          have c0y := (plkAt_of hr2).1
          have hstep := step_next hlt hx'.out hy hb
          have c0x := hat.out.1
          simp only at c0x
          have e1 : IntKind.i64.wrap ((q : Int) + 1 - 1) = (q : Int) := by rw [show (q : Int) + 1 - 1 = q by omega]; exact IntWalk.i64_in _ (by omega)
          have hg0 : decide ((0 : Int) < (q : Int) + 1) = true := by simp <;> omega
          have hq1 : (q : Int) < (Z.length : Int) := by omega
          clear hr2 hy hc
          cases hl : Op.bytesLess y.id.toList s.toList
          · rw [hl] at hstep
            have hno := Lib.hid (plksB_no hstep hlt)
            clear hstep
            go_wp2
            go_quiet ((go_at_call 48; exact Qs (cO.out _)))
            go_wp2
            go_ret
            exact ⟨ret_bool hno.out.symm, hd.more _⟩
          · rw [hl] at hstep
            have hst := Lib.hid (okK_yes hok.out hstep)
            clear hstep
            go_wp2
            go_quiet ((go_at_call 48; exact Qs (cO.out _)))
            go_wp2
            go_roundw
            case rel => exact ⟨q + 1 + 1, by omega, by go_num, hst, hd.more _⟩
            case measure => simp [intOf]; omega
    · have hkl : k = Z.length := by omega
      have hall : Hid (okK Z Z.length = true) := Lib.hid (hkl ▸ hok.out)
      have hfin : Hid (plksB Z = decide (Z.length ≤ 16)) := Lib.hid (by unfold plksB; rw [hall.out]; rfl)
      clear hkl
      by_cases h16 : Z.length ≤ 16
      all_goals
        go_wp2
        go_ret
        exact ⟨ret_bool (by rw [hfin.out]; first | (simp [h16]; done) | (simp; omega) | (simp [h16]; omega)), hd⟩
end Go.Proofs.Ytfcdhjbnlokinaa
