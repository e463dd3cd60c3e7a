/-
  Rows of coats: the model's validity of a list.
-/
import Derived.Test.YtjnpladpegmiiaaCts2
import Derived.WalkLawsBesides
namespace Go.Proofs.Ytjnpladpegmiiaa
open Go.ChangeShapes Go.WideShapes Go.ChangeAt Go.RowKit Go.Deep
set_option linter.unusedVariables false
set_option linter.unusedSimpArgs false
set_option maxRecDepth 1000000
def ct0 : Ct := ⟨ByteArray.empty, 0, 0, []⟩
/-- is plank number i valid, and its Id behind the one before it? -/
def ct_stepOK (Z : List Ct) (i : Nat) : Bool := ctB (Z.getD i ct0) && (decide (i = 0) || Op.bytesLess (Z.getD (i - 1) ct0).id.toList (Z.getD i ct0).id.toList)
def ct_okK (Z : List Ct) : Nat → Bool
  | 0 => true
  | k + 1 => ct_okK Z k && ct_stepOK Z k
def ctsB (Z : List Ct) : Bool := ct_okK Z Z.length && decide (Z.length ≤ 10)
theorem ct_okK_no {Z : List Ct} {k : Nat} (h : ct_stepOK Z k = false) : ∀ n, k < n → ct_okK Z n = false
  | 0, hk => by omega
  | n + 1, hk => by
    unfold ct_okK
    by_cases e : k = n
    · subst e; rw [h, Bool.and_false]
    · rw [ct_okK_no h n (by omega), Bool.false_and]
theorem ct_okK_yes {Z : List Ct} {k : Nat} (h : ct_okK Z k = true) (hs : ct_stepOK Z k = true) : ct_okK Z (k + 1) = true := by unfold ct_okK; rw [h, hs]; rfl
theorem ctsB_no {Z : List Ct} {k : Nat} (h : ct_stepOK Z k = false) (hk : k < Z.length) : ctsB Z = false := by unfold ctsB; rw [ct_okK_no h _ hk]; rfl
theorem ct_getD_at' {Z : List Ct} {k : Nat} (h : k < Z.length) : Z.getD k ct0 = Z[k] := by rw [List.getD_eq_getElem?_getD, List.getElem?_eq_getElem h]; rfl
theorem ct_step_bad {Z : List Ct} {k : Nat} (h : k < Z.length) {x : Ct} (hx : x = Z[k]) (hv : ctB x = false) : ct_stepOK Z k = false := by unfold ct_stepOK; rw [ct_getD_at' h, ← hx, hv]; rfl
theorem ct_step_first {Z : List Ct} (h : 0 < Z.length) {x : Ct} (hx : x = Z[0]) (hv : ctB x = true) : ct_stepOK Z 0 = true := by unfold ct_stepOK; rw [ct_getD_at' h, ← hx, hv]; rfl
theorem ct_step_next {Z : List Ct} {q : Nat} (h : q + 1 < Z.length) {x y : Ct} (hx : x = Z[q + 1]) (hy : y = Z[q]'(by omega)) (hv : ctB x = true) : ct_stepOK Z (q + 1) = Op.bytesLess y.id.toList x.id.toList := by
  unfold ct_stepOK
  rw [ct_getD_at' h, ← hx, hv, show q + 1 - 1 = q by omega, ct_getD_at' (by omega : q < Z.length), ← hy]; simp
set_option maxHeartbeats 1600000 in
theorem l13Ok_any (v : Value) (Z : List Ct) (w : World) (hn : Z.length ≤ 1048576) (hv : CtsAt w v Z) : Calls Try.prog 47 #[v] w fun e w' => e = .returned (.bool (ctsB Z)) ∧ DrewOf w w' := by
  obtain ⟨p, cap, rfl, hcap, hids, hread⟩ := hv
  have hread' := Lib.hid hread
  have hids' := Lib.hid hids
  clear hread hids
  go_enter Try.func47, Try.ntmps47
  go_wp2
  go_loopw [3] (fun i wr => ∃ k : Nat, k ≤ Z.length ∧ i = .int .i64 k ∧ Hid (ct_okK Z k = true) ∧ DrewOf w wr) (fun i _ => Z.length - (intOf i).toNat)
  case atStart => exact ⟨0, by omega, rfl, Lib.hid rfl, DrewOf.refl _⟩
  case round =>
    obtain ⟨k, hk, rfl, hok, hd⟩ := hrel
    by_cases hlt : k < Z.length
    · rcases hread'.out with h | ⟨g, o, rfl, hg, hc⟩
      · subst h; simp at hlt
      obtain ⟨x, hx⟩ : ∃ x, x = Z[k] := ⟨_, rfl⟩
      obtain ⟨u, hu, hui⟩ := hc k hlt
      have hr := hd.range hu
      have hi3 := hui.below hd.below
      rw [← hx] at hr hi3
      have hat := Lib.hid (ctAt_of hr hi3)
      have hrn' : Hid (∀ n, CtAt (wr.drewN n) g (o + k * 4) x u) := Lib.hid (fun n => ctAt_of hr (hi3.drewN n))
      have hxs : x.id.size ≤ maxLen ∧ x.col.length ≤ maxLen := by rw [hx]; exact hids'.out _ (List.getElem_mem hlt)
      have hx' := Lib.hid hx
      obtain ⟨s, a, b, L⟩ := x
      have hxs' := Lib.hid hxs
      have cO0 : ∀ n, Calls Try.prog 62 #[.pointer (some ⟨g, o + k * 4, none⟩)] (wr.drewN n) fun e w' => e = .returned (.bool (ctB ⟨s, a, b, L⟩)) ∧ wr.drewN n = w' := fun n => l13One_any ⟨s, a, b, L⟩ u g (o + k * 4) hxs'.out.1 hxs'.out.2 (wr.drewN n) (hrn'.out n)
      clear hr hx hxs hu hui hi3
      cases hb : ctB ⟨s, a, b, L⟩
      · rw [hb] at cO0
        have cO := Lib.hid cO0
        have hno := Lib.hid (ctsB_no (ct_step_bad hlt hx'.out hb) hlt)
        clear cO0 hc
        go_wp2
        go_quiet ((go_at_call 62; exact Qs (cO.out _)))
        go_wp2
        go_ret
        exact ⟨ret_bool hno.out.symm, hd.more _⟩
      · rw [hb] at cO0
        have cO := Lib.hid cO0
        clear cO0
        rcases Nat.eq_zero_or_pos k with hk0 | hk0
        · subst hk0
          have hst := Lib.hid (ct_okK_yes hok.out (ct_step_first hlt hx'.out hb))
          have hg0 : decide ((0 : Int) < ((0 : Nat) : Int)) = false := by decide
          clear hc
          go_wp2
          go_quiet ((go_at_call 62; exact Qs (cO.out _)))
          go_wp2
          go_roundw
          case rel => exact ⟨1, by omega, by go_num, hst, hd.more _⟩
          case measure => simp [intOf]; omega
        · obtain ⟨q, rfl⟩ : ∃ q, k = q + 1 := ⟨k - 1, by omega⟩
          obtain ⟨y, hy⟩ : ∃ y, y = Z[q] := ⟨_, rfl⟩
          obtain ⟨u2, hu2, _⟩ := hc q (by omega)
          have hr2 := hd.range hu2
          rw [← hy] at hr2
          have c0y : wr.cell? ⟨g, o + q * 4, none⟩ = some (.string y.id) := by simpa using hr2 0 _ rfl
          have hstep := ct_step_next hlt hx'.out hy hb
          have c0x := hat.out.1.1
          simp only at c0x
          have e1 : IntKind.i64.wrap ((q : Int) + 1 - 1) = (q : Int) := by rw [show (q : Int) + 1 - 1 = q by omega]; exact IntWalk.i64_in _ (by omega)
          have hg0 : decide ((0 : Int) < (q : Int) + 1) = true := by simp <;> omega
          have hq1 : (q : Int) < (Z.length : Int) := by omega
          clear hr2 hu2 hy hc
          cases hl : Op.bytesLess y.id.toList s.toList
          · rw [hl] at hstep
            have hno := Lib.hid (ctsB_no hstep hlt)
            clear hstep
            go_wp2
            go_quiet ((go_at_call 62; exact Qs (cO.out _)))
            go_wp2
            go_ret
            exact ⟨ret_bool hno.out.symm, hd.more _⟩
          · rw [hl] at hstep
            have hst := Lib.hid (ct_okK_yes hok.out hstep)
            clear hstep
            go_wp2
            go_quiet ((go_at_call 62; exact Qs (cO.out _)))
            go_wp2
            go_roundw
            case rel => exact ⟨q + 1 + 1, by omega, by go_num, hst, hd.more _⟩
            case measure => simp [intOf]; omega
    · have hkl : k = Z.length := by omega
      have hall : Hid (ct_okK Z Z.length = true) := Lib.hid (hkl ▸ hok.out)
      have hfin : Hid (ctsB Z = decide (Z.length ≤ 10)) := Lib.hid (by unfold ctsB; rw [hall.out]; rfl)
      clear hkl
      by_cases h16 : Z.length ≤ 10
      all_goals
        go_wp2
        go_ret
        exact ⟨ret_bool (by rw [hfin.out]; first | (simp [h16]; done) | (simp; omega) | (simp [h16]; omega)), hd⟩
theorem specValidCoats_any (v : Value) (Z : List Ct) (w : World) (hn : Z.length ≤ 1048576) (hv : CtsAt w v Z) : Calls Try.prog 14 #[v] w fun e w' => e = .returned (.bool (ctsB Z)) ∧ Below w.heap.size w w' := by
  have cL := Lib.hid (l13Ok_any v Z w hn hv)
  obtain ⟨p, cap, rfl, _, _, _⟩ := hv
  obtain ⟨q, hq⟩ : ∃ q, q = ctsB Z := ⟨_, rfl⟩
  rw [← hq] at cL ⊢
  clear hq
  go_enter Try.func14, Try.ntmps14
  go_wp2_with (go_at_call 47; (with_reducible refine cL.out.mono ?_); rintro e w1 ⟨rfl, b1⟩)
  go_ret
  exact ⟨rfl, b1.below⟩
end Go.Proofs.Ytjnpladpegmiiaa
