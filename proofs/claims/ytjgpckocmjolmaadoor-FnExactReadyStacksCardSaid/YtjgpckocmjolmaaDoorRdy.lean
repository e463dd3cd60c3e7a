/-
  Stacks that are ready: the program's contract.
-/
import Derived.Test.YtjgpckocmjolmaaDoorStks5
import Derived.Test.YtjgpckocmjolmaaDoorDry4
import Derived.Test.YtjgpckocmjolmaaDoorIntRow
import Derived.Deep.RegionHeld3
namespace Go.Proofs.YtjgpckocmjolmaaDoor
open Go.ChangeShapes Go.WideShapes Go.ChangeAt Go.RowKit Go.Deep
set_option linter.unusedVariables false
set_option maxRecDepth 1000000
set_option linter.unusedSimpArgs false
/-- is a stack ready? -/
def rdyB (h d g : Int) (x : Stk) : Bool := inB (d - x.sin) 0 4000 && decide (dryV x.moi (evenV h) x.thk (d - x.sin).toNat ≤ g)
theorem rdyB_far {h d g : Int} {x : Stk} (e : inB (d - x.sin) 0 4000 = false) : rdyB h d g x = false := by unfold rdyB; rw [e]; rfl
theorem rdyB_near {h d g : Int} {x : Stk} (e : inB (d - x.sin) 0 4000 = true) : rdyB h d g x = decide (dryV x.moi (evenV h) x.thk (d - x.sin).toNat ≤ g) := by unfold rdyB; rw [e, Bool.true_and]
def rdyL (Z : List Stk) (h d g : Int) : Nat → List Int
  | 0 => []
  | k + 1 => if rdyB h d g (Z.getD k stk0) = true then rdyL Z h d g k ++ [(k : Int)] else rdyL Z h d g k
theorem rdyL_yes {Z : List Stk} {h d g : Int} {k : Nat} {x : Stk} (hk : k < Z.length) (hx : x = Z[k]) (hb : rdyB h d g x = true) : rdyL Z h d g (k + 1) = rdyL Z h d g k ++ [(k : Int)] := by
  show (if _ then _ else _) = _
  rw [if_pos]; rw [stk_getD_at' hk, ← hx]; exact hb
theorem rdyL_no {Z : List Stk} {h d g : Int} {k : Nat} {x : Stk} (hk : k < Z.length) (hx : x = Z[k]) (hb : rdyB h d g x = false) : rdyL Z h d g (k + 1) = rdyL Z h d g k := by
  show (if _ then _ else _) = _
  rw [if_neg]; rw [stk_getD_at' hk, ← hx, hb]; decide
theorem rdyL_len {Z : List Stk} {h d g : Int} : ∀ k, (rdyL Z h d g k).length ≤ k
  | 0 => Nat.le_refl _
  | k + 1 => by
    have := rdyL_len (Z := Z) (h := h) (d := d) (g := g) k
    unfold rdyL; split
    · rw [List.length_append]; simp; omega
    · omega
theorem rdyL_in {Z : List Stk} {h d g : Int} : ∀ k, ∀ n ∈ rdyL Z h d g k, 0 ≤ n ∧ n < (k : Int)
  | 0, n, hn => by cases hn
  | k + 1, n, hn => by
    have ih := rdyL_in (Z := Z) (h := h) (d := d) (g := g) k
    unfold rdyL at hn; split at hn
    · rcases List.mem_append.1 hn with hn | hn
      · have := ih n hn; omega
      · simp at hn; omega
    · have := ih n hn; omega
def rdyC (Z : List Stk) (h d g : Int) : Int := if stksB Z = true then (if inB h 0 1000 = true then (if inB d 0 36524 = true then (if inB g 0 1000 = true then 0 else 2) else 2) else 2) else 1
def rdyV (Z : List Stk) (h d g : Int) : List Int := if rdyC Z h d g = 0 then rdyL Z h d g Z.length else []
theorem rdy_bad {Z : List Stk} {h d g c : Int} (e : rdyC Z h d g = c) (hc : c ≠ 0) : rdyV Z h d g = [] ∧ rdyC Z h d g = c := by unfold rdyV; rw [e, if_neg hc]; exact ⟨rfl, rfl⟩
theorem rdy_good {Z : List Stk} {h d g : Int} (e : rdyC Z h d g = 0) : rdyV Z h d g = rdyL Z h d g Z.length ∧ rdyC Z h d g = 0 := by unfold rdyV; rw [e, if_pos rfl]; exact ⟨rfl, rfl⟩
theorem stks_len {Z : List Stk} (h : stksB Z = true) : Z.length ≤ 12 := by
  unfold stksB at h; exact of_decide_eq_true (Bool.and_eq_true_iff.1 h).2
theorem stks_one {Z : List Stk} (h : stksB Z = true) {k : Nat} (hk : k < Z.length) : stkB Z[k] = true := by
  rcases hb : stk_stepOK Z k with _ | _
  · rw [stksB_no hb hk] at h; cases h
  · unfold stk_stepOK at hb
    rw [stk_getD_at' hk] at hb
    exact (Bool.and_eq_true_iff.1 hb).1
theorem rdyV_in {Z : List Stk} {h d g : Int} : (∀ n ∈ rdyV Z h d g, inI n) ∧ (rdyV Z h d g).length ≤ 12 := by
  unfold rdyV
  by_cases e : rdyC Z h d g = 0
  · rw [if_pos e]
    have hl : Z.length ≤ 12 := by
      unfold rdyC at e
      by_cases h1 : stksB Z = true
      · exact stks_len h1
      · rw [if_neg h1] at e; exact absurd e (by decide)
    refine ⟨fun n hn => ?_, Nat.le_trans (rdyL_len _) hl⟩
    have := rdyL_in _ n hn
    unfold inI; omega
  · rw [if_neg e]; exact ⟨fun n hn => (by cases hn), by simp⟩
/-- a row of numbers and a code -/
def RowC (L : List Int) (c : Int) (w : World) (e : Ending) (w' : World) : Prop := ∃ v, e = .returned (.tuple #[v, .int .i64 c]) ∧ w'.ownsRow w.heap.size 2 1 v L.length (L.map encI) ∧ Below w.heap.size w w'
theorem rowC_nil {c c' : Int} {L : List Int} {w w' : World} (hL : L = []) (hc : c = c') (hb : Below w.heap.size w w') : RowC L c w (.returned (.tuple #[.slice none 0 0, .int .i64 c'])) w' := by
  subst hL hc; exact ⟨_, rfl, World.ownsRow_nil _ _ _ _, hb⟩
theorem rowC_mk {c c' : Int} {L L' : List Int} {v : Value} {w w' : World} {B : Nat} (hL : L = L') (hc : c = c') (hB : w.heap.size ≤ B) (ho : w'.ownsRow B 2 1 v L'.length (L'.map encI)) (hb : Below w.heap.size w w') : RowC L c w (.returned (.tuple #[v, .int .i64 c'])) w' := by
  subst hL hc; exact ⟨_, rfl, own_low ho hB, hb⟩
set_option maxHeartbeats 6400000 in
theorem implReadyStacks_any (v : Value) (Z : List Stk) (h d g : Int) (w : World) (hE : EvP w) (hn : Z.length ≤ 1048576) (hv : StksAt w v Z) : Calls Tryd.prog 7 #[v, .int .i64 h, .int .i64 d, .int .i64 g] w (RowC (rdyV Z h d g) (rdyC Z h d g) w) := by
  obtain ⟨i0, hi, hz0, hz1, hz2⟩ := info_parts infoI
  have hEw : Hid (∀ W, Below w.heap.size w W → EvP W) := Lib.hid (fun W hb => hE.below hb)
  cases h1 : stksB Z
  · have hr := Lib.hid (rdy_bad (show rdyC Z h d g = 1 by unfold rdyC; rw [h1]; rfl) (by decide))
    have cV := Lib.hid (implValidStacks_any v Z w hn hv)
    rw [h1] at cV
    go_enter Tryd.func7, Tryd.ntmps7
    go_wp2_with fail
    refine cV.out.mono ?_
    rintro e w1 ⟨rfl, b1⟩
    go_wp2
    go_ret2
    exact rowC_nil hr.out.1 hr.out.2 b1
  have cV := Lib.hid (implValidStacks_any v Z w hn hv)
  rw [h1] at cV
  cases h2 : inB h 0 1000
  · have hr := Lib.hid (rdy_bad (show rdyC Z h d g = 2 by unfold rdyC; rw [h1, h2, if_pos rfl]; rfl) (by decide))
    go_enter Tryd.func7, Tryd.ntmps7
    go_wp2_with fail
    refine cV.out.mono ?_
    rintro e w1 ⟨rfl, b1⟩
    go_wp2_with (first
      | (go_at_call 22; refine (isThousandths_any _ _).mono ?_; rintro e w' ⟨rfl, rfl⟩)
      | (go_at_call 23; refine (isDay_any _ _).mono ?_; rintro e w' ⟨rfl, rfl⟩))
    go_ret2
    exact rowC_nil hr.out.1 hr.out.2 b1
  cases h3 : inB d 0 36524
  · have hr := Lib.hid (rdy_bad (show rdyC Z h d g = 2 by unfold rdyC; rw [h1, h2, h3, if_pos rfl, if_pos rfl]; rfl) (by decide))
    go_enter Tryd.func7, Tryd.ntmps7
    go_wp2_with fail
    refine cV.out.mono ?_
    rintro e w1 ⟨rfl, b1⟩
    go_wp2_with (first
      | (go_at_call 22; refine (isThousandths_any _ _).mono ?_; rintro e w' ⟨rfl, rfl⟩)
      | (go_at_call 23; refine (isDay_any _ _).mono ?_; rintro e w' ⟨rfl, rfl⟩))
    go_ret2
    exact rowC_nil hr.out.1 hr.out.2 b1
  cases h4 : inB g 0 1000
  · have hr := Lib.hid (rdy_bad (show rdyC Z h d g = 2 by unfold rdyC; rw [h1, h2, h3, h4, if_pos rfl, if_pos rfl, if_pos rfl]; rfl) (by decide))
    go_enter Tryd.func7, Tryd.ntmps7
    go_wp2_with fail
    refine cV.out.mono ?_
    rintro e w1 ⟨rfl, b1⟩
    go_wp2_with (first
      | (go_at_call 22; refine (isThousandths_any _ _).mono ?_; rintro e w' ⟨rfl, rfl⟩)
      | (go_at_call 23; refine (isDay_any _ _).mono ?_; rintro e w' ⟨rfl, rfl⟩))
    go_ret2
    exact rowC_nil hr.out.1 hr.out.2 b1
  have hr := Lib.hid (rdy_good (show rdyC Z h d g = 0 by unfold rdyC; rw [h1, h2, h3, h4, if_pos rfl, if_pos rfl, if_pos rfl, if_pos rfl]))
  have hd := inB_iff.1 h3
  have hval := Lib.hid h1
  have h12 := stks_len h1
  obtain ⟨p, cap, rfl, hcap, hids, hread⟩ := hv
  have hread' := Lib.hid hread
  clear hread hids h1
  go_enter Tryd.func7, Tryd.ntmps7
  go_wp2_with fail
  refine cV.out.mono ?_
  rintro e w1 ⟨rfl, b1⟩
  go_wp2_with (first
      | (go_at_call 22; refine (isThousandths_any _ _).mono ?_; rintro e w' ⟨rfl, rfl⟩)
      | (go_at_call 23; refine (isDay_any _ _).mono ?_; rintro e w' ⟨rfl, rfl⟩))
  have hown0 : w1.ownsRow w.heap.size 2 1 (.slice none 0 0) (rdyL Z h d g 0).length ((rdyL Z h d g 0).map encI) := World.ownsRow_nil _ _ _ _
  have hb1 := Lib.hid b1
  clear b1 cV
  go_loopw [10, 34] (fun u i wr => ∃ (k : Nat) (L : List Int), k ≤ Z.length ∧ i = .int .i64 k ∧ Hid (L = rdyL Z h d g k) ∧ L.length ≤ k ∧ wr.ownsRow w.heap.size 2 1 u L.length (L.map encI) ∧ Hid (Below w.heap.size w wr)) (fun _ i _ => Z.length - (intOf i).toNat)
  case atStart => exact ⟨0, rdyL Z h d g 0, by omega, rfl, Lib.hid rfl, rdyL_len 0, hown0, hb1⟩
  case round =>
    obtain ⟨k, L, hk, rfl, hL, hLk, hown, hbel⟩ := hrel
    by_cases hlt : k < Z.length
    · rcases hread'.out with hh | ⟨gg, o, rfl, hg, hcl⟩
      · subst hh; simp at hlt
      obtain ⟨x, hxk⟩ : ∃ x, x = Z[k] := ⟨_, rfl⟩
      have hr0 := range_below (hcl k hlt) hg hbel.out
      have hone := stks_one hval.out hlt
      rw [← hxk] at hr0 hone
      obtain ⟨s2, a2, b2, c2⟩ := x
      have hr1 : wr.rangeAt gg (o + k * 4) [.string s2, .int .i64 a2, .int .i64 b2, .int .i64 c2] := hr0
      obtain ⟨ha2, hb2, hc2⟩ := stk_bd hone
      have hxk' := Lib.hid hxk
      have hltI : (k : Int) < (Z.length : Int) := by omega
      have hkI : (k : Int) ≤ 12 := by omega
      have hbA := Lib.hid (hbel.out.alloc hbel.out.size (.cells #[.string s2, .int .i64 a2, .int .i64 b2, .int .i64 c2] 40))
      have hownA := Lib.hid (hown.alloc (.cells #[.string s2, .int .i64 a2, .int .i64 b2, .int .i64 c2] 40))
      clear hr0 hxk hcl hone
      cases h5 : inB (d - c2) 0 4000
      · have hstep : Hid (L = rdyL Z h d g (k + 1)) := Lib.hid (by rw [rdyL_no hlt hxk'.out (rdyB_far h5), ← hL.out])
        go_wp2_with (first
          | (refine wpList_load_mid rfl _ _ rfl gg (o + k * 4) rfl _ _ hr1 Tryd.underlying40 rfl rfl ?_)
          | (go_at_call 24; refine (isTime_any _ _).mono ?_; rintro e w' ⟨rfl, rfl⟩))
        go_roundw
        case rel => exact ⟨k + 1, L, by omega, by go_num, hstep, by omega, hownA.out, hbA⟩
        case measure => simp [intOf]; omega
      have hdd := inB_iff.1 h5
      have cM := fun W (hW : EvP W) => moistureAfter_any s2 a2 b2 c2 h (d - c2) ha2.1 ha2.2 hb2.1 hb2.2 hdd.1 hdd.2 W hW
      obtain ⟨y, hy⟩ : ∃ y, y = dryV a2 (evenV h) b2 (d - c2).toNat := ⟨_, rfl⟩
      rw [← hy] at cM
      have cM' := Lib.hid cM
      clear cM
      by_cases hyg : y ≤ g
      · have hL2 : Hid (L ++ [(k : Int)] = rdyL Z h d g (k + 1)) := Lib.hid (by rw [rdyL_yes hlt hxk'.out (by rw [rdyB_near h5]; exact decide_eq_true (hy ▸ hyg)), ← hL.out])
        clear hy
        go_wp2_with (first
          | (refine wpList_load_mid rfl _ _ rfl gg (o + k * 4) rfl _ _ hr1 Tryd.underlying40 rfl rfl ?_)
          | (go_at_call 24; refine (isTime_any _ _).mono ?_; rintro e w' ⟨rfl, rfl⟩)
          | (go_at_call 25; refine (cM'.out _ (hEw.out _ hbA.out)).mono ?_; rintro e w2 ⟨rfl, b2⟩; have hown2 := own_kept hownA.out b2; have hown2' := Lib.hid hown2; have hbel2 : Hid (Below w.heap.size w w2) := Lib.hid (below2 hbA.out b2); clear b2)
          | (at_builtin; refine wpList_append_own _ rfl _ _ 24 rfl w.heap.size 2 i0 (.int .i64 0) 1 8 Tryd.underlying24 hi hz0 hz1 hz2 rfl (by decide) _ _ _ rfl (hown2.alloc _) ⟨w2.heap.size, 0, none⟩ 1 1 [.int .i64 k] rfl rfl ?c1A ?c2A ?c3A ?c4A ?c5A ?_))
        case c1A =>
          intro j u hj
          match j, hj with
          | 0, hj => simp at hj; subst hj; simp [Addr.add]
        case c2A => intro u hu; simp at hu; subst hu; rfl
        case c3A => unfold maxLen; omega
        case c4A => omega
        case c5A => have := hbel2.out.size; simp; omega
        intro v' w3 hown' hgrow' _
        have hb3 : Below w.heap.size w w3 := (hbel2.out.alloc hbel2.out.size (.cells #[.int .i64 k] 2)).grown hgrow' (by have := hbel2.out.size; simp at this ⊢; omega) (fun j hj => hown2'.out.own_ge j hj)
        have hLl : (L ++ [(k : Int)]).length = L.length + 1 := by simp
        have hown3 : w3.ownsRow w.heap.size 2 1 v' (L ++ [(k : Int)]).length ((L ++ [(k : Int)]).map encI) := by
          rw [hLl, List.map_append, List.map_singleton]; simpa [encI] using hown'
        have hb3' := Lib.hid hb3
        clear hgrow' hown' hown2 hown hbel2 hb3
        go_wp2
        go_roundw
        case rel => exact ⟨k + 1, L ++ [(k : Int)], by omega, by go_num, hL2, by rw [hLl]; omega, hown3, hb3'⟩
        case measure => simp [intOf]; omega
      · have hstep : Hid (L = rdyL Z h d g (k + 1)) := Lib.hid (by rw [rdyL_no hlt hxk'.out (by rw [rdyB_near h5]; exact decide_eq_false (hy ▸ hyg)), ← hL.out])
        clear hy
        go_wp2_with (first
          | (refine wpList_load_mid rfl _ _ rfl gg (o + k * 4) rfl _ _ hr1 Tryd.underlying40 rfl rfl ?_)
          | (go_at_call 24; refine (isTime_any _ _).mono ?_; rintro e w' ⟨rfl, rfl⟩)
          | (go_at_call 25; refine (cM'.out _ (hEw.out _ hbA.out)).mono ?_; rintro e w2 ⟨rfl, b2⟩; have hown2 := own_kept hownA.out b2; have hbel2 : Hid (Below w.heap.size w w2) := Lib.hid (below2 hbA.out b2); clear b2))
        go_roundw
        case rel => exact ⟨k + 1, L, by omega, by go_num, hstep, by omega, hown2, hbel2⟩
        case measure => simp [intOf]; omega
    · have hkl : k = Z.length := by omega
      have hLL : Hid (rdyV Z h d g = L) := Lib.hid (by rw [hr.out.1, hL.out, hkl])
      clear hkl
      go_wp2
      go_ret2
      exact rowC_mk hLL.out hr.out.2 (Nat.le_refl _) hown hbel.out
end Go.Proofs.YtjgpckocmjolmaaDoor
