/-
  Stages of drying: the program's and the model's contracts.
-/
import Derived.Test.YtemccejlophmkaaDoorDry4
import Derived.Test.YtemccejlophmkaaDoorIntRow
import Derived.Deep.RegionHeld3
namespace Go.Proofs.YtemccejlophmkaaDoor
open Go.ChangeShapes Go.WideShapes Go.ChangeAt Go.RowKit Go.Deep
set_option linter.unusedVariables false
set_option linter.unusedSimpArgs false
/-- the moisture behind k stages -/
def stgM (m t : Int) (n : Nat) (Z : List Int) : Nat → Int
  | 0 => m
  | k + 1 => dryV (stgM m t n Z k) (evenV (Z.getD k 0)) t n
def stgL (m t : Int) (n : Nat) (Z : List Int) (k : Nat) : List Int := (List.range k).map (fun i => stgM m t n Z (i + 1))
theorem stgL_succ (m t : Int) (n : Nat) (Z : List Int) (k : Nat) : stgL m t n Z (k + 1) = stgL m t n Z k ++ [stgM m t n Z (k + 1)] := by unfold stgL; rw [List.range_succ, List.map_append]; rfl
theorem stgL_len (m t : Int) (n : Nat) (Z : List Int) (k : Nat) : (stgL m t n Z k).length = k := by simp [stgL]
theorem stgM_in {m t : Int} {n : Nat} {Z : List Int} (ht : 10 ≤ t) (hm : 0 ≤ m ∧ m ≤ 1000) : ∀ k, 0 ≤ stgM m t n Z k ∧ stgM m t n Z k ≤ 1000
  | 0 => hm
  | k + 1 => dry_in ht (stgM_in ht hm k) (by have := even_in (Z.getD k 0); omega) n
theorem stgL_in {m t : Int} {n : Nat} {Z : List Int} (ht : 10 ≤ t) (hm : 0 ≤ m ∧ m ≤ 1000) (k : Nat) : ∀ x ∈ stgL m t n Z k, inI x := by
  intro x hx
  obtain ⟨i, _, rfl⟩ := List.mem_map.1 hx
  have := stgM_in (n := n) (Z := Z) ht hm (i + 1)
  unfold inI; omega
def hums (Z : List Int) (k : Nat) : Prop := ∀ i, i < k → inB (Z.getD i 0) 0 1000 = true
def humB (Z : List Int) : Bool := (List.range Z.length).all (fun i => inB (Z.getD i 0) 0 1000)
theorem hum_no {Z : List Int} {k : Nat} (hk : k < Z.length) (h : inB (Z.getD k 0) 0 1000 = false) : humB Z = false := by
  unfold humB; rw [List.all_eq_false]; exact ⟨k, List.mem_range.2 hk, by rw [h]; decide⟩
theorem hum_yes {Z : List Int} (h : hums Z Z.length) : humB Z = true := by
  unfold humB; rw [List.all_eq_true]; intro i hi; exact h i (List.mem_range.1 hi)
def stgC (x : Stk) (Z : List Int) (d : Int) : Int := if stkB x = true then (if Z.length ≤ 12 then (if inB d 0 4000 = true then (if humB Z = true then 0 else 2) else 2) else 2) else 1
def stgV (x : Stk) (Z : List Int) (d : Int) : List Int := if stgC x Z d = 0 then stgL x.moi x.thk d.toNat Z Z.length else []
theorem stg_bad {x : Stk} {Z : List Int} {d c : Int} (h : stgC x Z d = c) (hc : c ≠ 0) : stgV x Z d = [] ∧ stgC x Z d = c := by unfold stgV; rw [h, if_neg hc]; exact ⟨rfl, rfl⟩
theorem stg_good {x : Stk} {Z : List Int} {d : Int} (h : stgC x Z d = 0) : stgV x Z d = stgL x.moi x.thk d.toNat Z Z.length ∧ stgC x Z d = 0 := by unfold stgV; rw [h, if_pos rfl]; exact ⟨rfl, rfl⟩
theorem stgV_in {x : Stk} {Z : List Int} {d : Int} : (∀ n ∈ stgV x Z d, inI n) ∧ (stgV x Z d).length ≤ 12 := by
  unfold stgV
  by_cases h : stgC x Z d = 0
  · rw [if_pos h]
    unfold stgC at h
    by_cases h1 : stkB x = true
    · rw [if_pos h1] at h
      by_cases h2 : Z.length ≤ 12
      · obtain ⟨s, a, b, c⟩ := x
        obtain ⟨ha, hb, _⟩ := stk_bd h1
        exact ⟨stgL_in hb.1 ha _, by rw [stgL_len]; exact h2⟩
      · rw [if_neg h2] at h; exact absurd h (by decide)
    · rw [if_neg h1] at h; exact absurd h (by decide)
  · rw [if_neg h]; exact ⟨fun n hn => (by cases hn), by simp⟩
/-- a row of numbers and a code -/
def RowC (L : List Int) (c : Int) (w : World) (e : Ending) (w' : World) : Prop := ∃ v, e = .returned (.tuple #[v, .int .i64 c]) ∧ w'.ownsRow w.heap.size 2 1 v L.length (L.map encI) ∧ Below w.heap.size w w'
theorem rowC_nil {c c' : Int} {L : List Int} {w w' : World} (hL : L = []) (hc : c = c') (hb : Below w.heap.size w w') : RowC L c w (.returned (.tuple #[.slice none 0 0, .int .i64 c'])) w' := by
  subst hL hc; exact ⟨_, rfl, World.ownsRow_nil _ _ _ _, hb⟩
theorem rowC_mk {c c' : Int} {L L' : List Int} {v : Value} {w w' : World} {B : Nat} (hL : L = L') (hc : c = c') (hB : w.heap.size ≤ B) (ho : w'.ownsRow B 2 1 v L'.length (L'.map encI)) (hb : Below w.heap.size w w') : RowC L c w (.returned (.tuple #[v, .int .i64 c'])) w' := by
  subst hL hc; exact ⟨_, rfl, own_low ho hB, hb⟩
theorem getD_get {Z : List Int} {k : Nat} (h : k < Z.length) : Z.getD k 0 = Z[k] := by rw [List.getD_eq_getElem?_getD, List.getElem?_eq_getElem h]; rfl
/-- a store into a box leaves a row beyond it -/
theorem own_set {w : World} {B b : Nat} {e : TypeId} {size n : Nat} {v : Value} {xs : List Value} (h : w.ownsRow B e size v n xs) (hb : b < B) (i : Nat) (u : Value) : (w.setCell ⟨b, i, none⟩ u).ownsRow B e size v n xs := by
  refine ⟨h.1, ?_⟩
  rcases h.2 with h1 | ⟨g, cap, cur, hv, hg, hc, r⟩
  · exact Or.inl h1
  · exact Or.inr ⟨g, cap, cur, hv, hg, (Below.heap_setCell _ _ _ _ (by simp; omega)).trans hc, r⟩
theorem box_set1 {w : World} {b : Nat} {x0 x1 x2 x3 : Value} {t : TypeId} (h : w.heap[b]? = some (.cells #[x0, x1, x2, x3] t (0, 0))) (y : Value) : (w.setCell ⟨b, 1, none⟩ y).heap[b]? = some (.cells #[x0, y, x2, x3] t (0, 0)) := heap_set h 1 y _ rfl
set_option maxHeartbeats 6400000 in
theorem implStagesFor_any (s : ByteArray) (a : Int) (b : Int) (c : Int) (v : Value) (Z : List Int) (d : Int) (hs : s.size ≤ maxLen) (w : World) (hE : EvP w) (hl : Z.length ≤ 1048576) (hv : IntsAt w v Z) : Calls Tryd.prog 8 #[.agg #[.string s, .int .i64 a, .int .i64 b, .int .i64 c], v, .int .i64 d] w (RowC (stgV ⟨s, a, b, c⟩ Z d) (stgC ⟨s, a, b, c⟩ Z d) w) := by
  obtain ⟨i0, hi, hz0, hz1, hz2⟩ := info_parts infoI
  have hEw := Lib.hid hE
  have hv0 := Lib.hid hv
  obtain ⟨p, cap, rfl, hcap, hzz, hread⟩ := hv
  have hread' := Lib.hid hread
  clear hread hzz
  cases h1 : stkB ⟨s, a, b, c⟩
  · have hr := Lib.hid (stg_bad (show stgC ⟨s, a, b, c⟩ Z d = 1 by unfold stgC; rw [h1]; rfl) (by decide))
    go_enter Tryd.func8, Tryd.ntmps8
    go_wp2_with (first
      | (go_at_call 20; refine (isValid_any _ _ _ _ hs _).mono ?_; rintro e w1 ⟨rfl, b1⟩; have C1 := bcell b1)
      | (go_at_call 22; refine (isTime_any _ _).mono ?_; rintro e w' ⟨rfl, rfl⟩))
    go_ret2
    exact rowC_nil hr.out.1 hr.out.2 (((Below.refl _ _).alloc (Nat.le_refl _) _).trans (b1.mono (by simp)))
  by_cases h2 : Z.length ≤ 12
  rotate_left
  · have hr := Lib.hid (stg_bad (show stgC ⟨s, a, b, c⟩ Z d = 2 by unfold stgC; rw [h1, if_pos rfl, if_neg h2]) (by decide))
    have h2' : (12 : Int) < (Z.length : Int) := by omega
    go_enter Tryd.func8, Tryd.ntmps8
    go_wp2_with (first
      | (go_at_call 20; refine (isValid_any _ _ _ _ hs _).mono ?_; rintro e w1 ⟨rfl, b1⟩; have C1 := bcell b1)
      | (go_at_call 22; refine (isTime_any _ _).mono ?_; rintro e w' ⟨rfl, rfl⟩))
    go_ret2
    exact rowC_nil hr.out.1 hr.out.2 (((Below.refl _ _).alloc (Nat.le_refl _) _).trans (b1.mono (by simp)))
  have h2' : ¬ ((12 : Int) < (Z.length : Int)) := by omega
  cases h3 : inB d 0 4000
  · have hr := Lib.hid (stg_bad (show stgC ⟨s, a, b, c⟩ Z d = 2 by unfold stgC; rw [h1, h3, if_pos rfl, if_pos h2]; rfl) (by decide))
    go_enter Tryd.func8, Tryd.ntmps8
    go_wp2_with (first
      | (go_at_call 20; refine (isValid_any _ _ _ _ hs _).mono ?_; rintro e w1 ⟨rfl, b1⟩; have C1 := bcell b1)
      | (go_at_call 22; refine (isTime_any _ _).mono ?_; rintro e w' ⟨rfl, rfl⟩))
    go_ret2
    exact rowC_nil hr.out.1 hr.out.2 (((Below.refl _ _).alloc (Nat.le_refl _) _).trans (b1.mono (by simp)))
  have hC : Hid (stgC ⟨s, a, b, c⟩ Z d = if humB Z = true then 0 else 2) := Lib.hid (by unfold stgC; rw [h1, h3, if_pos rfl, if_pos h2, if_pos rfl])
  obtain ⟨ha, hb, hc⟩ := stk_bd h1
  have hd := inB_iff.1 h3
  have hE2 := Lib.hid (hE.below (show Below w.heap.size w (w.alloc (.cells #[.string s, .int .i64 a, .int .i64 b, .int .i64 c] 25)) from (Below.refl _ _).alloc (Nat.le_refl _) _))
  have hBl : Below w.heap.size w (w.alloc (.cells #[.string s, .int .i64 a, .int .i64 b, .int .i64 c] 25)) := (Below.refl _ _).alloc (Nat.le_refl _) _
  have q0 := heap_alloc_new w (.cells #[.string s, .int .i64 a, .int .i64 b, .int .i64 c] 25)
  have hz0' : w.heap.size < (w.alloc (.cells #[.string s, .int .i64 a, .int .i64 b, .int .i64 c] 25)).heap.size := by simp
  go_enter Tryd.func8, Tryd.ntmps8
  go_wp2_with (first
      | (go_at_call 20; refine (isValid_any _ _ _ _ hs _).mono ?_; rintro e w1 ⟨rfl, b1⟩; have C1 := bcell b1)
      | (go_at_call 22; refine (isTime_any _ _).mono ?_; rintro e w' ⟨rfl, rfl⟩))
  have q1 := (b1.block _ hz0').trans q0
  have B1 := hBl.trans (b1.mono (by omega))
  have hE1 := Lib.hid (hE2.out.below b1)
  have hz1' := Nat.lt_of_lt_of_le hz0' b1.size
  clear C1 b1 q0 hz0' hBl hE hE2
  have hown0 : w1.ownsRow (w.heap.size + 1) 2 1 (.slice none 0 0) (stgL a b d.toNat Z 0).length ((stgL a b d.toNat Z 0).map encI) := World.ownsRow_nil _ _ _ _
  have HB1 := Lib.hid B1
  have hwz : w.heap.size ≤ w1.heap.size := by omega
  clear B1
  obtain ⟨B, hB⟩ : ∃ B, B = w.heap.size := ⟨_, rfl⟩
  have hB' := Lib.hid hB
  rw [← hB] at q1 hz1' hown0 hwz ⊢
  clear hB
  go_loopw [8, 26] (fun u i wr => ∃ (k : Nat) (y : Int) (L : List Int), k ≤ Z.length ∧ i = .int .i64 k ∧ Hid (y = stgM a b d.toNat Z k) ∧ Hid (L = stgL a b d.toNat Z k) ∧ L.length = k ∧ Hid (hums Z k) ∧ wr.heap[B]? = some (.cells #[.string s, .int .i64 y, .int .i64 b, .int .i64 c] 25 (0, 0)) ∧ wr.ownsRow (B + 1) 2 1 u L.length (L.map encI) ∧ Hid (Below w.heap.size w wr)) (fun _ i _ => Z.length - (intOf i).toNat)
  case atStart => exact ⟨0, a, stgL a b d.toNat Z 0, by omega, rfl, Lib.hid rfl, Lib.hid rfl, stgL_len _ _ _ _ _, Lib.hid (fun i hi => absurd hi (Nat.not_lt_zero _)), q1, hown0, HB1⟩
  case round =>
    obtain ⟨k, y, L, hk, rfl, hy, hL, hLk, hh, hBk, hown, hbel⟩ := hrel
    have hBlt : B < wr.heap.size := lt_of_some hBk
    have hyb := stgM_in (n := d.toNat) (Z := Z) hb.1 ha k
    rw [← hy.out] at hyb
    by_cases hlt : k < Z.length
    · rcases hread'.out with h | ⟨g, o, rfl, hg, hcl⟩
      · subst h; simp at hlt
      have hck := (hbel.out.cell (p := ⟨g, o + k, none⟩) hg).trans (hcl k hlt)
      have hltI : (k : Int) < (Z.length : Int) := by omega
      have hgz := getD_get hlt
      obtain ⟨z, hz⟩ : ∃ z, z = Z[k] := ⟨_, rfl⟩
      rw [← hz] at hck hgz
      have hgz' := Lib.hid hgz
      clear hcl hz hgz
      cases hzb : inB z 0 1000
      · have hr := Lib.hid (stg_bad (show stgC ⟨s, a, b, c⟩ Z d = 2 by rw [hC.out, if_neg]; rw [hum_no hlt (by rw [hgz'.out]; exact hzb)]; decide) (by decide))
        go_wp2_with (go_at_call 21; refine (isThousandths_any _ _).mono ?_; rintro e w' ⟨rfl, rfl⟩)
        go_ret2
        exact rowC_nil hr.out.1 hr.out.2 hbel.out
      have hh2 : Hid (hums Z (k + 1)) := Lib.hid (fun i hi => by
        by_cases e : i = k
        · subst e; rw [hgz'.out]; exact hzb
        · exact hh.out i (by omega))
      have hstep : Hid (dryV y (evenV z) b d.toNat = stgM a b d.toNat Z (k + 1)) := Lib.hid (by show _ = dryV (stgM a b d.toNat Z k) (evenV (Z.getD k 0)) b d.toNat; rw [← hy.out, hgz'.out])
      have hL2 : Hid (L ++ [dryV y (evenV z) b d.toNat] = stgL a b d.toNat Z (k + 1)) := Lib.hid (by rw [stgL_succ, ← hL.out, ← hstep.out])
      have hEr : EvP wr := hEw.out.below hbel.out
      have cM := Lib.hid (moistureAfter_any s y b c z d hyb.1 hyb.2 hb.1 hb.2 hd.1 hd.2 wr hEr)
      clear hEr
      obtain ⟨y2, hy2⟩ : ∃ y2, y2 = dryV y (evenV z) b d.toNat := ⟨_, rfl⟩
      rw [← hy2] at hstep hL2 cM
      clear hy2
      have k0 := cellB hBk 0 _ rfl
      have k1 := cellB hBk 1 _ rfl
      have k2 := cellB hBk 2 _ rfl
      have k3 := cellB hBk 3 _ rfl
      go_wp2_with (first
        | (go_at_call 21; refine (isThousandths_any _ _).mono ?_; rintro e w' ⟨rfl, rfl⟩)
        | (go_at_call 23; refine cM.out.mono ?_; rintro e w2 ⟨rfl, b2⟩; have hB2 := (b2.block _ hBlt).trans hBk; have m1 := cellB hB2 1 _ rfl; have r1 := freeB hB2 1; have hown2 := own_set (b := B) (own_kept hown b2) (by omega) 1 (.int .i64 y2); have hbel2 : Hid (Below w.heap.size w (w2.setCell ⟨B, 1, none⟩ (.int .i64 y2))) := Lib.hid ((below2 hbel.out b2).setCell (p := ⟨B, 1, none⟩) (Nat.le_of_eq hB'.out.symm) _); have hB3 := box_set1 hB2 (.int .i64 y2); have hz3 : B < (w2.setCell ⟨B, 1, none⟩ (.int .i64 y2)).heap.size := lt_of_some hB3; have hz4 : B + 1 ≤ (w2.setCell ⟨B, 1, none⟩ (.int .i64 y2)).heap.size := hz3; have hz5 : B < w2.heap.size := lt_of_some hB2; have hnw : ((w2.setCell ⟨B, 1, none⟩ (.int .i64 y2)).alloc (.cells #[.int .i64 y2] 2)).cell? ⟨w2.heap.size, 0, none⟩ = some (.int .i64 y2) := cellB (by rw [show w2.heap.size = (w2.setCell ⟨B, 1, none⟩ (.int .i64 y2)).heap.size by simp]; exact heap_alloc_new _ _) 0 _ rfl; have hnw' := Lib.hid hnw; clear hnw b2)
        | (at_builtin; refine wpList_append_own _ rfl _ _ 31 rfl (B + 1) 2 i0 (.int .i64 0) 1 8 Tryd.underlying31 hi hz0 hz1 hz2 rfl (by decide) _ _ _ rfl (hown2.alloc _) ⟨w2.heap.size, 0, none⟩ 1 1 [.int .i64 y2] rfl rfl ?c1A ?c2A ?c3A ?c4A ?c5A ?_))
      case c1A =>
        intro j u hj
        match j, hj with
        | 0, hj => simp at hj; subst hj; simp [Addr.add]; exact hnw'.out
      case c2A => intro u hu; simp at hu; subst hu; rfl
      case c3A => unfold maxLen; omega
      case c4A => omega
      case c5A => simp; omega
      intro v' w3 hown' hgrow' _
      have hb3 : Below w.heap.size w w3 := (hbel2.out.alloc hbel2.out.size (.cells #[.int .i64 y2] 2)).grown hgrow' (by have := hbel2.out.size; simp at this ⊢; omega) (fun j hj => Nat.le_trans (Nat.le_of_eq hB'.out.symm) (Nat.le_trans (Nat.le_succ _) (hown2.own_ge j hj)))
      have hB4 : w3.heap[B]? = some (.cells #[.string s, .int .i64 y2, .int .i64 b, .int .i64 c] 25 (0, 0)) :=
        (hgrow'.block B (by simp; omega) (fun e => by have := hown2.own_ge B e.symm; omega)).trans ((Below.heap_alloc _ _ _ hz3).trans hB3)
      have hLl : (L ++ [y2]).length = k + 1 := by simp [hLk]
      have hown3 : w3.ownsRow (B + 1) 2 1 v' (L ++ [y2]).length ((L ++ [y2]).map encI) := by
        rw [hLl, List.map_append, List.map_singleton]; simpa [encI, hLk] using hown'
      have hb3' := Lib.hid hb3
      clear hgrow' hown' hown2 hown hbel2 hB2 hB3 m1 r1 hb3
      go_wp2
      go_roundw
      case rel => exact ⟨k + 1, y2, L ++ [y2], by omega, by go_num, hstep, hL2, hLl, hh2, hB4, hown3, hb3'⟩
      case measure => simp [intOf]; omega
    · have hkl : k = Z.length := by omega
      have hr := Lib.hid (stg_good (show stgC ⟨s, a, b, c⟩ Z d = 0 by rw [hC.out, if_pos (hum_yes (hkl ▸ hh.out))]))
      have hLL : Hid (stgV ⟨s, a, b, c⟩ Z d = L) := Lib.hid (by rw [hr.out.1, hL.out, hkl])
      clear hkl
      go_wp2
      go_ret2
      exact rowC_mk hLL.out hr.out.2 (Nat.le_trans (Nat.le_of_eq hB'.out.symm) (Nat.le_succ _)) hown hbel.out
end Go.Proofs.YtemccejlophmkaaDoor
