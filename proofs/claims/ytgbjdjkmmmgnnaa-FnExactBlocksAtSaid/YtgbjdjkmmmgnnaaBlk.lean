/-
  Places of blocks: the program's and the model's contracts.
-/
import Derived.Test.YtgbjdjkmmmgnnaaRibLen
import Derived.Test.YtgbjdjkmmmgnnaaRowC
import Derived.Test.YtgbjdjkmmmgnnaaRowMath
import Derived.OwnWalk
namespace Go.Proofs.Ytgbjdjkmmmgnnaa
open Go.ChangeShapes Go.WideShapes Go.ChangeAt Go.RowKit Go.Deep
set_option linter.unusedVariables false
set_option linter.unusedSimpArgs false
set_option maxRecDepth 1000000
def blkL (Z : List Rib) (k : Nat) : List Int := (List.range k).map (fun (i : Nat) => lenS Z i)
theorem blkL_succ (Z : List Rib) (k : Nat) : blkL Z (k + 1) = blkL Z k ++ [lenS Z k] := by unfold blkL; rw [List.range_succ, List.map_append]; rfl
theorem blkL_len (Z : List Rib) (k : Nat) : (blkL Z k).length = k := by simp [blkL]
theorem blkL_get (Z : List Rib) (m k : Nat) (h : k < m) : (blkL Z m)[k]'(by rw [blkL_len]; exact h) = lenS Z k := by simp [blkL]
def hgtS (Z : List Rib) (h : Int) (i : Nat) : Bool := decide (h ≤ (Z.getD i rib0).hgt)
def blkC (Z : List Rib) (h : Int) : Int := if ribsB Z = true then (if inB h 1 10000 = true then (if allK (hgtS Z h) Z.length = true then 0 else 6) else 2) else 1
def blkV (Z : List Rib) (h : Int) : List Int := if blkC Z h = 0 then blkL Z Z.length else []
theorem blk_bad {Z : List Rib} {h c : Int} (e : blkC Z h = c) (hc : c ≠ 0) : blkV Z h = [] ∧ blkC Z h = c := by unfold blkV; rw [e, if_neg hc]; exact ⟨rfl, rfl⟩
theorem blk_good {Z : List Rib} {h : Int} (e : blkC Z h = 0) : blkV Z h = blkL Z Z.length ∧ blkC Z h = 0 := by unfold blkV; rw [e, if_pos rfl]; exact ⟨rfl, rfl⟩
theorem blkV_in {Z : List Rib} {h : Int} : (∀ x ∈ blkV Z h, inI x) ∧ (blkV Z h).length ≤ 8 := by
  unfold blkV
  by_cases e : blkC Z h = 0
  · rw [if_pos e, blkL_len]
    unfold blkC at e
    cases h1 : ribsB Z
    · rw [h1, if_neg (by decide)] at e; exact absurd e (by decide)
    · have h8 := ribs_8 h1
      refine ⟨fun x hx => ?_, h8⟩
      obtain ⟨i, hi, rfl⟩ := List.mem_map.1 hx
      have := lenS_bd (ribs_lens h1) i (by have := List.mem_range.1 hi; omega)
      have := List.mem_range.1 hi
      unfold inI; omega
  · rw [if_neg e]; exact ⟨fun x hx => (by cases hx), by simp⟩
theorem ribs_take {w : World} {a : Option Addr} {cap : Nat} {Z : List Rib} (h : RibsAt w (.slice a Z.length cap) Z) (hcap : Z.length ≤ cap) (k : Nat) (hk : k ≤ Z.length) : RibsAt w (.slice a k cap) (Z.take k) := by
  obtain ⟨a', cap', e, hc, hz, hr⟩ := h
  injection e with e1 e2 e3
  subst e1 e3
  have hl : (Z.take k).length = k := by rw [List.length_take]; omega
  refine ⟨a, cap, by rw [hl], by omega, fun x hx => hz x (List.mem_of_mem_take hx), ?_⟩
  rcases hr with h1 | ⟨g, o, e1, hg, hc1⟩
  · left; subst h1; exact List.take_nil
  · right
    refine ⟨g, o, e1, hg, fun i hi => ?_⟩
    rw [List.getElem_take]
    exact hc1 i (by omega)
theorem lenS_take {Z : List Rib} {k : Nat} (hk : k ≤ Z.length) : ∀ j, j ≤ k → lenS (Z.take k) j = lenS Z j
  | 0, _ => rfl
  | j + 1, hj => by
    show lenS (Z.take k) j + _ = lenS Z j + _
    rw [lenS_take hk j (by omega), rib_getD_at' (by rw [List.length_take]; omega), rib_getD_at' (by omega), List.getElem_take]
theorem lens_take {Z : List Rib} (h : lensOk Z) (k : Nat) : lensOk (Z.take k) := ⟨by rw [List.length_take]; have := h.1; omega, fun x hx => h.2 x (List.mem_of_mem_take hx)⟩
theorem ribHgt_at {w wr : World} (hb : Below w.heap.size w wr) {g o : Nat} (hg : g < w.heap.size) {x : Rib} (hr : w.rangeAt g o x.cells) : wr.cell? ⟨g, o + 2, none⟩ = some (.int .i64 x.hgt) ∧ wr.cell? ⟨g, o + 1, none⟩ = some (.int .i64 x.len) := by
  have := ribAt_of (range_below hr hg hb)
  exact ⟨this.2.2, this.2.1⟩
set_option maxHeartbeats 3200000 in
theorem implBlocksAt_any (v : Value) (Z : List Rib) (h : Int) (w : World) (hn : Z.length ≤ 1048576) (hv : RibsAt w v Z) : Calls Try.prog 18 #[v, .int .i64 h] w (RowC (blkV Z h) (blkC Z h) w) := by
  obtain ⟨i0, hi, hz0, hz1, hz2⟩ := info_parts infoI
  have cV := Lib.hid (implValidRibs_any v Z w hn hv)
  cases h1 : ribsB Z
  · have hr := Lib.hid (blk_bad (show blkC Z h = 1 by unfold blkC; rw [h1]; rfl) (by decide))
    rw [h1] at cV
    go_enter Try.func18, Try.ntmps18
    go_wp2_with (go_at_call 13; refine cV.out.mono ?_; rintro e w1 ⟨rfl, b1⟩)
    go_ret2
    exact rowC_nil hr.out.1 hr.out.2 b1
  rw [h1] at cV
  cases h2 : inB h 1 10000
  · have hr := Lib.hid (blk_bad (show blkC Z h = 2 by unfold blkC; rw [h1, h2]; rfl) (by decide))
    go_enter Try.func18, Try.ntmps18
    go_wp2_with (first
      | (go_at_call 13; refine cV.out.mono ?_; rintro e w1 ⟨rfl, b1⟩)
      | (go_at_call 43; refine (isRibSize_any _ _).mono ?_; rintro e w' ⟨rfl, rfl⟩))
    go_ret2
    exact rowC_nil hr.out.1 hr.out.2 b1
  have hC : Hid (blkC Z h = if allK (hgtS Z h) Z.length = true then 0 else 6) := Lib.hid (by unfold blkC; rw [h1, h2]; rfl)
  have h8 := ribs_8 h1
  have hh := inB_iff.1 h2
  have hlo := Lib.hid (ribs_lens h1)
  have hv0 := Lib.hid hv
  obtain ⟨p, cap, rfl, hcap, _, hread⟩ := hv
  have hread' := Lib.hid hread
  clear hread
  obtain ⟨L, hL⟩ : ∃ L, L = blkL Z Z.length := ⟨_, rfl⟩
  have hLl : L.length = Z.length := by rw [hL, blkL_len]
  have hLg : Hid (∀ k (h : k < L.length), L[k] = lenS Z k) := Lib.hid (fun k h => by subst hL; exact blkL_get Z _ k (by rw [blkL_len] at h; exact h))
  have hL' := Lib.hid hL
  clear hL
  go_enter Try.func18, Try.ntmps18
  go_wp2_with (first
      | (go_at_call 13; refine cV.out.mono ?_; rintro e w1 ⟨rfl, b1⟩)
      | (go_at_call 43; refine (isRibSize_any _ _).mono ?_; rintro e w' ⟨rfl, rfl⟩)
      | (at_make; refine wpList_make_full _ rfl _ _ 31 rfl w1.heap.size 2 i0 (.int .i64 0) 1 Try.underlying31 hi hz0 hz1 .i64 .i64 _ _ Z.length rfl rfl rfl rfl ?b1 ?b2 ?b3 ?_))
  case b1 => rw [hz2]; omega
  case b2 => unfold maxLen; omega
  case b3 => exact Nat.le_refl _
  intro w2 hown hgr
  rw [toList_madeCells_one, ← hLl, ← fillI_zero] at hown
  have hb1 : Hid (Below w.heap.size w w2) := Lib.hid (b1.grown hgr b1.size (fun k hk => by cases hk))
  have hBz : w.heap.size ≤ w1.heap.size := b1.size
  clear hgr b1 cV
  rw [hLl] at hown
  generalize w1.heap.size = B at hown hBz ⊢
  go_wp2
  go_loopw [22] (fun i wr => ∃ k : Nat, k ≤ Z.length ∧ i = .int .i64 k ∧ Hid (allK (hgtS Z h) k = true) ∧ wr.ownsRow B 2 1 (.slice (some ⟨B, 0, none⟩) Z.length Z.length) Z.length (fillI L k) ∧ Hid (Below w.heap.size w wr)) (fun i _ => Z.length - (intOf i).toNat)
  case atStart => exact ⟨0, by omega, rfl, Lib.hid rfl, hown, hb1⟩
  case round =>
    obtain ⟨k, hk, rfl, hall, ho, hbel⟩ := hrel
    by_cases hlt : k < Z.length
    · rcases hread'.out with hh1 | ⟨g, o, rfl, hg, hc⟩
      · subst hh1; simp at hlt
      have hltI : (k : Int) < (Z.length : Int) := by omega
      have hkc : (k : Int) ≤ (cap : Int) := by omega
      obtain ⟨x, hx⟩ : ∃ x, x = Z[k] := ⟨_, rfl⟩
      have hr := range_below (hc k hlt) hg hbel.out
      rw [← hx] at hr
      have hst : Hid (hgtS Z h k = decide (h ≤ x.hgt)) := Lib.hid (by unfold hgtS; rw [rib_getD_at' hlt, ← hx])
      obtain ⟨s, a, b⟩ := x
      simp only at hst
      have hr1 : wr.rangeAt g (o + k * 3) [.string s, .int .i64 a, .int .i64 b] := hr
      have ho' := Lib.hid ho
      have hzk := hLg.out k (by omega)
      have hzk' := Lib.hid hzk
      have cR := Lib.hid (fun W (hb : Below w.heap.size w W) => ribsLength_any (.slice (some ⟨g, o, none⟩) k cap) (Z.take k) W (lens_take hlo.out k) (ribs_take (hv0.out.below hb) hcap k hk))
      rw [show lenS (Z.take k) (Z.take k).length = lenS Z k by rw [List.length_take, Nat.min_eq_left hk, lenS_take hk k (Nat.le_refl _)]] at cR
      obtain ⟨z, hz⟩ : ∃ z, z = lenS Z k := ⟨_, rfl⟩
      rw [← hz] at cR hzk'
      have hbA : Hid (Below w.heap.size w (wr.alloc (.cells #[.string s, .int .i64 a, .int .i64 b] 50))) := Lib.hid (hbel.out.alloc hbel.out.size _)
      clear hr hx hc hzk ho hz
      by_cases hcmp : b < h
      · have hr := Lib.hid (blk_bad (show blkC Z h = 6 by rw [hC.out, allK_no (by rw [hst.out, decide_eq_false (by omega)]) hlt]; rfl) (by decide))
        go_wp2_with (first
          | (refine wpList_load_mid rfl _ _ rfl g (o + k * 3) rfl _ _ hr1 Try.underlying50 rfl rfl ?_))
        go_ret2
        exact rowC_nil hr.out.1 hr.out.2 hbA.out
      · have hall2 : Hid (allK (hgtS Z h) (k + 1) = true) := Lib.hid (allK_yes hall.out (by rw [hst.out, decide_eq_true (by omega)]))
        go_wp2_with (first
          | (refine wpList_load_mid rfl _ _ rfl g (o + k * 3) rfl _ _ hr1 Try.underlying50 rfl rfl ?_)
          | (go_at_call 41; (with_reducible refine (cR.out _ hbA.out).mono ?_); rintro e w3 ⟨rfl, b3⟩; have ho2 := own_kept (ho'.out.alloc (.cells #[.string s, .int .i64 a, .int .i64 b] 50)) b3; have hb2 := Lib.hid (below2 hbA.out b3); obtain ⟨old, hold⟩ : ∃ old, (fillI L k)[k]? = some old := ⟨_, List.getElem?_eq_getElem (by rw [fillI_len _ _ (by omega)]; omega)⟩; have hco := (ho2.cellAt k (by omega)).trans hold; have hfo := ho2.frozenAt k; have hst := ho2.stored k (.int .i64 z); rw [← hzk'.out, fillI_set L k (by omega), hzk'.out] at hst; have hst' := Lib.hid hst; clear hst ho2 hold b3))
        go_roundw
        case rel => exact ⟨k + 1, by omega, by go_num, hall2, hst'.out.1, Lib.hid (hb2.out.grown hst'.out.2 hb2.out.size (fun j hj => by cases hj; exact hBz))⟩
        case measure => simp [intOf]; omega
    · have hks : k = Z.length := by omega
      have hr := Lib.hid (blk_good (show blkC Z h = 0 by rw [hC.out, if_pos (hks ▸ hall.out)]))
      have ho2 : Hid (wr.ownsRow B 2 1 (.slice (some ⟨B, 0, none⟩) Z.length Z.length) (blkV Z h).length ((blkV Z h).map encI)) := Lib.hid (by rw [hr.out.1, ← hL'.out]; have h2 := ho; rw [hks, ← hLl, fillI_all] at h2; rw [hLl] at h2 ⊢; exact h2)
      clear hks ho
      go_wp2
      go_ret2
      exact rowC_mk rfl hr.out.2 hBz ho2.out hbel.out
set_option maxHeartbeats 3200000 in
theorem specBlocksAt_any (v : Value) (Z : List Rib) (h : Int) (w : World) (hn : Z.length ≤ 1048576) (hv : RibsAt w v Z) : Calls Try.prog 17 #[v, .int .i64 h] w (RowC (blkV Z h) (blkC Z h) w) := by
  obtain ⟨i0, hi, hz0, hz1, hz2⟩ := info_parts infoI
  have cV := Lib.hid (l06Ok_any v Z w hn hv)
  cases h1 : ribsB Z
  · have hr := Lib.hid (blk_bad (show blkC Z h = 1 by unfold blkC; rw [h1]; rfl) (by decide))
    rw [h1] at cV
    go_enter Try.func17, Try.ntmps17
    go_wp2_with (go_at_call 34; refine cV.out.mono ?_; rintro e w1 ⟨rfl, b1⟩)
    go_ret2
    exact rowC_nil hr.out.1 hr.out.2 b1.below
  rw [h1] at cV
  cases h2 : inB h 1 10000
  · have hr := Lib.hid (blk_bad (show blkC Z h = 2 by unfold blkC; rw [h1, h2]; rfl) (by decide))
    go_enter Try.func17, Try.ntmps17
    go_wp2_with (first
      | (go_at_call 34; refine cV.out.mono ?_; rintro e w1 ⟨rfl, b1⟩)
      | (go_at_call 42; refine (l06Size_any _ _).mono ?_; rintro e w' ⟨rfl, rfl⟩))
    go_ret2
    exact rowC_nil hr.out.1 hr.out.2 b1.below
  have hC : Hid (blkC Z h = if allK (hgtS Z h) Z.length = true then 0 else 6) := Lib.hid (by unfold blkC; rw [h1, h2]; rfl)
  have h8 := ribs_8 h1
  have hh := inB_iff.1 h2
  have hlo := Lib.hid (ribs_lens h1)
  have hv0 := Lib.hid hv
  obtain ⟨p, cap, rfl, hcap, _, hread⟩ := hv
  have hread' := Lib.hid hread
  clear hread
  go_enter Try.func17, Try.ntmps17
  go_wp2_with (first
      | (go_at_call 34; refine cV.out.mono ?_; rintro e w1 ⟨rfl, b1⟩)
      | (go_at_call 42; refine (l06Size_any _ _).mono ?_; rintro e w' ⟨rfl, rfl⟩))
  have hown0 := rowI_start w1
  have hbb0 : Hid (Below w.heap.size w (w1.alloc (.cells #[] 2))) := Lib.hid (b1.below.alloc b1.below.size _)
  replace hown0 := own_low hown0 b1.below.size
  clear b1 cV
  go_loopw [6, 7, 8] (fun u q i wr => ∃ (k : Nat) (L : List Int) (n : Int), k ≤ Z.length ∧ i = .int .i64 k ∧ q = .int .i64 n ∧ 0 ≤ n ∧ n ≤ 1000000 * k ∧ Hid (n = lenS Z k) ∧ Hid (L = blkL Z k) ∧ L.length = k ∧ Hid (allK (hgtS Z h) k = true) ∧ wr.ownsRow w.heap.size 2 1 u L.length (L.map encI) ∧ Hid (Below w.heap.size w wr)) (fun _ _ i _ => Z.length - (intOf i).toNat)
  case atStart => exact ⟨0, [], 0, by omega, rfl, rfl, by omega, by omega, Lib.hid rfl, Lib.hid rfl, rfl, Lib.hid rfl, hown0, hbb0⟩
  case round =>
    obtain ⟨k, L, n, hk, rfl, rfl, hn0, hn1, hne, hL, hLk, hall, hown2, hbel2⟩ := hrel
    by_cases hlt : k < Z.length
    · rcases hread'.out with hh1 | ⟨g, o, rfl, hg, hc⟩
      · subst hh1; simp at hlt
      have hltI : (k : Int) < (Z.length : Int) := by omega
      obtain ⟨c2, _⟩ := ribHgt_at hbel2.out hg (hc k hlt)
      have hst : Hid (hgtS Z h k = decide (h ≤ Z[k].hgt)) := Lib.hid (by unfold hgtS; rw [rib_getD_at' hlt])
      have cW := Lib.hid (fun W (hb : Below w.heap.size w W) => (ribHgt_at hb hg (hc k hlt)).2)
      have hxb := hlo.out.2 _ (List.getElem_mem hlt)
      have hnew : Hid (n + Z[k].len = lenS Z (k + 1)) := Lib.hid (by show _ = lenS Z k + (Z.getD k rib0).len; rw [rib_getD_at' hlt, hne.out])
      obtain ⟨b, hb⟩ : ∃ b, b = Z[k].hgt := ⟨_, rfl⟩
      obtain ⟨a, ha⟩ : ∃ a, a = Z[k].len := ⟨_, rfl⟩
      rw [← hb] at c2 hst
      rw [← ha] at cW hxb hnew
      clear hb ha hc
      have hL3 : Hid (L ++ [n] = blkL Z (k + 1)) := Lib.hid (by rw [blkL_succ, ← hL.out, ← hne.out])
      by_cases hcmp : b < h
      · have hr := Lib.hid (blk_bad (show blkC Z h = 6 by rw [hC.out, allK_no (by rw [hst.out, decide_eq_false (by omega)]) hlt]; rfl) (by decide))
        go_wp2
        go_ret2
        exact rowC_nil hr.out.1 hr.out.2 hbel2.out
      · have hall2 : Hid (allK (hgtS Z h) (k + 1) = true) := Lib.hid (allK_yes hall.out (by rw [hst.out, decide_eq_true (by omega)]))
        go_wp2_with (at_builtin; refine wpList_append_own _ rfl _ _ 31 rfl w.heap.size 2 i0 (.int .i64 0) 1 8 Try.underlying31 hi hz0 hz1 hz2 rfl (by decide) _ _ _ rfl (hown2.alloc _) ⟨wr.heap.size, 0, none⟩ 1 1 [.int .i64 n] rfl rfl ?c1A ?c2A ?c3A ?c4A ?c5A ?_)
        case c2A => first | rfl | (intro u hu; simp at hu; subst hu; rfl)
        case c3A => unfold maxLen; omega
        case c4A => omega
        case c5A => have := hbel2.out.size; simp; omega
        intro v' w3 hown' hgrow' _
        have hb3 : Below w.heap.size w w3 := (hbel2.out.alloc hbel2.out.size (.cells #[.int .i64 n] 2)).grown hgrow' (by have := hbel2.out.size; simp at this ⊢; omega) (fun j hj => hown2.own_ge j hj)
        have hLl : (L ++ [n]).length = L.length + 1 := by simp
        have hown3 : w3.ownsRow w.heap.size 2 1 v' (L ++ [n]).length ((L ++ [n]).map encI) := by
          rw [hLl, List.map_append, List.map_singleton]; simpa [encI, hLk] using hown'
        have hb3' := Lib.hid hb3
        clear hgrow' hown' hb3
        have c1 := cW.out w3 hb3'.out
        go_wp2
        go_roundw
        case rel => exact ⟨k + 1, L ++ [n], n + a, by omega, by go_num, rfl, by omega, by omega, hnew, hL3, by rw [hLl]; omega, hall2, hown3, hb3'⟩
        case measure => simp [intOf]; omega
    · have hks : k = Z.length := by omega
      have hr := Lib.hid (blk_good (show blkC Z h = 0 by rw [hC.out, if_pos (hks ▸ hall.out)]))
      have hr2 : Hid (blkV Z h = L) := Lib.hid (by rw [hr.out.1, hL.out, hks])
      clear hks
      go_wp2
      go_ret2
      exact rowC_mk hr2.out hr.out.2 (Nat.le_refl _) hown2 hbel2.out
end Go.Proofs.Ytgbjdjkmmmgnnaa
