/-
  Pegs: how far they go deeper, on both sides.
-/
import Derived.Test.YtnlnocapbbeleaaPeg2
import Derived.Test.YtnlnocapbbeleaaPegs5
import Derived.Test.YtnlnocapbbeleaaRowC
import Derived.Test.YtnlnocapbbeleaaRowMath
import Derived.OwnWalk
namespace Go.Proofs.Ytnlnocapbbeleaa
open Go.ChangeShapes Go.WideShapes Go.ChangeAt Go.RowKit Go.Deep
set_option linter.unusedVariables false
set_option linter.unusedSimpArgs false
set_option maxRecDepth 1000000
/-- how far the first k pegs go deeper -/
def wrL (Z : List Peg) (t : Int) (k : Nat) : List Int := (List.range k).map (fun (i : Nat) => rnd (t * (Z.getD i peg0).tap) 10000)
theorem wrL_succ (Z : List Peg) (t : Int) (k : Nat) : wrL Z t (k + 1) = wrL Z t k ++ [rnd (t * (Z.getD k peg0).tap) 10000] := by unfold wrL; rw [List.range_succ, List.map_append]; rfl
theorem wrL_len (Z : List Peg) (t : Int) (k : Nat) : (wrL Z t k).length = k := by simp [wrL]
theorem wrL_get (Z : List Peg) (t : Int) (m k : Nat) (h : k < m) : (wrL Z t m)[k]'(by rw [wrL_len]; exact h) = rnd (t * (Z.getD k peg0).tap) 10000 := by simp [wrL]
def wrOk (Z : List Peg) (t : Int) : Bool := pegsB Z && inB t 0 1000000
def wrV (Z : List Peg) (t : Int) : List Int := if wrOk Z t = true then wrL Z t Z.length else []
def wrC (Z : List Peg) (t : Int) : Int := cd3 (pegsB Z) (inB t 0 1000000) 0
theorem pegs_one {Z : List Peg} (h : pegsB Z = true) {k : Nat} (hk : k < Z.length) : pegB Z[k] = true := by
  rcases hb : peg_stepOK Z k with _ | _
  · rw [pegsB_no hb hk] at h; cases h
  · unfold peg_stepOK at hb
    rw [peg_getD_at' hk] at hb
    exact (Bool.and_eq_true_iff.1 hb).1
theorem pegs_8 {Z : List Peg} (h : pegsB Z = true) : Z.length ≤ 8 := by
  unfold pegsB at h
  exact of_decide_eq_true (Bool.and_eq_true_iff.1 h).2
theorem pegs_at {Z : List Peg} (h : pegsB Z = true) {k : Nat} (hk : k < Z.length) : pegN Z[k].thk Z[k].len Z[k].tap := peg_bd (s := Z[k].id) (pegs_one h hk)
theorem wr_bd {t c : Int} (ht : 0 ≤ t ∧ t ≤ 1000000) (hc : 10 ≤ c ∧ c ≤ 100) : 0 ≤ t * c ∧ t * c ≤ 100000000 := mulP_bd (A := 1000000) (B := 100) ht (by omega)
theorem wrV_in {Z : List Peg} {t : Int} : (∀ x ∈ wrV Z t, inI x) ∧ (wrV Z t).length ≤ 8 := by
  unfold wrV
  by_cases e : wrOk Z t = true
  · rw [if_pos e, wrL_len]
    unfold wrOk at e
    obtain ⟨e1, e2⟩ := Bool.and_eq_true_iff.1 e
    refine ⟨fun x hx => ?_, pegs_8 e1⟩
    obtain ⟨k, hk, rfl⟩ := List.getElem_of_mem hx
    rw [wrL_len] at hk
    rw [wrL_get Z t _ k hk, peg_getD_at' hk]
    have h1 := wr_bd (inB_iff.1 e2) (pegs_at e1 hk).2.2
    have h2 := rnd_bd (t * Z[k].tap) 10000 (by decide)
    unfold inI; omega
  · rw [if_neg e]; exact ⟨fun x hx => absurd hx (List.not_mem_nil), by simp⟩
set_option maxHeartbeats 3200000 in
theorem implWearOfPegs_any (v : Value) (Z : List Peg) (t : Int) (w : World) (hn : Z.length ≤ 1048576) (hv : PegsAt w v Z) : Calls Try.prog 41 #[v, .int .i64 t] w (RowC (wrV Z t) (wrC Z t) w) := by
  obtain ⟨i0, hi, hz0, hz1, hz2⟩ := info_parts infoI
  have cV := implValidPegs_any v Z w hn hv
  have cW := fun W => within64_any t 0 1000000 W
  cases h1 : pegsB Z <;> rw [h1] at cV <;> replace cV := Lib.hid cV
  · have hr : Hid (wrV Z t = [] ∧ wrC Z t = 1) := Lib.hid (by unfold wrV wrC wrOk; rw [h1]; exact ⟨rfl, rfl⟩)
    go_enter Try.func41, Try.ntmps41
    go_wp2_with (first
      | (go_at_call 17; (with_reducible refine cV.out.mono ?_); rintro e w1 ⟨rfl, b1⟩))
    go_ret2
    exact rowC_nil hr.out.1 hr.out.2 b1
  cases h2 : inB t 0 1000000 <;> rw [h2] at cW <;> replace cW := Lib.hid cW
  · have hr : Hid (wrV Z t = [] ∧ wrC Z t = 2) := Lib.hid (by unfold wrV wrC wrOk; rw [h1, h2]; exact ⟨rfl, rfl⟩)
    go_enter Try.func41, Try.ntmps41
    go_wp2_with (first
      | (go_at_call 17; (with_reducible refine cV.out.mono ?_); rintro e w1 ⟨rfl, b1⟩)
      | (go_at_call 56; (with_reducible refine (cW.out _).mono ?_); rintro e w' ⟨rfl, rfl⟩))
    go_ret2
    exact rowC_nil hr.out.1 hr.out.2 b1
  have ht := inB_iff.1 h2
  have h8 := pegs_8 h1
  have hr : Hid (wrV Z t = wrL Z t Z.length ∧ wrC Z t = 0) := Lib.hid (by unfold wrV wrC wrOk; rw [h1, h2]; exact ⟨rfl, rfl⟩)
  have hpg : Hid (∀ k (hk : k < Z.length), 10 ≤ Z[k].tap ∧ Z[k].tap ≤ 100) := Lib.hid (fun k hk => (pegs_at h1 hk).2.2)
  obtain ⟨a0, cap, rfl, hcap, hids, hread⟩ := hv
  have hread' := Lib.hid hread
  obtain ⟨Y, hY⟩ : ∃ Y, Y = wrL Z t Z.length := ⟨_, rfl⟩
  have hYl : Y.length = Z.length := by rw [hY, wrL_len]
  have hYg : Hid (∀ k (h : k < Y.length), Y[k] = rnd (t * (Z.getD k peg0).tap) 10000) := Lib.hid (fun k h => by subst hY; exact wrL_get Z t _ k (by rw [wrL_len] at h; exact h))
  rw [← hY] at hr
  clear hread hids h1 h2 hY
  go_enter Try.func41, Try.ntmps41
  go_wp2_with (first
    | (go_at_call 17; (with_reducible refine cV.out.mono ?_); rintro e w1 ⟨rfl, b1⟩)
    | (go_at_call 56; (with_reducible refine (cW.out _).mono ?_); rintro e w' ⟨rfl, rfl⟩)
    | (at_make; refine wpList_make_full _ rfl _ _ 52 rfl w1.heap.size 2 i0 (.int .i64 0) 1 Try.underlying52 hi hz0 hz1 .i64 .i64 _ _ Z.length rfl rfl rfl rfl ?b1 ?b2 ?b3 ?_))
  case b1 => rw [hz2]; omega
  case b2 => unfold maxLen; omega
  case b3 => exact Nat.le_refl _
  intro w2 hown hgr
  rw [toList_madeCells_one, ← hYl, ← fillI_zero] at hown
  have hb2 : Hid (Below w.heap.size w w2) := Lib.hid (below2 b1 ((Below.refl _ _).grown hgr (Nat.le_refl _) (fun k hk => by cases hk)))
  clear hgr
  have hge := b1.size
  obtain ⟨B, hB⟩ : ∃ B, B = w1.heap.size := ⟨_, rfl⟩
  rw [← hB] at hown hge ⊢
  clear hB b1
  go_wp2
  go_loopw [22] (fun i wr => ∃ k : Nat, k ≤ Z.length ∧ i = .int .i64 k ∧ wr.ownsRow B 2 1 (.slice (some ⟨B, 0, none⟩) Z.length Z.length) Z.length (fillI Y k) ∧ Hid (Below w.heap.size w wr)) (fun i _ => Z.length - (intOf i).toNat)
  case atStart => exact ⟨0, by omega, rfl, by rw [← hYl]; exact hown, hb2⟩
  case round =>
    obtain ⟨k, hk, rfl, ho, hbel⟩ := hrel
    by_cases hlt : k < Z.length
    · rcases hread'.out with h | ⟨g, o, rfl, hg, hc⟩
      · subst h; simp at hlt
      have hltI : (k : Int) < (Z.length : Int) := by omega
      have hr0 := range_below (hc k hlt) hg hbel.out
      have hcb := hpg.out k hlt
      have hyk := hYg.out k (by omega)
      rw [peg_getD_at' hlt] at hyk
      obtain ⟨x, hx⟩ : ∃ x, x = Z[k] := ⟨_, rfl⟩
      rw [← hx] at hr0 hcb hyk
      obtain ⟨s, a, b, c⟩ := x
      simp only at hcb hyk
      have hr1 : wr.rangeAt g (o + k * 4) [.string s, .int .i64 a, .int .i64 b, .int .i64 c] := hr0
      have htc := wr_bd ht hcb
      have cN0 := fun W => near9_any (t * c) 10000 (by decide) (by omega) (by omega) (by decide) (by decide) W
      obtain ⟨z, hz⟩ : ∃ z, z = rnd (t * c) 10000 := ⟨_, rfl⟩
      rw [← hz] at cN0 hyk
      have e1 : IntKind.i64.wrap (t * c) = t * c := IntWalk.i64_in _ (by omega)
      have cN := Lib.hid cN0
      have hyk' := Lib.hid hyk
      have ho' := Lib.hid ho
      have hYl' := Lib.hid hYl
      clear hr0 hx hc cN0 hz hyk ho
      go_wp2_with (first
        | (refine wpList_load_mid rfl _ _ rfl g (o + k * 4) rfl _ _ hr1 Try.underlying34 rfl rfl ?_)
        | (go_at_call 64; (with_reducible refine (cN.out _).mono ?_); rintro e w3 ⟨rfl, d3⟩; have ho2 : w3.ownsRow B 2 1 (.slice (some ⟨B, 0, none⟩) Z.length Z.length) Z.length (fillI Y k) := own_kept (ho'.out) (below2 ((Below.refl _ _).alloc (Nat.le_refl _) _) d3); have hb3 : Hid (Below w.heap.size w w3) := Lib.hid (below2 hbel.out (below2 ((Below.refl _ _).alloc (Nat.le_refl _) _) d3)); obtain ⟨old, hold⟩ : ∃ old, (fillI Y k)[k]? = some old := ⟨_, List.getElem?_eq_getElem (by rw [fillI_len _ _ (by have := hYl'.out; omega)]; have := hYl'.out; omega)⟩; have hco := (ho2.cellAt k (by omega)).trans hold; have hfo := ho2.frozenAt k; have hst := ho2.stored k (.int .i64 z); rw [← hyk'.out, fillI_set Y k (by have := hYl'.out; omega), hyk'.out] at hst; have hst' := Lib.hid hst; clear hst ho2 hold d3))
      go_roundw
      case rel => exact ⟨k + 1, by omega, by go_num, hst'.out.1, Lib.hid (hb3.out.grown hst'.out.2 hb3.out.size (fun j hj => by cases hj; exact hge))⟩
      case measure => simp [intOf]; omega
    · have hks : k = Z.length := by omega
      have ho2 : Hid (wr.ownsRow B 2 1 (.slice (some ⟨B, 0, none⟩) Z.length Z.length) Y.length (Y.map encI)) := Lib.hid (by have h2 := ho; rw [hks, ← hYl, fillI_all] at h2; rw [hYl] at h2 ⊢; exact h2)
      clear hks ho
      go_wp2
      go_ret2
      exact rowC_mk hr.out.1 hr.out.2 hge ho2.out hbel.out
set_option maxHeartbeats 3200000 in
theorem specWearOfPegs_any (v : Value) (Z : List Peg) (t : Int) (w : World) (hn : Z.length ≤ 1048576) (hv : PegsAt w v Z) : Calls Try.prog 40 #[v, .int .i64 t] w (RowC (wrV Z t) (wrC Z t) w) := by
  obtain ⟨i0, hi, hz0, hz1, hz2⟩ := info_parts infoI
  have cV := l12Ok_any v Z w hn hv
  have cW := fun W => l00In_any t 0 1000000 W
  cases h1 : pegsB Z <;> rw [h1] at cV <;> replace cV := Lib.hid cV
  · have hr : Hid (wrV Z t = [] ∧ wrC Z t = 1) := Lib.hid (by unfold wrV wrC wrOk; rw [h1]; exact ⟨rfl, rfl⟩)
    go_enter Try.func40, Try.ntmps40
    go_wp2_with (first
      | (go_at_call 49; (with_reducible refine cV.out.mono ?_); rintro e w1 ⟨rfl, d1⟩))
    go_ret2
    exact rowC_nil hr.out.1 hr.out.2 d1.below
  cases h2 : inB t 0 1000000 <;> rw [h2] at cW <;> replace cW := Lib.hid cW
  · have hr : Hid (wrV Z t = [] ∧ wrC Z t = 2) := Lib.hid (by unfold wrV wrC wrOk; rw [h1, h2]; exact ⟨rfl, rfl⟩)
    go_enter Try.func40, Try.ntmps40
    go_wp2_with (first
      | (go_at_call 49; (with_reducible refine cV.out.mono ?_); rintro e w1 ⟨rfl, d1⟩)
      | (go_at_call 62; (with_reducible refine (cW.out _).mono ?_); rintro e w' ⟨rfl, rfl⟩))
    go_ret2
    exact rowC_nil hr.out.1 hr.out.2 d1.below
  have ht := inB_iff.1 h2
  have h8 := pegs_8 h1
  have hr : Hid (wrV Z t = wrL Z t Z.length ∧ wrC Z t = 0) := Lib.hid (by unfold wrV wrC wrOk; rw [h1, h2]; exact ⟨rfl, rfl⟩)
  have hpg : Hid (∀ k (hk : k < Z.length), 10 ≤ Z[k].tap ∧ Z[k].tap ≤ 100) := Lib.hid (fun k hk => (pegs_at h1 hk).2.2)
  obtain ⟨a0, cap, rfl, hcap, hids, hread⟩ := hv
  have hread' := Lib.hid hread
  clear hread hids h1 h2
  go_enter Try.func40, Try.ntmps40
  go_wp2_with (first
    | (go_at_call 49; (with_reducible refine cV.out.mono ?_); rintro e w1 ⟨rfl, d1⟩)
    | (go_at_call 62; (with_reducible refine (cW.out _).mono ?_); rintro e w' ⟨rfl, rfl⟩))
  have hb1 := d1.below
  have hown0 := own_low (rowI_start w1) hb1.size
  have hbb0 : Hid (Below w.heap.size w (w1.alloc (.cells #[] 2))) := Lib.hid (hb1.alloc hb1.size _)
  go_loopw [6, 7] (fun u i wr => ∃ (k : Nat) (L : List Int), k ≤ Z.length ∧ i = .int .i64 k ∧ Hid (L = wrL Z t k) ∧ L.length = k ∧ wr.ownsRow w.heap.size 2 1 u L.length (L.map encI) ∧ Hid (Below w.heap.size w wr)) (fun _ i _ => Z.length - (intOf i).toNat)
  case atStart => exact ⟨0, [], by omega, rfl, Lib.hid rfl, rfl, hown0, hbb0⟩
  case round =>
    obtain ⟨k, L, hk, rfl, hL, hLk, hown2, hbel2⟩ := hrel
    by_cases hlt : k < Z.length
    · rcases hread'.out with h | ⟨g, o, rfl, hg, hc⟩
      · subst h; simp at hlt
      have hltI : (k : Int) < (Z.length : Int) := by omega
      have c3 := (pegAt_of (range_below (hc k hlt) hg hbel2.out)).2.2.2
      have hcb := hpg.out k hlt
      have hL2 := wrL_succ Z t k
      rw [peg_getD_at' hlt] at hL2
      obtain ⟨c, hcc⟩ : ∃ c, c = Z[k].tap := ⟨_, rfl⟩
      rw [← hcc] at c3 hcb hL2
      have htc := wr_bd ht hcb
      have cL0 := fun W => l01Div_any (t * c) 10000 (by decide) (by omega) (by omega) (by decide) (by decide) W
      obtain ⟨z, hz⟩ : ∃ z, z = rnd (t * c) 10000 := ⟨_, rfl⟩
      rw [← hz] at cL0 hL2
      rw [← hL.out] at hL2
      have hL3 := Lib.hid hL2.symm
      have e1 : IntKind.i64.wrap (t * c) = t * c := IntWalk.i64_in _ (by omega)
      have cL := Lib.hid cL0
      clear hz cL0 hL2 hcc hc
      go_wp2_with (first
        | (go_at_call 63; (with_reducible refine (cL.out _).mono ?_); rintro e w' ⟨rfl, rfl⟩)
        | (at_builtin; refine wpList_append_own _ rfl _ _ 52 rfl w.heap.size 2 i0 (.int .i64 0) 1 8 Try.underlying52 hi hz0 hz1 hz2 rfl (by decide) _ _ _ rfl (hown2.alloc _) ⟨wr.heap.size, 0, none⟩ 1 1 [.int .i64 z] rfl rfl ?c1A ?c2A ?c3A ?c4A ?c5A ?_))
      case c1A =>
        intro j u hj
        match j, hj with
        | 0, hj => simp at hj; subst hj; simp [Addr.add]
      case c2A => intro u hu; simp at hu; subst hu; rfl
      case c3A => unfold maxLen; omega
      case c4A => omega
      case c5A => have := hbel2.out.size; simp; omega
      intro v' w3 hown' hgrow' _
      have hb3 : Below w.heap.size w w3 := (hbel2.out.alloc hbel2.out.size (.cells #[.int .i64 z] 2)).grown hgrow' (by have := hbel2.out.size; simp at this ⊢; omega) (fun j hj => hown2.own_ge j hj)
      have hLl : (L ++ [z]).length = L.length + 1 := by simp
      have hown3 : w3.ownsRow w.heap.size 2 1 v' (L ++ [z]).length ((L ++ [z]).map encI) := by
        rw [hLl, List.map_append, List.map_singleton]; simpa [encI, hLk] using hown'
      have hb3' := Lib.hid hb3
      clear hgrow' hown' hb3
      go_wp2
      go_roundw
      case rel => exact ⟨k + 1, L ++ [z], by omega, by go_num, hL3, by rw [hLl]; omega, hown3, hb3'⟩
      case measure => simp [intOf]; omega
    · obtain rfl : k = Z.length := by omega
      have hr2 : Hid (wrV Z t = L) := Lib.hid (by rw [hr.out.1, hL.out])
      go_wp2
      go_ret2
      exact rowC_mk hr2.out hr.out.2 (Nat.le_refl _) hown2 hbel2.out
end Go.Proofs.Ytnlnocapbbeleaa
