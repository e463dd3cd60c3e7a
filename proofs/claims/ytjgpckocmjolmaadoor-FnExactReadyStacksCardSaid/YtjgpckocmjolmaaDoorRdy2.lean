/-
  Stacks that are ready: the model's contract.
-/
import Derived.Test.YtjgpckocmjolmaaDoorRdy
namespace Go.Proofs.YtjgpckocmjolmaaDoor
open Go.ChangeShapes Go.WideShapes Go.ChangeAt Go.RowKit Go.Deep
set_option linter.unusedVariables false
set_option maxRecDepth 1000000
set_option linter.unusedSimpArgs false
set_option maxHeartbeats 6400000 in
theorem specReadyStacks_any (v : Value) (Z : List Stk) (h d g : Int) (w : World) (hn : Z.length ≤ 1048576) (hv : StksAt w v Z) : Calls Tryd.prog 5 #[v, .int .i64 h, .int .i64 d, .int .i64 g] w (RowC (rdyV Z h d g) (rdyC Z h d g) w) := by
  obtain ⟨i0, hi, hz0, hz1, hz2⟩ := info_parts infoI
  cases h1 : stksB Z
  · have hr := Lib.hid (rdy_bad (show rdyC Z h d g = 1 by unfold rdyC; rw [h1]; rfl) (by decide))
    have cV := Lib.hid (l04Ok_any v Z w hn hv)
    rw [h1] at cV
    go_enter Tryd.func5, Tryd.ntmps5
    go_wp2_with fail
    refine cV.out.mono ?_
    rintro e w1 ⟨rfl, b1⟩
    go_wp2
    go_ret2
    exact rowC_nil hr.out.1 hr.out.2 b1.below
  have cV := Lib.hid (l04Ok_any v Z w hn hv)
  rw [h1] at cV
  cases h2 : inB h 0 1000
  · have hr := Lib.hid (rdy_bad (show rdyC Z h d g = 2 by unfold rdyC; rw [h1, h2, if_pos rfl]; rfl) (by decide))
    go_enter Tryd.func5, Tryd.ntmps5
    go_wp2_with fail
    refine cV.out.mono ?_
    rintro e w1 ⟨rfl, b1⟩
    go_wp2_with (first
      | (go_at_call 15; refine (l04Share_any _ _).mono ?_; rintro e w' ⟨rfl, rfl⟩)
      | (go_at_call 16; refine (l02Day_any _ _).mono ?_; rintro e w' ⟨rfl, rfl⟩))
    go_ret2
    exact rowC_nil hr.out.1 hr.out.2 b1.below
  cases h3 : inB d 0 36524
  · have hr := Lib.hid (rdy_bad (show rdyC Z h d g = 2 by unfold rdyC; rw [h1, h2, h3, if_pos rfl, if_pos rfl]; rfl) (by decide))
    go_enter Tryd.func5, Tryd.ntmps5
    go_wp2_with fail
    refine cV.out.mono ?_
    rintro e w1 ⟨rfl, b1⟩
    go_wp2_with (first
      | (go_at_call 15; refine (l04Share_any _ _).mono ?_; rintro e w' ⟨rfl, rfl⟩)
      | (go_at_call 16; refine (l02Day_any _ _).mono ?_; rintro e w' ⟨rfl, rfl⟩))
    go_ret2
    exact rowC_nil hr.out.1 hr.out.2 b1.below
  cases h4 : inB g 0 1000
  · have hr := Lib.hid (rdy_bad (show rdyC Z h d g = 2 by unfold rdyC; rw [h1, h2, h3, h4, if_pos rfl, if_pos rfl, if_pos rfl]; rfl) (by decide))
    go_enter Tryd.func5, Tryd.ntmps5
    go_wp2_with fail
    refine cV.out.mono ?_
    rintro e w1 ⟨rfl, b1⟩
    go_wp2_with (first
      | (go_at_call 15; refine (l04Share_any _ _).mono ?_; rintro e w' ⟨rfl, rfl⟩)
      | (go_at_call 16; refine (l02Day_any _ _).mono ?_; rintro e w' ⟨rfl, rfl⟩))
    go_ret2
    exact rowC_nil hr.out.1 hr.out.2 b1.below
  have hr := Lib.hid (rdy_good (show rdyC Z h d g = 0 by unfold rdyC; rw [h1, h2, h3, h4, if_pos rfl, if_pos rfl, if_pos rfl, if_pos rfl]))
  have hd := inB_iff.1 h3
  have hval := Lib.hid h1
  have h12 := stks_len h1
  obtain ⟨p, cap, rfl, hcap, hids, hread⟩ := hv
  have hread' := Lib.hid hread
  have hev := even_in h
  obtain ⟨E, hE⟩ : ∃ E, E = evenV h := ⟨_, rfl⟩
  have hEh := Lib.hid hE
  rw [← hE] at hev
  clear hE
  clear hread hids h1
  go_enter Tryd.func5, Tryd.ntmps5
  go_wp2_with fail
  refine cV.out.mono ?_
  rintro e w1 ⟨rfl, b1⟩
  have bB := b1.below
  have hown0 : (w1.alloc (.cells #[] 2)).ownsRow w.heap.size 2 1 (.slice (some ⟨w1.heap.size, 0, none⟩) 0 0) (rdyL Z h d g 0).length ((rdyL Z h d g 0).map encI) :=
    ⟨rfl, Or.inr ⟨w1.heap.size, 0, #[], rfl, bB.size, heap_alloc_new _ _, Nat.le_refl 0, by unfold maxLen; omega, rfl, rfl⟩⟩
  have hb1 := Lib.hid (bB.alloc bB.size (.cells #[] 2))
  go_wp2_with (first
      | (go_at_call 15; refine (l04Share_any _ _).mono ?_; rintro e w' ⟨rfl, rfl⟩)
      | (go_at_call 16; refine (l02Day_any _ _).mono ?_; rintro e w' ⟨rfl, rfl⟩))
  generalize w1.alloc (.cells #[] 2) = W1 at hown0 hb1 ⊢
  clear b1 bB cV
  go_loopw [10, 11] (fun u i wr => ∃ (k : Nat) (L : List Int), k ≤ Z.length ∧ i = .int .i64 k ∧ Hid (L = rdyL Z h d g k) ∧ L.length ≤ k ∧ wr.ownsRow w.heap.size 2 1 u L.length (L.map encI) ∧ Hid (Below w.heap.size w wr)) (fun _ i _ => Z.length - (intOf i).toNat)
  case atStart => exact ⟨0, rdyL Z h d g 0, by omega, rfl, Lib.hid rfl, rdyL_len 0, hown0, hb1⟩
  case round =>
    obtain ⟨k, L, hk, rfl, hL, hLk, hown, hbel⟩ := hrel
    by_cases hlt : k < Z.length
    · rcases hread'.out with hh | ⟨gg, o, rfl, hg, hcl⟩
      · subst hh; simp at hlt
      obtain ⟨x, hxk⟩ : ∃ x, x = Z[k] := ⟨_, rfl⟩
      have hr0 := range_below (hcl k hlt) hg hbel.out
      have hone := stks_one hval.out hlt
      rw [← hxk] at hr0 hone
      obtain ⟨s2, a2, b2, c2⟩ := x
      have hr1 : wr.rangeAt gg (o + k * 4) (Stk.cells ⟨s2, a2, b2, c2⟩) := hr0
      obtain ⟨ha2, hb2, hc2⟩ := stk_bd hone
      have hxk' := Lib.hid hxk
      have hltI : (k : Int) < (Z.length : Int) := by omega
      have hkI : (k : Int) ≤ 12 := by omega
      have hbel' := hbel
      have hown' := Lib.hid hown
      have ew : IntKind.i64.wrap (d - c2) = d - c2 := IntWalk.i64_in _ (by omega)
      clear hr0 hxk hcl hone
      cases h5 : inB (d - c2) 0 4000
      · have hstep : Hid (L = rdyL Z h d g (k + 1)) := Lib.hid (by rw [rdyL_no hlt hxk'.out (rdyB_far h5), ← hL.out])
        have cD0 : ∀ W : World, Calls Tryd.prog 17 #[.int .i64 (d - c2)] W fun e w' => e = .returned (.bool false) ∧ Below W.heap.size W w' := fun W => (l04Days_any (d - c2) W).mono fun _ _ hq => ⟨by rw [hq.1, h5], hq.2 ▸ Below.refl _ _⟩
        have cD := Lib.hid cD0
        clear cD0
        have P1 := stkAt_of hr1
        have hgr : gg < wr.heap.size := Nat.lt_of_lt_of_le hg hbel.out.size
        have keep : ∀ W1 W2, ((W1.cell? ⟨gg, o + k * 4, none⟩ = some (.string s2) ∧ W1.cell? ⟨gg, o + k * 4 + 1, none⟩ = some (.int .i64 a2) ∧ W1.cell? ⟨gg, o + k * 4 + 2, none⟩ = some (.int .i64 b2) ∧ W1.cell? ⟨gg, o + k * 4 + 3, none⟩ = some (.int .i64 c2)) ∧ Below wr.heap.size wr W1) → Below W1.heap.size W1 W2 → ((W2.cell? ⟨gg, o + k * 4, none⟩ = some (.string s2) ∧ W2.cell? ⟨gg, o + k * 4 + 1, none⟩ = some (.int .i64 a2) ∧ W2.cell? ⟨gg, o + k * 4 + 2, none⟩ = some (.int .i64 b2) ∧ W2.cell? ⟨gg, o + k * 4 + 3, none⟩ = some (.int .i64 c2)) ∧ Below wr.heap.size wr W2) := fun W1 W2 h1 h2 => by
          obtain ⟨p0, hb⟩ := h1
          have q0 := StkAt.below (x := ⟨s2, a2, b2, c2⟩) (o := o + k * 4) p0 (Nat.lt_of_lt_of_le hgr hb.size) h2
          exact ⟨q0, hb.trans (h2.mono hb.size)⟩
        have keepH := Lib.hid keep
        have hS : ((wr.cell? ⟨gg, o + k * 4, none⟩ = some (.string s2) ∧ wr.cell? ⟨gg, o + k * 4 + 1, none⟩ = some (.int .i64 a2) ∧ wr.cell? ⟨gg, o + k * 4 + 2, none⟩ = some (.int .i64 b2) ∧ wr.cell? ⟨gg, o + k * 4 + 3, none⟩ = some (.int .i64 c2)) ∧ Below wr.heap.size wr wr) := ⟨P1, Below.refl _ _⟩
        clear keep P1 hr1
        go_wp2
        refine wp_region_noPanic ?_
        refine wp_region_held_drew (S := (fun w' => ((w'.cell? ⟨gg, o + k * 4, none⟩ = some (.string s2) ∧ w'.cell? ⟨gg, o + k * 4 + 1, none⟩ = some (.int .i64 a2) ∧ w'.cell? ⟨gg, o + k * 4 + 2, none⟩ = some (.int .i64 b2) ∧ w'.cell? ⟨gg, o + k * 4 + 3, none⟩ = some (.int .i64 c2)) ∧ Below wr.heap.size wr w'))) (by kernel_rfl) ?_ (fun hHeld => ?_)
        · exact ⟨hS.1, belowN hS.2 1⟩
        refine wpAnyH_take (i := 0) (oi := ⟨some 39, _, _, _, _, _⟩) (v := ?vvz1) rfl (by kernel_rfl) (by kernel_rfl) (by kernel_rfl) (fun _ _ _ h => h) (Or.inl ⟨by rfl, ?hyz1⟩) (by assumption) ?restz1
        case hyz1 => (intro w hSw; (try dsimp only at hSw); obtain ⟨⟨q0, q1, q2, q3⟩, _⟩ := hSw; go_simp; try with_reducible rfl)
        try simp only [Act.put, List.setIfInBounds_toArray, List.set_cons_zero, List.set_cons_succ]
        refine wpAnyH_take (i := 1) (oi := ⟨some 40, _, _, _, _, _⟩) (v := ?vvz2) rfl (by kernel_rfl) (by kernel_rfl) (by kernel_rfl) (fun _ _ _ h => h) (Or.inl ⟨by rfl, ?hyz2⟩) (by assumption) ?restz2
        case hyz2 => (intro w hSw; (try dsimp only at hSw); obtain ⟨⟨q0, q1, q2, q3⟩, _⟩ := hSw; go_simp; try with_reducible rfl)
        try simp only [Act.put, List.setIfInBounds_toArray, List.set_cons_zero, List.set_cons_succ]
        refine wpAnyH_take (i := 2) (oi := ⟨some 41, _, _, _, _, _⟩) (v := ?vvz3) rfl (by kernel_rfl) (by kernel_rfl) (by kernel_rfl) (fun _ _ _ h => h) (Or.inl ⟨by rfl, ?hyz3⟩) (by assumption) ?restz3
        case hyz3 => (intro w hSw; (try dsimp only at hSw); obtain ⟨⟨q0, q1, q2, q3⟩, _⟩ := hSw; go_simp; try with_reducible rfl)
        try simp only [Act.put, List.setIfInBounds_toArray, List.set_cons_zero, List.set_cons_succ]
        refine wpAnyH_take (i := 3) (oi := ⟨some 42, _, _, _, _, _⟩) (v := ?vvz4) rfl (by kernel_rfl) (by kernel_rfl) (by kernel_rfl) (fun _ _ _ h => h) (Or.inl ⟨by rfl, ?hyz4⟩) (by assumption) ?restz4
        case hyz4 => (intro w hSw; (try dsimp only at hSw); obtain ⟨⟨q0, q1, q2, q3⟩, _⟩ := hSw; go_simp; try with_reducible rfl)
        try simp only [Act.put, List.setIfInBounds_toArray, List.set_cons_zero, List.set_cons_succ]
        refine wpAnyH_take (i := 4) (oi := ⟨some 43, _, _, _, _, _⟩) (v := ?vvz5) rfl (by kernel_rfl) (by kernel_rfl) (by kernel_rfl) (fun _ _ _ h => h) (Or.inl ⟨by rfl, ?hyz5⟩) (by assumption) ?restz5
        case hyz5 => (intro w hSw; (try dsimp only at hSw); obtain ⟨⟨q0, q1, q2, q3⟩, _⟩ := hSw; go_simp; try with_reducible rfl)
        try simp only [Act.put, List.setIfInBounds_toArray, List.set_cons_zero, List.set_cons_succ]
        refine wpAnyH_take (i := 5) (oi := ⟨some 44, _, _, _, _, _⟩) (v := ?vvz6) rfl (by kernel_rfl) (by kernel_rfl) (by kernel_rfl) (fun _ _ _ h => h) (Or.inl ⟨by rfl, ?hyz6⟩) (by assumption) ?restz6
        case hyz6 => (intro w hSw; (try dsimp only at hSw); obtain ⟨⟨q0, q1, q2, q3⟩, _⟩ := hSw; go_simp; try with_reducible rfl)
        try simp only [Act.put, List.setIfInBounds_toArray, List.set_cons_zero, List.set_cons_succ]
        refine wpAnyH_ready (rs := [6]) (by kernel_rfl) (by simp) ?_
        refine AllReadyH.cons (o := ⟨some 45, _, _, _, _, _⟩) rfl (fun K hK => ?_) AllReadyH.nil
        go_simp
        (go_at_call 17; (with_reducible refine (cD.out _).mono ?_); rintro e w' ⟨rfl, hbel⟩)
        try go_wp2_with fail
        refine hK.out _ _ ?_ (fun hHeld2 => ?_)
        · exact keepH.out _ _ (by assumption) (by assumption)
        clear hK K hHeld
        have hHeld := hHeld2
        clear hHeld2
        try simp only [Act.put, List.setIfInBounds_toArray, List.set_cons_zero, List.set_cons_succ]
        refine wpAnyH_take (i := 7) (oi := ⟨some 46, _, _, _, _, _⟩) (v := ?vvz7) rfl (by kernel_rfl) (by kernel_rfl) (by kernel_rfl) (fun _ _ _ h => h) (Or.inl ⟨by rfl, ?hyz7⟩) (by assumption) ?restz7
        case hyz7 => (intro w hSw; (try dsimp only at hSw); obtain ⟨⟨q0, q1, q2, q3⟩, _⟩ := hSw; go_simp; try with_reducible rfl)
        try simp only [Act.put, List.setIfInBounds_toArray, List.set_cons_zero, List.set_cons_succ]
        refine wpAnyH_take (i := 8) (oi := ⟨some 47, _, _, _, _, _⟩) (v := undef) rfl (by kernel_rfl) (by kernel_rfl) (by kernel_rfl) (fun _ _ _ h => h) (Or.inr ⟨by rfl, rfl⟩) (by assumption) ?_
        try simp only [Act.put, List.setIfInBounds_toArray, List.set_cons_zero, List.set_cons_succ]
        refine wpAnyH_take (i := 9) (oi := ⟨some 48, _, _, _, _, _⟩) (v := undef) rfl (by kernel_rfl) (by kernel_rfl) (by kernel_rfl) (fun _ _ _ h => h) (Or.inr ⟨by rfl, rfl⟩) (by assumption) ?_
        try simp only [Act.put, List.setIfInBounds_toArray, List.set_cons_zero, List.set_cons_succ]
        refine wpAnyH_take (i := 10) (oi := ⟨some 49, _, _, _, _, _⟩) (v := undef) rfl (by kernel_rfl) (by kernel_rfl) (by kernel_rfl) (fun _ _ _ h => h) (Or.inr ⟨by rfl, rfl⟩) (by assumption) ?_
        try simp only [Act.put, List.setIfInBounds_toArray, List.set_cons_zero, List.set_cons_succ]
        refine wpAnyH_take (i := 11) (oi := ⟨some 50, _, _, _, _, _⟩) (v := undef) rfl (by kernel_rfl) (by kernel_rfl) (by kernel_rfl) (fun _ _ _ h => h) (Or.inr ⟨by rfl, rfl⟩) (by assumption) ?_
        try simp only [Act.put, List.setIfInBounds_toArray, List.set_cons_zero, List.set_cons_succ]
        refine wpAnyH_take (i := 12) (oi := ⟨some 51, _, _, _, _, _⟩) (v := undef) rfl (by kernel_rfl) (by kernel_rfl) (by kernel_rfl) (fun _ _ _ h => h) (Or.inr ⟨by rfl, rfl⟩) (by assumption) ?_
        try simp only [Act.put, List.setIfInBounds_toArray, List.set_cons_zero, List.set_cons_succ]
        refine wpAnyH_take (i := 13) (oi := ⟨some 52, _, _, _, _, _⟩) (v := undef) rfl (by kernel_rfl) (by kernel_rfl) (by kernel_rfl) (fun _ _ _ h => h) (Or.inr ⟨by rfl, rfl⟩) (by assumption) ?_
        try simp only [Act.put, List.setIfInBounds_toArray, List.set_cons_zero, List.set_cons_succ]
        refine wpAnyH_take (i := 14) (oi := ⟨some 53, _, _, _, _, _⟩) (v := undef) rfl (by kernel_rfl) (by kernel_rfl) (by kernel_rfl) (fun _ _ _ h => h) (Or.inr ⟨by rfl, rfl⟩) (by assumption) ?_
        try simp only [Act.put, List.setIfInBounds_toArray, List.set_cons_zero, List.set_cons_succ]
        refine wpAnyH_take (i := 15) (oi := ⟨some 54, _, _, _, _, _⟩) (v := undef) rfl (by kernel_rfl) (by kernel_rfl) (by kernel_rfl) (fun _ _ _ h => h) (Or.inr ⟨by rfl, rfl⟩) (by assumption) ?_
        try simp only [Act.put, List.setIfInBounds_toArray, List.set_cons_zero, List.set_cons_succ]
        refine wpAnyH_take (i := 16) (oi := ⟨some 55, _, _, _, _, _⟩) (v := undef) rfl (by kernel_rfl) (by kernel_rfl) (by kernel_rfl) (fun _ _ _ h => h) (Or.inr ⟨by rfl, rfl⟩) (by assumption) ?_
        try simp only [Act.put, List.setIfInBounds_toArray, List.set_cons_zero, List.set_cons_succ]
        refine wpAnyH_take (i := 17) (oi := ⟨some 56, _, _, _, _, _⟩) (v := undef) rfl (by kernel_rfl) (by kernel_rfl) (by kernel_rfl) (fun _ _ _ h => h) (Or.inr ⟨by rfl, rfl⟩) (by assumption) ?_
        try simp only [Act.put, List.setIfInBounds_toArray, List.set_cons_zero, List.set_cons_succ]
        refine wpAnyH_take (i := 18) (oi := ⟨some 57, _, _, _, _, _⟩) (v := undef) rfl (by kernel_rfl) (by kernel_rfl) (by kernel_rfl) (fun _ _ _ h => h) (Or.inr ⟨by rfl, rfl⟩) (by assumption) ?_
        try simp only [Act.put, List.setIfInBounds_toArray, List.set_cons_zero, List.set_cons_succ]
        refine wpAnyH_take (i := 19) (oi := ⟨some 58, _, _, _, _, _⟩) (v := undef) rfl (by kernel_rfl) (by kernel_rfl) (by kernel_rfl) (fun _ _ _ h => h) (Or.inr ⟨by rfl, rfl⟩) (by assumption) ?_
        try simp only [Act.put, List.setIfInBounds_toArray, List.set_cons_zero, List.set_cons_succ]
        refine wpAnyH_take (i := 20) (oi := ⟨some 59, _, _, _, _, _⟩) (v := undef) rfl (by kernel_rfl) (by kernel_rfl) (by kernel_rfl) (fun _ _ _ h => h) (Or.inr ⟨by rfl, rfl⟩) (by assumption) ?_
        try simp only [Act.put, List.setIfInBounds_toArray, List.set_cons_zero, List.set_cons_succ]
        refine wpAnyH_take (i := 21) (oi := ⟨some 60, _, _, _, _, _⟩) (v := undef) rfl (by kernel_rfl) (by kernel_rfl) (by kernel_rfl) (fun _ _ _ h => h) (Or.inr ⟨by rfl, rfl⟩) (by assumption) ?_
        try simp only [Act.put, List.setIfInBounds_toArray, List.set_cons_zero, List.set_cons_succ]
        refine wpAnyH_take (i := 22) (oi := ⟨some 61, _, _, _, _, _⟩) (v := undef) rfl (by kernel_rfl) (by kernel_rfl) (by kernel_rfl) (fun _ _ _ h => h) (Or.inr ⟨by rfl, rfl⟩) (by assumption) ?_
        try simp only [Act.put, List.setIfInBounds_toArray, List.set_cons_zero, List.set_cons_succ]
        refine wpAnyH_take (i := 23) (oi := ⟨some 62, _, _, _, _, _⟩) (v := undef) rfl (by kernel_rfl) (by kernel_rfl) (by kernel_rfl) (fun _ _ _ h => h) (Or.inr ⟨by rfl, rfl⟩) (by assumption) ?_
        try simp only [Act.put, List.setIfInBounds_toArray, List.set_cons_zero, List.set_cons_succ]
        refine wpAnyH_take (i := 24) (oi := ⟨some 63, _, _, _, _, _⟩) (v := undef) rfl (by kernel_rfl) (by kernel_rfl) (by kernel_rfl) (fun _ _ _ h => h) (Or.inr ⟨by rfl, rfl⟩) (by assumption) ?_
        try simp only [Act.put, List.setIfInBounds_toArray, List.set_cons_zero, List.set_cons_succ]
        refine wpAnyH_take (i := 25) (oi := ⟨some 64, _, _, _, _, _⟩) (v := undef) rfl (by kernel_rfl) (by kernel_rfl) (by kernel_rfl) (fun _ _ _ h => h) (Or.inr ⟨by rfl, rfl⟩) (by assumption) ?_
        try simp only [Act.put, List.setIfInBounds_toArray, List.set_cons_zero, List.set_cons_succ]
        refine wpAnyH_take (i := 26) (oi := ⟨some 65, _, _, _, _, _⟩) (v := undef) rfl (by kernel_rfl) (by kernel_rfl) (by kernel_rfl) (fun _ _ _ h => h) (Or.inr ⟨by rfl, rfl⟩) (by assumption) ?_
        try simp only [Act.put, List.setIfInBounds_toArray, List.set_cons_zero, List.set_cons_succ]
        refine wpAnyH_take (i := 27) (oi := ⟨some 66, _, _, _, _, _⟩) (v := ?vvz8) rfl (by kernel_rfl) (by kernel_rfl) (by kernel_rfl) (fun _ _ _ h => h) (Or.inl ⟨by rfl, ?hyz8⟩) (by assumption) ?restz8
        case hyz8 => (intro w hSw; (try dsimp only at hSw); obtain ⟨⟨q0, q1, q2, q3⟩, _⟩ := hSw; go_simp; try with_reducible rfl)
        try simp only [Act.put, List.setIfInBounds_toArray, List.set_cons_zero, List.set_cons_succ]
        refine wpAnyH_done (by kernel_rfl) ?_ _
        refine NoPanic.normal ?_
        have hbel2 := Lib.hid (below2 hbel'.out hHeld.2)
        have hown2 := own_kept hown'.out hHeld.2
        clear hS keepH hHeld
        go_wp2
        go_roundw
        case rel => exact ⟨k + 1, L, by omega, by go_num, hstep, by omega, hown2, hbel2⟩
        case measure => simp [intOf]; omega
      have hdd := inB_iff.1 h5
      have cD0 : ∀ W : World, Calls Tryd.prog 17 #[.int .i64 (d - c2)] W fun e w' => e = .returned (.bool true) ∧ Below W.heap.size W w' := fun W => (l04Days_any (d - c2) W).mono fun _ _ hq => ⟨by rw [hq.1, h5], hq.2 ▸ Below.refl _ _⟩
      have cD := Lib.hid cD0
      have cE0 : ∀ W : World, Calls Tryd.prog 19 #[.int .i64 h] W fun e w' => e = .returned (.int .i64 E) ∧ Below W.heap.size W w' := fun W => (l04Even_any h W).mono fun _ _ hq => ⟨by rw [hq.1, hEh.out], hq.2⟩
      have cE := Lib.hid cE0
      have cA0 := fun W => l04AfterB_any a2 E b2 (d - c2) ha2.1 ha2.2 hev.1 (by omega) hb2.1 hb2.2 hdd.1 hdd.2 W
      obtain ⟨y, hy⟩ : ∃ y, y = dryV a2 E b2 (d - c2).toNat := ⟨_, rfl⟩
      rw [← hy] at cA0
      have cA := Lib.hid cA0
      rw [hEh.out] at hy
      clear cA0 cE0 cD0
      by_cases hyg : y ≤ g
      · have hL2 : Hid (L ++ [(k : Int)] = rdyL Z h d g (k + 1)) := Lib.hid (by rw [rdyL_yes hlt hxk'.out (by rw [rdyB_near h5]; exact decide_eq_true (hy ▸ hyg)), ← hL.out])
        clear hy
        have P1 := stkAt_of hr1
        have hgr : gg < wr.heap.size := Nat.lt_of_lt_of_le hg hbel.out.size
        have keep : ∀ W1 W2, ((W1.cell? ⟨gg, o + k * 4, none⟩ = some (.string s2) ∧ W1.cell? ⟨gg, o + k * 4 + 1, none⟩ = some (.int .i64 a2) ∧ W1.cell? ⟨gg, o + k * 4 + 2, none⟩ = some (.int .i64 b2) ∧ W1.cell? ⟨gg, o + k * 4 + 3, none⟩ = some (.int .i64 c2)) ∧ Below wr.heap.size wr W1) → Below W1.heap.size W1 W2 → ((W2.cell? ⟨gg, o + k * 4, none⟩ = some (.string s2) ∧ W2.cell? ⟨gg, o + k * 4 + 1, none⟩ = some (.int .i64 a2) ∧ W2.cell? ⟨gg, o + k * 4 + 2, none⟩ = some (.int .i64 b2) ∧ W2.cell? ⟨gg, o + k * 4 + 3, none⟩ = some (.int .i64 c2)) ∧ Below wr.heap.size wr W2) := fun W1 W2 h1 h2 => by
          obtain ⟨p0, hb⟩ := h1
          have q0 := StkAt.below (x := ⟨s2, a2, b2, c2⟩) (o := o + k * 4) p0 (Nat.lt_of_lt_of_le hgr hb.size) h2
          exact ⟨q0, hb.trans (h2.mono hb.size)⟩
        have keepH := Lib.hid keep
        have hS : ((wr.cell? ⟨gg, o + k * 4, none⟩ = some (.string s2) ∧ wr.cell? ⟨gg, o + k * 4 + 1, none⟩ = some (.int .i64 a2) ∧ wr.cell? ⟨gg, o + k * 4 + 2, none⟩ = some (.int .i64 b2) ∧ wr.cell? ⟨gg, o + k * 4 + 3, none⟩ = some (.int .i64 c2)) ∧ Below wr.heap.size wr wr) := ⟨P1, Below.refl _ _⟩
        clear keep P1 hr1
        go_wp2
        go_region_held3 (fun w' => ((w'.cell? ⟨gg, o + k * 4, none⟩ = some (.string s2) ∧ w'.cell? ⟨gg, o + k * 4 + 1, none⟩ = some (.int .i64 a2) ∧ w'.cell? ⟨gg, o + k * 4 + 2, none⟩ = some (.int .i64 b2) ∧ w'.cell? ⟨gg, o + k * 4 + 3, none⟩ = some (.int .i64 c2)) ∧ Below wr.heap.size wr w'))
          (first | exact ⟨hS.1, belowN hS.2 1⟩ | exact keepH.out _ _ (by assumption) (by assumption) | assumption)
          (first | (go_at_call 17; (with_reducible refine (cD.out _).mono ?_); rintro e w' ⟨rfl, hbel⟩)
                 | (go_at_call 19; (with_reducible refine (cE.out _).mono ?_); rintro e w' ⟨rfl, hbel⟩)
                 | (go_at_call 18; (with_reducible refine (cA.out _).mono ?_); rintro e w' ⟨rfl, hbel⟩))
        rename_i hHeld'
        have hbel2 : Hid (Below w.heap.size w w') := Lib.hid (below2 hbel'.out hHeld'.2)
        have hown2 := own_kept hown'.out hHeld'.2
        have hown2' := Lib.hid hown2
        clear hS keepH hHeld'
        go_wp2_with (at_builtin; refine wpList_append_own _ rfl _ _ 24 rfl w.heap.size 2 i0 (.int .i64 0) 1 8 Tryd.underlying24 hi hz0 hz1 hz2 rfl (by decide) _ _ _ rfl (hown2.alloc _) ⟨w'.heap.size, 0, none⟩ 1 1 [.int .i64 k] rfl rfl ?c1A ?c2A ?c3A ?c4A ?c5A ?_)
        case c1A =>
          intro j u hj
          match j, hj with
          | 0, hj => simp at hj; subst hj; simp [Addr.add]
        case c2A => intro u hu; simp at hu; subst hu; rfl
        case c3A => unfold maxLen; omega
        case c4A => omega
        case c5A => have := hbel2.out.size; simp; omega
        intro v' w3 hown' hgrow' _
        have hb3 : Below w.heap.size w w3 := (hbel2.out.alloc hbel2.out.size (.cells #[.int .i64 k] 2)).grown hgrow' (by have := hbel2.out.size; simp at this ⊢; omega) (fun j hj => hown2'.out.own_ge j hj)
        have hLl : (L ++ [(k : Int)]).length = L.length + 1 := by simp
        have hown3 : w3.ownsRow w.heap.size 2 1 v' (L ++ [(k : Int)]).length ((L ++ [(k : Int)]).map encI) := by
          rw [hLl, List.map_append, List.map_singleton]; simpa [encI] using hown'
        have hb3' := Lib.hid hb3
        clear hgrow' hown' hown2 hown hbel2 hb3
        go_wp2
        go_roundw
        case rel => exact ⟨k + 1, L ++ [(k : Int)], by omega, by go_num, hL2, by rw [hLl]; omega, hown3, hb3'⟩
        case measure => simp [intOf]; omega
      · have hstep : Hid (L = rdyL Z h d g (k + 1)) := Lib.hid (by rw [rdyL_no hlt hxk'.out (by rw [rdyB_near h5]; exact decide_eq_false (hy ▸ hyg)), ← hL.out])
        clear hy
        have P1 := stkAt_of hr1
        have hgr : gg < wr.heap.size := Nat.lt_of_lt_of_le hg hbel.out.size
        have keep : ∀ W1 W2, ((W1.cell? ⟨gg, o + k * 4, none⟩ = some (.string s2) ∧ W1.cell? ⟨gg, o + k * 4 + 1, none⟩ = some (.int .i64 a2) ∧ W1.cell? ⟨gg, o + k * 4 + 2, none⟩ = some (.int .i64 b2) ∧ W1.cell? ⟨gg, o + k * 4 + 3, none⟩ = some (.int .i64 c2)) ∧ Below wr.heap.size wr W1) → Below W1.heap.size W1 W2 → ((W2.cell? ⟨gg, o + k * 4, none⟩ = some (.string s2) ∧ W2.cell? ⟨gg, o + k * 4 + 1, none⟩ = some (.int .i64 a2) ∧ W2.cell? ⟨gg, o + k * 4 + 2, none⟩ = some (.int .i64 b2) ∧ W2.cell? ⟨gg, o + k * 4 + 3, none⟩ = some (.int .i64 c2)) ∧ Below wr.heap.size wr W2) := fun W1 W2 h1 h2 => by
          obtain ⟨p0, hb⟩ := h1
          have q0 := StkAt.below (x := ⟨s2, a2, b2, c2⟩) (o := o + k * 4) p0 (Nat.lt_of_lt_of_le hgr hb.size) h2
          exact ⟨q0, hb.trans (h2.mono hb.size)⟩
        have keepH := Lib.hid keep
        have hS : ((wr.cell? ⟨gg, o + k * 4, none⟩ = some (.string s2) ∧ wr.cell? ⟨gg, o + k * 4 + 1, none⟩ = some (.int .i64 a2) ∧ wr.cell? ⟨gg, o + k * 4 + 2, none⟩ = some (.int .i64 b2) ∧ wr.cell? ⟨gg, o + k * 4 + 3, none⟩ = some (.int .i64 c2)) ∧ Below wr.heap.size wr wr) := ⟨P1, Below.refl _ _⟩
        clear keep P1 hr1
        go_wp2
        go_region_held3 (fun w' => ((w'.cell? ⟨gg, o + k * 4, none⟩ = some (.string s2) ∧ w'.cell? ⟨gg, o + k * 4 + 1, none⟩ = some (.int .i64 a2) ∧ w'.cell? ⟨gg, o + k * 4 + 2, none⟩ = some (.int .i64 b2) ∧ w'.cell? ⟨gg, o + k * 4 + 3, none⟩ = some (.int .i64 c2)) ∧ Below wr.heap.size wr w'))
          (first | exact ⟨hS.1, belowN hS.2 1⟩ | exact keepH.out _ _ (by assumption) (by assumption) | assumption)
          (first | (go_at_call 17; (with_reducible refine (cD.out _).mono ?_); rintro e w' ⟨rfl, hbel⟩)
                 | (go_at_call 19; (with_reducible refine (cE.out _).mono ?_); rintro e w' ⟨rfl, hbel⟩)
                 | (go_at_call 18; (with_reducible refine (cA.out _).mono ?_); rintro e w' ⟨rfl, hbel⟩))
        rename_i hHeld'
        have hbel2 : Hid (Below w.heap.size w w') := Lib.hid (below2 hbel'.out hHeld'.2)
        have hown2 := own_kept hown'.out hHeld'.2
        have hown2' := Lib.hid hown2
        clear hS keepH hHeld'
        go_wp2
        go_roundw
        case rel => exact ⟨k + 1, L, by omega, by go_num, hstep, by omega, hown2, hbel2⟩
        case measure => simp [intOf]; omega
    · have hkl : k = Z.length := by omega
      have hLL : Hid (rdyV Z h d g = L) := Lib.hid (by rw [hr.out.1, hL.out, hkl])
      clear hkl
      go_wp2
      go_ret2
      exact rowC_mk hLL.out hr.out.2 (Nat.le_refl _) hown hbel.out
end Go.Proofs.YtjgpckocmjolmaaDoor
