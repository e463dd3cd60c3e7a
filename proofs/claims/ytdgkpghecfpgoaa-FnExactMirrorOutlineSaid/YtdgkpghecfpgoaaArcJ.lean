/-
  Outlines: the program's validity of a list of arcs.
-/
import Derived.Test.YtdgkpghecfpgoaaArcOk
namespace Go.Proofs.Ytdgkpghecfpgoaa
open Go.ChangeShapes Go.WideShapes Go.ChangeAt Go.RowKit Go.Deep
set_option linter.unusedVariables false
set_option linter.unusedSimpArgs false
set_option maxRecDepth 1000000
theorem joinB_no {Z : List Arc} {k : Nat} (h : joinS Z k = false) (hk : k < Z.length) : joinB Z = false := by unfold joinB; rw [allK_no h hk]
theorem within_int (n lo hi : Int) (w : World) : Calls Try.prog 53 #[.int .i64 n, .int .i64 lo, .int .i64 hi] w fun e w' => e = .returned (.bool (inB n lo hi)) ∧ w = w' := by
  by_cases h1 : lo ≤ n <;> by_cases h2 : n ≤ hi
  all_goals
    go_enter Try.func53, Try.ntmps53
    go_wp2
    go_ret
    exact ⟨ret_bool (by simp [inB, h1, h2]), rfl⟩
set_option maxHeartbeats 3200000 in
theorem areJoined_any (v : Value) (Z : List Arc) (w : World) (hn : Z.length ≤ 1048576) (hv : ArcsAt w v Z) : Calls Try.prog 54 #[v] w fun e w' => e = .returned (.bool (joinB Z)) ∧ Below w.heap.size w w' := by
  obtain ⟨p, cap, rfl, hcap, _, hread⟩ := hv
  have hread' := Lib.hid hread
  clear hread
  go_enter Try.func54, Try.ntmps54
  go_wp2
  go_loopw [7] (fun i wr => ∃ k : Nat, k ≤ Z.length ∧ i = .int .i64 k ∧ Hid (allK (joinS Z) k = true) ∧ Below w.heap.size w wr) (fun i _ => Z.length - (intOf i).toNat)
  case atStart => exact ⟨0, by omega, rfl, Lib.hid rfl, Below.refl _ _⟩
  case round =>
    obtain ⟨k, hk, rfl, hok, hb⟩ := hrel
    by_cases hlt : k < Z.length
    · rcases hread'.out with h | ⟨g, o, rfl, hg, hc⟩
      · subst h; simp at hlt
      obtain ⟨x, hx⟩ : ∃ x, x = Z[k] := ⟨_, rfl⟩
      have hr0 := range_below (hc k hlt) hg hb
      rw [← hx] at hr0
      have hgr : g < wr.heap.size := Nat.lt_of_lt_of_le hg hb.size
      have hx' := Lib.hid hx
      clear hx
      obtain ⟨a, b, c, d, p, s⟩ := x
      have hr : wr.rangeAt g (o + k * 6) [.int .i64 a, .int .i64 b, .int .i64 c, .int .i64 d, .int .i64 p, .int .i64 s] := hr0
      clear hr0
      have cV0 : ∀ W, Calls Try.prog 17 #[.agg #[.int .i64 a, .int .i64 b, .int .i64 c, .int .i64 d, .int .i64 p, .int .i64 s]] W fun e w' => e = .returned (.bool (arcB ⟨a, b, c, d, p, s⟩)) ∧ Below W.heap.size W w' := fun W => implValidArc_any a b c d p s W
      rcases Nat.eq_zero_or_pos k with hk0 | hk0
      · subst hk0
        have hst : Hid (joinS Z 0 = arcB ⟨a, b, c, d, p, s⟩) := Lib.hid (by unfold joinS; rw [getD_of _ hlt, ← hx'.out]; simp)
        have hg0 : decide ((0 : Int) < ((0 : Nat) : Int)) = false := by decide
        clear hc
        cases hv : arcB ⟨a, b, c, d, p, s⟩
        · rw [hv] at cV0
          have cV := Lib.hid cV0
          have hno := Lib.hid (joinB_no (by rw [hst.out, hv]) hlt)
          clear cV0
          go_wp2_with (first | (refine wpList_load_mid rfl _ _ rfl g (o + 0 * 6) rfl _ _ hr Try.underlying29 rfl rfl ?_))
          obtain ⟨q1, hB0, hsz⟩ := one_box wr #[.int .i64 a, .int .i64 b, .int .i64 c, .int .i64 d, .int .i64 p, .int .i64 s] 29
          generalize (wr.alloc (.cells #[.int .i64 a, .int .i64 b, .int .i64 c, .int .i64 d, .int .i64 p, .int .i64 s] 29)) = W0 at q1 hB0 hsz ⊢
          have hbW : Below w.heap.size w W0 := below2 hb hB0
          have hS : (((W0.cell? ⟨wr.heap.size, 0, none⟩ = some (.int .i64 a) ∧ W0.cell? ⟨wr.heap.size, 1, none⟩ = some (.int .i64 b) ∧ W0.cell? ⟨wr.heap.size, 2, none⟩ = some (.int .i64 c) ∧ W0.cell? ⟨wr.heap.size, 3, none⟩ = some (.int .i64 d) ∧ W0.cell? ⟨wr.heap.size, 4, none⟩ = some (.int .i64 p) ∧ W0.cell? ⟨wr.heap.size, 5, none⟩ = some (.int .i64 s))) ∧ Below W0.heap.size W0 W0) := ⟨⟨q1 0 _ rfl, q1 1 _ rfl, q1 2 _ rfl, q1 3 _ rfl, q1 4 _ rfl, q1 5 _ rfl⟩, Below.refl _ _⟩
          clear q1
          have keep : ∀ W1 W2, (((W1.cell? ⟨wr.heap.size, 0, none⟩ = some (.int .i64 a) ∧ W1.cell? ⟨wr.heap.size, 1, none⟩ = some (.int .i64 b) ∧ W1.cell? ⟨wr.heap.size, 2, none⟩ = some (.int .i64 c) ∧ W1.cell? ⟨wr.heap.size, 3, none⟩ = some (.int .i64 d) ∧ W1.cell? ⟨wr.heap.size, 4, none⟩ = some (.int .i64 p) ∧ W1.cell? ⟨wr.heap.size, 5, none⟩ = some (.int .i64 s))) ∧ Below W0.heap.size W0 W1) → Below W1.heap.size W1 W2 → (((W2.cell? ⟨wr.heap.size, 0, none⟩ = some (.int .i64 a) ∧ W2.cell? ⟨wr.heap.size, 1, none⟩ = some (.int .i64 b) ∧ W2.cell? ⟨wr.heap.size, 2, none⟩ = some (.int .i64 c) ∧ W2.cell? ⟨wr.heap.size, 3, none⟩ = some (.int .i64 d) ∧ W2.cell? ⟨wr.heap.size, 4, none⟩ = some (.int .i64 p) ∧ W2.cell? ⟨wr.heap.size, 5, none⟩ = some (.int .i64 s))) ∧ Below W0.heap.size W0 W2) := fun W1 W2 h1 h2 => by
            obtain ⟨p0, hb⟩ := h1
            have hz := Nat.lt_of_lt_of_le hsz hb.size
            have q0 := ArcAt.below (x := ⟨a, b, c, d, p, s⟩) (o := 0) p0 hz h2
            exact ⟨q0, hb.trans (h2.mono hb.size)⟩
          have keepH := Lib.hid keep
          clear keep
          refine wp_region_noPanic ?_
          refine wp_region_held_drew (S := (fun w' => (((w'.cell? ⟨wr.heap.size, 0, none⟩ = some (.int .i64 a) ∧ w'.cell? ⟨wr.heap.size, 1, none⟩ = some (.int .i64 b) ∧ w'.cell? ⟨wr.heap.size, 2, none⟩ = some (.int .i64 c) ∧ w'.cell? ⟨wr.heap.size, 3, none⟩ = some (.int .i64 d) ∧ w'.cell? ⟨wr.heap.size, 4, none⟩ = some (.int .i64 p) ∧ w'.cell? ⟨wr.heap.size, 5, none⟩ = some (.int .i64 s))) ∧ Below W0.heap.size W0 w'))) (by kernel_rfl) ?_ (fun hHeld => ?_)
          · exact ⟨hS.1, belowN hS.2 1⟩
          refine wpAnyH_take (i := 0) (oi := ⟨some 12, _, _, _, _, _⟩) (v := ?vvz222) rfl (by kernel_rfl) (by kernel_rfl) (by kernel_rfl) (fun _ _ _ h => h) (Or.inl ⟨by rfl, ?hyz222⟩) (by assumption) ?restz222
          case hyz222 => (intro w hSw; (try dsimp only at hSw); go_simp; try with_reducible rfl)
          try simp only [Act.put, List.setIfInBounds_toArray, List.set_cons_zero, List.set_cons_succ]
          refine wpAnyH_ready (rs := [1]) (by kernel_rfl) (by simp) ?_
          refine AllReadyH.cons (o := ⟨some 13, _, _, _, _, _⟩) rfl (fun K hK => ?_) AllReadyH.nil
          go_simp
          (go_at_call 17; (with_reducible refine (cV.out _).mono ?_); rintro e w' ⟨rfl, hbel⟩)
          try go_wp2_with fail
          refine hK.out _ _ ?_ (fun hHeld2 => ?_)
          · exact keepH.out _ _ (by assumption) (by assumption)
          clear hK K hHeld
          have hHeld := hHeld2
          clear hHeld2
          try simp only [Act.put, List.setIfInBounds_toArray, List.set_cons_zero, List.set_cons_succ]
          refine wpAnyH_take (i := 2) (oi := ⟨some 14, _, _, _, _, _⟩) (v := ?vvz223) rfl (by kernel_rfl) (by kernel_rfl) (by kernel_rfl) (fun _ _ _ h => h) (Or.inl ⟨by rfl, ?hyz223⟩) (by assumption) ?restz223
          case hyz223 => (intro w hSw; (try dsimp only at hSw); go_simp; try with_reducible rfl)
          try simp only [Act.put, List.setIfInBounds_toArray, List.set_cons_zero, List.set_cons_succ]
          refine wpAnyH_take (i := 3) (oi := ⟨some 15, _, _, _, _, _⟩) (v := ?vvz224) rfl (by kernel_rfl) (by kernel_rfl) (by kernel_rfl) (fun _ _ _ h => h) (Or.inl ⟨by rfl, ?hyz224⟩) (by assumption) ?restz224
          case hyz224 => (intro w hSw; (try dsimp only at hSw); go_simp; try with_reducible rfl)
          try simp only [Act.put, List.setIfInBounds_toArray, List.set_cons_zero, List.set_cons_succ]
          refine wpAnyH_take (i := 4) (oi := ⟨some 16, _, _, _, _, _⟩) (v := undef) rfl (by kernel_rfl) (by kernel_rfl) (by kernel_rfl) (fun _ _ _ h => h) (Or.inr ⟨by rfl, rfl⟩) (by assumption) ?_
          try simp only [Act.put, List.setIfInBounds_toArray, List.set_cons_zero, List.set_cons_succ]
          refine wpAnyH_take (i := 5) (oi := ⟨some 17, _, _, _, _, _⟩) (v := undef) rfl (by kernel_rfl) (by kernel_rfl) (by kernel_rfl) (fun _ _ _ h => h) (Or.inr ⟨by rfl, rfl⟩) (by assumption) ?_
          try simp only [Act.put, List.setIfInBounds_toArray, List.set_cons_zero, List.set_cons_succ]
          refine wpAnyH_take (i := 6) (oi := ⟨some 18, _, _, _, _, _⟩) (v := undef) rfl (by kernel_rfl) (by kernel_rfl) (by kernel_rfl) (fun _ _ _ h => h) (Or.inr ⟨by rfl, rfl⟩) (by assumption) ?_
          try simp only [Act.put, List.setIfInBounds_toArray, List.set_cons_zero, List.set_cons_succ]
          refine wpAnyH_take (i := 7) (oi := ⟨some 19, _, _, _, _, _⟩) (v := undef) rfl (by kernel_rfl) (by kernel_rfl) (by kernel_rfl) (fun _ _ _ h => h) (Or.inr ⟨by rfl, rfl⟩) (by assumption) ?_
          try simp only [Act.put, List.setIfInBounds_toArray, List.set_cons_zero, List.set_cons_succ]
          refine wpAnyH_take (i := 8) (oi := ⟨some 20, _, _, _, _, _⟩) (v := undef) rfl (by kernel_rfl) (by kernel_rfl) (by kernel_rfl) (fun _ _ _ h => h) (Or.inr ⟨by rfl, rfl⟩) (by assumption) ?_
          try simp only [Act.put, List.setIfInBounds_toArray, List.set_cons_zero, List.set_cons_succ]
          refine wpAnyH_take (i := 9) (oi := ⟨some 21, _, _, _, _, _⟩) (v := undef) rfl (by kernel_rfl) (by kernel_rfl) (by kernel_rfl) (fun _ _ _ h => h) (Or.inr ⟨by rfl, rfl⟩) (by assumption) ?_
          try simp only [Act.put, List.setIfInBounds_toArray, List.set_cons_zero, List.set_cons_succ]
          refine wpAnyH_take (i := 10) (oi := ⟨some 22, _, _, _, _, _⟩) (v := undef) rfl (by kernel_rfl) (by kernel_rfl) (by kernel_rfl) (fun _ _ _ h => h) (Or.inr ⟨by rfl, rfl⟩) (by assumption) ?_
          try simp only [Act.put, List.setIfInBounds_toArray, List.set_cons_zero, List.set_cons_succ]
          refine wpAnyH_take (i := 11) (oi := ⟨some 23, _, _, _, _, _⟩) (v := undef) rfl (by kernel_rfl) (by kernel_rfl) (by kernel_rfl) (fun _ _ _ h => h) (Or.inr ⟨by rfl, rfl⟩) (by assumption) ?_
          try simp only [Act.put, List.setIfInBounds_toArray, List.set_cons_zero, List.set_cons_succ]
          refine wpAnyH_take (i := 12) (oi := ⟨some 24, _, _, _, _, _⟩) (v := undef) rfl (by kernel_rfl) (by kernel_rfl) (by kernel_rfl) (fun _ _ _ h => h) (Or.inr ⟨by rfl, rfl⟩) (by assumption) ?_
          try simp only [Act.put, List.setIfInBounds_toArray, List.set_cons_zero, List.set_cons_succ]
          refine wpAnyH_take (i := 13) (oi := ⟨some 25, _, _, _, _, _⟩) (v := undef) rfl (by kernel_rfl) (by kernel_rfl) (by kernel_rfl) (fun _ _ _ h => h) (Or.inr ⟨by rfl, rfl⟩) (by assumption) ?_
          try simp only [Act.put, List.setIfInBounds_toArray, List.set_cons_zero, List.set_cons_succ]
          refine wpAnyH_take (i := 14) (oi := ⟨some 26, _, _, _, _, _⟩) (v := undef) rfl (by kernel_rfl) (by kernel_rfl) (by kernel_rfl) (fun _ _ _ h => h) (Or.inr ⟨by rfl, rfl⟩) (by assumption) ?_
          try simp only [Act.put, List.setIfInBounds_toArray, List.set_cons_zero, List.set_cons_succ]
          refine wpAnyH_take (i := 15) (oi := ⟨some 27, _, _, _, _, _⟩) (v := undef) rfl (by kernel_rfl) (by kernel_rfl) (by kernel_rfl) (fun _ _ _ h => h) (Or.inr ⟨by rfl, rfl⟩) (by assumption) ?_
          try simp only [Act.put, List.setIfInBounds_toArray, List.set_cons_zero, List.set_cons_succ]
          refine wpAnyH_take (i := 16) (oi := ⟨some 28, _, _, _, _, _⟩) (v := undef) rfl (by kernel_rfl) (by kernel_rfl) (by kernel_rfl) (fun _ _ _ h => h) (Or.inr ⟨by rfl, rfl⟩) (by assumption) ?_
          try simp only [Act.put, List.setIfInBounds_toArray, List.set_cons_zero, List.set_cons_succ]
          refine wpAnyH_take (i := 17) (oi := ⟨some 29, _, _, _, _, _⟩) (v := ?vvz225) rfl (by kernel_rfl) (by kernel_rfl) (by kernel_rfl) (fun _ _ _ h => h) (Or.inl ⟨by rfl, ?hyz225⟩) (by assumption) ?restz225
          case hyz225 => (intro w hSw; (try dsimp only at hSw); go_simp; try with_reducible rfl)
          try simp only [Act.put, List.setIfInBounds_toArray, List.set_cons_zero, List.set_cons_succ]
          refine wpAnyH_done (by kernel_rfl) ?_ _
          refine NoPanic.normal ?_
          clear hS
          have hb2 := below2 hbW hHeld.2
          go_wp2
          go_ret
          exact ⟨ret_bool hno.out.symm, hb2⟩
        · rw [hv] at cV0
          have cV := Lib.hid cV0
          have hyes := Lib.hid (allK_yes hok.out (by rw [hst.out, hv]))
          clear cV0
          go_wp2_with (first | (refine wpList_load_mid rfl _ _ rfl g (o + 0 * 6) rfl _ _ hr Try.underlying29 rfl rfl ?_))
          obtain ⟨q1, hB0, hsz⟩ := one_box wr #[.int .i64 a, .int .i64 b, .int .i64 c, .int .i64 d, .int .i64 p, .int .i64 s] 29
          generalize (wr.alloc (.cells #[.int .i64 a, .int .i64 b, .int .i64 c, .int .i64 d, .int .i64 p, .int .i64 s] 29)) = W0 at q1 hB0 hsz ⊢
          have hbW : Below w.heap.size w W0 := below2 hb hB0
          have hS : (((W0.cell? ⟨wr.heap.size, 0, none⟩ = some (.int .i64 a) ∧ W0.cell? ⟨wr.heap.size, 1, none⟩ = some (.int .i64 b) ∧ W0.cell? ⟨wr.heap.size, 2, none⟩ = some (.int .i64 c) ∧ W0.cell? ⟨wr.heap.size, 3, none⟩ = some (.int .i64 d) ∧ W0.cell? ⟨wr.heap.size, 4, none⟩ = some (.int .i64 p) ∧ W0.cell? ⟨wr.heap.size, 5, none⟩ = some (.int .i64 s))) ∧ Below W0.heap.size W0 W0) := ⟨⟨q1 0 _ rfl, q1 1 _ rfl, q1 2 _ rfl, q1 3 _ rfl, q1 4 _ rfl, q1 5 _ rfl⟩, Below.refl _ _⟩
          clear q1
          have keep : ∀ W1 W2, (((W1.cell? ⟨wr.heap.size, 0, none⟩ = some (.int .i64 a) ∧ W1.cell? ⟨wr.heap.size, 1, none⟩ = some (.int .i64 b) ∧ W1.cell? ⟨wr.heap.size, 2, none⟩ = some (.int .i64 c) ∧ W1.cell? ⟨wr.heap.size, 3, none⟩ = some (.int .i64 d) ∧ W1.cell? ⟨wr.heap.size, 4, none⟩ = some (.int .i64 p) ∧ W1.cell? ⟨wr.heap.size, 5, none⟩ = some (.int .i64 s))) ∧ Below W0.heap.size W0 W1) → Below W1.heap.size W1 W2 → (((W2.cell? ⟨wr.heap.size, 0, none⟩ = some (.int .i64 a) ∧ W2.cell? ⟨wr.heap.size, 1, none⟩ = some (.int .i64 b) ∧ W2.cell? ⟨wr.heap.size, 2, none⟩ = some (.int .i64 c) ∧ W2.cell? ⟨wr.heap.size, 3, none⟩ = some (.int .i64 d) ∧ W2.cell? ⟨wr.heap.size, 4, none⟩ = some (.int .i64 p) ∧ W2.cell? ⟨wr.heap.size, 5, none⟩ = some (.int .i64 s))) ∧ Below W0.heap.size W0 W2) := fun W1 W2 h1 h2 => by
            obtain ⟨p0, hb⟩ := h1
            have hz := Nat.lt_of_lt_of_le hsz hb.size
            have q0 := ArcAt.below (x := ⟨a, b, c, d, p, s⟩) (o := 0) p0 hz h2
            exact ⟨q0, hb.trans (h2.mono hb.size)⟩
          have keepH := Lib.hid keep
          clear keep
          refine wp_region_noPanic ?_
          refine wp_region_held_drew (S := (fun w' => (((w'.cell? ⟨wr.heap.size, 0, none⟩ = some (.int .i64 a) ∧ w'.cell? ⟨wr.heap.size, 1, none⟩ = some (.int .i64 b) ∧ w'.cell? ⟨wr.heap.size, 2, none⟩ = some (.int .i64 c) ∧ w'.cell? ⟨wr.heap.size, 3, none⟩ = some (.int .i64 d) ∧ w'.cell? ⟨wr.heap.size, 4, none⟩ = some (.int .i64 p) ∧ w'.cell? ⟨wr.heap.size, 5, none⟩ = some (.int .i64 s))) ∧ Below W0.heap.size W0 w'))) (by kernel_rfl) ?_ (fun hHeld => ?_)
          · exact ⟨hS.1, belowN hS.2 1⟩
          refine wpAnyH_take (i := 0) (oi := ⟨some 12, _, _, _, _, _⟩) (v := ?vvz226) rfl (by kernel_rfl) (by kernel_rfl) (by kernel_rfl) (fun _ _ _ h => h) (Or.inl ⟨by rfl, ?hyz226⟩) (by assumption) ?restz226
          case hyz226 => (intro w hSw; (try dsimp only at hSw); go_simp; try with_reducible rfl)
          try simp only [Act.put, List.setIfInBounds_toArray, List.set_cons_zero, List.set_cons_succ]
          refine wpAnyH_ready (rs := [1]) (by kernel_rfl) (by simp) ?_
          refine AllReadyH.cons (o := ⟨some 13, _, _, _, _, _⟩) rfl (fun K hK => ?_) AllReadyH.nil
          go_simp
          (go_at_call 17; (with_reducible refine (cV.out _).mono ?_); rintro e w' ⟨rfl, hbel⟩)
          try go_wp2_with fail
          refine hK.out _ _ ?_ (fun hHeld2 => ?_)
          · exact keepH.out _ _ (by assumption) (by assumption)
          clear hK K hHeld
          have hHeld := hHeld2
          clear hHeld2
          try simp only [Act.put, List.setIfInBounds_toArray, List.set_cons_zero, List.set_cons_succ]
          refine wpAnyH_take (i := 2) (oi := ⟨some 14, _, _, _, _, _⟩) (v := ?vvz227) rfl (by kernel_rfl) (by kernel_rfl) (by kernel_rfl) (fun _ _ _ h => h) (Or.inl ⟨by rfl, ?hyz227⟩) (by assumption) ?restz227
          case hyz227 => (intro w hSw; (try dsimp only at hSw); go_simp; try with_reducible rfl)
          try simp only [Act.put, List.setIfInBounds_toArray, List.set_cons_zero, List.set_cons_succ]
          refine wpAnyH_take (i := 3) (oi := ⟨some 15, _, _, _, _, _⟩) (v := ?vvz228) rfl (by kernel_rfl) (by kernel_rfl) (by kernel_rfl) (fun _ _ _ h => h) (Or.inl ⟨by rfl, ?hyz228⟩) (by assumption) ?restz228
          case hyz228 => (intro w hSw; (try dsimp only at hSw); go_simp; try with_reducible rfl)
          try simp only [Act.put, List.setIfInBounds_toArray, List.set_cons_zero, List.set_cons_succ]
          refine wpAnyH_take (i := 4) (oi := ⟨some 16, _, _, _, _, _⟩) (v := ?vvz229) rfl (by kernel_rfl) (by kernel_rfl) (by kernel_rfl) (fun _ _ _ h => h) (Or.inl ⟨by rfl, ?hyz229⟩) (by assumption) ?restz229
          case hyz229 => (intro w hSw; (try dsimp only at hSw); go_simp; try with_reducible rfl)
          try simp only [Act.put, List.setIfInBounds_toArray, List.set_cons_zero, List.set_cons_succ]
          refine wpAnyH_take (i := 5) (oi := ⟨some 17, _, _, _, _, _⟩) (v := ?vvz230) rfl (by kernel_rfl) (by kernel_rfl) (by kernel_rfl) (fun _ _ _ h => h) (Or.inl ⟨by rfl, ?hyz230⟩) (by assumption) ?restz230
          case hyz230 => (intro w hSw; (try dsimp only at hSw); go_simp; try with_reducible rfl)
          try simp only [Act.put, List.setIfInBounds_toArray, List.set_cons_zero, List.set_cons_succ]
          refine wpAnyH_take (i := 6) (oi := ⟨some 18, _, _, _, _, _⟩) (v := ?vvz231) rfl (by kernel_rfl) (by kernel_rfl) (by kernel_rfl) (fun _ _ _ h => h) (Or.inl ⟨by rfl, ?hyz231⟩) (by assumption) ?restz231
          case hyz231 => (intro w hSw; (try dsimp only at hSw); go_simp; try with_reducible rfl)
          try simp only [Act.put, List.setIfInBounds_toArray, List.set_cons_zero, List.set_cons_succ]
          refine wpAnyH_take (i := 7) (oi := ⟨some 19, _, _, _, _, _⟩) (v := undef) rfl (by kernel_rfl) (by kernel_rfl) (by kernel_rfl) (fun _ _ _ h => h) (Or.inr ⟨by rfl, rfl⟩) (by assumption) ?_
          try simp only [Act.put, List.setIfInBounds_toArray, List.set_cons_zero, List.set_cons_succ]
          refine wpAnyH_take (i := 8) (oi := ⟨some 20, _, _, _, _, _⟩) (v := undef) rfl (by kernel_rfl) (by kernel_rfl) (by kernel_rfl) (fun _ _ _ h => h) (Or.inr ⟨by rfl, rfl⟩) (by assumption) ?_
          try simp only [Act.put, List.setIfInBounds_toArray, List.set_cons_zero, List.set_cons_succ]
          refine wpAnyH_take (i := 9) (oi := ⟨some 21, _, _, _, _, _⟩) (v := undef) rfl (by kernel_rfl) (by kernel_rfl) (by kernel_rfl) (fun _ _ _ h => h) (Or.inr ⟨by rfl, rfl⟩) (by assumption) ?_
          try simp only [Act.put, List.setIfInBounds_toArray, List.set_cons_zero, List.set_cons_succ]
          refine wpAnyH_take (i := 10) (oi := ⟨some 22, _, _, _, _, _⟩) (v := undef) rfl (by kernel_rfl) (by kernel_rfl) (by kernel_rfl) (fun _ _ _ h => h) (Or.inr ⟨by rfl, rfl⟩) (by assumption) ?_
          try simp only [Act.put, List.setIfInBounds_toArray, List.set_cons_zero, List.set_cons_succ]
          refine wpAnyH_take (i := 11) (oi := ⟨some 23, _, _, _, _, _⟩) (v := undef) rfl (by kernel_rfl) (by kernel_rfl) (by kernel_rfl) (fun _ _ _ h => h) (Or.inr ⟨by rfl, rfl⟩) (by assumption) ?_
          try simp only [Act.put, List.setIfInBounds_toArray, List.set_cons_zero, List.set_cons_succ]
          refine wpAnyH_take (i := 12) (oi := ⟨some 24, _, _, _, _, _⟩) (v := undef) rfl (by kernel_rfl) (by kernel_rfl) (by kernel_rfl) (fun _ _ _ h => h) (Or.inr ⟨by rfl, rfl⟩) (by assumption) ?_
          try simp only [Act.put, List.setIfInBounds_toArray, List.set_cons_zero, List.set_cons_succ]
          refine wpAnyH_take (i := 13) (oi := ⟨some 25, _, _, _, _, _⟩) (v := undef) rfl (by kernel_rfl) (by kernel_rfl) (by kernel_rfl) (fun _ _ _ h => h) (Or.inr ⟨by rfl, rfl⟩) (by assumption) ?_
          try simp only [Act.put, List.setIfInBounds_toArray, List.set_cons_zero, List.set_cons_succ]
          refine wpAnyH_take (i := 14) (oi := ⟨some 26, _, _, _, _, _⟩) (v := undef) rfl (by kernel_rfl) (by kernel_rfl) (by kernel_rfl) (fun _ _ _ h => h) (Or.inr ⟨by rfl, rfl⟩) (by assumption) ?_
          try simp only [Act.put, List.setIfInBounds_toArray, List.set_cons_zero, List.set_cons_succ]
          refine wpAnyH_take (i := 15) (oi := ⟨some 27, _, _, _, _, _⟩) (v := undef) rfl (by kernel_rfl) (by kernel_rfl) (by kernel_rfl) (fun _ _ _ h => h) (Or.inr ⟨by rfl, rfl⟩) (by assumption) ?_
          try simp only [Act.put, List.setIfInBounds_toArray, List.set_cons_zero, List.set_cons_succ]
          refine wpAnyH_take (i := 16) (oi := ⟨some 28, _, _, _, _, _⟩) (v := ?vvz232) rfl (by kernel_rfl) (by kernel_rfl) (by kernel_rfl) (fun _ _ _ h => h) (Or.inl ⟨by rfl, ?hyz232⟩) (by assumption) ?restz232
          case hyz232 => (intro w hSw; (try dsimp only at hSw); go_simp; try with_reducible rfl)
          try simp only [Act.put, List.setIfInBounds_toArray, List.set_cons_zero, List.set_cons_succ]
          refine wpAnyH_take (i := 17) (oi := ⟨some 29, _, _, _, _, _⟩) (v := ?vvz233) rfl (by kernel_rfl) (by kernel_rfl) (by kernel_rfl) (fun _ _ _ h => h) (Or.inl ⟨by rfl, ?hyz233⟩) (by assumption) ?restz233
          case hyz233 => (intro w hSw; (try dsimp only at hSw); go_simp; try with_reducible rfl)
          try simp only [Act.put, List.setIfInBounds_toArray, List.set_cons_zero, List.set_cons_succ]
          refine wpAnyH_done (by kernel_rfl) ?_ _
          refine NoPanic.normal ?_
          clear hS
          have hb2 := below2 hbW hHeld.2
          go_wp2
          go_roundw
          case rel => exact ⟨0 + 1, by omega, by go_num, hyes, hb2⟩
          case measure => simp [intOf]; omega
      · obtain ⟨q, rfl⟩ : ∃ q, k = q + 1 := ⟨k - 1, by omega⟩
        obtain ⟨y, hy⟩ : ∃ y, y = Z[q]'(by omega) := ⟨_, rfl⟩
        have hr2 := range_below (hc q (by omega)) hg hb
        rw [← hy] at hr2
        have P2 := arcAt_of hr2
        have hst : Hid (joinS Z (q + 1) = (arcB ⟨a, b, c, d, p, s⟩ && meetB y ⟨a, b, c, d, p, s⟩)) := Lib.hid (by unfold joinS; rw [getD_of _ hlt, ← hx'.out, show q + 1 - 1 = q by omega, getD_of _ (by omega : q < Z.length), ← hy, decide_eq_false (by omega : ¬ q + 1 = 0), Bool.false_or])
        have e0 : IntKind.i64.wrap ((q : Int) + 1 - 1) = (q : Int) := by rw [show (q : Int) + 1 - 1 = q by omega]; exact IntWalk.i64_in _ (by omega)
        have e00 : IntKind.i64.wrap (q : Int) = (q : Int) := IntWalk.i64_in _ (by omega)
        have hg0 : decide ((0 : Int) < (q : Int) + 1) = true := by simp <;> omega
        have hq1 : (q : Int) < (Z.length : Int) := by omega
        clear hr2 hy hc
        obtain ⟨a', b', c', d', p', s'⟩ := y
        cases hv : arcB ⟨a, b, c, d, p, s⟩
        · rw [hv] at cV0
          have cV := Lib.hid cV0
          have hno := Lib.hid (joinB_no (by rw [hst.out, hv]; rfl) hlt)
          clear cV0
          go_wp2_with (first | (refine wpList_load_mid rfl _ _ rfl g (o + (q + 1) * 6) rfl _ _ hr Try.underlying29 rfl rfl ?_))
          obtain ⟨q1, hB0, hsz⟩ := one_box wr #[.int .i64 a, .int .i64 b, .int .i64 c, .int .i64 d, .int .i64 p, .int .i64 s] 29
          generalize (wr.alloc (.cells #[.int .i64 a, .int .i64 b, .int .i64 c, .int .i64 d, .int .i64 p, .int .i64 s] 29)) = W0 at q1 hB0 hsz ⊢
          have hbW : Below w.heap.size w W0 := below2 hb hB0
          have y4 := (hB0.cell (p := ⟨g, o + q * 6 + 4, none⟩) hgr).trans P2.2.2.2.2.1
          have y5 := (hB0.cell (p := ⟨g, o + q * 6 + 5, none⟩) hgr).trans P2.2.2.2.2.2
          have hgW := Nat.lt_of_lt_of_le hgr hB0.size
          have hS : (((W0.cell? ⟨wr.heap.size, 0, none⟩ = some (.int .i64 a) ∧ W0.cell? ⟨wr.heap.size, 1, none⟩ = some (.int .i64 b) ∧ W0.cell? ⟨wr.heap.size, 2, none⟩ = some (.int .i64 c) ∧ W0.cell? ⟨wr.heap.size, 3, none⟩ = some (.int .i64 d) ∧ W0.cell? ⟨wr.heap.size, 4, none⟩ = some (.int .i64 p) ∧ W0.cell? ⟨wr.heap.size, 5, none⟩ = some (.int .i64 s)) ∧ (W0.cell? ⟨g, o + q * 6 + 4, none⟩ = some (.int .i64 p') ∧ W0.cell? ⟨g, o + q * 6 + 5, none⟩ = some (.int .i64 s'))) ∧ Below W0.heap.size W0 W0) := ⟨⟨⟨q1 0 _ rfl, q1 1 _ rfl, q1 2 _ rfl, q1 3 _ rfl, q1 4 _ rfl, q1 5 _ rfl⟩, y4, y5⟩, Below.refl _ _⟩
          clear q1 y4 y5 P2
          have keep : ∀ W1 W2, (((W1.cell? ⟨wr.heap.size, 0, none⟩ = some (.int .i64 a) ∧ W1.cell? ⟨wr.heap.size, 1, none⟩ = some (.int .i64 b) ∧ W1.cell? ⟨wr.heap.size, 2, none⟩ = some (.int .i64 c) ∧ W1.cell? ⟨wr.heap.size, 3, none⟩ = some (.int .i64 d) ∧ W1.cell? ⟨wr.heap.size, 4, none⟩ = some (.int .i64 p) ∧ W1.cell? ⟨wr.heap.size, 5, none⟩ = some (.int .i64 s)) ∧ (W1.cell? ⟨g, o + q * 6 + 4, none⟩ = some (.int .i64 p') ∧ W1.cell? ⟨g, o + q * 6 + 5, none⟩ = some (.int .i64 s'))) ∧ Below W0.heap.size W0 W1) → Below W1.heap.size W1 W2 → (((W2.cell? ⟨wr.heap.size, 0, none⟩ = some (.int .i64 a) ∧ W2.cell? ⟨wr.heap.size, 1, none⟩ = some (.int .i64 b) ∧ W2.cell? ⟨wr.heap.size, 2, none⟩ = some (.int .i64 c) ∧ W2.cell? ⟨wr.heap.size, 3, none⟩ = some (.int .i64 d) ∧ W2.cell? ⟨wr.heap.size, 4, none⟩ = some (.int .i64 p) ∧ W2.cell? ⟨wr.heap.size, 5, none⟩ = some (.int .i64 s)) ∧ (W2.cell? ⟨g, o + q * 6 + 4, none⟩ = some (.int .i64 p') ∧ W2.cell? ⟨g, o + q * 6 + 5, none⟩ = some (.int .i64 s'))) ∧ Below W0.heap.size W0 W2) := fun W1 W2 h1 h2 => by
            obtain ⟨⟨p0, p1, p2⟩, hb⟩ := h1
            have hgw := Nat.lt_of_lt_of_le hgW hb.size
            have hz := Nat.lt_of_lt_of_le hsz hb.size
            have q0 := ArcAt.below (x := ⟨a, b, c, d, p, s⟩) (o := 0) p0 hz h2
            exact ⟨⟨q0, (h2.cell (p := ⟨g, o + q * 6 + 4, none⟩) hgw).trans p1, (h2.cell (p := ⟨g, o + q * 6 + 5, none⟩) hgw).trans p2⟩, hb.trans (h2.mono hb.size)⟩
          have keepH := Lib.hid keep
          clear keep
          refine wp_region_noPanic ?_
          refine wp_region_held_drew (S := (fun w' => (((w'.cell? ⟨wr.heap.size, 0, none⟩ = some (.int .i64 a) ∧ w'.cell? ⟨wr.heap.size, 1, none⟩ = some (.int .i64 b) ∧ w'.cell? ⟨wr.heap.size, 2, none⟩ = some (.int .i64 c) ∧ w'.cell? ⟨wr.heap.size, 3, none⟩ = some (.int .i64 d) ∧ w'.cell? ⟨wr.heap.size, 4, none⟩ = some (.int .i64 p) ∧ w'.cell? ⟨wr.heap.size, 5, none⟩ = some (.int .i64 s)) ∧ (w'.cell? ⟨g, o + q * 6 + 4, none⟩ = some (.int .i64 p') ∧ w'.cell? ⟨g, o + q * 6 + 5, none⟩ = some (.int .i64 s'))) ∧ Below W0.heap.size W0 w'))) (by kernel_rfl) ?_ (fun hHeld => ?_)
          · exact ⟨hS.1, belowN hS.2 1⟩
          refine wpAnyH_take (i := 0) (oi := ⟨some 12, _, _, _, _, _⟩) (v := ?vvz234) rfl (by kernel_rfl) (by kernel_rfl) (by kernel_rfl) (fun _ _ _ h => h) (Or.inl ⟨by rfl, ?hyz234⟩) (by assumption) ?restz234
          case hyz234 => (intro w hSw; (try dsimp only at hSw); go_simp; try with_reducible rfl)
          try simp only [Act.put, List.setIfInBounds_toArray, List.set_cons_zero, List.set_cons_succ]
          refine wpAnyH_ready (rs := [1]) (by kernel_rfl) (by simp) ?_
          refine AllReadyH.cons (o := ⟨some 13, _, _, _, _, _⟩) rfl (fun K hK => ?_) AllReadyH.nil
          go_simp
          (go_at_call 17; (with_reducible refine (cV.out _).mono ?_); rintro e w' ⟨rfl, hbel⟩)
          try go_wp2_with fail
          refine hK.out _ _ ?_ (fun hHeld2 => ?_)
          · exact keepH.out _ _ (by assumption) (by assumption)
          clear hK K hHeld
          have hHeld := hHeld2
          clear hHeld2
          try simp only [Act.put, List.setIfInBounds_toArray, List.set_cons_zero, List.set_cons_succ]
          refine wpAnyH_take (i := 2) (oi := ⟨some 14, _, _, _, _, _⟩) (v := ?vvz235) rfl (by kernel_rfl) (by kernel_rfl) (by kernel_rfl) (fun _ _ _ h => h) (Or.inl ⟨by rfl, ?hyz235⟩) (by assumption) ?restz235
          case hyz235 => (intro w hSw; (try dsimp only at hSw); go_simp; try with_reducible rfl)
          try simp only [Act.put, List.setIfInBounds_toArray, List.set_cons_zero, List.set_cons_succ]
          refine wpAnyH_take (i := 3) (oi := ⟨some 15, _, _, _, _, _⟩) (v := ?vvz236) rfl (by kernel_rfl) (by kernel_rfl) (by kernel_rfl) (fun _ _ _ h => h) (Or.inl ⟨by rfl, ?hyz236⟩) (by assumption) ?restz236
          case hyz236 => (intro w hSw; (try dsimp only at hSw); go_simp; try with_reducible rfl)
          try simp only [Act.put, List.setIfInBounds_toArray, List.set_cons_zero, List.set_cons_succ]
          refine wpAnyH_take (i := 4) (oi := ⟨some 16, _, _, _, _, _⟩) (v := undef) rfl (by kernel_rfl) (by kernel_rfl) (by kernel_rfl) (fun _ _ _ h => h) (Or.inr ⟨by rfl, rfl⟩) (by assumption) ?_
          try simp only [Act.put, List.setIfInBounds_toArray, List.set_cons_zero, List.set_cons_succ]
          refine wpAnyH_take (i := 5) (oi := ⟨some 17, _, _, _, _, _⟩) (v := undef) rfl (by kernel_rfl) (by kernel_rfl) (by kernel_rfl) (fun _ _ _ h => h) (Or.inr ⟨by rfl, rfl⟩) (by assumption) ?_
          try simp only [Act.put, List.setIfInBounds_toArray, List.set_cons_zero, List.set_cons_succ]
          refine wpAnyH_take (i := 6) (oi := ⟨some 18, _, _, _, _, _⟩) (v := undef) rfl (by kernel_rfl) (by kernel_rfl) (by kernel_rfl) (fun _ _ _ h => h) (Or.inr ⟨by rfl, rfl⟩) (by assumption) ?_
          try simp only [Act.put, List.setIfInBounds_toArray, List.set_cons_zero, List.set_cons_succ]
          refine wpAnyH_take (i := 7) (oi := ⟨some 19, _, _, _, _, _⟩) (v := undef) rfl (by kernel_rfl) (by kernel_rfl) (by kernel_rfl) (fun _ _ _ h => h) (Or.inr ⟨by rfl, rfl⟩) (by assumption) ?_
          try simp only [Act.put, List.setIfInBounds_toArray, List.set_cons_zero, List.set_cons_succ]
          refine wpAnyH_take (i := 8) (oi := ⟨some 20, _, _, _, _, _⟩) (v := undef) rfl (by kernel_rfl) (by kernel_rfl) (by kernel_rfl) (fun _ _ _ h => h) (Or.inr ⟨by rfl, rfl⟩) (by assumption) ?_
          try simp only [Act.put, List.setIfInBounds_toArray, List.set_cons_zero, List.set_cons_succ]
          refine wpAnyH_take (i := 9) (oi := ⟨some 21, _, _, _, _, _⟩) (v := undef) rfl (by kernel_rfl) (by kernel_rfl) (by kernel_rfl) (fun _ _ _ h => h) (Or.inr ⟨by rfl, rfl⟩) (by assumption) ?_
          try simp only [Act.put, List.setIfInBounds_toArray, List.set_cons_zero, List.set_cons_succ]
          refine wpAnyH_take (i := 10) (oi := ⟨some 22, _, _, _, _, _⟩) (v := undef) rfl (by kernel_rfl) (by kernel_rfl) (by kernel_rfl) (fun _ _ _ h => h) (Or.inr ⟨by rfl, rfl⟩) (by assumption) ?_
          try simp only [Act.put, List.setIfInBounds_toArray, List.set_cons_zero, List.set_cons_succ]
          refine wpAnyH_take (i := 11) (oi := ⟨some 23, _, _, _, _, _⟩) (v := undef) rfl (by kernel_rfl) (by kernel_rfl) (by kernel_rfl) (fun _ _ _ h => h) (Or.inr ⟨by rfl, rfl⟩) (by assumption) ?_
          try simp only [Act.put, List.setIfInBounds_toArray, List.set_cons_zero, List.set_cons_succ]
          refine wpAnyH_take (i := 12) (oi := ⟨some 24, _, _, _, _, _⟩) (v := undef) rfl (by kernel_rfl) (by kernel_rfl) (by kernel_rfl) (fun _ _ _ h => h) (Or.inr ⟨by rfl, rfl⟩) (by assumption) ?_
          try simp only [Act.put, List.setIfInBounds_toArray, List.set_cons_zero, List.set_cons_succ]
          refine wpAnyH_take (i := 13) (oi := ⟨some 25, _, _, _, _, _⟩) (v := undef) rfl (by kernel_rfl) (by kernel_rfl) (by kernel_rfl) (fun _ _ _ h => h) (Or.inr ⟨by rfl, rfl⟩) (by assumption) ?_
          try simp only [Act.put, List.setIfInBounds_toArray, List.set_cons_zero, List.set_cons_succ]
          refine wpAnyH_take (i := 14) (oi := ⟨some 26, _, _, _, _, _⟩) (v := undef) rfl (by kernel_rfl) (by kernel_rfl) (by kernel_rfl) (fun _ _ _ h => h) (Or.inr ⟨by rfl, rfl⟩) (by assumption) ?_
          try simp only [Act.put, List.setIfInBounds_toArray, List.set_cons_zero, List.set_cons_succ]
          refine wpAnyH_take (i := 15) (oi := ⟨some 27, _, _, _, _, _⟩) (v := undef) rfl (by kernel_rfl) (by kernel_rfl) (by kernel_rfl) (fun _ _ _ h => h) (Or.inr ⟨by rfl, rfl⟩) (by assumption) ?_
          try simp only [Act.put, List.setIfInBounds_toArray, List.set_cons_zero, List.set_cons_succ]
          refine wpAnyH_take (i := 16) (oi := ⟨some 28, _, _, _, _, _⟩) (v := undef) rfl (by kernel_rfl) (by kernel_rfl) (by kernel_rfl) (fun _ _ _ h => h) (Or.inr ⟨by rfl, rfl⟩) (by assumption) ?_
          try simp only [Act.put, List.setIfInBounds_toArray, List.set_cons_zero, List.set_cons_succ]
          refine wpAnyH_take (i := 17) (oi := ⟨some 29, _, _, _, _, _⟩) (v := ?vvz237) rfl (by kernel_rfl) (by kernel_rfl) (by kernel_rfl) (fun _ _ _ h => h) (Or.inl ⟨by rfl, ?hyz237⟩) (by assumption) ?restz237
          case hyz237 => (intro w hSw; (try dsimp only at hSw); go_simp; try with_reducible rfl)
          try simp only [Act.put, List.setIfInBounds_toArray, List.set_cons_zero, List.set_cons_succ]
          refine wpAnyH_done (by kernel_rfl) ?_ _
          refine NoPanic.normal ?_
          clear hS
          have hb2 := below2 hbW hHeld.2
          go_wp2
          go_ret
          exact ⟨ret_bool hno.out.symm, hb2⟩
        rw [hv] at cV0
        have cV := Lib.hid cV0
        clear cV0
        cases e1 : p' == c
        · have hm0 : meetB ⟨a', b', c', d', p', s'⟩ ⟨a, b, c, d, p, s⟩ = false := by unfold meetB; simp only [e1]; rfl
          have hno := Lib.hid (joinB_no (by rw [hst.out, hv, hm0]; rfl) hlt)
          clear hm0
          go_wp2_with (first | (refine wpList_load_mid rfl _ _ rfl g (o + (q + 1) * 6) rfl _ _ hr Try.underlying29 rfl rfl ?_))
          obtain ⟨q1, hB0, hsz⟩ := one_box wr #[.int .i64 a, .int .i64 b, .int .i64 c, .int .i64 d, .int .i64 p, .int .i64 s] 29
          generalize (wr.alloc (.cells #[.int .i64 a, .int .i64 b, .int .i64 c, .int .i64 d, .int .i64 p, .int .i64 s] 29)) = W0 at q1 hB0 hsz ⊢
          have hbW : Below w.heap.size w W0 := below2 hb hB0
          have y4 := (hB0.cell (p := ⟨g, o + q * 6 + 4, none⟩) hgr).trans P2.2.2.2.2.1
          have y5 := (hB0.cell (p := ⟨g, o + q * 6 + 5, none⟩) hgr).trans P2.2.2.2.2.2
          have hgW := Nat.lt_of_lt_of_le hgr hB0.size
          have hS : (((W0.cell? ⟨wr.heap.size, 0, none⟩ = some (.int .i64 a) ∧ W0.cell? ⟨wr.heap.size, 1, none⟩ = some (.int .i64 b) ∧ W0.cell? ⟨wr.heap.size, 2, none⟩ = some (.int .i64 c) ∧ W0.cell? ⟨wr.heap.size, 3, none⟩ = some (.int .i64 d) ∧ W0.cell? ⟨wr.heap.size, 4, none⟩ = some (.int .i64 p) ∧ W0.cell? ⟨wr.heap.size, 5, none⟩ = some (.int .i64 s)) ∧ (W0.cell? ⟨g, o + q * 6 + 4, none⟩ = some (.int .i64 p') ∧ W0.cell? ⟨g, o + q * 6 + 5, none⟩ = some (.int .i64 s'))) ∧ Below W0.heap.size W0 W0) := ⟨⟨⟨q1 0 _ rfl, q1 1 _ rfl, q1 2 _ rfl, q1 3 _ rfl, q1 4 _ rfl, q1 5 _ rfl⟩, y4, y5⟩, Below.refl _ _⟩
          clear q1 y4 y5 P2
          have keep : ∀ W1 W2, (((W1.cell? ⟨wr.heap.size, 0, none⟩ = some (.int .i64 a) ∧ W1.cell? ⟨wr.heap.size, 1, none⟩ = some (.int .i64 b) ∧ W1.cell? ⟨wr.heap.size, 2, none⟩ = some (.int .i64 c) ∧ W1.cell? ⟨wr.heap.size, 3, none⟩ = some (.int .i64 d) ∧ W1.cell? ⟨wr.heap.size, 4, none⟩ = some (.int .i64 p) ∧ W1.cell? ⟨wr.heap.size, 5, none⟩ = some (.int .i64 s)) ∧ (W1.cell? ⟨g, o + q * 6 + 4, none⟩ = some (.int .i64 p') ∧ W1.cell? ⟨g, o + q * 6 + 5, none⟩ = some (.int .i64 s'))) ∧ Below W0.heap.size W0 W1) → Below W1.heap.size W1 W2 → (((W2.cell? ⟨wr.heap.size, 0, none⟩ = some (.int .i64 a) ∧ W2.cell? ⟨wr.heap.size, 1, none⟩ = some (.int .i64 b) ∧ W2.cell? ⟨wr.heap.size, 2, none⟩ = some (.int .i64 c) ∧ W2.cell? ⟨wr.heap.size, 3, none⟩ = some (.int .i64 d) ∧ W2.cell? ⟨wr.heap.size, 4, none⟩ = some (.int .i64 p) ∧ W2.cell? ⟨wr.heap.size, 5, none⟩ = some (.int .i64 s)) ∧ (W2.cell? ⟨g, o + q * 6 + 4, none⟩ = some (.int .i64 p') ∧ W2.cell? ⟨g, o + q * 6 + 5, none⟩ = some (.int .i64 s'))) ∧ Below W0.heap.size W0 W2) := fun W1 W2 h1 h2 => by
            obtain ⟨⟨p0, p1, p2⟩, hb⟩ := h1
            have hgw := Nat.lt_of_lt_of_le hgW hb.size
            have hz := Nat.lt_of_lt_of_le hsz hb.size
            have q0 := ArcAt.below (x := ⟨a, b, c, d, p, s⟩) (o := 0) p0 hz h2
            exact ⟨⟨q0, (h2.cell (p := ⟨g, o + q * 6 + 4, none⟩) hgw).trans p1, (h2.cell (p := ⟨g, o + q * 6 + 5, none⟩) hgw).trans p2⟩, hb.trans (h2.mono hb.size)⟩
          have keepH := Lib.hid keep
          clear keep
          refine wp_region_noPanic ?_
          refine wp_region_held_drew (S := (fun w' => (((w'.cell? ⟨wr.heap.size, 0, none⟩ = some (.int .i64 a) ∧ w'.cell? ⟨wr.heap.size, 1, none⟩ = some (.int .i64 b) ∧ w'.cell? ⟨wr.heap.size, 2, none⟩ = some (.int .i64 c) ∧ w'.cell? ⟨wr.heap.size, 3, none⟩ = some (.int .i64 d) ∧ w'.cell? ⟨wr.heap.size, 4, none⟩ = some (.int .i64 p) ∧ w'.cell? ⟨wr.heap.size, 5, none⟩ = some (.int .i64 s)) ∧ (w'.cell? ⟨g, o + q * 6 + 4, none⟩ = some (.int .i64 p') ∧ w'.cell? ⟨g, o + q * 6 + 5, none⟩ = some (.int .i64 s'))) ∧ Below W0.heap.size W0 w'))) (by kernel_rfl) ?_ (fun hHeld => ?_)
          · exact ⟨hS.1, belowN hS.2 1⟩
          refine wpAnyH_take (i := 0) (oi := ⟨some 12, _, _, _, _, _⟩) (v := ?vvz238) rfl (by kernel_rfl) (by kernel_rfl) (by kernel_rfl) (fun _ _ _ h => h) (Or.inl ⟨by rfl, ?hyz238⟩) (by assumption) ?restz238
          case hyz238 => (intro w hSw; (try dsimp only at hSw); go_simp; try with_reducible rfl)
          try simp only [Act.put, List.setIfInBounds_toArray, List.set_cons_zero, List.set_cons_succ]
          refine wpAnyH_ready (rs := [1]) (by kernel_rfl) (by simp) ?_
          refine AllReadyH.cons (o := ⟨some 13, _, _, _, _, _⟩) rfl (fun K hK => ?_) AllReadyH.nil
          go_simp
          (go_at_call 17; (with_reducible refine (cV.out _).mono ?_); rintro e w' ⟨rfl, hbel⟩)
          try go_wp2_with fail
          refine hK.out _ _ ?_ (fun hHeld2 => ?_)
          · exact keepH.out _ _ (by assumption) (by assumption)
          clear hK K hHeld
          have hHeld := hHeld2
          clear hHeld2
          try simp only [Act.put, List.setIfInBounds_toArray, List.set_cons_zero, List.set_cons_succ]
          refine wpAnyH_take (i := 2) (oi := ⟨some 14, _, _, _, _, _⟩) (v := ?vvz239) rfl (by kernel_rfl) (by kernel_rfl) (by kernel_rfl) (fun _ _ _ h => h) (Or.inl ⟨by rfl, ?hyz239⟩) (by assumption) ?restz239
          case hyz239 => (intro w hSw; (try dsimp only at hSw); go_simp; try with_reducible rfl)
          try simp only [Act.put, List.setIfInBounds_toArray, List.set_cons_zero, List.set_cons_succ]
          refine wpAnyH_take (i := 3) (oi := ⟨some 15, _, _, _, _, _⟩) (v := ?vvz240) rfl (by kernel_rfl) (by kernel_rfl) (by kernel_rfl) (fun _ _ _ h => h) (Or.inl ⟨by rfl, ?hyz240⟩) (by assumption) ?restz240
          case hyz240 => (intro w hSw; (try dsimp only at hSw); go_simp; try with_reducible rfl)
          try simp only [Act.put, List.setIfInBounds_toArray, List.set_cons_zero, List.set_cons_succ]
          refine wpAnyH_take (i := 4) (oi := ⟨some 16, _, _, _, _, _⟩) (v := ?vvz241) rfl (by kernel_rfl) (by kernel_rfl) (by kernel_rfl) (fun _ _ _ h => h) (Or.inl ⟨by rfl, ?hyz241⟩) (by assumption) ?restz241
          case hyz241 => (intro w hSw; (try dsimp only at hSw); go_simp; try with_reducible rfl)
          try simp only [Act.put, List.setIfInBounds_toArray, List.set_cons_zero, List.set_cons_succ]
          refine wpAnyH_take (i := 5) (oi := ⟨some 17, _, _, _, _, _⟩) (v := ?vvz242) rfl (by kernel_rfl) (by kernel_rfl) (by kernel_rfl) (fun _ _ _ h => h) (Or.inl ⟨by rfl, ?hyz242⟩) (by assumption) ?restz242
          case hyz242 => (intro w hSw; (try dsimp only at hSw); go_simp; try with_reducible rfl)
          try simp only [Act.put, List.setIfInBounds_toArray, List.set_cons_zero, List.set_cons_succ]
          refine wpAnyH_take (i := 6) (oi := ⟨some 18, _, _, _, _, _⟩) (v := ?vvz243) rfl (by kernel_rfl) (by kernel_rfl) (by kernel_rfl) (fun _ _ _ h => h) (Or.inl ⟨by rfl, ?hyz243⟩) (by assumption) ?restz243
          case hyz243 => (intro w hSw; (try dsimp only at hSw); go_simp; try with_reducible rfl)
          try simp only [Act.put, List.setIfInBounds_toArray, List.set_cons_zero, List.set_cons_succ]
          refine wpAnyH_take (i := 7) (oi := ⟨some 19, _, _, _, _, _⟩) (v := ?vvz244) rfl (by kernel_rfl) (by kernel_rfl) (by kernel_rfl) (fun _ _ _ h => h) (Or.inl ⟨by rfl, ?hyz244⟩) (by assumption) ?restz244
          case hyz244 => (intro w hSw; (try dsimp only at hSw); go_simp; try with_reducible rfl)
          try simp only [Act.put, List.setIfInBounds_toArray, List.set_cons_zero, List.set_cons_succ]
          refine wpAnyH_take (i := 8) (oi := ⟨some 20, _, _, _, _, _⟩) (v := ?vvz245) rfl (by kernel_rfl) (by kernel_rfl) (by kernel_rfl) (fun _ _ _ h => h) (Or.inl ⟨by rfl, ?hyz245⟩) (by assumption) ?restz245
          case hyz245 => (intro w hSw; (try dsimp only at hSw); go_simp; try with_reducible rfl)
          try simp only [Act.put, List.setIfInBounds_toArray, List.set_cons_zero, List.set_cons_succ]
          refine wpAnyH_take (i := 9) (oi := ⟨some 21, _, _, _, _, _⟩) (v := ?vvz246) rfl (by kernel_rfl) (by kernel_rfl) (by kernel_rfl) (fun _ _ _ h => h) (Or.inl ⟨by rfl, ?hyz246⟩) (by assumption) ?restz246
          case hyz246 => (intro w hSw; (try dsimp only at hSw); go_simp; try with_reducible rfl)
          try simp only [Act.put, List.setIfInBounds_toArray, List.set_cons_zero, List.set_cons_succ]
          refine wpAnyH_take (i := 10) (oi := ⟨some 22, _, _, _, _, _⟩) (v := ?vvz247) rfl (by kernel_rfl) (by kernel_rfl) (by kernel_rfl) (fun _ _ _ h => h) (Or.inl ⟨by rfl, ?hyz247⟩) (by assumption) ?restz247
          case hyz247 => (intro w hSw; (try dsimp only at hSw); go_simp; try with_reducible rfl)
          try simp only [Act.put, List.setIfInBounds_toArray, List.set_cons_zero, List.set_cons_succ]
          refine wpAnyH_take (i := 11) (oi := ⟨some 23, _, _, _, _, _⟩) (v := ?vvz248) rfl (by kernel_rfl) (by kernel_rfl) (by kernel_rfl) (fun _ _ _ h => h) (Or.inl ⟨by rfl, ?hyz248⟩) (by assumption) ?restz248
          case hyz248 => (intro w hSw; (try dsimp only at hSw); go_simp; try with_reducible rfl)
          try simp only [Act.put, List.setIfInBounds_toArray, List.set_cons_zero, List.set_cons_succ]
          refine wpAnyH_take (i := 12) (oi := ⟨some 24, _, _, _, _, _⟩) (v := ?vvz249) rfl (by kernel_rfl) (by kernel_rfl) (by kernel_rfl) (fun _ _ _ h => h) (Or.inl ⟨by rfl, ?hyz249⟩) (by assumption) ?restz249
          case hyz249 => (intro w hSw; (try dsimp only at hSw); go_simp; try with_reducible rfl)
          try simp only [Act.put, List.setIfInBounds_toArray, List.set_cons_zero, List.set_cons_succ]
          refine wpAnyH_take (i := 13) (oi := ⟨some 25, _, _, _, _, _⟩) (v := ?vvz250) rfl (by kernel_rfl) (by kernel_rfl) (by kernel_rfl) (fun _ _ _ h => h) (Or.inl ⟨by rfl, ?hyz250⟩) (by assumption) ?restz250
          case hyz250 => (intro w hSw; (try dsimp only at hSw); go_simp; try with_reducible rfl)
          try simp only [Act.put, List.setIfInBounds_toArray, List.set_cons_zero, List.set_cons_succ]
          refine wpAnyH_take (i := 14) (oi := ⟨some 26, _, _, _, _, _⟩) (v := ?vvz251) rfl (by kernel_rfl) (by kernel_rfl) (by kernel_rfl) (fun _ _ _ h => h) (Or.inl ⟨by rfl, ?hyz251⟩) (by assumption) ?restz251
          case hyz251 => (intro w hSw; (try dsimp only at hSw); go_simp; try with_reducible rfl)
          try simp only [Act.put, List.setIfInBounds_toArray, List.set_cons_zero, List.set_cons_succ]
          refine wpAnyH_take (i := 15) (oi := ⟨some 27, _, _, _, _, _⟩) (v := ?vvz252) rfl (by kernel_rfl) (by kernel_rfl) (by kernel_rfl) (fun _ _ _ h => h) (Or.inl ⟨by rfl, ?hyz252⟩) (by assumption) ?restz252
          case hyz252 => (intro w hSw; (try dsimp only at hSw); go_simp; try with_reducible rfl)
          try simp only [Act.put, List.setIfInBounds_toArray, List.set_cons_zero, List.set_cons_succ]
          refine wpAnyH_take (i := 16) (oi := ⟨some 28, _, _, _, _, _⟩) (v := ?vvz253) rfl (by kernel_rfl) (by kernel_rfl) (by kernel_rfl) (fun _ _ _ h => h) (Or.inl ⟨by rfl, ?hyz253⟩) (by assumption) ?restz253
          case hyz253 => (intro w hSw; (try dsimp only at hSw); go_simp; try with_reducible rfl)
          try simp only [Act.put, List.setIfInBounds_toArray, List.set_cons_zero, List.set_cons_succ]
          refine wpAnyH_take (i := 17) (oi := ⟨some 29, _, _, _, _, _⟩) (v := ?vvz254) rfl (by kernel_rfl) (by kernel_rfl) (by kernel_rfl) (fun _ _ _ h => h) (Or.inl ⟨by rfl, ?hyz254⟩) (by assumption) ?restz254
          case hyz254 => (intro w hSw; (try dsimp only at hSw); go_simp; try with_reducible rfl)
          try simp only [Act.put, List.setIfInBounds_toArray, List.set_cons_zero, List.set_cons_succ]
          refine wpAnyH_done (by kernel_rfl) ?_ _
          refine NoPanic.normal ?_
          clear hS
          have hb2 := below2 hbW hHeld.2
          go_wp2
          go_ret
          exact ⟨ret_bool hno.out.symm, hb2⟩
        cases e2 : s' == d
        · have hm0 : meetB ⟨a', b', c', d', p', s'⟩ ⟨a, b, c, d, p, s⟩ = false := by unfold meetB; simp only [e1, e2]; rfl
          have hno := Lib.hid (joinB_no (by rw [hst.out, hv, hm0]; rfl) hlt)
          clear hm0
          go_wp2_with (first | (refine wpList_load_mid rfl _ _ rfl g (o + (q + 1) * 6) rfl _ _ hr Try.underlying29 rfl rfl ?_))
          obtain ⟨q1, hB0, hsz⟩ := one_box wr #[.int .i64 a, .int .i64 b, .int .i64 c, .int .i64 d, .int .i64 p, .int .i64 s] 29
          generalize (wr.alloc (.cells #[.int .i64 a, .int .i64 b, .int .i64 c, .int .i64 d, .int .i64 p, .int .i64 s] 29)) = W0 at q1 hB0 hsz ⊢
          have hbW : Below w.heap.size w W0 := below2 hb hB0
          have y4 := (hB0.cell (p := ⟨g, o + q * 6 + 4, none⟩) hgr).trans P2.2.2.2.2.1
          have y5 := (hB0.cell (p := ⟨g, o + q * 6 + 5, none⟩) hgr).trans P2.2.2.2.2.2
          have hgW := Nat.lt_of_lt_of_le hgr hB0.size
          have hS : (((W0.cell? ⟨wr.heap.size, 0, none⟩ = some (.int .i64 a) ∧ W0.cell? ⟨wr.heap.size, 1, none⟩ = some (.int .i64 b) ∧ W0.cell? ⟨wr.heap.size, 2, none⟩ = some (.int .i64 c) ∧ W0.cell? ⟨wr.heap.size, 3, none⟩ = some (.int .i64 d) ∧ W0.cell? ⟨wr.heap.size, 4, none⟩ = some (.int .i64 p) ∧ W0.cell? ⟨wr.heap.size, 5, none⟩ = some (.int .i64 s)) ∧ (W0.cell? ⟨g, o + q * 6 + 4, none⟩ = some (.int .i64 p') ∧ W0.cell? ⟨g, o + q * 6 + 5, none⟩ = some (.int .i64 s'))) ∧ Below W0.heap.size W0 W0) := ⟨⟨⟨q1 0 _ rfl, q1 1 _ rfl, q1 2 _ rfl, q1 3 _ rfl, q1 4 _ rfl, q1 5 _ rfl⟩, y4, y5⟩, Below.refl _ _⟩
          clear q1 y4 y5 P2
          have keep : ∀ W1 W2, (((W1.cell? ⟨wr.heap.size, 0, none⟩ = some (.int .i64 a) ∧ W1.cell? ⟨wr.heap.size, 1, none⟩ = some (.int .i64 b) ∧ W1.cell? ⟨wr.heap.size, 2, none⟩ = some (.int .i64 c) ∧ W1.cell? ⟨wr.heap.size, 3, none⟩ = some (.int .i64 d) ∧ W1.cell? ⟨wr.heap.size, 4, none⟩ = some (.int .i64 p) ∧ W1.cell? ⟨wr.heap.size, 5, none⟩ = some (.int .i64 s)) ∧ (W1.cell? ⟨g, o + q * 6 + 4, none⟩ = some (.int .i64 p') ∧ W1.cell? ⟨g, o + q * 6 + 5, none⟩ = some (.int .i64 s'))) ∧ Below W0.heap.size W0 W1) → Below W1.heap.size W1 W2 → (((W2.cell? ⟨wr.heap.size, 0, none⟩ = some (.int .i64 a) ∧ W2.cell? ⟨wr.heap.size, 1, none⟩ = some (.int .i64 b) ∧ W2.cell? ⟨wr.heap.size, 2, none⟩ = some (.int .i64 c) ∧ W2.cell? ⟨wr.heap.size, 3, none⟩ = some (.int .i64 d) ∧ W2.cell? ⟨wr.heap.size, 4, none⟩ = some (.int .i64 p) ∧ W2.cell? ⟨wr.heap.size, 5, none⟩ = some (.int .i64 s)) ∧ (W2.cell? ⟨g, o + q * 6 + 4, none⟩ = some (.int .i64 p') ∧ W2.cell? ⟨g, o + q * 6 + 5, none⟩ = some (.int .i64 s'))) ∧ Below W0.heap.size W0 W2) := fun W1 W2 h1 h2 => by
            obtain ⟨⟨p0, p1, p2⟩, hb⟩ := h1
            have hgw := Nat.lt_of_lt_of_le hgW hb.size
            have hz := Nat.lt_of_lt_of_le hsz hb.size
            have q0 := ArcAt.below (x := ⟨a, b, c, d, p, s⟩) (o := 0) p0 hz h2
            exact ⟨⟨q0, (h2.cell (p := ⟨g, o + q * 6 + 4, none⟩) hgw).trans p1, (h2.cell (p := ⟨g, o + q * 6 + 5, none⟩) hgw).trans p2⟩, hb.trans (h2.mono hb.size)⟩
          have keepH := Lib.hid keep
          clear keep
          refine wp_region_noPanic ?_
          refine wp_region_held_drew (S := (fun w' => (((w'.cell? ⟨wr.heap.size, 0, none⟩ = some (.int .i64 a) ∧ w'.cell? ⟨wr.heap.size, 1, none⟩ = some (.int .i64 b) ∧ w'.cell? ⟨wr.heap.size, 2, none⟩ = some (.int .i64 c) ∧ w'.cell? ⟨wr.heap.size, 3, none⟩ = some (.int .i64 d) ∧ w'.cell? ⟨wr.heap.size, 4, none⟩ = some (.int .i64 p) ∧ w'.cell? ⟨wr.heap.size, 5, none⟩ = some (.int .i64 s)) ∧ (w'.cell? ⟨g, o + q * 6 + 4, none⟩ = some (.int .i64 p') ∧ w'.cell? ⟨g, o + q * 6 + 5, none⟩ = some (.int .i64 s'))) ∧ Below W0.heap.size W0 w'))) (by kernel_rfl) ?_ (fun hHeld => ?_)
          · exact ⟨hS.1, belowN hS.2 1⟩
          refine wpAnyH_take (i := 0) (oi := ⟨some 12, _, _, _, _, _⟩) (v := ?vvz255) rfl (by kernel_rfl) (by kernel_rfl) (by kernel_rfl) (fun _ _ _ h => h) (Or.inl ⟨by rfl, ?hyz255⟩) (by assumption) ?restz255
          case hyz255 => (intro w hSw; (try dsimp only at hSw); go_simp; try with_reducible rfl)
          try simp only [Act.put, List.setIfInBounds_toArray, List.set_cons_zero, List.set_cons_succ]
          refine wpAnyH_ready (rs := [1]) (by kernel_rfl) (by simp) ?_
          refine AllReadyH.cons (o := ⟨some 13, _, _, _, _, _⟩) rfl (fun K hK => ?_) AllReadyH.nil
          go_simp
          (go_at_call 17; (with_reducible refine (cV.out _).mono ?_); rintro e w' ⟨rfl, hbel⟩)
          try go_wp2_with fail
          refine hK.out _ _ ?_ (fun hHeld2 => ?_)
          · exact keepH.out _ _ (by assumption) (by assumption)
          clear hK K hHeld
          have hHeld := hHeld2
          clear hHeld2
          try simp only [Act.put, List.setIfInBounds_toArray, List.set_cons_zero, List.set_cons_succ]
          refine wpAnyH_take (i := 2) (oi := ⟨some 14, _, _, _, _, _⟩) (v := ?vvz256) rfl (by kernel_rfl) (by kernel_rfl) (by kernel_rfl) (fun _ _ _ h => h) (Or.inl ⟨by rfl, ?hyz256⟩) (by assumption) ?restz256
          case hyz256 => (intro w hSw; (try dsimp only at hSw); go_simp; try with_reducible rfl)
          try simp only [Act.put, List.setIfInBounds_toArray, List.set_cons_zero, List.set_cons_succ]
          refine wpAnyH_take (i := 3) (oi := ⟨some 15, _, _, _, _, _⟩) (v := ?vvz257) rfl (by kernel_rfl) (by kernel_rfl) (by kernel_rfl) (fun _ _ _ h => h) (Or.inl ⟨by rfl, ?hyz257⟩) (by assumption) ?restz257
          case hyz257 => (intro w hSw; (try dsimp only at hSw); go_simp; try with_reducible rfl)
          try simp only [Act.put, List.setIfInBounds_toArray, List.set_cons_zero, List.set_cons_succ]
          refine wpAnyH_take (i := 4) (oi := ⟨some 16, _, _, _, _, _⟩) (v := ?vvz258) rfl (by kernel_rfl) (by kernel_rfl) (by kernel_rfl) (fun _ _ _ h => h) (Or.inl ⟨by rfl, ?hyz258⟩) (by assumption) ?restz258
          case hyz258 => (intro w hSw; (try dsimp only at hSw); go_simp; try with_reducible rfl)
          try simp only [Act.put, List.setIfInBounds_toArray, List.set_cons_zero, List.set_cons_succ]
          refine wpAnyH_take (i := 5) (oi := ⟨some 17, _, _, _, _, _⟩) (v := ?vvz259) rfl (by kernel_rfl) (by kernel_rfl) (by kernel_rfl) (fun _ _ _ h => h) (Or.inl ⟨by rfl, ?hyz259⟩) (by assumption) ?restz259
          case hyz259 => (intro w hSw; (try dsimp only at hSw); go_simp; try with_reducible rfl)
          try simp only [Act.put, List.setIfInBounds_toArray, List.set_cons_zero, List.set_cons_succ]
          refine wpAnyH_take (i := 6) (oi := ⟨some 18, _, _, _, _, _⟩) (v := ?vvz260) rfl (by kernel_rfl) (by kernel_rfl) (by kernel_rfl) (fun _ _ _ h => h) (Or.inl ⟨by rfl, ?hyz260⟩) (by assumption) ?restz260
          case hyz260 => (intro w hSw; (try dsimp only at hSw); go_simp; try with_reducible rfl)
          try simp only [Act.put, List.setIfInBounds_toArray, List.set_cons_zero, List.set_cons_succ]
          refine wpAnyH_take (i := 7) (oi := ⟨some 19, _, _, _, _, _⟩) (v := ?vvz261) rfl (by kernel_rfl) (by kernel_rfl) (by kernel_rfl) (fun _ _ _ h => h) (Or.inl ⟨by rfl, ?hyz261⟩) (by assumption) ?restz261
          case hyz261 => (intro w hSw; (try dsimp only at hSw); go_simp; try with_reducible rfl)
          try simp only [Act.put, List.setIfInBounds_toArray, List.set_cons_zero, List.set_cons_succ]
          refine wpAnyH_take (i := 8) (oi := ⟨some 20, _, _, _, _, _⟩) (v := ?vvz262) rfl (by kernel_rfl) (by kernel_rfl) (by kernel_rfl) (fun _ _ _ h => h) (Or.inl ⟨by rfl, ?hyz262⟩) (by assumption) ?restz262
          case hyz262 => (intro w hSw; (try dsimp only at hSw); go_simp; try with_reducible rfl)
          try simp only [Act.put, List.setIfInBounds_toArray, List.set_cons_zero, List.set_cons_succ]
          refine wpAnyH_take (i := 9) (oi := ⟨some 21, _, _, _, _, _⟩) (v := ?vvz263) rfl (by kernel_rfl) (by kernel_rfl) (by kernel_rfl) (fun _ _ _ h => h) (Or.inl ⟨by rfl, ?hyz263⟩) (by assumption) ?restz263
          case hyz263 => (intro w hSw; (try dsimp only at hSw); go_simp; try with_reducible rfl)
          try simp only [Act.put, List.setIfInBounds_toArray, List.set_cons_zero, List.set_cons_succ]
          refine wpAnyH_take (i := 10) (oi := ⟨some 22, _, _, _, _, _⟩) (v := ?vvz264) rfl (by kernel_rfl) (by kernel_rfl) (by kernel_rfl) (fun _ _ _ h => h) (Or.inl ⟨by rfl, ?hyz264⟩) (by assumption) ?restz264
          case hyz264 => (intro w hSw; (try dsimp only at hSw); go_simp; try with_reducible rfl)
          try simp only [Act.put, List.setIfInBounds_toArray, List.set_cons_zero, List.set_cons_succ]
          refine wpAnyH_take (i := 11) (oi := ⟨some 23, _, _, _, _, _⟩) (v := ?vvz265) rfl (by kernel_rfl) (by kernel_rfl) (by kernel_rfl) (fun _ _ _ h => h) (Or.inl ⟨by rfl, ?hyz265⟩) (by assumption) ?restz265
          case hyz265 => (intro w hSw; (try dsimp only at hSw); go_simp; try with_reducible rfl)
          try simp only [Act.put, List.setIfInBounds_toArray, List.set_cons_zero, List.set_cons_succ]
          refine wpAnyH_take (i := 12) (oi := ⟨some 24, _, _, _, _, _⟩) (v := ?vvz266) rfl (by kernel_rfl) (by kernel_rfl) (by kernel_rfl) (fun _ _ _ h => h) (Or.inl ⟨by rfl, ?hyz266⟩) (by assumption) ?restz266
          case hyz266 => (intro w hSw; (try dsimp only at hSw); go_simp; try with_reducible rfl)
          try simp only [Act.put, List.setIfInBounds_toArray, List.set_cons_zero, List.set_cons_succ]
          refine wpAnyH_take (i := 13) (oi := ⟨some 25, _, _, _, _, _⟩) (v := ?vvz267) rfl (by kernel_rfl) (by kernel_rfl) (by kernel_rfl) (fun _ _ _ h => h) (Or.inl ⟨by rfl, ?hyz267⟩) (by assumption) ?restz267
          case hyz267 => (intro w hSw; (try dsimp only at hSw); go_simp; try with_reducible rfl)
          try simp only [Act.put, List.setIfInBounds_toArray, List.set_cons_zero, List.set_cons_succ]
          refine wpAnyH_take (i := 14) (oi := ⟨some 26, _, _, _, _, _⟩) (v := ?vvz268) rfl (by kernel_rfl) (by kernel_rfl) (by kernel_rfl) (fun _ _ _ h => h) (Or.inl ⟨by rfl, ?hyz268⟩) (by assumption) ?restz268
          case hyz268 => (intro w hSw; (try dsimp only at hSw); go_simp; try with_reducible rfl)
          try simp only [Act.put, List.setIfInBounds_toArray, List.set_cons_zero, List.set_cons_succ]
          refine wpAnyH_take (i := 15) (oi := ⟨some 27, _, _, _, _, _⟩) (v := ?vvz269) rfl (by kernel_rfl) (by kernel_rfl) (by kernel_rfl) (fun _ _ _ h => h) (Or.inl ⟨by rfl, ?hyz269⟩) (by assumption) ?restz269
          case hyz269 => (intro w hSw; (try dsimp only at hSw); go_simp; try with_reducible rfl)
          try simp only [Act.put, List.setIfInBounds_toArray, List.set_cons_zero, List.set_cons_succ]
          refine wpAnyH_take (i := 16) (oi := ⟨some 28, _, _, _, _, _⟩) (v := ?vvz270) rfl (by kernel_rfl) (by kernel_rfl) (by kernel_rfl) (fun _ _ _ h => h) (Or.inl ⟨by rfl, ?hyz270⟩) (by assumption) ?restz270
          case hyz270 => (intro w hSw; (try dsimp only at hSw); go_simp; try with_reducible rfl)
          try simp only [Act.put, List.setIfInBounds_toArray, List.set_cons_zero, List.set_cons_succ]
          refine wpAnyH_take (i := 17) (oi := ⟨some 29, _, _, _, _, _⟩) (v := ?vvz271) rfl (by kernel_rfl) (by kernel_rfl) (by kernel_rfl) (fun _ _ _ h => h) (Or.inl ⟨by rfl, ?hyz271⟩) (by assumption) ?restz271
          case hyz271 => (intro w hSw; (try dsimp only at hSw); go_simp; try with_reducible rfl)
          try simp only [Act.put, List.setIfInBounds_toArray, List.set_cons_zero, List.set_cons_succ]
          refine wpAnyH_done (by kernel_rfl) ?_ _
          refine NoPanic.normal ?_
          clear hS
          have hb2 := below2 hbW hHeld.2
          go_wp2
          go_ret
          exact ⟨ret_bool hno.out.symm, hb2⟩
        have hm0 : meetB ⟨a', b', c', d', p', s'⟩ ⟨a, b, c, d, p, s⟩ = true := by unfold meetB; simp only [e1, e2]; rfl
        have hyes := Lib.hid (allK_yes hok.out (by rw [hst.out, hv, hm0]; rfl))
        clear hm0
        go_wp2_with (first | (refine wpList_load_mid rfl _ _ rfl g (o + (q + 1) * 6) rfl _ _ hr Try.underlying29 rfl rfl ?_))
        obtain ⟨q1, hB0, hsz⟩ := one_box wr #[.int .i64 a, .int .i64 b, .int .i64 c, .int .i64 d, .int .i64 p, .int .i64 s] 29
        generalize (wr.alloc (.cells #[.int .i64 a, .int .i64 b, .int .i64 c, .int .i64 d, .int .i64 p, .int .i64 s] 29)) = W0 at q1 hB0 hsz ⊢
        have hbW : Below w.heap.size w W0 := below2 hb hB0
        have y4 := (hB0.cell (p := ⟨g, o + q * 6 + 4, none⟩) hgr).trans P2.2.2.2.2.1
        have y5 := (hB0.cell (p := ⟨g, o + q * 6 + 5, none⟩) hgr).trans P2.2.2.2.2.2
        have hgW := Nat.lt_of_lt_of_le hgr hB0.size
        have hS : (((W0.cell? ⟨wr.heap.size, 0, none⟩ = some (.int .i64 a) ∧ W0.cell? ⟨wr.heap.size, 1, none⟩ = some (.int .i64 b) ∧ W0.cell? ⟨wr.heap.size, 2, none⟩ = some (.int .i64 c) ∧ W0.cell? ⟨wr.heap.size, 3, none⟩ = some (.int .i64 d) ∧ W0.cell? ⟨wr.heap.size, 4, none⟩ = some (.int .i64 p) ∧ W0.cell? ⟨wr.heap.size, 5, none⟩ = some (.int .i64 s)) ∧ (W0.cell? ⟨g, o + q * 6 + 4, none⟩ = some (.int .i64 p') ∧ W0.cell? ⟨g, o + q * 6 + 5, none⟩ = some (.int .i64 s'))) ∧ Below W0.heap.size W0 W0) := ⟨⟨⟨q1 0 _ rfl, q1 1 _ rfl, q1 2 _ rfl, q1 3 _ rfl, q1 4 _ rfl, q1 5 _ rfl⟩, y4, y5⟩, Below.refl _ _⟩
        clear q1 y4 y5 P2
        have keep : ∀ W1 W2, (((W1.cell? ⟨wr.heap.size, 0, none⟩ = some (.int .i64 a) ∧ W1.cell? ⟨wr.heap.size, 1, none⟩ = some (.int .i64 b) ∧ W1.cell? ⟨wr.heap.size, 2, none⟩ = some (.int .i64 c) ∧ W1.cell? ⟨wr.heap.size, 3, none⟩ = some (.int .i64 d) ∧ W1.cell? ⟨wr.heap.size, 4, none⟩ = some (.int .i64 p) ∧ W1.cell? ⟨wr.heap.size, 5, none⟩ = some (.int .i64 s)) ∧ (W1.cell? ⟨g, o + q * 6 + 4, none⟩ = some (.int .i64 p') ∧ W1.cell? ⟨g, o + q * 6 + 5, none⟩ = some (.int .i64 s'))) ∧ Below W0.heap.size W0 W1) → Below W1.heap.size W1 W2 → (((W2.cell? ⟨wr.heap.size, 0, none⟩ = some (.int .i64 a) ∧ W2.cell? ⟨wr.heap.size, 1, none⟩ = some (.int .i64 b) ∧ W2.cell? ⟨wr.heap.size, 2, none⟩ = some (.int .i64 c) ∧ W2.cell? ⟨wr.heap.size, 3, none⟩ = some (.int .i64 d) ∧ W2.cell? ⟨wr.heap.size, 4, none⟩ = some (.int .i64 p) ∧ W2.cell? ⟨wr.heap.size, 5, none⟩ = some (.int .i64 s)) ∧ (W2.cell? ⟨g, o + q * 6 + 4, none⟩ = some (.int .i64 p') ∧ W2.cell? ⟨g, o + q * 6 + 5, none⟩ = some (.int .i64 s'))) ∧ Below W0.heap.size W0 W2) := fun W1 W2 h1 h2 => by
          obtain ⟨⟨p0, p1, p2⟩, hb⟩ := h1
          have hgw := Nat.lt_of_lt_of_le hgW hb.size
          have hz := Nat.lt_of_lt_of_le hsz hb.size
          have q0 := ArcAt.below (x := ⟨a, b, c, d, p, s⟩) (o := 0) p0 hz h2
          exact ⟨⟨q0, (h2.cell (p := ⟨g, o + q * 6 + 4, none⟩) hgw).trans p1, (h2.cell (p := ⟨g, o + q * 6 + 5, none⟩) hgw).trans p2⟩, hb.trans (h2.mono hb.size)⟩
        have keepH := Lib.hid keep
        clear keep
        refine wp_region_noPanic ?_
        refine wp_region_held_drew (S := (fun w' => (((w'.cell? ⟨wr.heap.size, 0, none⟩ = some (.int .i64 a) ∧ w'.cell? ⟨wr.heap.size, 1, none⟩ = some (.int .i64 b) ∧ w'.cell? ⟨wr.heap.size, 2, none⟩ = some (.int .i64 c) ∧ w'.cell? ⟨wr.heap.size, 3, none⟩ = some (.int .i64 d) ∧ w'.cell? ⟨wr.heap.size, 4, none⟩ = some (.int .i64 p) ∧ w'.cell? ⟨wr.heap.size, 5, none⟩ = some (.int .i64 s)) ∧ (w'.cell? ⟨g, o + q * 6 + 4, none⟩ = some (.int .i64 p') ∧ w'.cell? ⟨g, o + q * 6 + 5, none⟩ = some (.int .i64 s'))) ∧ Below W0.heap.size W0 w'))) (by kernel_rfl) ?_ (fun hHeld => ?_)
        · exact ⟨hS.1, belowN hS.2 1⟩
        refine wpAnyH_take (i := 0) (oi := ⟨some 12, _, _, _, _, _⟩) (v := ?vvz272) rfl (by kernel_rfl) (by kernel_rfl) (by kernel_rfl) (fun _ _ _ h => h) (Or.inl ⟨by rfl, ?hyz272⟩) (by assumption) ?restz272
        case hyz272 => (intro w hSw; (try dsimp only at hSw); go_simp; try with_reducible rfl)
        try simp only [Act.put, List.setIfInBounds_toArray, List.set_cons_zero, List.set_cons_succ]
        refine wpAnyH_ready (rs := [1]) (by kernel_rfl) (by simp) ?_
        refine AllReadyH.cons (o := ⟨some 13, _, _, _, _, _⟩) rfl (fun K hK => ?_) AllReadyH.nil
        go_simp
        (go_at_call 17; (with_reducible refine (cV.out _).mono ?_); rintro e w' ⟨rfl, hbel⟩)
        try go_wp2_with fail
        refine hK.out _ _ ?_ (fun hHeld2 => ?_)
        · exact keepH.out _ _ (by assumption) (by assumption)
        clear hK K hHeld
        have hHeld := hHeld2
        clear hHeld2
        try simp only [Act.put, List.setIfInBounds_toArray, List.set_cons_zero, List.set_cons_succ]
        refine wpAnyH_take (i := 2) (oi := ⟨some 14, _, _, _, _, _⟩) (v := ?vvz273) rfl (by kernel_rfl) (by kernel_rfl) (by kernel_rfl) (fun _ _ _ h => h) (Or.inl ⟨by rfl, ?hyz273⟩) (by assumption) ?restz273
        case hyz273 => (intro w hSw; (try dsimp only at hSw); go_simp; try with_reducible rfl)
        try simp only [Act.put, List.setIfInBounds_toArray, List.set_cons_zero, List.set_cons_succ]
        refine wpAnyH_take (i := 3) (oi := ⟨some 15, _, _, _, _, _⟩) (v := ?vvz274) rfl (by kernel_rfl) (by kernel_rfl) (by kernel_rfl) (fun _ _ _ h => h) (Or.inl ⟨by rfl, ?hyz274⟩) (by assumption) ?restz274
        case hyz274 => (intro w hSw; (try dsimp only at hSw); go_simp; try with_reducible rfl)
        try simp only [Act.put, List.setIfInBounds_toArray, List.set_cons_zero, List.set_cons_succ]
        refine wpAnyH_take (i := 4) (oi := ⟨some 16, _, _, _, _, _⟩) (v := ?vvz275) rfl (by kernel_rfl) (by kernel_rfl) (by kernel_rfl) (fun _ _ _ h => h) (Or.inl ⟨by rfl, ?hyz275⟩) (by assumption) ?restz275
        case hyz275 => (intro w hSw; (try dsimp only at hSw); go_simp; try with_reducible rfl)
        try simp only [Act.put, List.setIfInBounds_toArray, List.set_cons_zero, List.set_cons_succ]
        refine wpAnyH_take (i := 5) (oi := ⟨some 17, _, _, _, _, _⟩) (v := ?vvz276) rfl (by kernel_rfl) (by kernel_rfl) (by kernel_rfl) (fun _ _ _ h => h) (Or.inl ⟨by rfl, ?hyz276⟩) (by assumption) ?restz276
        case hyz276 => (intro w hSw; (try dsimp only at hSw); go_simp; try with_reducible rfl)
        try simp only [Act.put, List.setIfInBounds_toArray, List.set_cons_zero, List.set_cons_succ]
        refine wpAnyH_take (i := 6) (oi := ⟨some 18, _, _, _, _, _⟩) (v := ?vvz277) rfl (by kernel_rfl) (by kernel_rfl) (by kernel_rfl) (fun _ _ _ h => h) (Or.inl ⟨by rfl, ?hyz277⟩) (by assumption) ?restz277
        case hyz277 => (intro w hSw; (try dsimp only at hSw); go_simp; try with_reducible rfl)
        try simp only [Act.put, List.setIfInBounds_toArray, List.set_cons_zero, List.set_cons_succ]
        refine wpAnyH_take (i := 7) (oi := ⟨some 19, _, _, _, _, _⟩) (v := ?vvz278) rfl (by kernel_rfl) (by kernel_rfl) (by kernel_rfl) (fun _ _ _ h => h) (Or.inl ⟨by rfl, ?hyz278⟩) (by assumption) ?restz278
        case hyz278 => (intro w hSw; (try dsimp only at hSw); go_simp; try with_reducible rfl)
        try simp only [Act.put, List.setIfInBounds_toArray, List.set_cons_zero, List.set_cons_succ]
        refine wpAnyH_take (i := 8) (oi := ⟨some 20, _, _, _, _, _⟩) (v := ?vvz279) rfl (by kernel_rfl) (by kernel_rfl) (by kernel_rfl) (fun _ _ _ h => h) (Or.inl ⟨by rfl, ?hyz279⟩) (by assumption) ?restz279
        case hyz279 => (intro w hSw; (try dsimp only at hSw); go_simp; try with_reducible rfl)
        try simp only [Act.put, List.setIfInBounds_toArray, List.set_cons_zero, List.set_cons_succ]
        refine wpAnyH_take (i := 9) (oi := ⟨some 21, _, _, _, _, _⟩) (v := ?vvz280) rfl (by kernel_rfl) (by kernel_rfl) (by kernel_rfl) (fun _ _ _ h => h) (Or.inl ⟨by rfl, ?hyz280⟩) (by assumption) ?restz280
        case hyz280 => (intro w hSw; (try dsimp only at hSw); go_simp; try with_reducible rfl)
        try simp only [Act.put, List.setIfInBounds_toArray, List.set_cons_zero, List.set_cons_succ]
        refine wpAnyH_take (i := 10) (oi := ⟨some 22, _, _, _, _, _⟩) (v := ?vvz281) rfl (by kernel_rfl) (by kernel_rfl) (by kernel_rfl) (fun _ _ _ h => h) (Or.inl ⟨by rfl, ?hyz281⟩) (by assumption) ?restz281
        case hyz281 => (intro w hSw; (try dsimp only at hSw); go_simp; try with_reducible rfl)
        try simp only [Act.put, List.setIfInBounds_toArray, List.set_cons_zero, List.set_cons_succ]
        refine wpAnyH_take (i := 11) (oi := ⟨some 23, _, _, _, _, _⟩) (v := ?vvz282) rfl (by kernel_rfl) (by kernel_rfl) (by kernel_rfl) (fun _ _ _ h => h) (Or.inl ⟨by rfl, ?hyz282⟩) (by assumption) ?restz282
        case hyz282 => (intro w hSw; (try dsimp only at hSw); go_simp; try with_reducible rfl)
        try simp only [Act.put, List.setIfInBounds_toArray, List.set_cons_zero, List.set_cons_succ]
        refine wpAnyH_take (i := 12) (oi := ⟨some 24, _, _, _, _, _⟩) (v := ?vvz283) rfl (by kernel_rfl) (by kernel_rfl) (by kernel_rfl) (fun _ _ _ h => h) (Or.inl ⟨by rfl, ?hyz283⟩) (by assumption) ?restz283
        case hyz283 => (intro w hSw; (try dsimp only at hSw); go_simp; try with_reducible rfl)
        try simp only [Act.put, List.setIfInBounds_toArray, List.set_cons_zero, List.set_cons_succ]
        refine wpAnyH_take (i := 13) (oi := ⟨some 25, _, _, _, _, _⟩) (v := ?vvz284) rfl (by kernel_rfl) (by kernel_rfl) (by kernel_rfl) (fun _ _ _ h => h) (Or.inl ⟨by rfl, ?hyz284⟩) (by assumption) ?restz284
        case hyz284 => (intro w hSw; (try dsimp only at hSw); go_simp; try with_reducible rfl)
        try simp only [Act.put, List.setIfInBounds_toArray, List.set_cons_zero, List.set_cons_succ]
        refine wpAnyH_take (i := 14) (oi := ⟨some 26, _, _, _, _, _⟩) (v := ?vvz285) rfl (by kernel_rfl) (by kernel_rfl) (by kernel_rfl) (fun _ _ _ h => h) (Or.inl ⟨by rfl, ?hyz285⟩) (by assumption) ?restz285
        case hyz285 => (intro w hSw; (try dsimp only at hSw); go_simp; try with_reducible rfl)
        try simp only [Act.put, List.setIfInBounds_toArray, List.set_cons_zero, List.set_cons_succ]
        refine wpAnyH_take (i := 15) (oi := ⟨some 27, _, _, _, _, _⟩) (v := ?vvz286) rfl (by kernel_rfl) (by kernel_rfl) (by kernel_rfl) (fun _ _ _ h => h) (Or.inl ⟨by rfl, ?hyz286⟩) (by assumption) ?restz286
        case hyz286 => (intro w hSw; (try dsimp only at hSw); go_simp; try with_reducible rfl)
        try simp only [Act.put, List.setIfInBounds_toArray, List.set_cons_zero, List.set_cons_succ]
        refine wpAnyH_take (i := 16) (oi := ⟨some 28, _, _, _, _, _⟩) (v := ?vvz287) rfl (by kernel_rfl) (by kernel_rfl) (by kernel_rfl) (fun _ _ _ h => h) (Or.inl ⟨by rfl, ?hyz287⟩) (by assumption) ?restz287
        case hyz287 => (intro w hSw; (try dsimp only at hSw); go_simp; try with_reducible rfl)
        try simp only [Act.put, List.setIfInBounds_toArray, List.set_cons_zero, List.set_cons_succ]
        refine wpAnyH_take (i := 17) (oi := ⟨some 29, _, _, _, _, _⟩) (v := ?vvz288) rfl (by kernel_rfl) (by kernel_rfl) (by kernel_rfl) (fun _ _ _ h => h) (Or.inl ⟨by rfl, ?hyz288⟩) (by assumption) ?restz288
        case hyz288 => (intro w hSw; (try dsimp only at hSw); go_simp; try with_reducible rfl)
        try simp only [Act.put, List.setIfInBounds_toArray, List.set_cons_zero, List.set_cons_succ]
        refine wpAnyH_done (by kernel_rfl) ?_ _
        refine NoPanic.normal ?_
        clear hS
        have hb2 := below2 hbW hHeld.2
        go_wp2
        go_roundw
        case rel => exact ⟨(q + 1) + 1, by omega, by go_num, hyes, hb2⟩
        case measure => simp [intOf]; omega
    · obtain rfl : k = Z.length := by omega
      go_wp2
      go_ret
      exact ⟨ret_bool (by unfold joinB; rw [hok.out]), hb⟩
end Go.Proofs.Ytdgkpghecfpgoaa
