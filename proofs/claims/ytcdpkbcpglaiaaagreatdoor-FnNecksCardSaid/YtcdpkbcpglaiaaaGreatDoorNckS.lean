/-
  Necks: ShimFor, by the program.
-/
import Derived.Test.YtcdpkbcpglaiaaaGreatDoorNckQ
namespace Go.Proofs.YtcdpkbcpglaiaaaGreatDoor
open Go.ChangeShapes Go.WideShapes Go.ChangeAt Go.RowKit Go.Deep
set_option linter.unusedVariables false
set_option linter.unusedSimpArgs false
set_option maxRecDepth 1000000
set_option maxHeartbeats 6400000 in
theorem implShimFor_any (a : Int) (b : Int) (c : Int) (d : Int) (z y : Int) (w : World) : Calls Tryz.prog 9 #[.agg #[.int .i64 a, .int .i64 b, .int .i64 c, .int .i64 d], .int .i64 z, .int .i64 y] w fun e w' => e = .returned (.tuple #[.int .i64 (pick (nckB ⟨a, b, c, d⟩ && (inB z 0 2000 && inB y 1 1000)) (shV b c d z y)), .int .i64 (cd3 (nckB ⟨a, b, c, d⟩) (inB z 0 2000 && inB y 1 1000) (shC b c d z y))]) ∧ Below w.heap.size w w' := by
  have c2 := Lib.hid (fun W => isNeckHeight_any z W)
  have c3 := Lib.hid (fun W => within64_any y 1 1000 W)
  cases h2 : inB z 0 2000 <;> rw [h2] at c2
  · cases h1 : nckB ⟨a, b, c, d⟩
    · have cC : Hid (∀ W : World, Calls Tryz.prog 22 #[.bool false, .slice (some ⟨W.heap.size, 0, none⟩) 1 1] (W.alloc (.cells #[.int .i64 a, .int .i64 b, .int .i64 c, .int .i64 d] 25)).drew fun e w' => e = .returned (.int .i64 1) ∧ Below (W.alloc (.cells #[.int .i64 a, .int .i64 b, .int .i64 c, .int .i64 d] 25)).drew.heap.size (W.alloc (.cells #[.int .i64 a, .int .i64 b, .int .i64 c, .int .i64 d] 25)).drew w') := Lib.hid (fun W => by have h9 := codeOf1d_any a b c d false W; rw [h1] at h9; exact h9)
      clear h1 h2
      go_enter Tryz.func9, Tryz.ntmps9
      go_wp2_with fail
      obtain ⟨hS0, hB0, hsz⟩ := nk_box3 a b c d z y w
      generalize (((w.alloc (.cells #[.int .i64 a, .int .i64 b, .int .i64 c, .int .i64 d] 25)).alloc (.cells #[.int .i64 z] 2)).alloc (.cells #[.int .i64 y] 2)) = W0 at hS0 hB0 hsz ⊢
      have keep : ∀ W1 W2, (((W1.cell? ⟨w.heap.size, 0, none⟩ = some (.int .i64 a) ∧ W1.cell? ⟨w.heap.size, 1, none⟩ = some (.int .i64 b) ∧ W1.cell? ⟨w.heap.size, 2, none⟩ = some (.int .i64 c) ∧ W1.cell? ⟨w.heap.size, 3, none⟩ = some (.int .i64 d)) ∧ W1.cell? ⟨(w.heap.size + 1), 0, none⟩ = some (.int .i64 z) ∧ W1.cell? ⟨(w.heap.size + 2), 0, none⟩ = some (.int .i64 y)) ∧ Below W0.heap.size W0 W1) → Below W1.heap.size W1 W2 → (((W2.cell? ⟨w.heap.size, 0, none⟩ = some (.int .i64 a) ∧ W2.cell? ⟨w.heap.size, 1, none⟩ = some (.int .i64 b) ∧ W2.cell? ⟨w.heap.size, 2, none⟩ = some (.int .i64 c) ∧ W2.cell? ⟨w.heap.size, 3, none⟩ = some (.int .i64 d)) ∧ W2.cell? ⟨(w.heap.size + 1), 0, none⟩ = some (.int .i64 z) ∧ W2.cell? ⟨(w.heap.size + 2), 0, none⟩ = some (.int .i64 y)) ∧ Below W0.heap.size W0 W2) := fun W1 W2 h1 h2 => by
        obtain ⟨⟨p0, p1, p2⟩, hb⟩ := h1
        have q0 := NckAt.below (x := ⟨a, b, c, d⟩) (o := 0) p0 (Nat.lt_of_lt_of_le (show w.heap.size < W0.heap.size by omega) hb.size) h2
        have q1 := (h2.cell (p := ⟨(w.heap.size + 1), 0, none⟩) (Nat.lt_of_lt_of_le (show w.heap.size + 1 < W0.heap.size by omega) hb.size)).trans p1
        have q2 := (h2.cell (p := ⟨(w.heap.size + 2), 0, none⟩) (Nat.lt_of_lt_of_le (show w.heap.size + 2 < W0.heap.size by omega) hb.size)).trans p2
        exact ⟨⟨q0, q1, q2⟩, hb.trans (h2.mono hb.size)⟩
      have keepH := Lib.hid keep
      clear keep
      have hS : (((W0.cell? ⟨w.heap.size, 0, none⟩ = some (.int .i64 a) ∧ W0.cell? ⟨w.heap.size, 1, none⟩ = some (.int .i64 b) ∧ W0.cell? ⟨w.heap.size, 2, none⟩ = some (.int .i64 c) ∧ W0.cell? ⟨w.heap.size, 3, none⟩ = some (.int .i64 d)) ∧ W0.cell? ⟨(w.heap.size + 1), 0, none⟩ = some (.int .i64 z) ∧ W0.cell? ⟨(w.heap.size + 2), 0, none⟩ = some (.int .i64 y)) ∧ Below W0.heap.size W0 W0) := ⟨hS0, Below.refl _ _⟩
      clear hS0
      go_wp2
      refine wp_region_noPanic ?_
      refine wp_region_held_drew (S := (fun w' => (((w'.cell? ⟨w.heap.size, 0, none⟩ = some (.int .i64 a) ∧ w'.cell? ⟨w.heap.size, 1, none⟩ = some (.int .i64 b) ∧ w'.cell? ⟨w.heap.size, 2, none⟩ = some (.int .i64 c) ∧ w'.cell? ⟨w.heap.size, 3, none⟩ = some (.int .i64 d)) ∧ w'.cell? ⟨(w.heap.size + 1), 0, none⟩ = some (.int .i64 z) ∧ w'.cell? ⟨(w.heap.size + 2), 0, none⟩ = some (.int .i64 y)) ∧ Below W0.heap.size W0 w'))) (by kernel_rfl) ?_ (fun hHeld => ?_)
      · exact ⟨hS.1, belowN hS.2 1⟩
      refine wpAnyH_take (i := 0) (oi := ⟨some 9, _, _, _, _, _⟩) (v := ?vvz1) rfl (by kernel_rfl) (by kernel_rfl) (by kernel_rfl) (fun _ _ _ h => h) (Or.inl ⟨by rfl, ?hyz1⟩) (by assumption) ?restz1
      case hyz1 => (intro w hSw; (try dsimp only at hSw); go_simp; try with_reducible rfl)
      try simp only [Act.put, List.setIfInBounds_toArray, List.set_cons_zero, List.set_cons_succ]
      refine wpAnyH_take (i := 6) (oi := ⟨some 15, _, _, _, _, _⟩) (v := ?vvz2) rfl (by kernel_rfl) (by kernel_rfl) (by kernel_rfl) (fun _ _ _ h => h) (Or.inl ⟨by rfl, ?hyz2⟩) (by assumption) ?restz2
      case hyz2 => (intro w hSw; (try dsimp only at hSw); go_simp; try with_reducible rfl)
      try simp only [Act.put, List.setIfInBounds_toArray, List.set_cons_zero, List.set_cons_succ]
      refine wpAnyH_ready (rs := [1, 7]) (by kernel_rfl) (by simp) ?_
      refine AllReadyH.cons (o := ⟨some 10, _, _, _, _, _⟩) rfl (fun K hK => ?_) (AllReadyH.cons (o := ⟨some 16, _, _, _, _, _⟩) rfl (fun K hK => ?_) AllReadyH.nil)
      · go_simp
        (go_at_call 23; (with_reducible refine (c2.out _).mono ?_); rintro e w' ⟨rfl, rfl⟩)
        try go_wp2_with fail
        refine hK.out _ _ ?_ (fun hHeld2 => ?_)
        · first | exact hHeld | exact keepH.out _ _ hHeld (fresh_k _ _) | exact keepH.out _ _ hHeld (by assumption)
        clear hK K hHeld
        have hHeld := hHeld2
        clear hHeld2
        try simp only [Act.put, List.setIfInBounds_toArray, List.set_cons_zero, List.set_cons_succ]
        refine wpAnyH_take (i := 2) (oi := ⟨some 11, _, _, _, _, _⟩) (v := ?vvz3) rfl (by kernel_rfl) (by kernel_rfl) (by kernel_rfl) (fun _ _ _ h => h) (Or.inl ⟨by rfl, ?hyz3⟩) (by assumption) ?restz3
        case hyz3 => (intro w hSw; (try dsimp only at hSw); go_simp; try with_reducible rfl)
        try simp only [Act.put, List.setIfInBounds_toArray, List.set_cons_zero, List.set_cons_succ]
        refine wpAnyH_take (i := 3) (oi := ⟨some 12, _, _, _, _, _⟩) (v := undef) rfl (by kernel_rfl) (by kernel_rfl) (by kernel_rfl) (fun _ _ _ h => h) (Or.inr ⟨by rfl, rfl⟩) (by assumption) ?_
        try simp only [Act.put, List.setIfInBounds_toArray, List.set_cons_zero, List.set_cons_succ]
        refine wpAnyH_take (i := 4) (oi := ⟨some 13, _, _, _, _, _⟩) (v := undef) rfl (by kernel_rfl) (by kernel_rfl) (by kernel_rfl) (fun _ _ _ h => h) (Or.inr ⟨by rfl, rfl⟩) (by assumption) ?_
        try simp only [Act.put, List.setIfInBounds_toArray, List.set_cons_zero, List.set_cons_succ]
        refine wpAnyH_take (i := 5) (oi := ⟨some 14, _, _, _, _, _⟩) (v := ?vvz4) rfl (by kernel_rfl) (by kernel_rfl) (by kernel_rfl) (fun _ _ _ h => h) (Or.inl ⟨by rfl, ?hyz4⟩) (by assumption) ?restz4
        case hyz4 => (intro w hSw; (try dsimp only at hSw); go_simp; try with_reducible rfl)
        try simp only [Act.put, List.setIfInBounds_toArray, List.set_cons_zero, List.set_cons_succ]
        refine wpAnyH_ready (rs := [7]) (by kernel_rfl) (by simp) ?_
        refine AllReadyH.cons (o := ⟨some 16, _, _, _, _, _⟩) rfl (fun K hK => ?_) AllReadyH.nil
        go_simp
        try go_wp2_with fail
        refine hK.out _ _ ?_ (fun hHeld2 => ?_)
        · first | exact hHeld | exact keepH.out _ _ hHeld (fresh_k _ _) | exact keepH.out _ _ hHeld (by assumption)
        clear hK K hHeld
        have hHeld := hHeld2
        clear hHeld2
        try simp only [Act.put, List.setIfInBounds_toArray, List.set_cons_zero, List.set_cons_succ]
        refine wpAnyH_ready (rs := [8]) (by kernel_rfl) (by simp) ?_
        refine AllReadyH.cons (o := ⟨some 17, _, _, _, _, _⟩) rfl (fun K hK => ?_) AllReadyH.nil
        go_simp
        (go_at_call 22; (with_reducible refine (cC.out _).mono ?_); rintro e w' ⟨rfl, hbel⟩)
        try go_wp2_with fail
        refine hK.out _ _ ?_ (fun hHeld2 => ?_)
        · first | exact hHeld | exact keepH.out _ _ hHeld (fresh_k _ _) | exact keepH.out _ _ hHeld (by assumption)
        clear hK K hHeld
        have hHeld := hHeld2
        clear hHeld2
        try simp only [Act.put, List.setIfInBounds_toArray, List.set_cons_zero, List.set_cons_succ]
        refine wpAnyH_take (i := 9) (oi := ⟨some 8, _, _, _, _, _⟩) (v := ?vvz5) rfl (by kernel_rfl) (by kernel_rfl) (by kernel_rfl) (fun _ _ _ h => h) (Or.inl ⟨by rfl, ?hyz5⟩) (by assumption) ?restz5
        case hyz5 => (intro w hSw; (try dsimp only at hSw); go_simp; try with_reducible rfl)
        try simp only [Act.put, List.setIfInBounds_toArray, List.set_cons_zero, List.set_cons_succ]
        refine wpAnyH_done (by kernel_rfl) ?_ _
        refine NoPanic.normal ?_
        go_wp2
        go_ret2
        exact ⟨ret_int2 rfl rfl, below2 hB0 hHeld.2⟩
      · go_simp
        try go_wp2_with fail
        refine hK.out _ _ ?_ (fun hHeld2 => ?_)
        · first | exact hHeld | exact keepH.out _ _ hHeld (fresh_k _ _) | exact keepH.out _ _ hHeld (by assumption)
        clear hK K hHeld
        have hHeld := hHeld2
        clear hHeld2
        try simp only [Act.put, List.setIfInBounds_toArray, List.set_cons_zero, List.set_cons_succ]
        refine wpAnyH_ready (rs := [1]) (by kernel_rfl) (by simp) ?_
        refine AllReadyH.cons (o := ⟨some 10, _, _, _, _, _⟩) rfl (fun K hK => ?_) AllReadyH.nil
        go_simp
        (go_at_call 23; (with_reducible refine (c2.out _).mono ?_); rintro e w' ⟨rfl, rfl⟩)
        try go_wp2_with fail
        refine hK.out _ _ ?_ (fun hHeld2 => ?_)
        · first | exact hHeld | exact keepH.out _ _ hHeld (fresh_k _ _) | exact keepH.out _ _ hHeld (by assumption)
        clear hK K hHeld
        have hHeld := hHeld2
        clear hHeld2
        try simp only [Act.put, List.setIfInBounds_toArray, List.set_cons_zero, List.set_cons_succ]
        refine wpAnyH_take (i := 2) (oi := ⟨some 11, _, _, _, _, _⟩) (v := ?vvz6) rfl (by kernel_rfl) (by kernel_rfl) (by kernel_rfl) (fun _ _ _ h => h) (Or.inl ⟨by rfl, ?hyz6⟩) (by assumption) ?restz6
        case hyz6 => (intro w hSw; (try dsimp only at hSw); go_simp; try with_reducible rfl)
        try simp only [Act.put, List.setIfInBounds_toArray, List.set_cons_zero, List.set_cons_succ]
        refine wpAnyH_take (i := 3) (oi := ⟨some 12, _, _, _, _, _⟩) (v := undef) rfl (by kernel_rfl) (by kernel_rfl) (by kernel_rfl) (fun _ _ _ h => h) (Or.inr ⟨by rfl, rfl⟩) (by assumption) ?_
        try simp only [Act.put, List.setIfInBounds_toArray, List.set_cons_zero, List.set_cons_succ]
        refine wpAnyH_take (i := 4) (oi := ⟨some 13, _, _, _, _, _⟩) (v := undef) rfl (by kernel_rfl) (by kernel_rfl) (by kernel_rfl) (fun _ _ _ h => h) (Or.inr ⟨by rfl, rfl⟩) (by assumption) ?_
        try simp only [Act.put, List.setIfInBounds_toArray, List.set_cons_zero, List.set_cons_succ]
        refine wpAnyH_take (i := 5) (oi := ⟨some 14, _, _, _, _, _⟩) (v := ?vvz7) rfl (by kernel_rfl) (by kernel_rfl) (by kernel_rfl) (fun _ _ _ h => h) (Or.inl ⟨by rfl, ?hyz7⟩) (by assumption) ?restz7
        case hyz7 => (intro w hSw; (try dsimp only at hSw); go_simp; try with_reducible rfl)
        try simp only [Act.put, List.setIfInBounds_toArray, List.set_cons_zero, List.set_cons_succ]
        refine wpAnyH_ready (rs := [8]) (by kernel_rfl) (by simp) ?_
        refine AllReadyH.cons (o := ⟨some 17, _, _, _, _, _⟩) rfl (fun K hK => ?_) AllReadyH.nil
        go_simp
        (go_at_call 22; (with_reducible refine (cC.out _).mono ?_); rintro e w' ⟨rfl, hbel⟩)
        try go_wp2_with fail
        refine hK.out _ _ ?_ (fun hHeld2 => ?_)
        · first | exact hHeld | exact keepH.out _ _ hHeld (fresh_k _ _) | exact keepH.out _ _ hHeld (by assumption)
        clear hK K hHeld
        have hHeld := hHeld2
        clear hHeld2
        try simp only [Act.put, List.setIfInBounds_toArray, List.set_cons_zero, List.set_cons_succ]
        refine wpAnyH_take (i := 9) (oi := ⟨some 8, _, _, _, _, _⟩) (v := ?vvz8) rfl (by kernel_rfl) (by kernel_rfl) (by kernel_rfl) (fun _ _ _ h => h) (Or.inl ⟨by rfl, ?hyz8⟩) (by assumption) ?restz8
        case hyz8 => (intro w hSw; (try dsimp only at hSw); go_simp; try with_reducible rfl)
        try simp only [Act.put, List.setIfInBounds_toArray, List.set_cons_zero, List.set_cons_succ]
        refine wpAnyH_done (by kernel_rfl) ?_ _
        refine NoPanic.normal ?_
        go_wp2
        go_ret2
        exact ⟨ret_int2 rfl rfl, below2 hB0 hHeld.2⟩
    · have cC : Hid (∀ W : World, Calls Tryz.prog 22 #[.bool false, .slice (some ⟨W.heap.size, 0, none⟩) 1 1] (W.alloc (.cells #[.int .i64 a, .int .i64 b, .int .i64 c, .int .i64 d] 25)).drew fun e w' => e = .returned (.int .i64 2) ∧ Below (W.alloc (.cells #[.int .i64 a, .int .i64 b, .int .i64 c, .int .i64 d] 25)).drew.heap.size (W.alloc (.cells #[.int .i64 a, .int .i64 b, .int .i64 c, .int .i64 d] 25)).drew w') := Lib.hid (fun W => by have h9 := codeOf1d_any a b c d false W; rw [h1] at h9; exact h9)
      clear h1 h2
      go_enter Tryz.func9, Tryz.ntmps9
      go_wp2_with fail
      obtain ⟨hS0, hB0, hsz⟩ := nk_box3 a b c d z y w
      generalize (((w.alloc (.cells #[.int .i64 a, .int .i64 b, .int .i64 c, .int .i64 d] 25)).alloc (.cells #[.int .i64 z] 2)).alloc (.cells #[.int .i64 y] 2)) = W0 at hS0 hB0 hsz ⊢
      have keep : ∀ W1 W2, (((W1.cell? ⟨w.heap.size, 0, none⟩ = some (.int .i64 a) ∧ W1.cell? ⟨w.heap.size, 1, none⟩ = some (.int .i64 b) ∧ W1.cell? ⟨w.heap.size, 2, none⟩ = some (.int .i64 c) ∧ W1.cell? ⟨w.heap.size, 3, none⟩ = some (.int .i64 d)) ∧ W1.cell? ⟨(w.heap.size + 1), 0, none⟩ = some (.int .i64 z) ∧ W1.cell? ⟨(w.heap.size + 2), 0, none⟩ = some (.int .i64 y)) ∧ Below W0.heap.size W0 W1) → Below W1.heap.size W1 W2 → (((W2.cell? ⟨w.heap.size, 0, none⟩ = some (.int .i64 a) ∧ W2.cell? ⟨w.heap.size, 1, none⟩ = some (.int .i64 b) ∧ W2.cell? ⟨w.heap.size, 2, none⟩ = some (.int .i64 c) ∧ W2.cell? ⟨w.heap.size, 3, none⟩ = some (.int .i64 d)) ∧ W2.cell? ⟨(w.heap.size + 1), 0, none⟩ = some (.int .i64 z) ∧ W2.cell? ⟨(w.heap.size + 2), 0, none⟩ = some (.int .i64 y)) ∧ Below W0.heap.size W0 W2) := fun W1 W2 h1 h2 => by
        obtain ⟨⟨p0, p1, p2⟩, hb⟩ := h1
        have q0 := NckAt.below (x := ⟨a, b, c, d⟩) (o := 0) p0 (Nat.lt_of_lt_of_le (show w.heap.size < W0.heap.size by omega) hb.size) h2
        have q1 := (h2.cell (p := ⟨(w.heap.size + 1), 0, none⟩) (Nat.lt_of_lt_of_le (show w.heap.size + 1 < W0.heap.size by omega) hb.size)).trans p1
        have q2 := (h2.cell (p := ⟨(w.heap.size + 2), 0, none⟩) (Nat.lt_of_lt_of_le (show w.heap.size + 2 < W0.heap.size by omega) hb.size)).trans p2
        exact ⟨⟨q0, q1, q2⟩, hb.trans (h2.mono hb.size)⟩
      have keepH := Lib.hid keep
      clear keep
      have hS : (((W0.cell? ⟨w.heap.size, 0, none⟩ = some (.int .i64 a) ∧ W0.cell? ⟨w.heap.size, 1, none⟩ = some (.int .i64 b) ∧ W0.cell? ⟨w.heap.size, 2, none⟩ = some (.int .i64 c) ∧ W0.cell? ⟨w.heap.size, 3, none⟩ = some (.int .i64 d)) ∧ W0.cell? ⟨(w.heap.size + 1), 0, none⟩ = some (.int .i64 z) ∧ W0.cell? ⟨(w.heap.size + 2), 0, none⟩ = some (.int .i64 y)) ∧ Below W0.heap.size W0 W0) := ⟨hS0, Below.refl _ _⟩
      clear hS0
      go_wp2
      refine wp_region_noPanic ?_
      refine wp_region_held_drew (S := (fun w' => (((w'.cell? ⟨w.heap.size, 0, none⟩ = some (.int .i64 a) ∧ w'.cell? ⟨w.heap.size, 1, none⟩ = some (.int .i64 b) ∧ w'.cell? ⟨w.heap.size, 2, none⟩ = some (.int .i64 c) ∧ w'.cell? ⟨w.heap.size, 3, none⟩ = some (.int .i64 d)) ∧ w'.cell? ⟨(w.heap.size + 1), 0, none⟩ = some (.int .i64 z) ∧ w'.cell? ⟨(w.heap.size + 2), 0, none⟩ = some (.int .i64 y)) ∧ Below W0.heap.size W0 w'))) (by kernel_rfl) ?_ (fun hHeld => ?_)
      · exact ⟨hS.1, belowN hS.2 1⟩
      refine wpAnyH_take (i := 0) (oi := ⟨some 9, _, _, _, _, _⟩) (v := ?vvz9) rfl (by kernel_rfl) (by kernel_rfl) (by kernel_rfl) (fun _ _ _ h => h) (Or.inl ⟨by rfl, ?hyz9⟩) (by assumption) ?restz9
      case hyz9 => (intro w hSw; (try dsimp only at hSw); go_simp; try with_reducible rfl)
      try simp only [Act.put, List.setIfInBounds_toArray, List.set_cons_zero, List.set_cons_succ]
      refine wpAnyH_take (i := 6) (oi := ⟨some 15, _, _, _, _, _⟩) (v := ?vvz10) rfl (by kernel_rfl) (by kernel_rfl) (by kernel_rfl) (fun _ _ _ h => h) (Or.inl ⟨by rfl, ?hyz10⟩) (by assumption) ?restz10
      case hyz10 => (intro w hSw; (try dsimp only at hSw); go_simp; try with_reducible rfl)
      try simp only [Act.put, List.setIfInBounds_toArray, List.set_cons_zero, List.set_cons_succ]
      refine wpAnyH_ready (rs := [1, 7]) (by kernel_rfl) (by simp) ?_
      refine AllReadyH.cons (o := ⟨some 10, _, _, _, _, _⟩) rfl (fun K hK => ?_) (AllReadyH.cons (o := ⟨some 16, _, _, _, _, _⟩) rfl (fun K hK => ?_) AllReadyH.nil)
      · go_simp
        (go_at_call 23; (with_reducible refine (c2.out _).mono ?_); rintro e w' ⟨rfl, rfl⟩)
        try go_wp2_with fail
        refine hK.out _ _ ?_ (fun hHeld2 => ?_)
        · first | exact hHeld | exact keepH.out _ _ hHeld (fresh_k _ _) | exact keepH.out _ _ hHeld (by assumption)
        clear hK K hHeld
        have hHeld := hHeld2
        clear hHeld2
        try simp only [Act.put, List.setIfInBounds_toArray, List.set_cons_zero, List.set_cons_succ]
        refine wpAnyH_take (i := 2) (oi := ⟨some 11, _, _, _, _, _⟩) (v := ?vvz11) rfl (by kernel_rfl) (by kernel_rfl) (by kernel_rfl) (fun _ _ _ h => h) (Or.inl ⟨by rfl, ?hyz11⟩) (by assumption) ?restz11
        case hyz11 => (intro w hSw; (try dsimp only at hSw); go_simp; try with_reducible rfl)
        try simp only [Act.put, List.setIfInBounds_toArray, List.set_cons_zero, List.set_cons_succ]
        refine wpAnyH_take (i := 3) (oi := ⟨some 12, _, _, _, _, _⟩) (v := undef) rfl (by kernel_rfl) (by kernel_rfl) (by kernel_rfl) (fun _ _ _ h => h) (Or.inr ⟨by rfl, rfl⟩) (by assumption) ?_
        try simp only [Act.put, List.setIfInBounds_toArray, List.set_cons_zero, List.set_cons_succ]
        refine wpAnyH_take (i := 4) (oi := ⟨some 13, _, _, _, _, _⟩) (v := undef) rfl (by kernel_rfl) (by kernel_rfl) (by kernel_rfl) (fun _ _ _ h => h) (Or.inr ⟨by rfl, rfl⟩) (by assumption) ?_
        try simp only [Act.put, List.setIfInBounds_toArray, List.set_cons_zero, List.set_cons_succ]
        refine wpAnyH_take (i := 5) (oi := ⟨some 14, _, _, _, _, _⟩) (v := ?vvz12) rfl (by kernel_rfl) (by kernel_rfl) (by kernel_rfl) (fun _ _ _ h => h) (Or.inl ⟨by rfl, ?hyz12⟩) (by assumption) ?restz12
        case hyz12 => (intro w hSw; (try dsimp only at hSw); go_simp; try with_reducible rfl)
        try simp only [Act.put, List.setIfInBounds_toArray, List.set_cons_zero, List.set_cons_succ]
        refine wpAnyH_ready (rs := [7]) (by kernel_rfl) (by simp) ?_
        refine AllReadyH.cons (o := ⟨some 16, _, _, _, _, _⟩) rfl (fun K hK => ?_) AllReadyH.nil
        go_simp
        try go_wp2_with fail
        refine hK.out _ _ ?_ (fun hHeld2 => ?_)
        · first | exact hHeld | exact keepH.out _ _ hHeld (fresh_k _ _) | exact keepH.out _ _ hHeld (by assumption)
        clear hK K hHeld
        have hHeld := hHeld2
        clear hHeld2
        try simp only [Act.put, List.setIfInBounds_toArray, List.set_cons_zero, List.set_cons_succ]
        refine wpAnyH_ready (rs := [8]) (by kernel_rfl) (by simp) ?_
        refine AllReadyH.cons (o := ⟨some 17, _, _, _, _, _⟩) rfl (fun K hK => ?_) AllReadyH.nil
        go_simp
        (go_at_call 22; (with_reducible refine (cC.out _).mono ?_); rintro e w' ⟨rfl, hbel⟩)
        try go_wp2_with fail
        refine hK.out _ _ ?_ (fun hHeld2 => ?_)
        · first | exact hHeld | exact keepH.out _ _ hHeld (fresh_k _ _) | exact keepH.out _ _ hHeld (by assumption)
        clear hK K hHeld
        have hHeld := hHeld2
        clear hHeld2
        try simp only [Act.put, List.setIfInBounds_toArray, List.set_cons_zero, List.set_cons_succ]
        refine wpAnyH_take (i := 9) (oi := ⟨some 8, _, _, _, _, _⟩) (v := ?vvz13) rfl (by kernel_rfl) (by kernel_rfl) (by kernel_rfl) (fun _ _ _ h => h) (Or.inl ⟨by rfl, ?hyz13⟩) (by assumption) ?restz13
        case hyz13 => (intro w hSw; (try dsimp only at hSw); go_simp; try with_reducible rfl)
        try simp only [Act.put, List.setIfInBounds_toArray, List.set_cons_zero, List.set_cons_succ]
        refine wpAnyH_done (by kernel_rfl) ?_ _
        refine NoPanic.normal ?_
        go_wp2
        go_ret2
        exact ⟨ret_int2 rfl rfl, below2 hB0 hHeld.2⟩
      · go_simp
        try go_wp2_with fail
        refine hK.out _ _ ?_ (fun hHeld2 => ?_)
        · first | exact hHeld | exact keepH.out _ _ hHeld (fresh_k _ _) | exact keepH.out _ _ hHeld (by assumption)
        clear hK K hHeld
        have hHeld := hHeld2
        clear hHeld2
        try simp only [Act.put, List.setIfInBounds_toArray, List.set_cons_zero, List.set_cons_succ]
        refine wpAnyH_ready (rs := [1]) (by kernel_rfl) (by simp) ?_
        refine AllReadyH.cons (o := ⟨some 10, _, _, _, _, _⟩) rfl (fun K hK => ?_) AllReadyH.nil
        go_simp
        (go_at_call 23; (with_reducible refine (c2.out _).mono ?_); rintro e w' ⟨rfl, rfl⟩)
        try go_wp2_with fail
        refine hK.out _ _ ?_ (fun hHeld2 => ?_)
        · first | exact hHeld | exact keepH.out _ _ hHeld (fresh_k _ _) | exact keepH.out _ _ hHeld (by assumption)
        clear hK K hHeld
        have hHeld := hHeld2
        clear hHeld2
        try simp only [Act.put, List.setIfInBounds_toArray, List.set_cons_zero, List.set_cons_succ]
        refine wpAnyH_take (i := 2) (oi := ⟨some 11, _, _, _, _, _⟩) (v := ?vvz14) rfl (by kernel_rfl) (by kernel_rfl) (by kernel_rfl) (fun _ _ _ h => h) (Or.inl ⟨by rfl, ?hyz14⟩) (by assumption) ?restz14
        case hyz14 => (intro w hSw; (try dsimp only at hSw); go_simp; try with_reducible rfl)
        try simp only [Act.put, List.setIfInBounds_toArray, List.set_cons_zero, List.set_cons_succ]
        refine wpAnyH_take (i := 3) (oi := ⟨some 12, _, _, _, _, _⟩) (v := undef) rfl (by kernel_rfl) (by kernel_rfl) (by kernel_rfl) (fun _ _ _ h => h) (Or.inr ⟨by rfl, rfl⟩) (by assumption) ?_
        try simp only [Act.put, List.setIfInBounds_toArray, List.set_cons_zero, List.set_cons_succ]
        refine wpAnyH_take (i := 4) (oi := ⟨some 13, _, _, _, _, _⟩) (v := undef) rfl (by kernel_rfl) (by kernel_rfl) (by kernel_rfl) (fun _ _ _ h => h) (Or.inr ⟨by rfl, rfl⟩) (by assumption) ?_
        try simp only [Act.put, List.setIfInBounds_toArray, List.set_cons_zero, List.set_cons_succ]
        refine wpAnyH_take (i := 5) (oi := ⟨some 14, _, _, _, _, _⟩) (v := ?vvz15) rfl (by kernel_rfl) (by kernel_rfl) (by kernel_rfl) (fun _ _ _ h => h) (Or.inl ⟨by rfl, ?hyz15⟩) (by assumption) ?restz15
        case hyz15 => (intro w hSw; (try dsimp only at hSw); go_simp; try with_reducible rfl)
        try simp only [Act.put, List.setIfInBounds_toArray, List.set_cons_zero, List.set_cons_succ]
        refine wpAnyH_ready (rs := [8]) (by kernel_rfl) (by simp) ?_
        refine AllReadyH.cons (o := ⟨some 17, _, _, _, _, _⟩) rfl (fun K hK => ?_) AllReadyH.nil
        go_simp
        (go_at_call 22; (with_reducible refine (cC.out _).mono ?_); rintro e w' ⟨rfl, hbel⟩)
        try go_wp2_with fail
        refine hK.out _ _ ?_ (fun hHeld2 => ?_)
        · first | exact hHeld | exact keepH.out _ _ hHeld (fresh_k _ _) | exact keepH.out _ _ hHeld (by assumption)
        clear hK K hHeld
        have hHeld := hHeld2
        clear hHeld2
        try simp only [Act.put, List.setIfInBounds_toArray, List.set_cons_zero, List.set_cons_succ]
        refine wpAnyH_take (i := 9) (oi := ⟨some 8, _, _, _, _, _⟩) (v := ?vvz16) rfl (by kernel_rfl) (by kernel_rfl) (by kernel_rfl) (fun _ _ _ h => h) (Or.inl ⟨by rfl, ?hyz16⟩) (by assumption) ?restz16
        case hyz16 => (intro w hSw; (try dsimp only at hSw); go_simp; try with_reducible rfl)
        try simp only [Act.put, List.setIfInBounds_toArray, List.set_cons_zero, List.set_cons_succ]
        refine wpAnyH_done (by kernel_rfl) ?_ _
        refine NoPanic.normal ?_
        go_wp2
        go_ret2
        exact ⟨ret_int2 rfl rfl, below2 hB0 hHeld.2⟩
  cases h3 : inB y 1 1000 <;> rw [h3] at c3
  · cases h1 : nckB ⟨a, b, c, d⟩
    · have cC : Hid (∀ W : World, Calls Tryz.prog 22 #[.bool false, .slice (some ⟨W.heap.size, 0, none⟩) 1 1] (W.alloc (.cells #[.int .i64 a, .int .i64 b, .int .i64 c, .int .i64 d] 25)).drew fun e w' => e = .returned (.int .i64 1) ∧ Below (W.alloc (.cells #[.int .i64 a, .int .i64 b, .int .i64 c, .int .i64 d] 25)).drew.heap.size (W.alloc (.cells #[.int .i64 a, .int .i64 b, .int .i64 c, .int .i64 d] 25)).drew w') := Lib.hid (fun W => by have h9 := codeOf1d_any a b c d false W; rw [h1] at h9; exact h9)
      clear h1 h2 h3
      go_enter Tryz.func9, Tryz.ntmps9
      go_wp2_with fail
      obtain ⟨hS0, hB0, hsz⟩ := nk_box3 a b c d z y w
      generalize (((w.alloc (.cells #[.int .i64 a, .int .i64 b, .int .i64 c, .int .i64 d] 25)).alloc (.cells #[.int .i64 z] 2)).alloc (.cells #[.int .i64 y] 2)) = W0 at hS0 hB0 hsz ⊢
      have keep : ∀ W1 W2, (((W1.cell? ⟨w.heap.size, 0, none⟩ = some (.int .i64 a) ∧ W1.cell? ⟨w.heap.size, 1, none⟩ = some (.int .i64 b) ∧ W1.cell? ⟨w.heap.size, 2, none⟩ = some (.int .i64 c) ∧ W1.cell? ⟨w.heap.size, 3, none⟩ = some (.int .i64 d)) ∧ W1.cell? ⟨(w.heap.size + 1), 0, none⟩ = some (.int .i64 z) ∧ W1.cell? ⟨(w.heap.size + 2), 0, none⟩ = some (.int .i64 y)) ∧ Below W0.heap.size W0 W1) → Below W1.heap.size W1 W2 → (((W2.cell? ⟨w.heap.size, 0, none⟩ = some (.int .i64 a) ∧ W2.cell? ⟨w.heap.size, 1, none⟩ = some (.int .i64 b) ∧ W2.cell? ⟨w.heap.size, 2, none⟩ = some (.int .i64 c) ∧ W2.cell? ⟨w.heap.size, 3, none⟩ = some (.int .i64 d)) ∧ W2.cell? ⟨(w.heap.size + 1), 0, none⟩ = some (.int .i64 z) ∧ W2.cell? ⟨(w.heap.size + 2), 0, none⟩ = some (.int .i64 y)) ∧ Below W0.heap.size W0 W2) := fun W1 W2 h1 h2 => by
        obtain ⟨⟨p0, p1, p2⟩, hb⟩ := h1
        have q0 := NckAt.below (x := ⟨a, b, c, d⟩) (o := 0) p0 (Nat.lt_of_lt_of_le (show w.heap.size < W0.heap.size by omega) hb.size) h2
        have q1 := (h2.cell (p := ⟨(w.heap.size + 1), 0, none⟩) (Nat.lt_of_lt_of_le (show w.heap.size + 1 < W0.heap.size by omega) hb.size)).trans p1
        have q2 := (h2.cell (p := ⟨(w.heap.size + 2), 0, none⟩) (Nat.lt_of_lt_of_le (show w.heap.size + 2 < W0.heap.size by omega) hb.size)).trans p2
        exact ⟨⟨q0, q1, q2⟩, hb.trans (h2.mono hb.size)⟩
      have keepH := Lib.hid keep
      clear keep
      have hS : (((W0.cell? ⟨w.heap.size, 0, none⟩ = some (.int .i64 a) ∧ W0.cell? ⟨w.heap.size, 1, none⟩ = some (.int .i64 b) ∧ W0.cell? ⟨w.heap.size, 2, none⟩ = some (.int .i64 c) ∧ W0.cell? ⟨w.heap.size, 3, none⟩ = some (.int .i64 d)) ∧ W0.cell? ⟨(w.heap.size + 1), 0, none⟩ = some (.int .i64 z) ∧ W0.cell? ⟨(w.heap.size + 2), 0, none⟩ = some (.int .i64 y)) ∧ Below W0.heap.size W0 W0) := ⟨hS0, Below.refl _ _⟩
      clear hS0
      go_wp2
      go_region_held3 (fun w' => (((w'.cell? ⟨w.heap.size, 0, none⟩ = some (.int .i64 a) ∧ w'.cell? ⟨w.heap.size, 1, none⟩ = some (.int .i64 b) ∧ w'.cell? ⟨w.heap.size, 2, none⟩ = some (.int .i64 c) ∧ w'.cell? ⟨w.heap.size, 3, none⟩ = some (.int .i64 d)) ∧ w'.cell? ⟨(w.heap.size + 1), 0, none⟩ = some (.int .i64 z) ∧ w'.cell? ⟨(w.heap.size + 2), 0, none⟩ = some (.int .i64 y)) ∧ Below W0.heap.size W0 w'))
        (first | exact ⟨hS.1, belowN hS.2 1⟩ | exact keepH.out _ _ (by assumption) (fresh_k _ _) | exact keepH.out _ _ (by assumption) (belowN (fresh_k _ _) 1) | exact keepH.out _ _ hS (belowN (fresh_k _ _) 1) | exact keepH.out _ _ (by assumption) (by assumption) | assumption)
        (first | (go_at_call 23; (with_reducible refine (c2.out _).mono ?_); rintro e w' ⟨rfl, rfl⟩) | (go_at_call 30; (with_reducible refine (c3.out _).mono ?_); rintro e w' ⟨rfl, rfl⟩) | (go_at_call 22; (with_reducible refine (cC.out _).mono ?_); rintro e w' ⟨rfl, hbel⟩))
      all_goals
        rename_i hHeld
        go_wp2
        go_ret2
        exact ⟨ret_int2 rfl rfl, below2 hB0 hHeld.2⟩
    · have cC : Hid (∀ W : World, Calls Tryz.prog 22 #[.bool false, .slice (some ⟨W.heap.size, 0, none⟩) 1 1] (W.alloc (.cells #[.int .i64 a, .int .i64 b, .int .i64 c, .int .i64 d] 25)).drew fun e w' => e = .returned (.int .i64 2) ∧ Below (W.alloc (.cells #[.int .i64 a, .int .i64 b, .int .i64 c, .int .i64 d] 25)).drew.heap.size (W.alloc (.cells #[.int .i64 a, .int .i64 b, .int .i64 c, .int .i64 d] 25)).drew w') := Lib.hid (fun W => by have h9 := codeOf1d_any a b c d false W; rw [h1] at h9; exact h9)
      clear h1 h2 h3
      go_enter Tryz.func9, Tryz.ntmps9
      go_wp2_with fail
      obtain ⟨hS0, hB0, hsz⟩ := nk_box3 a b c d z y w
      generalize (((w.alloc (.cells #[.int .i64 a, .int .i64 b, .int .i64 c, .int .i64 d] 25)).alloc (.cells #[.int .i64 z] 2)).alloc (.cells #[.int .i64 y] 2)) = W0 at hS0 hB0 hsz ⊢
      have keep : ∀ W1 W2, (((W1.cell? ⟨w.heap.size, 0, none⟩ = some (.int .i64 a) ∧ W1.cell? ⟨w.heap.size, 1, none⟩ = some (.int .i64 b) ∧ W1.cell? ⟨w.heap.size, 2, none⟩ = some (.int .i64 c) ∧ W1.cell? ⟨w.heap.size, 3, none⟩ = some (.int .i64 d)) ∧ W1.cell? ⟨(w.heap.size + 1), 0, none⟩ = some (.int .i64 z) ∧ W1.cell? ⟨(w.heap.size + 2), 0, none⟩ = some (.int .i64 y)) ∧ Below W0.heap.size W0 W1) → Below W1.heap.size W1 W2 → (((W2.cell? ⟨w.heap.size, 0, none⟩ = some (.int .i64 a) ∧ W2.cell? ⟨w.heap.size, 1, none⟩ = some (.int .i64 b) ∧ W2.cell? ⟨w.heap.size, 2, none⟩ = some (.int .i64 c) ∧ W2.cell? ⟨w.heap.size, 3, none⟩ = some (.int .i64 d)) ∧ W2.cell? ⟨(w.heap.size + 1), 0, none⟩ = some (.int .i64 z) ∧ W2.cell? ⟨(w.heap.size + 2), 0, none⟩ = some (.int .i64 y)) ∧ Below W0.heap.size W0 W2) := fun W1 W2 h1 h2 => by
        obtain ⟨⟨p0, p1, p2⟩, hb⟩ := h1
        have q0 := NckAt.below (x := ⟨a, b, c, d⟩) (o := 0) p0 (Nat.lt_of_lt_of_le (show w.heap.size < W0.heap.size by omega) hb.size) h2
        have q1 := (h2.cell (p := ⟨(w.heap.size + 1), 0, none⟩) (Nat.lt_of_lt_of_le (show w.heap.size + 1 < W0.heap.size by omega) hb.size)).trans p1
        have q2 := (h2.cell (p := ⟨(w.heap.size + 2), 0, none⟩) (Nat.lt_of_lt_of_le (show w.heap.size + 2 < W0.heap.size by omega) hb.size)).trans p2
        exact ⟨⟨q0, q1, q2⟩, hb.trans (h2.mono hb.size)⟩
      have keepH := Lib.hid keep
      clear keep
      have hS : (((W0.cell? ⟨w.heap.size, 0, none⟩ = some (.int .i64 a) ∧ W0.cell? ⟨w.heap.size, 1, none⟩ = some (.int .i64 b) ∧ W0.cell? ⟨w.heap.size, 2, none⟩ = some (.int .i64 c) ∧ W0.cell? ⟨w.heap.size, 3, none⟩ = some (.int .i64 d)) ∧ W0.cell? ⟨(w.heap.size + 1), 0, none⟩ = some (.int .i64 z) ∧ W0.cell? ⟨(w.heap.size + 2), 0, none⟩ = some (.int .i64 y)) ∧ Below W0.heap.size W0 W0) := ⟨hS0, Below.refl _ _⟩
      clear hS0
      go_wp2
      go_region_held3 (fun w' => (((w'.cell? ⟨w.heap.size, 0, none⟩ = some (.int .i64 a) ∧ w'.cell? ⟨w.heap.size, 1, none⟩ = some (.int .i64 b) ∧ w'.cell? ⟨w.heap.size, 2, none⟩ = some (.int .i64 c) ∧ w'.cell? ⟨w.heap.size, 3, none⟩ = some (.int .i64 d)) ∧ w'.cell? ⟨(w.heap.size + 1), 0, none⟩ = some (.int .i64 z) ∧ w'.cell? ⟨(w.heap.size + 2), 0, none⟩ = some (.int .i64 y)) ∧ Below W0.heap.size W0 w'))
        (first | exact ⟨hS.1, belowN hS.2 1⟩ | exact keepH.out _ _ (by assumption) (fresh_k _ _) | exact keepH.out _ _ (by assumption) (belowN (fresh_k _ _) 1) | exact keepH.out _ _ hS (belowN (fresh_k _ _) 1) | exact keepH.out _ _ (by assumption) (by assumption) | assumption)
        (first | (go_at_call 23; (with_reducible refine (c2.out _).mono ?_); rintro e w' ⟨rfl, rfl⟩) | (go_at_call 30; (with_reducible refine (c3.out _).mono ?_); rintro e w' ⟨rfl, rfl⟩) | (go_at_call 22; (with_reducible refine (cC.out _).mono ?_); rintro e w' ⟨rfl, hbel⟩))
      all_goals
        rename_i hHeld
        go_wp2
        go_ret2
        exact ⟨ret_int2 rfl rfl, below2 hB0 hHeld.2⟩
  cases h1 : nckB ⟨a, b, c, d⟩
  · have cC : Hid (∀ W : World, Calls Tryz.prog 22 #[.bool true, .slice (some ⟨W.heap.size, 0, none⟩) 1 1] (W.alloc (.cells #[.int .i64 a, .int .i64 b, .int .i64 c, .int .i64 d] 25)).drew fun e w' => e = .returned (.int .i64 1) ∧ Below (W.alloc (.cells #[.int .i64 a, .int .i64 b, .int .i64 c, .int .i64 d] 25)).drew.heap.size (W.alloc (.cells #[.int .i64 a, .int .i64 b, .int .i64 c, .int .i64 d] 25)).drew w') := Lib.hid (fun W => by have h9 := codeOf1d_any a b c d true W; rw [h1] at h9; exact h9)
    clear h1 h2 h3
    go_enter Tryz.func9, Tryz.ntmps9
    go_wp2_with fail
    obtain ⟨hS0, hB0, hsz⟩ := nk_box3 a b c d z y w
    generalize (((w.alloc (.cells #[.int .i64 a, .int .i64 b, .int .i64 c, .int .i64 d] 25)).alloc (.cells #[.int .i64 z] 2)).alloc (.cells #[.int .i64 y] 2)) = W0 at hS0 hB0 hsz ⊢
    have keep : ∀ W1 W2, (((W1.cell? ⟨w.heap.size, 0, none⟩ = some (.int .i64 a) ∧ W1.cell? ⟨w.heap.size, 1, none⟩ = some (.int .i64 b) ∧ W1.cell? ⟨w.heap.size, 2, none⟩ = some (.int .i64 c) ∧ W1.cell? ⟨w.heap.size, 3, none⟩ = some (.int .i64 d)) ∧ W1.cell? ⟨(w.heap.size + 1), 0, none⟩ = some (.int .i64 z) ∧ W1.cell? ⟨(w.heap.size + 2), 0, none⟩ = some (.int .i64 y)) ∧ Below W0.heap.size W0 W1) → Below W1.heap.size W1 W2 → (((W2.cell? ⟨w.heap.size, 0, none⟩ = some (.int .i64 a) ∧ W2.cell? ⟨w.heap.size, 1, none⟩ = some (.int .i64 b) ∧ W2.cell? ⟨w.heap.size, 2, none⟩ = some (.int .i64 c) ∧ W2.cell? ⟨w.heap.size, 3, none⟩ = some (.int .i64 d)) ∧ W2.cell? ⟨(w.heap.size + 1), 0, none⟩ = some (.int .i64 z) ∧ W2.cell? ⟨(w.heap.size + 2), 0, none⟩ = some (.int .i64 y)) ∧ Below W0.heap.size W0 W2) := fun W1 W2 h1 h2 => by
      obtain ⟨⟨p0, p1, p2⟩, hb⟩ := h1
      have q0 := NckAt.below (x := ⟨a, b, c, d⟩) (o := 0) p0 (Nat.lt_of_lt_of_le (show w.heap.size < W0.heap.size by omega) hb.size) h2
      have q1 := (h2.cell (p := ⟨(w.heap.size + 1), 0, none⟩) (Nat.lt_of_lt_of_le (show w.heap.size + 1 < W0.heap.size by omega) hb.size)).trans p1
      have q2 := (h2.cell (p := ⟨(w.heap.size + 2), 0, none⟩) (Nat.lt_of_lt_of_le (show w.heap.size + 2 < W0.heap.size by omega) hb.size)).trans p2
      exact ⟨⟨q0, q1, q2⟩, hb.trans (h2.mono hb.size)⟩
    have keepH := Lib.hid keep
    clear keep
    have hS : (((W0.cell? ⟨w.heap.size, 0, none⟩ = some (.int .i64 a) ∧ W0.cell? ⟨w.heap.size, 1, none⟩ = some (.int .i64 b) ∧ W0.cell? ⟨w.heap.size, 2, none⟩ = some (.int .i64 c) ∧ W0.cell? ⟨w.heap.size, 3, none⟩ = some (.int .i64 d)) ∧ W0.cell? ⟨(w.heap.size + 1), 0, none⟩ = some (.int .i64 z) ∧ W0.cell? ⟨(w.heap.size + 2), 0, none⟩ = some (.int .i64 y)) ∧ Below W0.heap.size W0 W0) := ⟨hS0, Below.refl _ _⟩
    clear hS0
    go_wp2
    go_region_held3 (fun w' => (((w'.cell? ⟨w.heap.size, 0, none⟩ = some (.int .i64 a) ∧ w'.cell? ⟨w.heap.size, 1, none⟩ = some (.int .i64 b) ∧ w'.cell? ⟨w.heap.size, 2, none⟩ = some (.int .i64 c) ∧ w'.cell? ⟨w.heap.size, 3, none⟩ = some (.int .i64 d)) ∧ w'.cell? ⟨(w.heap.size + 1), 0, none⟩ = some (.int .i64 z) ∧ w'.cell? ⟨(w.heap.size + 2), 0, none⟩ = some (.int .i64 y)) ∧ Below W0.heap.size W0 w'))
      (first | exact ⟨hS.1, belowN hS.2 1⟩ | exact keepH.out _ _ (by assumption) (fresh_k _ _) | exact keepH.out _ _ (by assumption) (belowN (fresh_k _ _) 1) | exact keepH.out _ _ hS (belowN (fresh_k _ _) 1) | exact keepH.out _ _ (by assumption) (by assumption) | assumption)
      (first | (go_at_call 23; (with_reducible refine (c2.out _).mono ?_); rintro e w' ⟨rfl, rfl⟩) | (go_at_call 30; (with_reducible refine (c3.out _).mono ?_); rintro e w' ⟨rfl, rfl⟩) | (go_at_call 22; (with_reducible refine (cC.out _).mono ?_); rintro e w' ⟨rfl, hbel⟩))
    all_goals
      rename_i hHeld
      go_wp2
      go_ret2
      exact ⟨ret_int2 rfl rfl, below2 hB0 hHeld.2⟩
  have cC : Hid (∀ W : World, Calls Tryz.prog 22 #[.bool true, .slice (some ⟨W.heap.size, 0, none⟩) 1 1] (W.alloc (.cells #[.int .i64 a, .int .i64 b, .int .i64 c, .int .i64 d] 25)).drew fun e w' => e = .returned (.int .i64 0) ∧ Below (W.alloc (.cells #[.int .i64 a, .int .i64 b, .int .i64 c, .int .i64 d] 25)).drew.heap.size (W.alloc (.cells #[.int .i64 a, .int .i64 b, .int .i64 c, .int .i64 d] 25)).drew w') := Lib.hid (fun W => by have h9 := codeOf1d_any a b c d true W; rw [h1] at h9; exact h9)
  obtain ⟨ha, hb, hc, hd⟩ := nck_bd h1
  have hz := inB_iff.1 h2
  have hy := inB_iff.1 h3
  clear h1 h2 h3
  go_enter Tryz.func9, Tryz.ntmps9
  go_wp2_with fail
  obtain ⟨hS0, hB0, hsz⟩ := nk_box3 a b c d z y w
  generalize (((w.alloc (.cells #[.int .i64 a, .int .i64 b, .int .i64 c, .int .i64 d] 25)).alloc (.cells #[.int .i64 z] 2)).alloc (.cells #[.int .i64 y] 2)) = W0 at hS0 hB0 hsz ⊢
  have keep : ∀ W1 W2, (((W1.cell? ⟨w.heap.size, 0, none⟩ = some (.int .i64 a) ∧ W1.cell? ⟨w.heap.size, 1, none⟩ = some (.int .i64 b) ∧ W1.cell? ⟨w.heap.size, 2, none⟩ = some (.int .i64 c) ∧ W1.cell? ⟨w.heap.size, 3, none⟩ = some (.int .i64 d)) ∧ W1.cell? ⟨(w.heap.size + 1), 0, none⟩ = some (.int .i64 z) ∧ W1.cell? ⟨(w.heap.size + 2), 0, none⟩ = some (.int .i64 y)) ∧ Below W0.heap.size W0 W1) → Below W1.heap.size W1 W2 → (((W2.cell? ⟨w.heap.size, 0, none⟩ = some (.int .i64 a) ∧ W2.cell? ⟨w.heap.size, 1, none⟩ = some (.int .i64 b) ∧ W2.cell? ⟨w.heap.size, 2, none⟩ = some (.int .i64 c) ∧ W2.cell? ⟨w.heap.size, 3, none⟩ = some (.int .i64 d)) ∧ W2.cell? ⟨(w.heap.size + 1), 0, none⟩ = some (.int .i64 z) ∧ W2.cell? ⟨(w.heap.size + 2), 0, none⟩ = some (.int .i64 y)) ∧ Below W0.heap.size W0 W2) := fun W1 W2 h1 h2 => by
    obtain ⟨⟨p0, p1, p2⟩, hb⟩ := h1
    have q0 := NckAt.below (x := ⟨a, b, c, d⟩) (o := 0) p0 (Nat.lt_of_lt_of_le (show w.heap.size < W0.heap.size by omega) hb.size) h2
    have q1 := (h2.cell (p := ⟨(w.heap.size + 1), 0, none⟩) (Nat.lt_of_lt_of_le (show w.heap.size + 1 < W0.heap.size by omega) hb.size)).trans p1
    have q2 := (h2.cell (p := ⟨(w.heap.size + 2), 0, none⟩) (Nat.lt_of_lt_of_le (show w.heap.size + 2 < W0.heap.size by omega) hb.size)).trans p2
    exact ⟨⟨q0, q1, q2⟩, hb.trans (h2.mono hb.size)⟩
  have keepH := Lib.hid keep
  clear keep
  have hS : (((W0.cell? ⟨w.heap.size, 0, none⟩ = some (.int .i64 a) ∧ W0.cell? ⟨w.heap.size, 1, none⟩ = some (.int .i64 b) ∧ W0.cell? ⟨w.heap.size, 2, none⟩ = some (.int .i64 c) ∧ W0.cell? ⟨w.heap.size, 3, none⟩ = some (.int .i64 d)) ∧ W0.cell? ⟨(w.heap.size + 1), 0, none⟩ = some (.int .i64 z) ∧ W0.cell? ⟨(w.heap.size + 2), 0, none⟩ = some (.int .i64 y)) ∧ Below W0.heap.size W0 W0) := ⟨hS0, Below.refl _ _⟩
  clear hS0
  go_wp2
  have cF : Hid (∀ W, (((W.cell? ⟨w.heap.size, 0, none⟩ = some (.int .i64 a) ∧ W.cell? ⟨w.heap.size, 1, none⟩ = some (.int .i64 b) ∧ W.cell? ⟨w.heap.size, 2, none⟩ = some (.int .i64 c) ∧ W.cell? ⟨w.heap.size, 3, none⟩ = some (.int .i64 d)) ∧ W.cell? ⟨(w.heap.size + 1), 0, none⟩ = some (.int .i64 z) ∧ W.cell? ⟨(w.heap.size + 2), 0, none⟩ = some (.int .i64 y)) ∧ Below W0.heap.size W0 W) → Calls Tryz.prog 24 #[.int .i64 0, .int .i64 200, .func (.func 31) #[] #[.pointer (some ⟨w.heap.size, 0, none⟩), .pointer (some ⟨w.heap.size + 2, 0, none⟩), .pointer (some ⟨w.heap.size + 1, 0, none⟩)]] W fun e w' => e = .returned (.tuple #[.int .i64 (shV b c d z y), .int .i64 (shC b c d z y)]) ∧ Below W.heap.size W w') := Lib.hid (fun W hSW => by
    obtain ⟨⟨p0, p1, p2⟩, hbW⟩ := hSW
    have h9 := leastFrom_any 31 #[.pointer (some ⟨w.heap.size, 0, none⟩), .pointer (some ⟨w.heap.size + 2, 0, none⟩), .pointer (some ⟨w.heap.size + 1, 0, none⟩)] 0 200 201 (shP b c d z y) W (enters_of Tryz.func31 (by kernel_rfl) rfl) (by omega) (by omega) (by omega) (by omega) (fun W2 i hW hi' => by
      rw [Int.zero_add]
      exact sh1_any a b c d z y (i : Int) hb hc hd (by omega) hy w.heap.size (w.heap.size + 1) (w.heap.size + 2) W2 (NckAt.below (x := ⟨a, b, c, d⟩) (o := 0) p0 (Nat.lt_of_lt_of_le (show w.heap.size < W0.heap.size by omega) hbW.size) hW) ((hW.cell (p := ⟨w.heap.size + 1, 0, none⟩) (show w.heap.size + 1 < _ from Nat.lt_of_lt_of_le (show w.heap.size + 1 < W0.heap.size by omega) hbW.size)).trans p1) ((hW.cell (p := ⟨w.heap.size + 2, 0, none⟩) (show w.heap.size + 2 < _ from Nat.lt_of_lt_of_le (show w.heap.size + 2 < W0.heap.size by omega) hbW.size)).trans p2)) (fun i j hij _ h => sh_mono (by omega) hy.1 i j hij h)
    exact h9)
  go_region_held3 (fun w' => (((w'.cell? ⟨w.heap.size, 0, none⟩ = some (.int .i64 a) ∧ w'.cell? ⟨w.heap.size, 1, none⟩ = some (.int .i64 b) ∧ w'.cell? ⟨w.heap.size, 2, none⟩ = some (.int .i64 c) ∧ w'.cell? ⟨w.heap.size, 3, none⟩ = some (.int .i64 d)) ∧ w'.cell? ⟨(w.heap.size + 1), 0, none⟩ = some (.int .i64 z) ∧ w'.cell? ⟨(w.heap.size + 2), 0, none⟩ = some (.int .i64 y)) ∧ Below W0.heap.size W0 w'))
    (first | exact ⟨hS.1, belowN hS.2 1⟩ | exact keepH.out _ _ (by assumption) (fresh_k _ _) | exact keepH.out _ _ (by assumption) (belowN (fresh_k _ _) 1) | exact keepH.out _ _ hS (belowN (fresh_k _ _) 1) | exact keepH.out _ _ (by assumption) (by assumption) | assumption)
    (first | (go_at_call 23; (with_reducible refine (c2.out _).mono ?_); rintro e w' ⟨rfl, rfl⟩) | (go_at_call 30; (with_reducible refine (c3.out _).mono ?_); rintro e w' ⟨rfl, rfl⟩) | (go_at_call 22; (with_reducible refine (cC.out _).mono ?_); rintro e w' ⟨rfl, hbel⟩))
  all_goals
    rename_i hHeld
    go_wp2_with (go_at_call 24; (with_reducible refine (cF.out _ (by first | exact hHeld | exact ⟨hHeld.1, belowN hHeld.2 1⟩)).mono ?_); rintro e w' ⟨rfl, b5⟩)
    go_ret2
    exact ⟨ret_int2 rfl rfl, below2 hB0 (below2 hHeld.2 b5)⟩
end Go.Proofs.YtcdpkbcpglaiaaaGreatDoor
