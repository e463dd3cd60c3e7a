/-
  How uneven the edge is: the program and the model.
-/
import Derived.Test.YtcclahemmfjmgaaEdge8
namespace Go.Proofs.Ytcclahemmfjmgaa
open Go.ChangeShapes Go.WideShapes Go.ChangeAt Go.RowKit Go.Deep
set_option linter.unusedVariables false
set_option linter.unusedSimpArgs false
attribute [local go_sem] Oper.semAt_some
/-- two boxes that one statement makes: whichever comes first -/
def putsL (a : Act) : List (Nat × Value) → Act
  | [] => a
  | (d, v) :: l => putsL (a.put (some d) v) l
theorem wp_two {P : Program} {c : Code} {Q : Exit → Act → World → Prop} {a : Act} {w : World} {S : Nat → Nat → World → Prop} (ds : List (Nat × Value)) (p q : Nat)
    (h1 : ∀ K : Act → World → Prop, Shut (∀ A B w', S A B w' → K (((putsL a ds).put (some p) (.pointer (some ⟨A, 0, none⟩))).put (some q) (.pointer (some ⟨B, 0, none⟩))) w') → c.wp P (fun e a' w' => e = .normal ∧ K a' w') a w)
    (h2 : ∀ A B w', S A B w' → Q .normal (((putsL a ds).put (some p) (.pointer (some ⟨A, 0, none⟩))).put (some q) (.pointer (some ⟨B, 0, none⟩))) w') : c.wp P Q a w :=
  wp_mono (h1 (fun a' w' => Q .normal a' w') h2) fun e a' w' h => by
    obtain ⟨rfl, h⟩ := h
    exact h
theorem two_set {W1 W : World} {A B : Nat} {z : Int} (k1 : W.heap[A]? = some (.cells #[.int .i64 0] 2 (0, 0))) (k2 : W.heap[B]? = some (.cells #[.int .i64 0] 2 (0, 0))) (hA : W1.heap.size ≤ A) (hB : W1.heap.size ≤ B) (hne : A ≠ B) (hb : Below W1.heap.size W1 W) :
    ((W.setCell ⟨A, 0, none⟩ (.int .i64 z)).setCell ⟨B, 0, none⟩ (.int .i64 z)).heap[A]? = some (.cells #[.int .i64 z] 2 (0, 0)) ∧ ((W.setCell ⟨A, 0, none⟩ (.int .i64 z)).setCell ⟨B, 0, none⟩ (.int .i64 z)).heap[B]? = some (.cells #[.int .i64 z] 2 (0, 0)) ∧ W1.heap.size ≤ A ∧ W1.heap.size ≤ B ∧ A ≠ B ∧ Below W1.heap.size W1 ((W.setCell ⟨A, 0, none⟩ (.int .i64 z)).setCell ⟨B, 0, none⟩ (.int .i64 z)) := by
  refine ⟨?_, ?_, hA, hB, hne, (hb.setCell (p := ⟨A, 0, none⟩) hA _).setCell (p := ⟨B, 0, none⟩) hB _⟩
  · rw [Below.heap_setCell _ _ _ _ (fun h => hne h)]
    exact heap_set k1 0 _ _ (by simp)
  · exact heap_set ((Below.heap_setCell _ _ _ _ (fun h => hne h.symm)).trans k2) 0 _ _ (by simp)
/-- the least and the greatest height at the edge among these places -/
def chF (R C : Nat) (h : Nat → Nat → Int) (L : List (Nat × Nat)) : Int × Int := L.foldl (fun s p => if edgeB R C p.1 p.2 then (minG s.1 (h p.1 p.2), maxG s.2 (h p.1 p.2)) else s) (h 0 0, h 0 0)
def chV (G : List (List Int)) : Int := if okG G then (chF G.length (colsG G) (hG G) (plAll G.length (colsG G))).2 - (chF G.length (colsG G) (hG G) (plAll G.length (colsG G))).1 else 0
theorem chF_next (R C : Nat) (h : Nat → Nat → Int) (L : List (Nat × Nat)) (p : Nat × Nat) : chF R C h (L ++ [p]) = if edgeB R C p.1 p.2 then (minG (chF R C h L).1 (h p.1 p.2), maxG (chF R C h L).2 (h p.1 p.2)) else chF R C h L := by
  unfold chF; rw [List.foldl_append]; rfl
theorem chF_bd {R C : Nat} (hR : 1 ≤ R) (hC : 1 ≤ C) (h : Nat → Nat → Int) (h0 : ∀ i k, i < R → k < C → 0 ≤ h i k) (h1 : ∀ i k, i < R → k < C → h i k ≤ 1000) (L : List (Nat × Nat)) : L <+: plAll R C → (0 ≤ (chF R C h L).1 ∧ (chF R C h L).1 ≤ 1000) ∧ (0 ≤ (chF R C h L).2 ∧ (chF R C h L).2 ≤ 1000) := by
  refine snoc_ind (P := fun L => L <+: plAll R C → (0 ≤ (chF R C h L).1 ∧ (chF R C h L).1 ≤ 1000) ∧ (0 ≤ (chF R C h L).2 ∧ (chF R C h L).2 ≤ 1000)) (fun _ => ?_) (fun L p ih hp => ?_) L
  · have a := h0 0 0 (by omega) (by omega)
    have b := h1 0 0 (by omega) (by omega)
    exact ⟨⟨a, b⟩, ⟨a, b⟩⟩
  · obtain ⟨a, b, _⟩ := pre_place hp
    have i := ih ((List.prefix_append _ _).trans hp)
    have d := h0 p.1 p.2 a b
    have e := h1 p.1 p.2 a b
    show (0 ≤ (chF R C h (L ++ [p])).1 ∧ (chF R C h (L ++ [p])).1 ≤ 1000) ∧ (0 ≤ (chF R C h (L ++ [p])).2 ∧ (chF R C h (L ++ [p])).2 ≤ 1000)
    rw [chF_next]
    split
    · unfold minG maxG; dsimp only; constructor
      · split <;> omega
      · split <;> omega
    · exact i
set_option maxRecDepth 100000 in
set_option maxHeartbeats 3200000 in
theorem implChannelGap_any (v : Value) (G : List (List Int)) (w : World) (hn : G.length + totL G ≤ 1048576) (hv : GridAt w v G) : Calls Try.prog 24 #[v] w fun e w' => e = .returned (.tuple #[.int .i64 (chV G), .int .i64 (code (okG G) 1)]) ∧ Below w.heap.size w w' := by
  have cV := Lib.hid (implValidArch_any v G w hn hv)
  have hV : Hid (chV G = if okG G then (chF G.length (colsG G) (hG G) (plAll G.length (colsG G))).2 - (chF G.length (colsG G) (hG G) (plAll G.length (colsG G))).1 else 0) := Lib.hid rfl
  cases hok : okG G
  · rw [hok] at cV hV
    obtain ⟨a, cap, rfl, _⟩ := hv
    clear hok hn
    go_enter Try.func24, Try.ntmps24
    go_wp2_with (go_at_call 17; refine cV.out.mono ?_; rintro e w2 ⟨rfl, hd⟩)
    go_ret2
    exact ⟨by rw [hV.out]; rfl, hd.below⟩
  obtain ⟨g, o, cap, rg, ro, rc, rfl, hGR⟩ := grid_GR hv hok
  rw [hok] at cV hV
  rw [show chV G = (chF G.length (colsG G) (hG G) (plAll G.length (colsG G))).2 - (chF G.length (colsG G) (hG G) (plAll G.length (colsG G))).1 from hV.out]
  obtain ⟨R, hR⟩ : ∃ R, R = G.length := ⟨_, rfl⟩
  obtain ⟨C, hC⟩ : ∃ C, C = colsG G := ⟨_, rfl⟩
  obtain ⟨h, hh⟩ : ∃ h, h = hG G := ⟨_, rfl⟩
  rw [← hR] at cV
  rw [← hR, ← hC, ← hh] at hGR ⊢
  have hx := Lib.hid hGR
  clear hok hn hv hGR hV hR hC hh
  refine (callsIn_wide (n := 3)).1 ?_
  refine callsIn_of_wp_marks Try.func24 rfl trivial ?_ rfl
  simp only [Try.ntmps24, List.size_toArray, List.length_cons, List.length_nil, Nat.reduceAdd, Nat.reduceSub, Array.replicate_succ, Array.replicate_zero, List.push_toArray, List.append_toArray, List.nil_append, List.cons_append]
  gi_wp2_with fail
  refine ⟨trivial, (callsIn_wide.2 cV.out).mono ?_⟩
  rintro e w1 ⟨rfl, hd1⟩
  have hx1 := hx.out.below hd1.below
  have hd := Lib.hid hd1.below
  clear hd1
  gi_wp2_with fail
  obtain ⟨N, hN⟩ : ∃ N, N = w1.heap.size := ⟨_, rfl⟩
  have g0 : (w1.alloc (.cells #[.slice (some ⟨g, o, none⟩) R cap] 44)).heap[N]? = some (.cells #[.slice (some ⟨g, o, none⟩) R cap] 44 (0, 0)) := by rw [hN]; exact heap_alloc_new _ _
  have gz : (w1.alloc (.cells #[.slice (some ⟨g, o, none⟩) R cap] 44)).heap.size = N + 1 := by simp [hN]
  have gB : Below w1.heap.size w1 (w1.alloc (.cells #[.slice (some ⟨g, o, none⟩) R cap] 44)) := (Below.refl _ _).alloc (Nat.le_refl _) _
  have gW := Lib.hid (hd.out.trans (gB.mono hd.out.size))
  have hx2 := Lib.hid (hx1.below gB)
  have hwN : w.heap.size ≤ N := by rw [hN]; exact hd.out.size
  have hgN : g < N := by rw [hN]; exact hx1.gl
  rw [← hN]
  clear hx1 gB hd hN cV
  generalize w1.alloc (.cells #[.slice (some ⟨g, o, none⟩) R cap] 44) = W1 at g0 gz gW hx2 ⊢
  have cZ0 := fun w' (hw' : Below W1.heap.size W1 w') => at_any g o cap R C rg ro rc h w' (hx2.out.below hw') 0 0 hx2.out.R1 hx2.out.C1
  unfold encP at cZ0
  dsimp only at cZ0
  rw [show ((0 : Nat) : Int) = 0 from rfl] at cZ0
  obtain ⟨z0, hz0⟩ : ∃ z, z = h 0 0 := ⟨_, rfl⟩
  rw [← hz0] at cZ0
  have cZ := Lib.hid cZ0
  have g0' := Lib.hid g0
  have gz' := Lib.hid gz
  clear gz
  have hz0' := Lib.hid hz0
  clear hz0 cZ0
  have open0 : Hid (∀ w', Below W1.heap.size W1 w' → w'.cell? ⟨N, 0, none⟩ = some (.slice (some ⟨g, o, none⟩) R cap)) := Lib.hid (fun w' hw' => cellB ((hw'.block _ (by have := gz'.out; omega)).trans g0) 0 _ rfl)
  refine wpIn_wide.2 ?_
  refine wp_two [(12, .slice (some ⟨g, o, none⟩) R cap), (13, .agg #[.int .i64 0, .int .i64 0]), (14, .int .i64 z0), (15, .slice (some ⟨g, o, none⟩) R cap), (16, .agg #[.int .i64 0, .int .i64 0]), (17, .int .i64 z0)] 5 6 (S := fun P0 Q0 w' => w'.heap[P0]? = some (.cells #[.int .i64 z0] 2 (0, 0)) ∧ w'.heap[Q0]? = some (.cells #[.int .i64 z0] 2 (0, 0)) ∧ W1.heap.size ≤ P0 ∧ W1.heap.size ≤ Q0 ∧ P0 ≠ Q0 ∧ Below W1.heap.size W1 w') ?h1 ?h2
  case h1 =>
    intro K2 hK2
    simp only [putsL, Act.put, List.setIfInBounds_toArray, List.set_cons_zero, List.set_cons_succ] at hK2
    refine wp_held_tail (S := fun w' => Below W1.heap.size W1 w') 8 (by kernel_rfl) (by kernel_rfl) (by kernel_rfl) (belowN (Below.refl _ _) 1) (fun hHeld => ?_)
    simp only [List.take_succ_cons, List.take_zero]
    refine wpAnyH_take (i := 0) (oi := ⟨some 12, _, _, _, _, _⟩) (v := ?vq0) rfl (by kernel_rfl) (by kernel_rfl) (by kernel_rfl) (fun _ _ _ h => (by have h2 := And.left h; cases h2)) (Or.inl ⟨by rfl, ?hq0⟩) (by assumption) ?rq0
    case hq0 => (intro w'' hSw; have c0 := open0.out w'' hSw; go_simp; try with_reducible rfl)
    try simp only [Act.put, List.setIfInBounds_toArray, List.set_cons_zero, List.set_cons_succ]
    refine wpAnyH_take (i := 1) (oi := ⟨some 13, _, _, _, _, _⟩) (v := ?vq1) rfl (by kernel_rfl) (by kernel_rfl) (by kernel_rfl) (fun _ _ _ h => (by have h2 := And.left h; cases h2)) (Or.inl ⟨by rfl, ?hq1⟩) (by assumption) ?rq1
    case hq1 => (intro w'' hSw; have c0 := open0.out w'' hSw; go_simp; try with_reducible rfl)
    try simp only [Act.put, List.setIfInBounds_toArray, List.set_cons_zero, List.set_cons_succ]
    refine wpAnyH_take (i := 3) (oi := ⟨some 15, _, _, _, _, _⟩) (v := ?vq3) rfl (by kernel_rfl) (by kernel_rfl) (by kernel_rfl) (fun _ _ _ h => (by have h2 := And.left h; cases h2)) (Or.inl ⟨by rfl, ?hq3⟩) (by assumption) ?rq3
    case hq3 => (intro w'' hSw; have c0 := open0.out w'' hSw; go_simp; try with_reducible rfl)
    try simp only [Act.put, List.setIfInBounds_toArray, List.set_cons_zero, List.set_cons_succ]
    refine wpAnyH_take (i := 4) (oi := ⟨some 16, _, _, _, _, _⟩) (v := ?vq4) rfl (by kernel_rfl) (by kernel_rfl) (by kernel_rfl) (fun _ _ _ h => (by have h2 := And.left h; cases h2)) (Or.inl ⟨by rfl, ?hq4⟩) (by assumption) ?rq4
    case hq4 => (intro w'' hSw; have c0 := open0.out w'' hSw; go_simp; try with_reducible rfl)
    try simp only [Act.put, List.setIfInBounds_toArray, List.set_cons_zero, List.set_cons_succ]
    generalize W1.drew = W at hHeld ⊢
    refine wpAnyH_ready (rs := [2, 6, 7]) (by kernel_rfl) (by simp) ?_
    refine AllReadyH.cons (o := ⟨some 14, _, _, _, _, _⟩) rfl (fun K hK => ?_) ?_
    · go_simp
      refine (cZ.out _ hHeld).mono ?_
      rintro e W' ⟨rfl, hb⟩
      try go_wp2_with fail
      refine hK.out _ _ (hHeld.trans (hb.mono hHeld.size)) (fun hHeld2 => ?_)
      clear hK K hHeld hb
      have hHeld := hHeld2
      clear hHeld2
      generalize W' = W at hHeld ⊢
      try simp only [Act.put, List.setIfInBounds_toArray, List.set_cons_zero, List.set_cons_succ]
      refine wpAnyH_ready (rs := [5, 6, 7]) (by kernel_rfl) (by simp) ?_
      refine AllReadyH.cons (o := ⟨some 17, _, _, _, _, _⟩) rfl (fun K hK => ?_) ?_
      · go_simp
        refine (cZ.out _ hHeld).mono ?_
        rintro e W' ⟨rfl, hb⟩
        try go_wp2_with fail
        refine hK.out _ _ (hHeld.trans (hb.mono hHeld.size)) (fun hHeld2 => ?_)
        clear hK K hHeld hb
        have hHeld := hHeld2
        clear hHeld2
        generalize W' = W at hHeld ⊢
        try simp only [Act.put, List.setIfInBounds_toArray, List.set_cons_zero, List.set_cons_succ]
        refine wpAnyH_ready (rs := [6, 7]) (by kernel_rfl) (by simp) ?_
        refine AllReadyH.cons (o := ⟨some 5, _, _, _, _, _⟩) rfl (fun K hK => ?_) ?_
        · go_simp
          try go_wp2_with fail
          refine hK.out _ _ (hHeld.alloc hHeld.size _) (fun hHeld2 => ?_)
          have k6 := Lib.hid (heap_alloc_new W (.cells #[.int .i64 0] 2))
          obtain ⟨P0, hP0⟩ : ∃ x, x = W.heap.size := ⟨_, rfl⟩
          rw [← hP0] at k6 ⊢
          have hm : Hid (W1.heap.size ≤ P0) := Lib.hid (by rw [hP0]; exact hHeld.size)
          clear hP0 hK K hHeld
          generalize W.alloc (.cells #[.int .i64 0] 2) = W' at hHeld2 k6 ⊢
          have hHeld := hHeld2
          clear hHeld2
          generalize W' = W at hHeld k6 ⊢
          try simp only [Act.put, List.setIfInBounds_toArray, List.set_cons_zero, List.set_cons_succ]
          refine wpAnyH_ready (rs := [7]) (by kernel_rfl) (by simp) ?_
          refine AllReadyH.cons (o := ⟨some 6, _, _, _, _, _⟩) rfl (fun K hK => ?_) ?_
          · go_simp
            try go_wp2_with fail
            refine hK.out _ _ (hHeld.alloc hHeld.size _) (fun hHeld2 => ?_)
            have k7 := Lib.hid (heap_alloc_new W (.cells #[.int .i64 0] 2))
            obtain ⟨Q0, hQ0⟩ : ∃ x, x = W.heap.size := ⟨_, rfl⟩
            rw [← hQ0] at k7 ⊢
            have hn : Hid (W1.heap.size ≤ P0 ∧ W1.heap.size ≤ Q0 ∧ P0 ≠ Q0) := Lib.hid (by have := lt_of_some k6.out; have := hHeld.size; have := hm.out; omega)
            replace k6 := Lib.hid ((Below.heap_alloc W (.cells #[.int .i64 0] 2) _ (lt_of_some k6.out)).trans k6.out)
            clear hQ0 hK K hHeld
            generalize W.alloc (.cells #[.int .i64 0] 2) = W' at hHeld2 k6 k7 ⊢
            have hHeld := hHeld2
            clear hHeld2
            generalize W' = W at hHeld k6 k7 ⊢
            try simp only [Act.put, List.setIfInBounds_toArray, List.set_cons_zero, List.set_cons_succ]
            refine wpAnyH_done (by kernel_rfl) ?_ _
            refine tailQ_list (by simp) ?_
            simp only [List.drop_succ_cons, List.drop_zero]
            have hn0 := hn.out
            have c6 := cellB k6.out 0 _ rfl
            have c7 := cellB k7.out 0 _ rfl
            have f0 := freeB k6.out 0
            have f1 := freeB k7.out 0
            go_wp2_with fail
            exact hK2.out P0 Q0 _ (two_set (z := z0) k6.out k7.out hn0.1 hn0.2.1 hn0.2.2 hHeld)
          exact AllReadyH.nil
        refine AllReadyH.cons (o := ⟨some 6, _, _, _, _, _⟩) rfl (fun K hK => ?_) ?_
        · go_simp
          try go_wp2_with fail
          refine hK.out _ _ (hHeld.alloc hHeld.size _) (fun hHeld2 => ?_)
          have k7 := Lib.hid (heap_alloc_new W (.cells #[.int .i64 0] 2))
          obtain ⟨Q0, hQ0⟩ : ∃ x, x = W.heap.size := ⟨_, rfl⟩
          rw [← hQ0] at k7 ⊢
          have hm : Hid (W1.heap.size ≤ Q0) := Lib.hid (by rw [hQ0]; exact hHeld.size)
          clear hQ0 hK K hHeld
          generalize W.alloc (.cells #[.int .i64 0] 2) = W' at hHeld2 k7 ⊢
          have hHeld := hHeld2
          clear hHeld2
          generalize W' = W at hHeld k7 ⊢
          try simp only [Act.put, List.setIfInBounds_toArray, List.set_cons_zero, List.set_cons_succ]
          refine wpAnyH_ready (rs := [6]) (by kernel_rfl) (by simp) ?_
          refine AllReadyH.cons (o := ⟨some 5, _, _, _, _, _⟩) rfl (fun K hK => ?_) ?_
          · go_simp
            try go_wp2_with fail
            refine hK.out _ _ (hHeld.alloc hHeld.size _) (fun hHeld2 => ?_)
            have k6 := Lib.hid (heap_alloc_new W (.cells #[.int .i64 0] 2))
            obtain ⟨P0, hP0⟩ : ∃ x, x = W.heap.size := ⟨_, rfl⟩
            rw [← hP0] at k6 ⊢
            have hn : Hid (W1.heap.size ≤ P0 ∧ W1.heap.size ≤ Q0 ∧ P0 ≠ Q0) := Lib.hid (by have := lt_of_some k7.out; have := hHeld.size; have := hm.out; omega)
            replace k7 := Lib.hid ((Below.heap_alloc W (.cells #[.int .i64 0] 2) _ (lt_of_some k7.out)).trans k7.out)
            clear hP0 hK K hHeld
            generalize W.alloc (.cells #[.int .i64 0] 2) = W' at hHeld2 k6 k7 ⊢
            have hHeld := hHeld2
            clear hHeld2
            generalize W' = W at hHeld k6 k7 ⊢
            try simp only [Act.put, List.setIfInBounds_toArray, List.set_cons_zero, List.set_cons_succ]
            refine wpAnyH_done (by kernel_rfl) ?_ _
            refine tailQ_list (by simp) ?_
            simp only [List.drop_succ_cons, List.drop_zero]
            have hn0 := hn.out
            have c6 := cellB k6.out 0 _ rfl
            have c7 := cellB k7.out 0 _ rfl
            have f0 := freeB k6.out 0
            have f1 := freeB k7.out 0
            go_wp2_with fail
            exact hK2.out P0 Q0 _ (two_set (z := z0) k6.out k7.out hn0.1 hn0.2.1 hn0.2.2 hHeld)
          exact AllReadyH.nil
        exact AllReadyH.nil
      refine AllReadyH.cons (o := ⟨some 5, _, _, _, _, _⟩) rfl (fun K hK => ?_) ?_
      · go_simp
        try go_wp2_with fail
        refine hK.out _ _ (hHeld.alloc hHeld.size _) (fun hHeld2 => ?_)
        have k6 := Lib.hid (heap_alloc_new W (.cells #[.int .i64 0] 2))
        obtain ⟨P0, hP0⟩ : ∃ x, x = W.heap.size := ⟨_, rfl⟩
        rw [← hP0] at k6 ⊢
        have hm : Hid (W1.heap.size ≤ P0) := Lib.hid (by rw [hP0]; exact hHeld.size)
        clear hP0 hK K hHeld
        generalize W.alloc (.cells #[.int .i64 0] 2) = W' at hHeld2 k6 ⊢
        have hHeld := hHeld2
        clear hHeld2
        generalize W' = W at hHeld k6 ⊢
        try simp only [Act.put, List.setIfInBounds_toArray, List.set_cons_zero, List.set_cons_succ]
        refine wpAnyH_ready (rs := [5, 7]) (by kernel_rfl) (by simp) ?_
        refine AllReadyH.cons (o := ⟨some 17, _, _, _, _, _⟩) rfl (fun K hK => ?_) ?_
        · go_simp
          refine (cZ.out _ hHeld).mono ?_
          rintro e W' ⟨rfl, hb⟩
          try go_wp2_with fail
          refine hK.out _ _ (hHeld.trans (hb.mono hHeld.size)) (fun hHeld2 => ?_)
          replace k6 := Lib.hid ((hb.block _ (lt_of_some k6.out)).trans k6.out)
          clear hK K hHeld hb
          have hHeld := hHeld2
          clear hHeld2
          generalize W' = W at hHeld k6 ⊢
          try simp only [Act.put, List.setIfInBounds_toArray, List.set_cons_zero, List.set_cons_succ]
          refine wpAnyH_ready (rs := [7]) (by kernel_rfl) (by simp) ?_
          refine AllReadyH.cons (o := ⟨some 6, _, _, _, _, _⟩) rfl (fun K hK => ?_) ?_
          · go_simp
            try go_wp2_with fail
            refine hK.out _ _ (hHeld.alloc hHeld.size _) (fun hHeld2 => ?_)
            have k7 := Lib.hid (heap_alloc_new W (.cells #[.int .i64 0] 2))
            obtain ⟨Q0, hQ0⟩ : ∃ x, x = W.heap.size := ⟨_, rfl⟩
            rw [← hQ0] at k7 ⊢
            have hn : Hid (W1.heap.size ≤ P0 ∧ W1.heap.size ≤ Q0 ∧ P0 ≠ Q0) := Lib.hid (by have := lt_of_some k6.out; have := hHeld.size; have := hm.out; omega)
            replace k6 := Lib.hid ((Below.heap_alloc W (.cells #[.int .i64 0] 2) _ (lt_of_some k6.out)).trans k6.out)
            clear hQ0 hK K hHeld
            generalize W.alloc (.cells #[.int .i64 0] 2) = W' at hHeld2 k6 k7 ⊢
            have hHeld := hHeld2
            clear hHeld2
            generalize W' = W at hHeld k6 k7 ⊢
            try simp only [Act.put, List.setIfInBounds_toArray, List.set_cons_zero, List.set_cons_succ]
            refine wpAnyH_done (by kernel_rfl) ?_ _
            refine tailQ_list (by simp) ?_
            simp only [List.drop_succ_cons, List.drop_zero]
            have hn0 := hn.out
            have c6 := cellB k6.out 0 _ rfl
            have c7 := cellB k7.out 0 _ rfl
            have f0 := freeB k6.out 0
            have f1 := freeB k7.out 0
            go_wp2_with fail
            exact hK2.out P0 Q0 _ (two_set (z := z0) k6.out k7.out hn0.1 hn0.2.1 hn0.2.2 hHeld)
          exact AllReadyH.nil
        refine AllReadyH.cons (o := ⟨some 6, _, _, _, _, _⟩) rfl (fun K hK => ?_) ?_
        · go_simp
          try go_wp2_with fail
          refine hK.out _ _ (hHeld.alloc hHeld.size _) (fun hHeld2 => ?_)
          have k7 := Lib.hid (heap_alloc_new W (.cells #[.int .i64 0] 2))
          obtain ⟨Q0, hQ0⟩ : ∃ x, x = W.heap.size := ⟨_, rfl⟩
          rw [← hQ0] at k7 ⊢
          have hn : Hid (W1.heap.size ≤ P0 ∧ W1.heap.size ≤ Q0 ∧ P0 ≠ Q0) := Lib.hid (by have := lt_of_some k6.out; have := hHeld.size; have := hm.out; omega)
          replace k6 := Lib.hid ((Below.heap_alloc W (.cells #[.int .i64 0] 2) _ (lt_of_some k6.out)).trans k6.out)
          clear hQ0 hK K hHeld
          generalize W.alloc (.cells #[.int .i64 0] 2) = W' at hHeld2 k6 k7 ⊢
          have hHeld := hHeld2
          clear hHeld2
          generalize W' = W at hHeld k6 k7 ⊢
          try simp only [Act.put, List.setIfInBounds_toArray, List.set_cons_zero, List.set_cons_succ]
          refine wpAnyH_ready (rs := [5]) (by kernel_rfl) (by simp) ?_
          refine AllReadyH.cons (o := ⟨some 17, _, _, _, _, _⟩) rfl (fun K hK => ?_) ?_
          · go_simp
            refine (cZ.out _ hHeld).mono ?_
            rintro e W' ⟨rfl, hb⟩
            try go_wp2_with fail
            refine hK.out _ _ (hHeld.trans (hb.mono hHeld.size)) (fun hHeld2 => ?_)
            replace k6 := Lib.hid ((hb.block _ (lt_of_some k6.out)).trans k6.out)
            replace k7 := Lib.hid ((hb.block _ (lt_of_some k7.out)).trans k7.out)
            clear hK K hHeld hb
            have hHeld := hHeld2
            clear hHeld2
            generalize W' = W at hHeld k6 k7 ⊢
            try simp only [Act.put, List.setIfInBounds_toArray, List.set_cons_zero, List.set_cons_succ]
            refine wpAnyH_done (by kernel_rfl) ?_ _
            refine tailQ_list (by simp) ?_
            simp only [List.drop_succ_cons, List.drop_zero]
            have hn0 := hn.out
            have c6 := cellB k6.out 0 _ rfl
            have c7 := cellB k7.out 0 _ rfl
            have f0 := freeB k6.out 0
            have f1 := freeB k7.out 0
            go_wp2_with fail
            exact hK2.out P0 Q0 _ (two_set (z := z0) k6.out k7.out hn0.1 hn0.2.1 hn0.2.2 hHeld)
          exact AllReadyH.nil
        exact AllReadyH.nil
      refine AllReadyH.cons (o := ⟨some 6, _, _, _, _, _⟩) rfl (fun K hK => ?_) ?_
      · go_simp
        try go_wp2_with fail
        refine hK.out _ _ (hHeld.alloc hHeld.size _) (fun hHeld2 => ?_)
        have k7 := Lib.hid (heap_alloc_new W (.cells #[.int .i64 0] 2))
        obtain ⟨Q0, hQ0⟩ : ∃ x, x = W.heap.size := ⟨_, rfl⟩
        rw [← hQ0] at k7 ⊢
        have hm : Hid (W1.heap.size ≤ Q0) := Lib.hid (by rw [hQ0]; exact hHeld.size)
        clear hQ0 hK K hHeld
        generalize W.alloc (.cells #[.int .i64 0] 2) = W' at hHeld2 k7 ⊢
        have hHeld := hHeld2
        clear hHeld2
        generalize W' = W at hHeld k7 ⊢
        try simp only [Act.put, List.setIfInBounds_toArray, List.set_cons_zero, List.set_cons_succ]
        refine wpAnyH_ready (rs := [5, 6]) (by kernel_rfl) (by simp) ?_
        refine AllReadyH.cons (o := ⟨some 17, _, _, _, _, _⟩) rfl (fun K hK => ?_) ?_
        · go_simp
          refine (cZ.out _ hHeld).mono ?_
          rintro e W' ⟨rfl, hb⟩
          try go_wp2_with fail
          refine hK.out _ _ (hHeld.trans (hb.mono hHeld.size)) (fun hHeld2 => ?_)
          replace k7 := Lib.hid ((hb.block _ (lt_of_some k7.out)).trans k7.out)
          clear hK K hHeld hb
          have hHeld := hHeld2
          clear hHeld2
          generalize W' = W at hHeld k7 ⊢
          try simp only [Act.put, List.setIfInBounds_toArray, List.set_cons_zero, List.set_cons_succ]
          refine wpAnyH_ready (rs := [6]) (by kernel_rfl) (by simp) ?_
          refine AllReadyH.cons (o := ⟨some 5, _, _, _, _, _⟩) rfl (fun K hK => ?_) ?_
          · go_simp
            try go_wp2_with fail
            refine hK.out _ _ (hHeld.alloc hHeld.size _) (fun hHeld2 => ?_)
            have k6 := Lib.hid (heap_alloc_new W (.cells #[.int .i64 0] 2))
            obtain ⟨P0, hP0⟩ : ∃ x, x = W.heap.size := ⟨_, rfl⟩
            rw [← hP0] at k6 ⊢
            have hn : Hid (W1.heap.size ≤ P0 ∧ W1.heap.size ≤ Q0 ∧ P0 ≠ Q0) := Lib.hid (by have := lt_of_some k7.out; have := hHeld.size; have := hm.out; omega)
            replace k7 := Lib.hid ((Below.heap_alloc W (.cells #[.int .i64 0] 2) _ (lt_of_some k7.out)).trans k7.out)
            clear hP0 hK K hHeld
            generalize W.alloc (.cells #[.int .i64 0] 2) = W' at hHeld2 k6 k7 ⊢
            have hHeld := hHeld2
            clear hHeld2
            generalize W' = W at hHeld k6 k7 ⊢
            try simp only [Act.put, List.setIfInBounds_toArray, List.set_cons_zero, List.set_cons_succ]
            refine wpAnyH_done (by kernel_rfl) ?_ _
            refine tailQ_list (by simp) ?_
            simp only [List.drop_succ_cons, List.drop_zero]
            have hn0 := hn.out
            have c6 := cellB k6.out 0 _ rfl
            have c7 := cellB k7.out 0 _ rfl
            have f0 := freeB k6.out 0
            have f1 := freeB k7.out 0
            go_wp2_with fail
            exact hK2.out P0 Q0 _ (two_set (z := z0) k6.out k7.out hn0.1 hn0.2.1 hn0.2.2 hHeld)
          exact AllReadyH.nil
        refine AllReadyH.cons (o := ⟨some 5, _, _, _, _, _⟩) rfl (fun K hK => ?_) ?_
        · go_simp
          try go_wp2_with fail
          refine hK.out _ _ (hHeld.alloc hHeld.size _) (fun hHeld2 => ?_)
          have k6 := Lib.hid (heap_alloc_new W (.cells #[.int .i64 0] 2))
          obtain ⟨P0, hP0⟩ : ∃ x, x = W.heap.size := ⟨_, rfl⟩
          rw [← hP0] at k6 ⊢
          have hn : Hid (W1.heap.size ≤ P0 ∧ W1.heap.size ≤ Q0 ∧ P0 ≠ Q0) := Lib.hid (by have := lt_of_some k7.out; have := hHeld.size; have := hm.out; omega)
          replace k7 := Lib.hid ((Below.heap_alloc W (.cells #[.int .i64 0] 2) _ (lt_of_some k7.out)).trans k7.out)
          clear hP0 hK K hHeld
          generalize W.alloc (.cells #[.int .i64 0] 2) = W' at hHeld2 k6 k7 ⊢
          have hHeld := hHeld2
          clear hHeld2
          generalize W' = W at hHeld k6 k7 ⊢
          try simp only [Act.put, List.setIfInBounds_toArray, List.set_cons_zero, List.set_cons_succ]
          refine wpAnyH_ready (rs := [5]) (by kernel_rfl) (by simp) ?_
          refine AllReadyH.cons (o := ⟨some 17, _, _, _, _, _⟩) rfl (fun K hK => ?_) ?_
          · go_simp
            refine (cZ.out _ hHeld).mono ?_
            rintro e W' ⟨rfl, hb⟩
            try go_wp2_with fail
            refine hK.out _ _ (hHeld.trans (hb.mono hHeld.size)) (fun hHeld2 => ?_)
            replace k6 := Lib.hid ((hb.block _ (lt_of_some k6.out)).trans k6.out)
            replace k7 := Lib.hid ((hb.block _ (lt_of_some k7.out)).trans k7.out)
            clear hK K hHeld hb
            have hHeld := hHeld2
            clear hHeld2
            generalize W' = W at hHeld k6 k7 ⊢
            try simp only [Act.put, List.setIfInBounds_toArray, List.set_cons_zero, List.set_cons_succ]
            refine wpAnyH_done (by kernel_rfl) ?_ _
            refine tailQ_list (by simp) ?_
            simp only [List.drop_succ_cons, List.drop_zero]
            have hn0 := hn.out
            have c6 := cellB k6.out 0 _ rfl
            have c7 := cellB k7.out 0 _ rfl
            have f0 := freeB k6.out 0
            have f1 := freeB k7.out 0
            go_wp2_with fail
            exact hK2.out P0 Q0 _ (two_set (z := z0) k6.out k7.out hn0.1 hn0.2.1 hn0.2.2 hHeld)
          exact AllReadyH.nil
        exact AllReadyH.nil
      exact AllReadyH.nil
    refine AllReadyH.cons (o := ⟨some 5, _, _, _, _, _⟩) rfl (fun K hK => ?_) ?_
    · go_simp
      try go_wp2_with fail
      refine hK.out _ _ (hHeld.alloc hHeld.size _) (fun hHeld2 => ?_)
      have k6 := Lib.hid (heap_alloc_new W (.cells #[.int .i64 0] 2))
      obtain ⟨P0, hP0⟩ : ∃ x, x = W.heap.size := ⟨_, rfl⟩
      rw [← hP0] at k6 ⊢
      have hm : Hid (W1.heap.size ≤ P0) := Lib.hid (by rw [hP0]; exact hHeld.size)
      clear hP0 hK K hHeld
      generalize W.alloc (.cells #[.int .i64 0] 2) = W' at hHeld2 k6 ⊢
      have hHeld := hHeld2
      clear hHeld2
      generalize W' = W at hHeld k6 ⊢
      try simp only [Act.put, List.setIfInBounds_toArray, List.set_cons_zero, List.set_cons_succ]
      refine wpAnyH_ready (rs := [2, 7]) (by kernel_rfl) (by simp) ?_
      refine AllReadyH.cons (o := ⟨some 14, _, _, _, _, _⟩) rfl (fun K hK => ?_) ?_
      · go_simp
        refine (cZ.out _ hHeld).mono ?_
        rintro e W' ⟨rfl, hb⟩
        try go_wp2_with fail
        refine hK.out _ _ (hHeld.trans (hb.mono hHeld.size)) (fun hHeld2 => ?_)
        replace k6 := Lib.hid ((hb.block _ (lt_of_some k6.out)).trans k6.out)
        clear hK K hHeld hb
        have hHeld := hHeld2
        clear hHeld2
        generalize W' = W at hHeld k6 ⊢
        try simp only [Act.put, List.setIfInBounds_toArray, List.set_cons_zero, List.set_cons_succ]
        refine wpAnyH_ready (rs := [5, 7]) (by kernel_rfl) (by simp) ?_
        refine AllReadyH.cons (o := ⟨some 17, _, _, _, _, _⟩) rfl (fun K hK => ?_) ?_
        · go_simp
          refine (cZ.out _ hHeld).mono ?_
          rintro e W' ⟨rfl, hb⟩
          try go_wp2_with fail
          refine hK.out _ _ (hHeld.trans (hb.mono hHeld.size)) (fun hHeld2 => ?_)
          replace k6 := Lib.hid ((hb.block _ (lt_of_some k6.out)).trans k6.out)
          clear hK K hHeld hb
          have hHeld := hHeld2
          clear hHeld2
          generalize W' = W at hHeld k6 ⊢
          try simp only [Act.put, List.setIfInBounds_toArray, List.set_cons_zero, List.set_cons_succ]
          refine wpAnyH_ready (rs := [7]) (by kernel_rfl) (by simp) ?_
          refine AllReadyH.cons (o := ⟨some 6, _, _, _, _, _⟩) rfl (fun K hK => ?_) ?_
          · go_simp
            try go_wp2_with fail
            refine hK.out _ _ (hHeld.alloc hHeld.size _) (fun hHeld2 => ?_)
            have k7 := Lib.hid (heap_alloc_new W (.cells #[.int .i64 0] 2))
            obtain ⟨Q0, hQ0⟩ : ∃ x, x = W.heap.size := ⟨_, rfl⟩
            rw [← hQ0] at k7 ⊢
            have hn : Hid (W1.heap.size ≤ P0 ∧ W1.heap.size ≤ Q0 ∧ P0 ≠ Q0) := Lib.hid (by have := lt_of_some k6.out; have := hHeld.size; have := hm.out; omega)
            replace k6 := Lib.hid ((Below.heap_alloc W (.cells #[.int .i64 0] 2) _ (lt_of_some k6.out)).trans k6.out)
            clear hQ0 hK K hHeld
            generalize W.alloc (.cells #[.int .i64 0] 2) = W' at hHeld2 k6 k7 ⊢
            have hHeld := hHeld2
            clear hHeld2
            generalize W' = W at hHeld k6 k7 ⊢
            try simp only [Act.put, List.setIfInBounds_toArray, List.set_cons_zero, List.set_cons_succ]
            refine wpAnyH_done (by kernel_rfl) ?_ _
            refine tailQ_list (by simp) ?_
            simp only [List.drop_succ_cons, List.drop_zero]
            have hn0 := hn.out
            have c6 := cellB k6.out 0 _ rfl
            have c7 := cellB k7.out 0 _ rfl
            have f0 := freeB k6.out 0
            have f1 := freeB k7.out 0
            go_wp2_with fail
            exact hK2.out P0 Q0 _ (two_set (z := z0) k6.out k7.out hn0.1 hn0.2.1 hn0.2.2 hHeld)
          exact AllReadyH.nil
        refine AllReadyH.cons (o := ⟨some 6, _, _, _, _, _⟩) rfl (fun K hK => ?_) ?_
        · go_simp
          try go_wp2_with fail
          refine hK.out _ _ (hHeld.alloc hHeld.size _) (fun hHeld2 => ?_)
          have k7 := Lib.hid (heap_alloc_new W (.cells #[.int .i64 0] 2))
          obtain ⟨Q0, hQ0⟩ : ∃ x, x = W.heap.size := ⟨_, rfl⟩
          rw [← hQ0] at k7 ⊢
          have hn : Hid (W1.heap.size ≤ P0 ∧ W1.heap.size ≤ Q0 ∧ P0 ≠ Q0) := Lib.hid (by have := lt_of_some k6.out; have := hHeld.size; have := hm.out; omega)
          replace k6 := Lib.hid ((Below.heap_alloc W (.cells #[.int .i64 0] 2) _ (lt_of_some k6.out)).trans k6.out)
          clear hQ0 hK K hHeld
          generalize W.alloc (.cells #[.int .i64 0] 2) = W' at hHeld2 k6 k7 ⊢
          have hHeld := hHeld2
          clear hHeld2
          generalize W' = W at hHeld k6 k7 ⊢
          try simp only [Act.put, List.setIfInBounds_toArray, List.set_cons_zero, List.set_cons_succ]
          refine wpAnyH_ready (rs := [5]) (by kernel_rfl) (by simp) ?_
          refine AllReadyH.cons (o := ⟨some 17, _, _, _, _, _⟩) rfl (fun K hK => ?_) ?_
          · go_simp
            refine (cZ.out _ hHeld).mono ?_
            rintro e W' ⟨rfl, hb⟩
            try go_wp2_with fail
            refine hK.out _ _ (hHeld.trans (hb.mono hHeld.size)) (fun hHeld2 => ?_)
            replace k6 := Lib.hid ((hb.block _ (lt_of_some k6.out)).trans k6.out)
            replace k7 := Lib.hid ((hb.block _ (lt_of_some k7.out)).trans k7.out)
            clear hK K hHeld hb
            have hHeld := hHeld2
            clear hHeld2
            generalize W' = W at hHeld k6 k7 ⊢
            try simp only [Act.put, List.setIfInBounds_toArray, List.set_cons_zero, List.set_cons_succ]
            refine wpAnyH_done (by kernel_rfl) ?_ _
            refine tailQ_list (by simp) ?_
            simp only [List.drop_succ_cons, List.drop_zero]
            have hn0 := hn.out
            have c6 := cellB k6.out 0 _ rfl
            have c7 := cellB k7.out 0 _ rfl
            have f0 := freeB k6.out 0
            have f1 := freeB k7.out 0
            go_wp2_with fail
            exact hK2.out P0 Q0 _ (two_set (z := z0) k6.out k7.out hn0.1 hn0.2.1 hn0.2.2 hHeld)
          exact AllReadyH.nil
        exact AllReadyH.nil
      refine AllReadyH.cons (o := ⟨some 6, _, _, _, _, _⟩) rfl (fun K hK => ?_) ?_
      · go_simp
        try go_wp2_with fail
        refine hK.out _ _ (hHeld.alloc hHeld.size _) (fun hHeld2 => ?_)
        have k7 := Lib.hid (heap_alloc_new W (.cells #[.int .i64 0] 2))
        obtain ⟨Q0, hQ0⟩ : ∃ x, x = W.heap.size := ⟨_, rfl⟩
        rw [← hQ0] at k7 ⊢
        have hn : Hid (W1.heap.size ≤ P0 ∧ W1.heap.size ≤ Q0 ∧ P0 ≠ Q0) := Lib.hid (by have := lt_of_some k6.out; have := hHeld.size; have := hm.out; omega)
        replace k6 := Lib.hid ((Below.heap_alloc W (.cells #[.int .i64 0] 2) _ (lt_of_some k6.out)).trans k6.out)
        clear hQ0 hK K hHeld
        generalize W.alloc (.cells #[.int .i64 0] 2) = W' at hHeld2 k6 k7 ⊢
        have hHeld := hHeld2
        clear hHeld2
        generalize W' = W at hHeld k6 k7 ⊢
        try simp only [Act.put, List.setIfInBounds_toArray, List.set_cons_zero, List.set_cons_succ]
        refine wpAnyH_ready (rs := [2]) (by kernel_rfl) (by simp) ?_
        refine AllReadyH.cons (o := ⟨some 14, _, _, _, _, _⟩) rfl (fun K hK => ?_) ?_
        · go_simp
          refine (cZ.out _ hHeld).mono ?_
          rintro e W' ⟨rfl, hb⟩
          try go_wp2_with fail
          refine hK.out _ _ (hHeld.trans (hb.mono hHeld.size)) (fun hHeld2 => ?_)
          replace k6 := Lib.hid ((hb.block _ (lt_of_some k6.out)).trans k6.out)
          replace k7 := Lib.hid ((hb.block _ (lt_of_some k7.out)).trans k7.out)
          clear hK K hHeld hb
          have hHeld := hHeld2
          clear hHeld2
          generalize W' = W at hHeld k6 k7 ⊢
          try simp only [Act.put, List.setIfInBounds_toArray, List.set_cons_zero, List.set_cons_succ]
          refine wpAnyH_ready (rs := [5]) (by kernel_rfl) (by simp) ?_
          refine AllReadyH.cons (o := ⟨some 17, _, _, _, _, _⟩) rfl (fun K hK => ?_) ?_
          · go_simp
            refine (cZ.out _ hHeld).mono ?_
            rintro e W' ⟨rfl, hb⟩
            try go_wp2_with fail
            refine hK.out _ _ (hHeld.trans (hb.mono hHeld.size)) (fun hHeld2 => ?_)
            replace k6 := Lib.hid ((hb.block _ (lt_of_some k6.out)).trans k6.out)
            replace k7 := Lib.hid ((hb.block _ (lt_of_some k7.out)).trans k7.out)
            clear hK K hHeld hb
            have hHeld := hHeld2
            clear hHeld2
            generalize W' = W at hHeld k6 k7 ⊢
            try simp only [Act.put, List.setIfInBounds_toArray, List.set_cons_zero, List.set_cons_succ]
            refine wpAnyH_done (by kernel_rfl) ?_ _
            refine tailQ_list (by simp) ?_
            simp only [List.drop_succ_cons, List.drop_zero]
            have hn0 := hn.out
            have c6 := cellB k6.out 0 _ rfl
            have c7 := cellB k7.out 0 _ rfl
            have f0 := freeB k6.out 0
            have f1 := freeB k7.out 0
            go_wp2_with fail
            exact hK2.out P0 Q0 _ (two_set (z := z0) k6.out k7.out hn0.1 hn0.2.1 hn0.2.2 hHeld)
          exact AllReadyH.nil
        exact AllReadyH.nil
      exact AllReadyH.nil
    refine AllReadyH.cons (o := ⟨some 6, _, _, _, _, _⟩) rfl (fun K hK => ?_) ?_
    · go_simp
      try go_wp2_with fail
      refine hK.out _ _ (hHeld.alloc hHeld.size _) (fun hHeld2 => ?_)
      have k7 := Lib.hid (heap_alloc_new W (.cells #[.int .i64 0] 2))
      obtain ⟨Q0, hQ0⟩ : ∃ x, x = W.heap.size := ⟨_, rfl⟩
      rw [← hQ0] at k7 ⊢
      have hm : Hid (W1.heap.size ≤ Q0) := Lib.hid (by rw [hQ0]; exact hHeld.size)
      clear hQ0 hK K hHeld
      generalize W.alloc (.cells #[.int .i64 0] 2) = W' at hHeld2 k7 ⊢
      have hHeld := hHeld2
      clear hHeld2
      generalize W' = W at hHeld k7 ⊢
      try simp only [Act.put, List.setIfInBounds_toArray, List.set_cons_zero, List.set_cons_succ]
      refine wpAnyH_ready (rs := [2, 6]) (by kernel_rfl) (by simp) ?_
      refine AllReadyH.cons (o := ⟨some 14, _, _, _, _, _⟩) rfl (fun K hK => ?_) ?_
      · go_simp
        refine (cZ.out _ hHeld).mono ?_
        rintro e W' ⟨rfl, hb⟩
        try go_wp2_with fail
        refine hK.out _ _ (hHeld.trans (hb.mono hHeld.size)) (fun hHeld2 => ?_)
        replace k7 := Lib.hid ((hb.block _ (lt_of_some k7.out)).trans k7.out)
        clear hK K hHeld hb
        have hHeld := hHeld2
        clear hHeld2
        generalize W' = W at hHeld k7 ⊢
        try simp only [Act.put, List.setIfInBounds_toArray, List.set_cons_zero, List.set_cons_succ]
        refine wpAnyH_ready (rs := [5, 6]) (by kernel_rfl) (by simp) ?_
        refine AllReadyH.cons (o := ⟨some 17, _, _, _, _, _⟩) rfl (fun K hK => ?_) ?_
        · go_simp
          refine (cZ.out _ hHeld).mono ?_
          rintro e W' ⟨rfl, hb⟩
          try go_wp2_with fail
          refine hK.out _ _ (hHeld.trans (hb.mono hHeld.size)) (fun hHeld2 => ?_)
          replace k7 := Lib.hid ((hb.block _ (lt_of_some k7.out)).trans k7.out)
          clear hK K hHeld hb
          have hHeld := hHeld2
          clear hHeld2
          generalize W' = W at hHeld k7 ⊢
          try simp only [Act.put, List.setIfInBounds_toArray, List.set_cons_zero, List.set_cons_succ]
          refine wpAnyH_ready (rs := [6]) (by kernel_rfl) (by simp) ?_
          refine AllReadyH.cons (o := ⟨some 5, _, _, _, _, _⟩) rfl (fun K hK => ?_) ?_
          · go_simp
            try go_wp2_with fail
            refine hK.out _ _ (hHeld.alloc hHeld.size _) (fun hHeld2 => ?_)
            have k6 := Lib.hid (heap_alloc_new W (.cells #[.int .i64 0] 2))
            obtain ⟨P0, hP0⟩ : ∃ x, x = W.heap.size := ⟨_, rfl⟩
            rw [← hP0] at k6 ⊢
            have hn : Hid (W1.heap.size ≤ P0 ∧ W1.heap.size ≤ Q0 ∧ P0 ≠ Q0) := Lib.hid (by have := lt_of_some k7.out; have := hHeld.size; have := hm.out; omega)
            replace k7 := Lib.hid ((Below.heap_alloc W (.cells #[.int .i64 0] 2) _ (lt_of_some k7.out)).trans k7.out)
            clear hP0 hK K hHeld
            generalize W.alloc (.cells #[.int .i64 0] 2) = W' at hHeld2 k6 k7 ⊢
            have hHeld := hHeld2
            clear hHeld2
            generalize W' = W at hHeld k6 k7 ⊢
            try simp only [Act.put, List.setIfInBounds_toArray, List.set_cons_zero, List.set_cons_succ]
            refine wpAnyH_done (by kernel_rfl) ?_ _
            refine tailQ_list (by simp) ?_
            simp only [List.drop_succ_cons, List.drop_zero]
            have hn0 := hn.out
            have c6 := cellB k6.out 0 _ rfl
            have c7 := cellB k7.out 0 _ rfl
            have f0 := freeB k6.out 0
            have f1 := freeB k7.out 0
            go_wp2_with fail
            exact hK2.out P0 Q0 _ (two_set (z := z0) k6.out k7.out hn0.1 hn0.2.1 hn0.2.2 hHeld)
          exact AllReadyH.nil
        refine AllReadyH.cons (o := ⟨some 5, _, _, _, _, _⟩) rfl (fun K hK => ?_) ?_
        · go_simp
          try go_wp2_with fail
          refine hK.out _ _ (hHeld.alloc hHeld.size _) (fun hHeld2 => ?_)
          have k6 := Lib.hid (heap_alloc_new W (.cells #[.int .i64 0] 2))
          obtain ⟨P0, hP0⟩ : ∃ x, x = W.heap.size := ⟨_, rfl⟩
          rw [← hP0] at k6 ⊢
          have hn : Hid (W1.heap.size ≤ P0 ∧ W1.heap.size ≤ Q0 ∧ P0 ≠ Q0) := Lib.hid (by have := lt_of_some k7.out; have := hHeld.size; have := hm.out; omega)
          replace k7 := Lib.hid ((Below.heap_alloc W (.cells #[.int .i64 0] 2) _ (lt_of_some k7.out)).trans k7.out)
          clear hP0 hK K hHeld
          generalize W.alloc (.cells #[.int .i64 0] 2) = W' at hHeld2 k6 k7 ⊢
          have hHeld := hHeld2
          clear hHeld2
          generalize W' = W at hHeld k6 k7 ⊢
          try simp only [Act.put, List.setIfInBounds_toArray, List.set_cons_zero, List.set_cons_succ]
          refine wpAnyH_ready (rs := [5]) (by kernel_rfl) (by simp) ?_
          refine AllReadyH.cons (o := ⟨some 17, _, _, _, _, _⟩) rfl (fun K hK => ?_) ?_
          · go_simp
            refine (cZ.out _ hHeld).mono ?_
            rintro e W' ⟨rfl, hb⟩
            try go_wp2_with fail
            refine hK.out _ _ (hHeld.trans (hb.mono hHeld.size)) (fun hHeld2 => ?_)
            replace k6 := Lib.hid ((hb.block _ (lt_of_some k6.out)).trans k6.out)
            replace k7 := Lib.hid ((hb.block _ (lt_of_some k7.out)).trans k7.out)
            clear hK K hHeld hb
            have hHeld := hHeld2
            clear hHeld2
            generalize W' = W at hHeld k6 k7 ⊢
            try simp only [Act.put, List.setIfInBounds_toArray, List.set_cons_zero, List.set_cons_succ]
            refine wpAnyH_done (by kernel_rfl) ?_ _
            refine tailQ_list (by simp) ?_
            simp only [List.drop_succ_cons, List.drop_zero]
            have hn0 := hn.out
            have c6 := cellB k6.out 0 _ rfl
            have c7 := cellB k7.out 0 _ rfl
            have f0 := freeB k6.out 0
            have f1 := freeB k7.out 0
            go_wp2_with fail
            exact hK2.out P0 Q0 _ (two_set (z := z0) k6.out k7.out hn0.1 hn0.2.1 hn0.2.2 hHeld)
          exact AllReadyH.nil
        exact AllReadyH.nil
      refine AllReadyH.cons (o := ⟨some 5, _, _, _, _, _⟩) rfl (fun K hK => ?_) ?_
      · go_simp
        try go_wp2_with fail
        refine hK.out _ _ (hHeld.alloc hHeld.size _) (fun hHeld2 => ?_)
        have k6 := Lib.hid (heap_alloc_new W (.cells #[.int .i64 0] 2))
        obtain ⟨P0, hP0⟩ : ∃ x, x = W.heap.size := ⟨_, rfl⟩
        rw [← hP0] at k6 ⊢
        have hn : Hid (W1.heap.size ≤ P0 ∧ W1.heap.size ≤ Q0 ∧ P0 ≠ Q0) := Lib.hid (by have := lt_of_some k7.out; have := hHeld.size; have := hm.out; omega)
        replace k7 := Lib.hid ((Below.heap_alloc W (.cells #[.int .i64 0] 2) _ (lt_of_some k7.out)).trans k7.out)
        clear hP0 hK K hHeld
        generalize W.alloc (.cells #[.int .i64 0] 2) = W' at hHeld2 k6 k7 ⊢
        have hHeld := hHeld2
        clear hHeld2
        generalize W' = W at hHeld k6 k7 ⊢
        try simp only [Act.put, List.setIfInBounds_toArray, List.set_cons_zero, List.set_cons_succ]
        refine wpAnyH_ready (rs := [2]) (by kernel_rfl) (by simp) ?_
        refine AllReadyH.cons (o := ⟨some 14, _, _, _, _, _⟩) rfl (fun K hK => ?_) ?_
        · go_simp
          refine (cZ.out _ hHeld).mono ?_
          rintro e W' ⟨rfl, hb⟩
          try go_wp2_with fail
          refine hK.out _ _ (hHeld.trans (hb.mono hHeld.size)) (fun hHeld2 => ?_)
          replace k6 := Lib.hid ((hb.block _ (lt_of_some k6.out)).trans k6.out)
          replace k7 := Lib.hid ((hb.block _ (lt_of_some k7.out)).trans k7.out)
          clear hK K hHeld hb
          have hHeld := hHeld2
          clear hHeld2
          generalize W' = W at hHeld k6 k7 ⊢
          try simp only [Act.put, List.setIfInBounds_toArray, List.set_cons_zero, List.set_cons_succ]
          refine wpAnyH_ready (rs := [5]) (by kernel_rfl) (by simp) ?_
          refine AllReadyH.cons (o := ⟨some 17, _, _, _, _, _⟩) rfl (fun K hK => ?_) ?_
          · go_simp
            refine (cZ.out _ hHeld).mono ?_
            rintro e W' ⟨rfl, hb⟩
            try go_wp2_with fail
            refine hK.out _ _ (hHeld.trans (hb.mono hHeld.size)) (fun hHeld2 => ?_)
            replace k6 := Lib.hid ((hb.block _ (lt_of_some k6.out)).trans k6.out)
            replace k7 := Lib.hid ((hb.block _ (lt_of_some k7.out)).trans k7.out)
            clear hK K hHeld hb
            have hHeld := hHeld2
            clear hHeld2
            generalize W' = W at hHeld k6 k7 ⊢
            try simp only [Act.put, List.setIfInBounds_toArray, List.set_cons_zero, List.set_cons_succ]
            refine wpAnyH_done (by kernel_rfl) ?_ _
            refine tailQ_list (by simp) ?_
            simp only [List.drop_succ_cons, List.drop_zero]
            have hn0 := hn.out
            have c6 := cellB k6.out 0 _ rfl
            have c7 := cellB k7.out 0 _ rfl
            have f0 := freeB k6.out 0
            have f1 := freeB k7.out 0
            go_wp2_with fail
            exact hK2.out P0 Q0 _ (two_set (z := z0) k6.out k7.out hn0.1 hn0.2.1 hn0.2.2 hHeld)
          exact AllReadyH.nil
        exact AllReadyH.nil
      exact AllReadyH.nil
    exact AllReadyH.nil
  case h2 =>
  intro P0 Q0 w' hS0
  obtain ⟨kp, kq, hP0, hQ0, hPQ, hbel⟩ := hS0
  simp only [putsL, Act.put, List.setIfInBounds_toArray, List.set_cons_zero, List.set_cons_succ]

  have b4 := Lib.hid hbel
  have gz := gz'.out
  rw [gz] at hP0 hQ0
  clear open0 cZ g0 hbel
  have k0' := (b4.out.block N (by omega)).trans g0'.out
  generalize w' = w4 at k0' kp kq b4 ⊢
  have kc := cellB k0' 0 _ rfl
  go_wp2
  gi_wp2_with fail
  refine ⟨trivial, (callsIn_wide.2 (places_any _ _ _ _)).mono ?_⟩
  rintro e w5 ⟨rfl, rfl⟩
  gi_wp2_with fail
  obtain ⟨D, hD⟩ : ∃ D, D = w4.heap.size := ⟨_, rfl⟩
  have j0 : (w4.alloc (.cells #[.slice (some ⟨g, o, none⟩) R cap] 44)).heap[N]? = some (.cells #[.slice (some ⟨g, o, none⟩) R cap] 44 (0, 0)) := (Below.heap_alloc _ _ _ (lt_of_some k0')).trans k0'
  have j1 : (w4.alloc (.cells #[.slice (some ⟨g, o, none⟩) R cap] 44)).heap[P0]? = some (.cells #[.int .i64 z0] 2 (0, 0)) := (Below.heap_alloc _ _ _ (lt_of_some kp)).trans kp
  have j2 : (w4.alloc (.cells #[.slice (some ⟨g, o, none⟩) R cap] 44)).heap[Q0]? = some (.cells #[.int .i64 z0] 2 (0, 0)) := (Below.heap_alloc _ _ _ (lt_of_some kq)).trans kq
  have j3 : (w4.alloc (.cells #[.slice (some ⟨g, o, none⟩) R cap] 44)).heap[D]? = some (.cells #[.slice (some ⟨g, o, none⟩) R cap] 44 (0, 0)) := by rw [hD]; exact heap_alloc_new _ _
  have jz : (w4.alloc (.cells #[.slice (some ⟨g, o, none⟩) R cap] 44)).heap.size = D + 1 := by simp [hD]
  have jB : Below w4.heap.size w4 (w4.alloc (.cells #[.slice (some ⟨g, o, none⟩) R cap] 44)) := (Below.refl _ _).alloc (Nat.le_refl _) _
  have j4 := b4.out.trans (jB.mono b4.out.size)
  have jW := gW.out.trans (j4.mono gW.out.size)
  have hx3 := hx2.out.below j4
  have hPD : P0 < D := by rw [hD]; exact lt_of_some kp
  have hQD : Q0 < D := by rw [hD]; exact lt_of_some kq
  rw [← hD]
  clear jB j4 b4 k0' hD gz kc kp kq
  generalize (w4.alloc (.cells #[.slice (some ⟨g, o, none⟩) R cap] 44)) = W0 at j0 j1 j2 j3 jz jW hx3 ⊢
  have hseq := places_seq 2 D g o cap R C (fun b => b ≠ P0 ∧ b ≠ Q0) W0 (hx3.pl (cellB j3 0 _ rfl)) (show D ≠ P0 ∧ D ≠ Q0 by omega) (show g ≠ P0 ∧ g ≠ Q0 by omega)
  have hbd := Lib.hid (fun pre hp => chF_bd (R := R) (C := C) hx3.R1 hx3.C1 h hx3.h0 hx3.h1 pre hp)
  have hst : Hid (chF R C h [] = (z0, z0)) := Lib.hid (by unfold chF; rw [hz0'.out]; rfl)
  refine' rangeP rfl (enters_of Try.func79 (by kernel_rfl) rfl) hseq
    (fun pre W => (W.heap[N]? = some (.cells #[.slice (some ⟨g, o, none⟩) R cap] 44 (0, 0)) ∧ W.heap[P0]? = some (.cells #[.int .i64 (chF R C h pre).1] 2 (0, 0)) ∧ W.heap[Q0]? = some (.cells #[.int .i64 (chF R C h pre).2] 2 (0, 0))) ∧ Below w.heap.size w W)
    (fun _ _ _ => False)
    (fun s A B h hAB => ⟨⟨low_heap h.1.1 (by omega) hAB, low_heap h.1.2.1 (by omega) hAB, low_heap h.1.2.2 (by omega) hAB⟩, h.2.trans (hAB.mono (by omega))⟩)
    (fun _ _ _ _ h _ => h)
    ⟨⟨j0, by rw [hst.out]; exact j1, by rw [hst.out]; exact j2⟩, jW⟩ ?assign ?body ?done ?stop
  case assign =>
    rintro l B x W K hB hK
    unfold encP
    gi_wp2
    exact hK
  case body =>
    rintro l B pre ⟨p, q⟩ W hpre hl hlB hBW ⟨⟨i0, i1, i2⟩, iB⟩ hBx hWz
    obtain ⟨hp, hq, hpl⟩ := pre_place hpre
    clear hpl
    have hsb := hbd.out pre ((List.prefix_append _ _).trans hpre)
    have hnext := chF_next R C h pre (p, q)
    obtain ⟨⟨s1, s2⟩, hse⟩ : ∃ s, s = chF R C h pre := ⟨_, rfl⟩
    rw [← hse] at i1 i2 hsb hnext
    dsimp only at i1 i2 hsb hnext hBx hp hq ⊢
    have hz := Lib.hid (hx.out.below iB)
    have cA0 := fun w' (hw' : Below W.heap.size W w') => at_any g o cap R C rg ro rc h w' (hz.out.below hw') p q hp hq
    have cE0 := isEdge_any g o cap R C rg ro rc h W hz.out p q hp hq
    unfold encP at cA0 cE0
    dsimp only at cA0 cE0
    obtain ⟨z, hz1⟩ : ∃ z, z = h p q := ⟨_, rfl⟩
    rw [← hz1] at cA0 hnext
    have cA := Lib.hid cA0
    clear hz1 cA0
    have hN0 : N < W.heap.size := by omega
    have hN1 : P0 < W.heap.size := by omega
    have hN2 : Q0 < W.heap.size := by omega
    have keyC : Hid (∀ w', Below W.heap.size W w' → w'.heap[N]? = some (.cells #[.slice (some ⟨g, o, none⟩) R cap] 44 (0, 0)) ∧ w'.heap[P0]? = some (.cells #[.int .i64 s1] 2 (0, 0)) ∧ w'.heap[Q0]? = some (.cells #[.int .i64 s2] 2 (0, 0)) ∧ w'.heap[B]? = some (.cells #[.int .i64 (p : Int), .int .i64 (q : Int)] 46 (0, 0))) := Lib.hid (fun w' hw' => ⟨(hw'.block _ hN0).trans i0, (hw'.block _ hN1).trans i1, (hw'.block _ hN2).trans i2, (hw'.block _ hBW).trans hBx⟩)
    clear hse hpre i0 i1 i2 hBx
    have open0 : Hid (∀ w', Below W.heap.size W w' → w'.cell? ⟨N, 0, none⟩ = some (.slice (some ⟨g, o, none⟩) R cap) ∧ w'.cell? ⟨P0, 0, none⟩ = some (.int .i64 s1) ∧ w'.cell? ⟨Q0, 0, none⟩ = some (.int .i64 s2) ∧ w'.cell? ⟨B, 0, none⟩ = some (.int .i64 (p : Int)) ∧ w'.cell? ⟨B, 1, none⟩ = some (.int .i64 (q : Int))) := Lib.hid (fun w' hw' => by
      obtain ⟨e0, e1, e2, e3⟩ := keyC.out w' hw'
      exact ⟨cellB e0 0 _ rfl, cellB e1 0 _ rfl, cellB e2 0 _ rfl, cellB e3 0 _ rfl, cellB e3 1 _ rfl⟩)
    obtain ⟨c0, c1, c2, c3, c4⟩ := open0.out W (Below.refl _ _)
    have hMN : P0 ≠ N := by omega
    cases hE : edgeB R C p q
    · rw [hE] at hnext cE0
      have cE := Lib.hid cE0
      have hr : Hid (chF R C h (pre ++ [(p, q)]) = (s1, s2)) := Lib.hid hnext
      clear hnext cE0 hE
      gi_wp2_with fail
      refine ⟨trivial, (CallsIn.inRound l (callsIn_wide.2 cE.out)).mono ?_⟩
      rintro e w1 ⟨rfl, hb1⟩
      obtain ⟨e0, e1, e2, e3⟩ := keyC.out w1 hb1
      clear c0 c1 c2 c3 c4
      gi_wp2
      exact ⟨KeepsFrom.below hb1, Keeps.of_below hb1, ⟨e0, by rw [hr.out]; exact e1, by rw [hr.out]; exact e2⟩, below2 iB hb1⟩
    · rw [hE] at hnext cE0
      have cE := Lib.hid cE0
      have hr : Hid (chF R C h (pre ++ [(p, q)]) = (minG s1 z, maxG s2 z)) := Lib.hid hnext
      clear hnext cE0 hE
      · gi_wp2_with fail
        refine ⟨trivial, (CallsIn.inRound l (callsIn_wide.2 cE.out)).mono ?_⟩
        rintro e w1 ⟨rfl, hb1⟩
        clear c0 c1 c2 c3 c4
        gi_wp2_with fail
        obtain ⟨e0, e1, e2, e3⟩ := keyC.out w1 hb1
        refine wpIn_held_tail (S := (fun w'' => w''.heap[N]? = some (.cells #[.slice (some ⟨g, o, none⟩) R cap] 44 (0, 0)) ∧ w''.heap[Q0]? = some (.cells #[.int .i64 s2] 2 (0, 0)) ∧ w''.heap[B]? = some (.cells #[.int .i64 (p : Int), .int .i64 (q : Int)] 46 (0, 0)))) 11 (by kernel_rfl) (by kernel_rfl) (by rintro ⟨_, _, h⟩; exact h) (by kernel_rfl) (by kernel_rfl) ⟨e0, e2, e3⟩ (fun hHeld => ?_)
        simp only [List.take_succ_cons, List.take_zero]
        clear e0 e1 e2 e3
        have hw' : Below W.heap.size W w1.drew := belowN hb1 1
        generalize w1.drew = w' at hw' hHeld ⊢
        clear hb1
        refine wpAnyH_take (i := 1) (oi := ⟨some 25, _, _, _, _, _⟩) (v := ?vy11y2) rfl (by kernel_rfl) (by kernel_rfl) (by kernel_rfl) (fun _ _ _ h => h) (Or.inl ⟨by rfl, ?hy11y2⟩) (by assumption) ?ry11y2
        case hy11y2 => (intro w'' hSw; obtain ⟨s0, s1', s2'⟩ := hSw; have c0 := cellB s0 0 _ rfl; have c2 := cellB s1' 0 _ rfl; have c3 := cellB s2' 0 _ rfl; have c4 := cellB s2' 1 _ rfl; clear s0 s1' s2'; go_simp; try with_reducible rfl)
        try simp only [Act.put, List.setIfInBounds_toArray, List.set_cons_zero, List.set_cons_succ]
        refine wpAnyH_take (i := 2) (oi := ⟨some 26, _, _, _, _, _⟩) (v := ?vy121y3) rfl (by kernel_rfl) (by kernel_rfl) (by kernel_rfl) (fun _ _ _ h => h) (Or.inl ⟨by rfl, ?hy121y3⟩) (by assumption) ?ry121y3
        case hy121y3 => (intro w'' hSw; obtain ⟨s0, s1', s2'⟩ := hSw; have c0 := cellB s0 0 _ rfl; have c2 := cellB s1' 0 _ rfl; have c3 := cellB s2' 0 _ rfl; have c4 := cellB s2' 1 _ rfl; clear s0 s1' s2'; go_simp; try with_reducible rfl)
        try simp only [Act.put, List.setIfInBounds_toArray, List.set_cons_zero, List.set_cons_succ]
        refine wpAnyH_take (i := 5) (oi := ⟨some 29, _, _, _, _, _⟩) (v := ?vy1512y4) rfl (by kernel_rfl) (by kernel_rfl) (by kernel_rfl) (fun _ _ _ h => h) (Or.inl ⟨by rfl, ?hy1512y4⟩) (by assumption) ?ry1512y4
        case hy1512y4 => (intro w'' hSw; obtain ⟨s0, s1', s2'⟩ := hSw; have c0 := cellB s0 0 _ rfl; have c2 := cellB s1' 0 _ rfl; have c3 := cellB s2' 0 _ rfl; have c4 := cellB s2' 1 _ rfl; clear s0 s1' s2'; go_simp; try with_reducible rfl)
        try simp only [Act.put, List.setIfInBounds_toArray, List.set_cons_zero, List.set_cons_succ]
        refine wpAnyH_take (i := 6) (oi := ⟨some 30, _, _, _, _, _⟩) (v := ?vy16125y5) rfl (by kernel_rfl) (by kernel_rfl) (by kernel_rfl) (fun _ _ _ h => h) (Or.inl ⟨by rfl, ?hy16125y5⟩) (by assumption) ?ry16125y5
        case hy16125y5 => (intro w'' hSw; obtain ⟨s0, s1', s2'⟩ := hSw; have c0 := cellB s0 0 _ rfl; have c2 := cellB s1' 0 _ rfl; have c3 := cellB s2' 0 _ rfl; have c4 := cellB s2' 1 _ rfl; clear s0 s1' s2'; go_simp; try with_reducible rfl)
        try simp only [Act.put, List.setIfInBounds_toArray, List.set_cons_zero, List.set_cons_succ]
        refine wpAnyH_take (i := 7) (oi := ⟨some 31, _, _, _, _, _⟩) (v := ?vy171256y6) rfl (by kernel_rfl) (by kernel_rfl) (by kernel_rfl) (fun _ _ _ h => h) (Or.inl ⟨by rfl, ?hy171256y6⟩) (by assumption) ?ry171256y6
        case hy171256y6 => (intro w'' hSw; obtain ⟨s0, s1', s2'⟩ := hSw; have c0 := cellB s0 0 _ rfl; have c2 := cellB s1' 0 _ rfl; have c3 := cellB s2' 0 _ rfl; have c4 := cellB s2' 1 _ rfl; clear s0 s1' s2'; go_simp; try with_reducible rfl)
        try simp only [Act.put, List.setIfInBounds_toArray, List.set_cons_zero, List.set_cons_succ]
        refine wpAnyH_ready (rs := [0, 3]) (by kernel_rfl) (by simp) ?_
        refine AllReadyH.cons (o := ⟨some 24, _, _, _, _, _⟩) rfl (fun K hK => ?_) ?_
        · obtain ⟨e0, e1, e2, e3⟩ := keyC.out w' hw'
          have c1 := cellB e1 0 _ rfl
          clear e0 e1 e2 e3
          go_simp
          try go_wp2_with fail
          refine hK.out _ _ hHeld (fun hHeld2 => ?_)
          clear hK K hHeld2 c1
          try simp only [Act.put, List.setIfInBounds_toArray, List.set_cons_zero, List.set_cons_succ]
          refine wpAnyH_ready (rs := [3]) (by kernel_rfl) (by simp) ?_
          refine AllReadyH.cons (o := ⟨some 27, _, _, _, _, _⟩) rfl (fun K hK => ?_) ?_
          · go_simp
            refine (cA.out w' hw').mono ?_
            rintro e w'' ⟨rfl, hb⟩
            try go_wp2_with fail
            have hw'' := hw'.trans (hb.mono hw'.size)
            obtain ⟨e0, e1, e2, e3⟩ := keyC.out w'' hw''
            refine hK.out _ _ ⟨e0, e2, e3⟩ (fun hHeld2 => ?_)
            clear hK K hHeld hb hw' e0 e1 e2 e3
            have hHeld := hHeld2
            have hw' := hw''
            clear hHeld2 hw''
            generalize w'' = w' at hHeld hw' ⊢
            try simp only [Act.put, List.setIfInBounds_toArray, List.set_cons_zero, List.set_cons_succ]
            refine wpAnyH_take (i := 4) (oi := ⟨some 28, _, _, _, _, _⟩) (v := .int .i64 (minG s1 z)) rfl (by kernel_rfl) (by kernel_rfl) (by kernel_rfl) (fun _ _ _ h => h) (Or.inl ⟨by rfl, ?hy140123567y7⟩) (by assumption) ?ry140123567y7
            case hy140123567y7 => (intro w'' hSw; obtain ⟨s0, s1', s2'⟩ := hSw; have c0 := cellB s0 0 _ rfl; have c2 := cellB s1' 0 _ rfl; have c3 := cellB s2' 0 _ rfl; have c4 := cellB s2' 1 _ rfl; clear s0 s1' s2'; go_simp; first | (unfold minG; split <;> omega) | (unfold maxG; split <;> omega) | (simp [minG, maxG] <;> omega))
            try simp only [Act.put, List.setIfInBounds_toArray, List.set_cons_zero, List.set_cons_succ]
            refine wpAnyH_ready (rs := [8]) (by kernel_rfl) (by simp) ?_
            refine AllReadyH.cons (o := ⟨some 32, _, _, _, _, _⟩) rfl (fun K hK => ?_) ?_
            · go_simp
              refine (cA.out w' hw').mono ?_
              rintro e w'' ⟨rfl, hb⟩
              try go_wp2_with fail
              have hw'' := hw'.trans (hb.mono hw'.size)
              obtain ⟨e0, e1, e2, e3⟩ := keyC.out w'' hw''
              refine hK.out _ _ ⟨e0, e2, e3⟩ (fun hHeld2 => ?_)
              clear hK K hHeld hb hw' e0 e1 e2 e3
              have hHeld := hHeld2
              have hw' := hw''
              clear hHeld2 hw''
              generalize w'' = w' at hHeld hw' ⊢
              try simp only [Act.put, List.setIfInBounds_toArray, List.set_cons_zero, List.set_cons_succ]
              refine wpAnyH_take (i := 9) (oi := ⟨some 33, _, _, _, _, _⟩) (v := .int .i64 (maxG s2 z)) rfl (by kernel_rfl) (by kernel_rfl) (by kernel_rfl) (fun _ _ _ h => h) (Or.inl ⟨by rfl, ?hy19012345678y8⟩) (by assumption) ?ry19012345678y8
              case hy19012345678y8 => (intro w'' hSw; obtain ⟨s0, s1', s2'⟩ := hSw; have c0 := cellB s0 0 _ rfl; have c2 := cellB s1' 0 _ rfl; have c3 := cellB s2' 0 _ rfl; have c4 := cellB s2' 1 _ rfl; clear s0 s1' s2'; go_simp; first | (unfold minG; split <;> omega) | (unfold maxG; split <;> omega) | (simp [minG, maxG] <;> omega))
              try simp only [Act.put, List.setIfInBounds_toArray, List.set_cons_zero, List.set_cons_succ]
              refine wpAnyH_ready (rs := [10]) (by kernel_rfl) (by simp) ?_
              refine AllReadyH.cons (o := ⟨none, _, _, _, _, _⟩) rfl (fun K hK => ?_) ?_
              · obtain ⟨e0, e1, e2, e3⟩ := keyC.out w' hw'
                have c1 := cellB e1 0 _ rfl
                have f1 := freeB e1 0
                clear e0 e1 e2 e3
                go_simp
                try go_wp2_with fail
                refine hK.out _ _ ⟨(Below.heap_setCell _ _ _ _ (by show N ≠ P0; omega)).trans hHeld.1, (Below.heap_setCell _ _ _ _ (by show Q0 ≠ P0; omega)).trans hHeld.2.1, (Below.heap_setCell _ _ _ _ (by show B ≠ P0; omega)).trans hHeld.2.2⟩ (fun hHeld2 => ?_)
                clear hK K hHeld c1 f1
                have hHeld := hHeld2
                clear hHeld2
                try simp only [Act.put, List.setIfInBounds_toArray, List.set_cons_zero, List.set_cons_succ]
                refine wpAnyH_done (by kernel_rfl) ?_ _
                refine tailQ_list (by simp) ?_
                simp only [List.drop_succ_cons, List.drop_zero, List.drop_nil]
                obtain ⟨e0, e1, e2, e3⟩ := keyC.out w' hw'
                have c2 := cellB hHeld.2.1 0 _ rfl
                have f2 := freeB hHeld.2.1 0
                clear hHeld
                go_wp2
                clear c2 f2
                all_goals gi_wp2
                all_goals
                  refine ⟨(KeepsFrom.below hw').trans (((KeepsOthers.setCell w' _ _).trans (KeepsOthers.setCell _ _ _)).from _), (Keeps.of_below hw').trans ((Keeps.setCell _ _ (by simp) _).trans (Keeps.setCell _ _ (by simp) _)), ⟨?_, ?_, ?_⟩, ((below2 iB hw').setCell (p := ⟨P0, 0, none⟩) (by show w.heap.size ≤ P0; omega) _).setCell (p := ⟨Q0, 0, none⟩) (by show w.heap.size ≤ Q0; omega) _⟩
                  · rw [Below.heap_setCell _ _ _ _ (by show N ≠ Q0; omega), Below.heap_setCell _ _ _ _ (by show N ≠ P0; omega)]; exact e0
                  · rw [hr.out, Below.heap_setCell _ _ _ _ (by show P0 ≠ Q0; omega)]
                    exact heap_set e1 0 _ _ (by simp [minG] <;> omega)
                  · rw [hr.out]
                    exact heap_set ((Below.heap_setCell _ _ _ _ (by show Q0 ≠ P0; omega)).trans e2) 0 _ _ (by simp [maxG] <;> omega)
              exact AllReadyH.nil
            exact AllReadyH.nil
          exact AllReadyH.nil
        refine AllReadyH.cons (o := ⟨some 27, _, _, _, _, _⟩) rfl (fun K hK => ?_) ?_
        · go_simp
          refine (cA.out w' hw').mono ?_
          rintro e w'' ⟨rfl, hb⟩
          try go_wp2_with fail
          have hw'' := hw'.trans (hb.mono hw'.size)
          obtain ⟨e0, e1, e2, e3⟩ := keyC.out w'' hw''
          refine hK.out _ _ ⟨e0, e2, e3⟩ (fun hHeld2 => ?_)
          clear hK K hHeld hb hw' e0 e1 e2 e3
          have hHeld := hHeld2
          have hw' := hw''
          clear hHeld2 hw''
          generalize w'' = w' at hHeld hw' ⊢
          try simp only [Act.put, List.setIfInBounds_toArray, List.set_cons_zero, List.set_cons_succ]
          refine wpAnyH_ready (rs := [0, 8]) (by kernel_rfl) (by simp) ?_
          refine AllReadyH.cons (o := ⟨some 24, _, _, _, _, _⟩) rfl (fun K hK => ?_) ?_
          · obtain ⟨e0, e1, e2, e3⟩ := keyC.out w' hw'
            have c1 := cellB e1 0 _ rfl
            clear e0 e1 e2 e3
            go_simp
            try go_wp2_with fail
            refine hK.out _ _ hHeld (fun hHeld2 => ?_)
            clear hK K hHeld2 c1
            try simp only [Act.put, List.setIfInBounds_toArray, List.set_cons_zero, List.set_cons_succ]
            refine wpAnyH_take (i := 4) (oi := ⟨some 28, _, _, _, _, _⟩) (v := .int .i64 (minG s1 z)) rfl (by kernel_rfl) (by kernel_rfl) (by kernel_rfl) (fun _ _ _ h => h) (Or.inl ⟨by rfl, ?hy140123567y9⟩) (by assumption) ?ry140123567y9
            case hy140123567y9 => (intro w'' hSw; obtain ⟨s0, s1', s2'⟩ := hSw; have c0 := cellB s0 0 _ rfl; have c2 := cellB s1' 0 _ rfl; have c3 := cellB s2' 0 _ rfl; have c4 := cellB s2' 1 _ rfl; clear s0 s1' s2'; go_simp; first | (unfold minG; split <;> omega) | (unfold maxG; split <;> omega) | (simp [minG, maxG] <;> omega))
            try simp only [Act.put, List.setIfInBounds_toArray, List.set_cons_zero, List.set_cons_succ]
            refine wpAnyH_ready (rs := [8]) (by kernel_rfl) (by simp) ?_
            refine AllReadyH.cons (o := ⟨some 32, _, _, _, _, _⟩) rfl (fun K hK => ?_) ?_
            · go_simp
              refine (cA.out w' hw').mono ?_
              rintro e w'' ⟨rfl, hb⟩
              try go_wp2_with fail
              have hw'' := hw'.trans (hb.mono hw'.size)
              obtain ⟨e0, e1, e2, e3⟩ := keyC.out w'' hw''
              refine hK.out _ _ ⟨e0, e2, e3⟩ (fun hHeld2 => ?_)
              clear hK K hHeld hb hw' e0 e1 e2 e3
              have hHeld := hHeld2
              have hw' := hw''
              clear hHeld2 hw''
              generalize w'' = w' at hHeld hw' ⊢
              try simp only [Act.put, List.setIfInBounds_toArray, List.set_cons_zero, List.set_cons_succ]
              refine wpAnyH_take (i := 9) (oi := ⟨some 33, _, _, _, _, _⟩) (v := .int .i64 (maxG s2 z)) rfl (by kernel_rfl) (by kernel_rfl) (by kernel_rfl) (fun _ _ _ h => h) (Or.inl ⟨by rfl, ?hy19012345678y10⟩) (by assumption) ?ry19012345678y10
              case hy19012345678y10 => (intro w'' hSw; obtain ⟨s0, s1', s2'⟩ := hSw; have c0 := cellB s0 0 _ rfl; have c2 := cellB s1' 0 _ rfl; have c3 := cellB s2' 0 _ rfl; have c4 := cellB s2' 1 _ rfl; clear s0 s1' s2'; go_simp; first | (unfold minG; split <;> omega) | (unfold maxG; split <;> omega) | (simp [minG, maxG] <;> omega))
              try simp only [Act.put, List.setIfInBounds_toArray, List.set_cons_zero, List.set_cons_succ]
              refine wpAnyH_ready (rs := [10]) (by kernel_rfl) (by simp) ?_
              refine AllReadyH.cons (o := ⟨none, _, _, _, _, _⟩) rfl (fun K hK => ?_) ?_
              · obtain ⟨e0, e1, e2, e3⟩ := keyC.out w' hw'
                have c1 := cellB e1 0 _ rfl
                have f1 := freeB e1 0
                clear e0 e1 e2 e3
                go_simp
                try go_wp2_with fail
                refine hK.out _ _ ⟨(Below.heap_setCell _ _ _ _ (by show N ≠ P0; omega)).trans hHeld.1, (Below.heap_setCell _ _ _ _ (by show Q0 ≠ P0; omega)).trans hHeld.2.1, (Below.heap_setCell _ _ _ _ (by show B ≠ P0; omega)).trans hHeld.2.2⟩ (fun hHeld2 => ?_)
                clear hK K hHeld c1 f1
                have hHeld := hHeld2
                clear hHeld2
                try simp only [Act.put, List.setIfInBounds_toArray, List.set_cons_zero, List.set_cons_succ]
                refine wpAnyH_done (by kernel_rfl) ?_ _
                refine tailQ_list (by simp) ?_
                simp only [List.drop_succ_cons, List.drop_zero, List.drop_nil]
                obtain ⟨e0, e1, e2, e3⟩ := keyC.out w' hw'
                have c2 := cellB hHeld.2.1 0 _ rfl
                have f2 := freeB hHeld.2.1 0
                clear hHeld
                go_wp2
                clear c2 f2
                all_goals gi_wp2
                all_goals
                  refine ⟨(KeepsFrom.below hw').trans (((KeepsOthers.setCell w' _ _).trans (KeepsOthers.setCell _ _ _)).from _), (Keeps.of_below hw').trans ((Keeps.setCell _ _ (by simp) _).trans (Keeps.setCell _ _ (by simp) _)), ⟨?_, ?_, ?_⟩, ((below2 iB hw').setCell (p := ⟨P0, 0, none⟩) (by show w.heap.size ≤ P0; omega) _).setCell (p := ⟨Q0, 0, none⟩) (by show w.heap.size ≤ Q0; omega) _⟩
                  · rw [Below.heap_setCell _ _ _ _ (by show N ≠ Q0; omega), Below.heap_setCell _ _ _ _ (by show N ≠ P0; omega)]; exact e0
                  · rw [hr.out, Below.heap_setCell _ _ _ _ (by show P0 ≠ Q0; omega)]
                    exact heap_set e1 0 _ _ (by simp [minG] <;> omega)
                  · rw [hr.out]
                    exact heap_set ((Below.heap_setCell _ _ _ _ (by show Q0 ≠ P0; omega)).trans e2) 0 _ _ (by simp [maxG] <;> omega)
              exact AllReadyH.nil
            exact AllReadyH.nil
          refine AllReadyH.cons (o := ⟨some 32, _, _, _, _, _⟩) rfl (fun K hK => ?_) ?_
          · go_simp
            refine (cA.out w' hw').mono ?_
            rintro e w'' ⟨rfl, hb⟩
            try go_wp2_with fail
            have hw'' := hw'.trans (hb.mono hw'.size)
            obtain ⟨e0, e1, e2, e3⟩ := keyC.out w'' hw''
            refine hK.out _ _ ⟨e0, e2, e3⟩ (fun hHeld2 => ?_)
            clear hK K hHeld hb hw' e0 e1 e2 e3
            have hHeld := hHeld2
            have hw' := hw''
            clear hHeld2 hw''
            generalize w'' = w' at hHeld hw' ⊢
            try simp only [Act.put, List.setIfInBounds_toArray, List.set_cons_zero, List.set_cons_succ]
            refine wpAnyH_take (i := 9) (oi := ⟨some 33, _, _, _, _, _⟩) (v := .int .i64 (maxG s2 z)) rfl (by kernel_rfl) (by kernel_rfl) (by kernel_rfl) (fun _ _ _ h => h) (Or.inl ⟨by rfl, ?hy191235678y11⟩) (by assumption) ?ry191235678y11
            case hy191235678y11 => (intro w'' hSw; obtain ⟨s0, s1', s2'⟩ := hSw; have c0 := cellB s0 0 _ rfl; have c2 := cellB s1' 0 _ rfl; have c3 := cellB s2' 0 _ rfl; have c4 := cellB s2' 1 _ rfl; clear s0 s1' s2'; go_simp; first | (unfold minG; split <;> omega) | (unfold maxG; split <;> omega) | (simp [minG, maxG] <;> omega))
            try simp only [Act.put, List.setIfInBounds_toArray, List.set_cons_zero, List.set_cons_succ]
            refine wpAnyH_ready (rs := [0]) (by kernel_rfl) (by simp) ?_
            refine AllReadyH.cons (o := ⟨some 24, _, _, _, _, _⟩) rfl (fun K hK => ?_) ?_
            · obtain ⟨e0, e1, e2, e3⟩ := keyC.out w' hw'
              have c1 := cellB e1 0 _ rfl
              clear e0 e1 e2 e3
              go_simp
              try go_wp2_with fail
              refine hK.out _ _ hHeld (fun hHeld2 => ?_)
              clear hK K hHeld2 c1
              try simp only [Act.put, List.setIfInBounds_toArray, List.set_cons_zero, List.set_cons_succ]
              refine wpAnyH_take (i := 4) (oi := ⟨some 28, _, _, _, _, _⟩) (v := .int .i64 (minG s1 z)) rfl (by kernel_rfl) (by kernel_rfl) (by kernel_rfl) (fun _ _ _ h => h) (Or.inl ⟨by rfl, ?hy14012356789y12⟩) (by assumption) ?ry14012356789y12
              case hy14012356789y12 => (intro w'' hSw; obtain ⟨s0, s1', s2'⟩ := hSw; have c0 := cellB s0 0 _ rfl; have c2 := cellB s1' 0 _ rfl; have c3 := cellB s2' 0 _ rfl; have c4 := cellB s2' 1 _ rfl; clear s0 s1' s2'; go_simp; first | (unfold minG; split <;> omega) | (unfold maxG; split <;> omega) | (simp [minG, maxG] <;> omega))
              try simp only [Act.put, List.setIfInBounds_toArray, List.set_cons_zero, List.set_cons_succ]
              refine wpAnyH_ready (rs := [10]) (by kernel_rfl) (by simp) ?_
              refine AllReadyH.cons (o := ⟨none, _, _, _, _, _⟩) rfl (fun K hK => ?_) ?_
              · obtain ⟨e0, e1, e2, e3⟩ := keyC.out w' hw'
                have c1 := cellB e1 0 _ rfl
                have f1 := freeB e1 0
                clear e0 e1 e2 e3
                go_simp
                try go_wp2_with fail
                refine hK.out _ _ ⟨(Below.heap_setCell _ _ _ _ (by show N ≠ P0; omega)).trans hHeld.1, (Below.heap_setCell _ _ _ _ (by show Q0 ≠ P0; omega)).trans hHeld.2.1, (Below.heap_setCell _ _ _ _ (by show B ≠ P0; omega)).trans hHeld.2.2⟩ (fun hHeld2 => ?_)
                clear hK K hHeld c1 f1
                have hHeld := hHeld2
                clear hHeld2
                try simp only [Act.put, List.setIfInBounds_toArray, List.set_cons_zero, List.set_cons_succ]
                refine wpAnyH_done (by kernel_rfl) ?_ _
                refine tailQ_list (by simp) ?_
                simp only [List.drop_succ_cons, List.drop_zero, List.drop_nil]
                obtain ⟨e0, e1, e2, e3⟩ := keyC.out w' hw'
                have c2 := cellB hHeld.2.1 0 _ rfl
                have f2 := freeB hHeld.2.1 0
                clear hHeld
                go_wp2
                clear c2 f2
                all_goals gi_wp2
                all_goals
                  refine ⟨(KeepsFrom.below hw').trans (((KeepsOthers.setCell w' _ _).trans (KeepsOthers.setCell _ _ _)).from _), (Keeps.of_below hw').trans ((Keeps.setCell _ _ (by simp) _).trans (Keeps.setCell _ _ (by simp) _)), ⟨?_, ?_, ?_⟩, ((below2 iB hw').setCell (p := ⟨P0, 0, none⟩) (by show w.heap.size ≤ P0; omega) _).setCell (p := ⟨Q0, 0, none⟩) (by show w.heap.size ≤ Q0; omega) _⟩
                  · rw [Below.heap_setCell _ _ _ _ (by show N ≠ Q0; omega), Below.heap_setCell _ _ _ _ (by show N ≠ P0; omega)]; exact e0
                  · rw [hr.out, Below.heap_setCell _ _ _ _ (by show P0 ≠ Q0; omega)]
                    exact heap_set e1 0 _ _ (by simp [minG] <;> omega)
                  · rw [hr.out]
                    exact heap_set ((Below.heap_setCell _ _ _ _ (by show Q0 ≠ P0; omega)).trans e2) 0 _ _ (by simp [maxG] <;> omega)
              exact AllReadyH.nil
            exact AllReadyH.nil
          exact AllReadyH.nil
        exact AllReadyH.nil
  case done =>
    rintro K W hK ⟨⟨i0, i1, i2⟩, iB⟩ hD
    have hsb := hbd.out _ (List.prefix_refl _)
    obtain ⟨⟨s1, s2⟩, hse⟩ : ∃ s, s = chF R C h (plAll R C) := ⟨_, rfl⟩
    rw [← hse] at i1 i2 hsb
    have hval := Lib.hid hse
    dsimp only at i1 i2 hsb
    have c0 := cellB i1 0 _ rfl
    have c1 := cellB i2 0 _ rfl
    clear hse
    gi_wp2
    refine ⟨by simp, .inl ⟨_, _, rfl, run_takeDeferred hD, ?_⟩⟩
    refine ⟨.tuple #[.int .i64 (s2 - s1), .int .i64 0], ?_, by rw [← hval.out]; rfl, iB.trans (below_put _ _ (by omega) iB.size)⟩
    simp [results, Try.f24, go_sem]
  case stop =>
    rintro K c pre W _ _ h _
    exact h.elim
set_option maxHeartbeats 3200000 in
theorem specChannelGap_any (v : Value) (G : List (List Int)) (w : World) (hn : G.length + totL G ≤ 1048576) (hv : GridAt w v G) : Calls Try.prog 23 #[v] w fun e w' => e = .returned (.tuple #[.int .i64 (chV G), .int .i64 (code (okG G) 1)]) ∧ Below w.heap.size w w' := by
  have cV := Lib.hid (l07Ok_any v G w hn hv)
  have hV : Hid (chV G = if okG G then (chF G.length (colsG G) (hG G) (plAll G.length (colsG G))).2 - (chF G.length (colsG G) (hG G) (plAll G.length (colsG G))).1 else 0) := Lib.hid rfl
  cases hok : okG G
  · rw [hok] at cV hV
    obtain ⟨a, cap, rfl, _⟩ := hv
    clear hok hn
    go_enter Try.func23, Try.ntmps23
    go_wp2_with (go_at_call 42; refine cV.out.mono ?_; rintro e w2 ⟨rfl, hd⟩)
    go_ret2
    exact ⟨by rw [hV.out]; rfl, hd.below⟩
  obtain ⟨g, o, cap, rg, ro, rc, rfl, hGR⟩ := grid_GR hv hok
  rw [hok] at cV hV
  rw [show chV G = (chF G.length (colsG G) (hG G) (plAll G.length (colsG G))).2 - (chF G.length (colsG G) (hG G) (plAll G.length (colsG G))).1 from hV.out]
  obtain ⟨R, hR⟩ : ∃ R, R = G.length := ⟨_, rfl⟩
  obtain ⟨C, hC⟩ : ∃ C, C = colsG G := ⟨_, rfl⟩
  obtain ⟨h, hh⟩ : ∃ h, h = hG G := ⟨_, rfl⟩
  rw [← hR] at cV
  rw [← hR, ← hC, ← hh] at hGR ⊢
  have hx := Lib.hid hGR
  have hR2 := hGR.R10
  have hC2 := hGR.C10
  have hR1 := hGR.R1
  have hC1 := hGR.C1
  have hbd := Lib.hid (fun pre hp => chF_bd (R := R) (C := C) hGR.R1 hGR.C1 h hGR.h0 hGR.h1 pre hp)
  clear hok hn hv hGR hV hR hC hh
  have hRI : (0 : Int) < (R : Int) := by omega
  have hCI : (0 : Int) < (C : Int) := by omega
  go_enter Try.func23, Try.ntmps23
  go_wp2_with fail
  refine cV.out.mono ?_
  rintro e w2 ⟨rfl, hd⟩
  have z1 := (hx.out.drew hd).top 0 (by omega)
  have z2 := (hx.out.drew hd).cel 0 (by omega) 0 (by omega)
  rw [Nat.add_zero] at z1 z2
  obtain ⟨z0, hz0⟩ : ∃ z, z = h 0 0 := ⟨_, rfl⟩
  rw [← hz0] at z2
  have hst : Hid ((z0, z0) = chF R C h (plTo C 0 0)) := Lib.hid (by unfold chF; rw [hz0]; rfl)
  clear hz0
  go_wp2
  clear z1 z2
  go_loopw [4, 5, 6] (fun x y i wr => ∃ (k : Nat) (s1 s2 : Int), k ≤ R ∧ i = .int .i64 k ∧ x = .int .i64 s1 ∧ y = .int .i64 s2 ∧ Hid ((s1, s2) = chF R C h (plTo C k 0)) ∧ DrewOf w wr) (fun _ _ i _ => R - (intOf i).toNat)
  case atStart => exact ⟨0, z0, z0, by omega, rfl, rfl, rfl, hst, hd⟩
  case round =>
    obtain ⟨k, s1, s2, hk, rfl, rfl, rfl, hs, hd⟩ := hrel
    by_cases hlt : k < R
    · have hkI : (k : Int) < (R : Int) := by omega
      go_wp2
      go_loopw [4, 5, 7] (fun x y i wr => ∃ (m : Nat) (s1 s2 : Int), m ≤ C ∧ i = .int .i64 m ∧ x = .int .i64 s1 ∧ y = .int .i64 s2 ∧ Hid ((s1, s2) = chF R C h (plTo C k m)) ∧ DrewOf w wr) (fun _ _ i _ => C - (intOf i).toNat)
      case atStart => exact ⟨0, s1, s2, by omega, rfl, rfl, rfl, hs, hd⟩
      case round =>
        obtain ⟨m, s1, s2, hm, rfl, rfl, rfl, hs, hd⟩ := hrel
        have hz := Lib.hid (hx.out.drew hd)
        have c1 := hz.out.top k hlt
        by_cases hlm : m < C
        · have c2 := hz.out.cel k hlt m hlm
          have hmI : (m : Int) < (C : Int) := by omega
          have hnext := chF_next R C h (plTo C k m) (k, m)
          rw [← hs.out, ← plTo_next] at hnext
          dsimp only at hnext
          have cE0 := fun W (h : GR W g o cap R C rg ro rc h) => l07Edge_any g o cap R C rg ro rc _ W h k m hlt hlm
          obtain ⟨z, hz1⟩ : ∃ z, z = h k m := ⟨_, rfl⟩
          rw [← hz1] at c2 hnext
          have cM := Lib.hid (fun W => l00MinG s1 z W)
          have cX := Lib.hid (fun W => l00MaxG s2 z W)
          clear hs hz1
          cases hE : edgeB R C k m
          · rw [hE] at hnext cE0
            have cE := Lib.hid cE0
            have hr : Hid ((s1, s2) = chF R C h (plTo C k (m + 1))) := Lib.hid hnext.symm
            clear hnext cE0 hE
            go_wp2_with (go_at_call 52; refine (cE.out _ hz.out).mono ?_; rintro e w3 ⟨rfl, hd3⟩)
            go_roundw
            case rel => exact ⟨m + 1, s1, s2, by omega, by go_num, rfl, rfl, hr, hd.trans hd3⟩
            case measure => simp [intOf]; omega
          · rw [hE] at hnext cE0
            have cE := Lib.hid cE0
            have hr : Hid ((minG s1 z, maxG s2 z) = chF R C h (plTo C k (m + 1))) := Lib.hid hnext.symm
            clear hnext cE0 hE
            go_wp2_with fail
            refine (cE.out _ hz.out).mono ?_
            rintro e w3 ⟨rfl, hd3⟩
            replace c1 := (hd3.cell _).trans c1
            replace c2 := (hd3.cell _).trans c2
            go_wp2_with (first
              | (go_at_call 53; refine (cM.out _).mono ?_; rintro e w4 ⟨rfl, rfl⟩)
              | (go_at_call 49; refine (cX.out _).mono ?_; rintro e w4 ⟨rfl, rfl⟩))
            go_roundw
            case rel => exact ⟨m + 1, minG s1 z, maxG s2 z, by omega, by go_num, rfl, rfl, hr, hd.trans hd3⟩
            case measure => simp [intOf]; omega
        · have hmC : m = C := by omega
          have hr : Hid ((s1, s2) = chF R C h (plTo C (k + 1) 0)) := Lib.hid (by have := hs.out; rw [hmC, plTo_row] at this; exact this)
          clear hmC hs
          go_wp2
          go_roundw
          case rel => exact ⟨k + 1, s1, s2, by omega, by go_num, rfl, rfl, hr, hd⟩
          case measure => simp [intOf]; omega
    · have hkR : k = R := by omega
      have hr : Hid ((s1, s2) = chF R C h (plAll R C)) := Lib.hid (by have := hs.out; rw [hkR] at this; exact this)
      have hsb := hbd.out _ (List.prefix_refl _)
      rw [← hr.out] at hsb
      dsimp only at hsb
      clear hkR hs
      go_wp2
      go_ret2
      exact ⟨by rw [← hr.out]; rfl, hd.below⟩
end Go.Proofs.Ytcclahemmfjmgaa
