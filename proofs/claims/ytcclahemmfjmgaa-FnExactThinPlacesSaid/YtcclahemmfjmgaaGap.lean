/-
  The greatest distance of two surfaces over a grid.
-/
import Derived.Test.YtcclahemmfjmgaaSurf
import Derived.Handy
namespace Go.Proofs.Ytcclahemmfjmgaa
open Go.ChangeShapes Go.WideShapes Go.ChangeAt Go.RowKit Go.Deep
set_option linter.unusedVariables false
set_option linter.unusedSimpArgs false
attribute [local go_sem] Oper.semAt_some
/-- the greatest distance over these places -/
def gaF (h h' : Nat → Nat → Int) (L : List (Nat × Nat)) : Int := L.foldl (fun s p => maxG s (absG (h p.1 p.2) (h' p.1 p.2))) 0
theorem gaF_next (h h' : Nat → Nat → Int) (L : List (Nat × Nat)) (p : Nat × Nat) : gaF h h' (L ++ [p]) = maxG (gaF h h' L) (absG (h p.1 p.2) (h' p.1 p.2)) := by
  unfold gaF; rw [List.foldl_append]; rfl
theorem gaF_bd {R C : Nat} (h h' : Nat → Nat → Int) (h0 : ∀ i k, i < R → k < C → 0 ≤ h i k) (h1 : ∀ i k, i < R → k < C → h i k ≤ 1000) (h0' : ∀ i k, i < R → k < C → 0 ≤ h' i k) (h1' : ∀ i k, i < R → k < C → h' i k ≤ 1000) (L : List (Nat × Nat)) : L <+: plAll R C → 0 ≤ gaF h h' L ∧ gaF h h' L ≤ 1000 := by
  refine snoc_ind (P := fun L => L <+: plAll R C → 0 ≤ gaF h h' L ∧ gaF h h' L ≤ 1000) (fun _ => ⟨Int.le_refl _, by unfold gaF; simp⟩) (fun L p ih hp => ?_) L
  obtain ⟨a, b, _⟩ := pre_place hp
  have i := ih ((List.prefix_append _ _).trans hp)
  have d := absG_bd (h0 p.1 p.2 a b) (h1 p.1 p.2 a b) (h0' p.1 p.2 a b) (h1' p.1 p.2 a b)
  show 0 ≤ gaF h h' (L ++ [p]) ∧ gaF h h' (L ++ [p]) ≤ 1000
  rw [gaF_next]
  unfold maxG; split <;> omega
set_option maxRecDepth 100000 in
set_option maxHeartbeats 3200000 in
theorem gap_grid (g o cap R C : Nat) (rg ro rc : Nat → Nat) (h : Nat → Nat → Int) (g' o' cap' : Nat) (rg' ro' rc' : Nat → Nat) (h' : Nat → Nat → Int) (w : World) (x : GR w g o cap R C rg ro rc h) (x' : GR w g' o' cap' R C rg' ro' rc' h') : Calls Try.prog 55 #[.slice (some ⟨g, o, none⟩) R cap, .iface 44 (.slice (some ⟨g, o, none⟩) R cap), .iface 44 (Value.slice (some ⟨g', o', none⟩) R cap')] w fun e w' => e = .returned (.int .i64 (gaF h h' (plAll R C))) ∧ Below w.heap.size w w' := by
  have hx := Lib.hid x
  have hx1 := x
  have hd := Lib.hid (Below.refl w.heap.size w)
  have hx' := Lib.hid x'
  have hbd0 := Lib.hid (fun pre hp => gaF_bd (R := R) (C := C) h h' x.h0 x.h1 x'.h0 x'.h1 pre hp)
  clear x'
  clear x
  refine (callsIn_wide (n := 3)).1 ?_
  refine callsIn_of_wp_marks Try.func55 rfl trivial ?_ rfl
  simp only [Try.ntmps55, List.size_toArray, List.length_cons, List.length_nil, Nat.reduceAdd, Nat.reduceSub, Array.replicate_succ, Array.replicate_zero, List.push_toArray, List.append_toArray, List.nil_append, List.cons_append]
  gi_wp2_with fail
  refine ⟨trivial, (callsIn_wide.2 (places_any _ _ _ _)).mono ?_⟩
  rintro e w2 ⟨rfl, rfl⟩
  gi_wp2_with fail
  obtain ⟨N, hN⟩ : ∃ N, N = w.heap.size := ⟨_, rfl⟩
  have g0 : ((((w.alloc (.cells #[.iface 44 (.slice (some ⟨g, o, none⟩) R cap)] 72)).alloc (.cells #[.iface 44 (Value.slice (some ⟨g', o', none⟩) R cap')] 72)).alloc (.cells #[.int .i64 0] 2)).alloc (.cells #[.slice (some ⟨g, o, none⟩) R cap] 44)).heap[N]? = some (.cells #[.iface 44 (.slice (some ⟨g, o, none⟩) R cap)] 72 (0, 0)) := by
    rw [Below.heap_alloc _ _ _ (by simp; omega)]
    rw [Below.heap_alloc _ _ _ (by simp; omega)]
    rw [Below.heap_alloc _ _ _ (by simp; omega)]
    have := heap_alloc_new (w) (.cells #[.iface 44 (.slice (some ⟨g, o, none⟩) R cap)] 72)
    rw [hN]; simpa using this
  have g1 : ((((w.alloc (.cells #[.iface 44 (.slice (some ⟨g, o, none⟩) R cap)] 72)).alloc (.cells #[.iface 44 (Value.slice (some ⟨g', o', none⟩) R cap')] 72)).alloc (.cells #[.int .i64 0] 2)).alloc (.cells #[.slice (some ⟨g, o, none⟩) R cap] 44)).heap[N + 1]? = some (.cells #[.iface 44 (Value.slice (some ⟨g', o', none⟩) R cap')] 72 (0, 0)) := by
    rw [Below.heap_alloc _ _ _ (by simp; omega)]
    rw [Below.heap_alloc _ _ _ (by simp; omega)]
    have := heap_alloc_new ((w.alloc (.cells #[.iface 44 (.slice (some ⟨g, o, none⟩) R cap)] 72))) (.cells #[.iface 44 (Value.slice (some ⟨g', o', none⟩) R cap')] 72)
    rw [hN]; simpa using this
  have g2 : ((((w.alloc (.cells #[.iface 44 (.slice (some ⟨g, o, none⟩) R cap)] 72)).alloc (.cells #[.iface 44 (Value.slice (some ⟨g', o', none⟩) R cap')] 72)).alloc (.cells #[.int .i64 0] 2)).alloc (.cells #[.slice (some ⟨g, o, none⟩) R cap] 44)).heap[N + 1 + 1]? = some (.cells #[.int .i64 0] 2 (0, 0)) := by
    rw [Below.heap_alloc _ _ _ (by simp; omega)]
    have := heap_alloc_new (((w.alloc (.cells #[.iface 44 (.slice (some ⟨g, o, none⟩) R cap)] 72)).alloc (.cells #[.iface 44 (Value.slice (some ⟨g', o', none⟩) R cap')] 72))) (.cells #[.int .i64 0] 2)
    rw [hN]; simpa using this
  have g3 : ((((w.alloc (.cells #[.iface 44 (.slice (some ⟨g, o, none⟩) R cap)] 72)).alloc (.cells #[.iface 44 (Value.slice (some ⟨g', o', none⟩) R cap')] 72)).alloc (.cells #[.int .i64 0] 2)).alloc (.cells #[.slice (some ⟨g, o, none⟩) R cap] 44)).heap[N + 1 + 1 + 1]? = some (.cells #[.slice (some ⟨g, o, none⟩) R cap] 44 (0, 0)) := by
    have := heap_alloc_new ((((w.alloc (.cells #[.iface 44 (.slice (some ⟨g, o, none⟩) R cap)] 72)).alloc (.cells #[.iface 44 (Value.slice (some ⟨g', o', none⟩) R cap')] 72)).alloc (.cells #[.int .i64 0] 2))) (.cells #[.slice (some ⟨g, o, none⟩) R cap] 44)
    rw [hN]; simpa using this
  have gz : ((((w.alloc (.cells #[.iface 44 (.slice (some ⟨g, o, none⟩) R cap)] 72)).alloc (.cells #[.iface 44 (Value.slice (some ⟨g', o', none⟩) R cap')] 72)).alloc (.cells #[.int .i64 0] 2)).alloc (.cells #[.slice (some ⟨g, o, none⟩) R cap] 44)).heap.size = N + 4 := by simp [hN]
  have gB : Below w.heap.size w ((((w.alloc (.cells #[.iface 44 (.slice (some ⟨g, o, none⟩) R cap)] 72)).alloc (.cells #[.iface 44 (Value.slice (some ⟨g', o', none⟩) R cap')] 72)).alloc (.cells #[.int .i64 0] 2)).alloc (.cells #[.slice (some ⟨g, o, none⟩) R cap] 44)) := ((((Below.refl _ _).alloc (by simp <;> omega) _).alloc (by simp <;> omega) _).alloc (by simp <;> omega) _).alloc (by simp <;> omega) _
  have gW := hd.out.trans (gB.mono hd.out.size)
  have hx2 := hx1.below gB
  have hwN : w.heap.size ≤ N := by rw [hN]; exact hd.out.size
  have hgN : g < N := by rw [hN]; exact hx1.gl
  rw [← hN]
  clear hx1 gB hd hN
  generalize ((((w.alloc (.cells #[.iface 44 (.slice (some ⟨g, o, none⟩) R cap)] 72)).alloc (.cells #[.iface 44 (Value.slice (some ⟨g', o', none⟩) R cap')] 72)).alloc (.cells #[.int .i64 0] 2)).alloc (.cells #[.slice (some ⟨g, o, none⟩) R cap] 44)) = W0 at g0 g1 g2 g3 gz gW hx2 ⊢
  have hseq := places_seq 2 (N + 1 + 1 + 1) g o cap R C (fun b => b ≠ N + 1 + 1) W0 (hx2.pl (cellB g3 0 _ rfl)) (show N + 1 + 1 + 1 ≠ N + 1 + 1 by omega) (by omega)
  have hbd := Lib.hid (fun pre hp => hbd0.out pre hp)
  refine' rangeP rfl (enters_of Try.func79 (by kernel_rfl) rfl) hseq
    (fun pre W => (W.heap[N]? = some (.cells #[.iface 44 (.slice (some ⟨g, o, none⟩) R cap)] 72 (0, 0)) ∧ W.heap[N + 1]? = some (.cells #[.iface 44 (Value.slice (some ⟨g', o', none⟩) R cap')] 72 (0, 0)) ∧ W.heap[N + 1 + 1]? = some (.cells #[.int .i64 (gaF h h' pre)] 2 (0, 0))) ∧ Below w.heap.size w W)
    (fun _ _ _ => False)
    (fun s A B h hAB => ⟨⟨low_heap h.1.1 (by omega) hAB, low_heap h.1.2.1 (by omega) hAB, low_heap h.1.2.2 (by omega) hAB⟩, h.2.trans (hAB.mono (by omega))⟩)
    (fun _ _ _ _ h _ => h)
    ⟨⟨g0, g1, g2⟩, gW⟩ ?assign ?body ?done ?stop
  case assign =>
    rintro l B x W K hB hK
    unfold encP
    gi_wp2
    exact hK
  case body =>
    rintro l B pre ⟨p, q⟩ W hpre hl hlB hBW ⟨⟨i0, i1, i2⟩, iB⟩ hBx hWz
    obtain ⟨hp, hq, hpl⟩ := pre_place hpre
    clear hpl
    have hsb := hbd.out pre ((List.prefix_append _ _).trans hpre)
    have hnext := gaF_next h h' pre (p, q)
    obtain ⟨s, hse⟩ : ∃ s, s = gaF h h' pre := ⟨_, rfl⟩
    rw [← hse] at i2 hsb hnext
    dsimp only at i2 hsb hnext hBx hp hq ⊢
    have hz := Lib.hid (hx.out.below iB)
    have hz' := Lib.hid (hx'.out.below iB)
    have cA0 := fun w' (hw' : Below W.heap.size W w') => at_any g o cap R C rg ro rc h w' (hz.out.below hw') p q hp hq
    have cB0 := fun w' (hw' : Below W.heap.size W w') => at_any g' o' cap' R C rg' ro' rc' h' w' (hz'.out.below hw') p q hp hq
    unfold encP at cA0 cB0
    dsimp only at cA0 cB0
    have z1a := hz.out.h0 p q hp hq
    have z1b := hz.out.h1 p q hp hq
    have z2a := hz'.out.h0 p q hp hq
    have z2b := hz'.out.h1 p q hp hq
    obtain ⟨z1, hz1⟩ : ∃ z, z = h p q := ⟨_, rfl⟩
    obtain ⟨z2, hz2⟩ : ∃ z, z = h' p q := ⟨_, rfl⟩
    rw [← hz1] at cA0 hnext z1a z1b
    rw [← hz2] at cB0 hnext z2a z2b
    have cD0 := fun w' => distG z1 z2 (by omega) (by omega) (by omega) (by omega) w'
    have dbd := absG_bd z1a z1b z2a z2b
    obtain ⟨dd, hdd⟩ : ∃ d, d = absG z1 z2 := ⟨_, rfl⟩
    rw [← hdd] at cD0 hnext dbd
    have cA := Lib.hid cA0
    have cB := Lib.hid cB0
    have cD := Lib.hid cD0
    clear hz1 hz2 hdd cA0 cB0 cD0 z1a z1b z2a z2b hp hq
    have hN0 : N < W.heap.size := by omega
    have hN1 : N + 1 < W.heap.size := by omega
    have hN2 : N + 1 + 1 < W.heap.size := by omega
    have keyC : Hid (∀ w', Below W.heap.size W w' → w'.heap[N]? = some (.cells #[.iface 44 (.slice (some ⟨g, o, none⟩) R cap)] 72 (0, 0)) ∧ w'.heap[N + 1]? = some (.cells #[.iface 44 (Value.slice (some ⟨g', o', none⟩) R cap')] 72 (0, 0)) ∧ w'.heap[N + 1 + 1]? = some (.cells #[.int .i64 s] 2 (0, 0)) ∧ w'.heap[B]? = some (.cells #[.int .i64 (p : Int), .int .i64 (q : Int)] 46 (0, 0))) := Lib.hid (fun w' hw' => ⟨(hw'.block _ hN0).trans i0, (hw'.block _ hN1).trans i1, (hw'.block _ hN2).trans i2, (hw'.block _ hBW).trans hBx⟩)
    clear hse hpre i0 i1 i2 hBx
    have open0 : Hid (∀ w', Below W.heap.size W w' → w'.cell? ⟨N, 0, none⟩ = some (.iface 44 (.slice (some ⟨g, o, none⟩) R cap)) ∧ w'.cell? ⟨N + 1, 0, none⟩ = some (.iface 44 (Value.slice (some ⟨g', o', none⟩) R cap')) ∧ w'.cell? ⟨N + 1 + 1, 0, none⟩ = some ((.int .i64 s)) ∧ w'.cell? ⟨B, 0, none⟩ = some (.int .i64 (p : Int)) ∧ w'.cell? ⟨B, 1, none⟩ = some (.int .i64 (q : Int))) := Lib.hid (fun w' hw' => by
      obtain ⟨e0, e1, e2, e3⟩ := keyC.out w' hw'
      exact ⟨cellB e0 0 _ rfl, cellB e1 0 _ rfl, cellB e2 0 _ rfl, cellB e3 0 _ rfl, cellB e3 1 _ rfl⟩)
    by_cases hcs : dd < s
    · have hr : Hid (gaF h h' (pre ++ [(p, q)]) = s) := Lib.hid (by rw [hnext]; unfold maxG; rw [if_pos hcs])
      clear hnext
      gi_wp2_with fail
      refine wpIn_calm 9 (fun w' => Below W.heap.size W w') (by kernel_rfl) (by kernel_rfl) (by rintro ⟨_, _, h⟩; exact h) (by kernel_rfl) (by kernel_rfl) (by kernel_rfl) (belowN (Below.refl _ _) 1) ?_
      simp only [List.take_succ_cons, List.take_zero, List.drop_succ_cons, List.drop_zero]
      refine calm_take (v := ?vy1) (by rfl) ?ey1 ?ry1
      case ey1 => (intro w' hw'; obtain ⟨c0, c1, c2, c3, c4⟩ := open0.out w' hw'; go_simp; try with_reducible rfl)
      try simp only [Act.put, List.setIfInBounds_toArray, List.set_cons_zero, List.set_cons_succ]
      refine calm_take (v := ?vy2) (by rfl) ?ey2 ?ry2
      case ey2 => (intro w' hw'; obtain ⟨c0, c1, c2, c3, c4⟩ := open0.out w' hw'; go_simp; try with_reducible rfl)
      try simp only [Act.put, List.setIfInBounds_toArray, List.set_cons_zero, List.set_cons_succ]
      refine calm_take (v := ?vy3) (by rfl) ?ey3 ?ry3
      case ey3 => (intro w' hw'; obtain ⟨c0, c1, c2, c3, c4⟩ := open0.out w' hw'; go_simp; try with_reducible rfl)
      try simp only [Act.put, List.setIfInBounds_toArray, List.set_cons_zero, List.set_cons_succ]
      refine calm_call (v := .int .i64 z1) (f := ?fy4) (args := ?ay4) (by rfl) ?ey4 ?cy4 ?ry4
      case ey4 => (intro w' hw'; obtain ⟨c0, c1, c2, c3, c4⟩ := open0.out w' hw'; go_simp; try (go_invoke; go_simp); first | (with_reducible rfl) | (refine ⟨?_, ?_⟩ <;> with_reducible rfl))
      case cy4 => (intro w' hw'; with_reducible exact calm_ret hw' (cA.out w' hw'))
      try simp only [Act.put, List.setIfInBounds_toArray, List.set_cons_zero, List.set_cons_succ]
      refine calm_take (v := ?vy5) (by rfl) ?ey5 ?ry5
      case ey5 => (intro w' hw'; obtain ⟨c0, c1, c2, c3, c4⟩ := open0.out w' hw'; go_simp; try with_reducible rfl)
      try simp only [Act.put, List.setIfInBounds_toArray, List.set_cons_zero, List.set_cons_succ]
      refine calm_take (v := ?vy6) (by rfl) ?ey6 ?ry6
      case ey6 => (intro w' hw'; obtain ⟨c0, c1, c2, c3, c4⟩ := open0.out w' hw'; go_simp; try with_reducible rfl)
      try simp only [Act.put, List.setIfInBounds_toArray, List.set_cons_zero, List.set_cons_succ]
      refine calm_call (v := .int .i64 z2) (f := ?fy7) (args := ?ay7) (by rfl) ?ey7 ?cy7 ?ry7
      case ey7 => (intro w' hw'; obtain ⟨c0, c1, c2, c3, c4⟩ := open0.out w' hw'; go_simp; try (go_invoke; go_simp); first | (with_reducible rfl) | (refine ⟨?_, ?_⟩ <;> with_reducible rfl))
      case cy7 => (intro w' hw'; with_reducible exact calm_ret hw' (cB.out w' hw'))
      try simp only [Act.put, List.setIfInBounds_toArray, List.set_cons_zero, List.set_cons_succ]
      refine calm_call (v := .int .i64 dd) (f := ?fy8) (args := ?ay8) (by rfl) ?ey8 ?cy8 ?ry8
      case ey8 => (intro w' hw'; obtain ⟨c0, c1, c2, c3, c4⟩ := open0.out w' hw'; go_simp; first | (with_reducible rfl) | (refine ⟨?_, ?_⟩ <;> with_reducible rfl))
      case cy8 => (intro w' hw'; with_reducible exact calm_same hw' (cD.out w'))
      try simp only [Act.put, List.setIfInBounds_toArray, List.set_cons_zero, List.set_cons_succ]
      refine calm_take (v := ?vy9) (by rfl) ?ey9 ?ry9
      case ey9 => (intro w' hw'; obtain ⟨c0, c1, c2, c3, c4⟩ := open0.out w' hw'; go_simp; try with_reducible rfl)
      try simp only [Act.put, List.setIfInBounds_toArray, List.set_cons_zero, List.set_cons_succ]
      refine wpQuiet_nil (fun w' hw' => ?_)
      obtain ⟨e0, e1, e2, e3⟩ := keyC.out w' hw'
      obtain ⟨c0, c1, c2, c3, c4⟩ := open0.out w' hw'
      have f0 := freeB e2 0
      go_wp2
      all_goals gi_wp2
      all_goals
        refine ⟨(KeepsFrom.below hw').trans ((KeepsOthers.setCell w' _ _).from _), (Keeps.of_below hw').trans (Keeps.setCell _ _ (by simp) _), ⟨(Below.heap_setCell _ _ _ _ (by simp <;> omega)).trans e0, (Below.heap_setCell _ _ _ _ (by simp <;> omega)).trans e1, ?_⟩, (below2 iB hw').setCell (p := ⟨N + 1 + 1, 0, none⟩) (by show w.heap.size ≤ N + 1 + 1; omega) _⟩
        rw [hr.out]
        exact heap_set e2 0 _ _ (by simp <;> omega)
    · have hr : Hid (gaF h h' (pre ++ [(p, q)]) = dd) := Lib.hid (by rw [hnext]; unfold maxG; rw [if_neg hcs])
      clear hnext
      gi_wp2_with fail
      refine wpIn_calm 9 (fun w' => Below W.heap.size W w') (by kernel_rfl) (by kernel_rfl) (by rintro ⟨_, _, h⟩; exact h) (by kernel_rfl) (by kernel_rfl) (by kernel_rfl) (belowN (Below.refl _ _) 1) ?_
      simp only [List.take_succ_cons, List.take_zero, List.drop_succ_cons, List.drop_zero]
      refine calm_take (v := ?vy10) (by rfl) ?ey10 ?ry10
      case ey10 => (intro w' hw'; obtain ⟨c0, c1, c2, c3, c4⟩ := open0.out w' hw'; go_simp; try with_reducible rfl)
      try simp only [Act.put, List.setIfInBounds_toArray, List.set_cons_zero, List.set_cons_succ]
      refine calm_take (v := ?vy11) (by rfl) ?ey11 ?ry11
      case ey11 => (intro w' hw'; obtain ⟨c0, c1, c2, c3, c4⟩ := open0.out w' hw'; go_simp; try with_reducible rfl)
      try simp only [Act.put, List.setIfInBounds_toArray, List.set_cons_zero, List.set_cons_succ]
      refine calm_take (v := ?vy12) (by rfl) ?ey12 ?ry12
      case ey12 => (intro w' hw'; obtain ⟨c0, c1, c2, c3, c4⟩ := open0.out w' hw'; go_simp; try with_reducible rfl)
      try simp only [Act.put, List.setIfInBounds_toArray, List.set_cons_zero, List.set_cons_succ]
      refine calm_call (v := .int .i64 z1) (f := ?fy13) (args := ?ay13) (by rfl) ?ey13 ?cy13 ?ry13
      case ey13 => (intro w' hw'; obtain ⟨c0, c1, c2, c3, c4⟩ := open0.out w' hw'; go_simp; try (go_invoke; go_simp); first | (with_reducible rfl) | (refine ⟨?_, ?_⟩ <;> with_reducible rfl))
      case cy13 => (intro w' hw'; with_reducible exact calm_ret hw' (cA.out w' hw'))
      try simp only [Act.put, List.setIfInBounds_toArray, List.set_cons_zero, List.set_cons_succ]
      refine calm_take (v := ?vy14) (by rfl) ?ey14 ?ry14
      case ey14 => (intro w' hw'; obtain ⟨c0, c1, c2, c3, c4⟩ := open0.out w' hw'; go_simp; try with_reducible rfl)
      try simp only [Act.put, List.setIfInBounds_toArray, List.set_cons_zero, List.set_cons_succ]
      refine calm_take (v := ?vy15) (by rfl) ?ey15 ?ry15
      case ey15 => (intro w' hw'; obtain ⟨c0, c1, c2, c3, c4⟩ := open0.out w' hw'; go_simp; try with_reducible rfl)
      try simp only [Act.put, List.setIfInBounds_toArray, List.set_cons_zero, List.set_cons_succ]
      refine calm_call (v := .int .i64 z2) (f := ?fy16) (args := ?ay16) (by rfl) ?ey16 ?cy16 ?ry16
      case ey16 => (intro w' hw'; obtain ⟨c0, c1, c2, c3, c4⟩ := open0.out w' hw'; go_simp; try (go_invoke; go_simp); first | (with_reducible rfl) | (refine ⟨?_, ?_⟩ <;> with_reducible rfl))
      case cy16 => (intro w' hw'; with_reducible exact calm_ret hw' (cB.out w' hw'))
      try simp only [Act.put, List.setIfInBounds_toArray, List.set_cons_zero, List.set_cons_succ]
      refine calm_call (v := .int .i64 dd) (f := ?fy17) (args := ?ay17) (by rfl) ?ey17 ?cy17 ?ry17
      case ey17 => (intro w' hw'; obtain ⟨c0, c1, c2, c3, c4⟩ := open0.out w' hw'; go_simp; first | (with_reducible rfl) | (refine ⟨?_, ?_⟩ <;> with_reducible rfl))
      case cy17 => (intro w' hw'; with_reducible exact calm_same hw' (cD.out w'))
      try simp only [Act.put, List.setIfInBounds_toArray, List.set_cons_zero, List.set_cons_succ]
      refine calm_take (v := ?vy18) (by rfl) ?ey18 ?ry18
      case ey18 => (intro w' hw'; obtain ⟨c0, c1, c2, c3, c4⟩ := open0.out w' hw'; go_simp; try with_reducible rfl)
      try simp only [Act.put, List.setIfInBounds_toArray, List.set_cons_zero, List.set_cons_succ]
      refine wpQuiet_nil (fun w' hw' => ?_)
      obtain ⟨e0, e1, e2, e3⟩ := keyC.out w' hw'
      obtain ⟨c0, c1, c2, c3, c4⟩ := open0.out w' hw'
      have f0 := freeB e2 0
      go_wp2
      all_goals gi_wp2
      all_goals
        refine ⟨(KeepsFrom.below hw').trans ((KeepsOthers.setCell w' _ _).from _), (Keeps.of_below hw').trans (Keeps.setCell _ _ (by simp) _), ⟨(Below.heap_setCell _ _ _ _ (by simp <;> omega)).trans e0, (Below.heap_setCell _ _ _ _ (by simp <;> omega)).trans e1, ?_⟩, (below2 iB hw').setCell (p := ⟨N + 1 + 1, 0, none⟩) (by show w.heap.size ≤ N + 1 + 1; omega) _⟩
        rw [hr.out]
        exact heap_set e2 0 _ _ (by simp <;> omega)
  case done =>
    rintro K W hK ⟨⟨i0, i1, i2⟩, iB⟩ hD
    have hsb := hbd.out _ (List.prefix_refl _)
    obtain ⟨s, hse⟩ : ∃ s, s = gaF h h' (plAll R C) := ⟨_, rfl⟩
    rw [← hse] at i2 hsb
    have hval := Lib.hid hse
    have c0 := cellB i2 0 _ rfl
    clear hse
    gi_wp2
    refine ⟨by simp, .inl ⟨_, _, rfl, run_takeDeferred hD, ?_⟩⟩
    refine ⟨.int .i64 s, ?_, by rw [hval.out], iB.trans (below_put _ _ (by omega) iB.size)⟩
    simp [results, Try.f55, go_sem]
  case stop =>
    rintro K c pre W _ _ h _
    exact h.elim
theorem size_any (g o cap R C cc : Nat) (a : Option Addr) (hR : 1 ≤ R) (hRm : R ≤ 1048576) (hC : C ≤ 1048576) (w : World) (h : w.cell? ⟨g, o, none⟩ = some (.slice a C cc)) : Calls Try.prog 73 #[.slice (some ⟨g, o, none⟩) R cap] w fun e w' => e = .returned (.agg #[.int .i64 (R : Int), .int .i64 (C : Int)]) ∧ Below w.heap.size w w' := by
  have hg : g < w.heap.size := World.block_lt_of_cell? w _ h
  have hb : Below w.heap.size w (w.alloc (.cells #[.int .i64 0, .int .i64 0] 76)) := (Below.refl _ _).alloc (Nat.le_refl _) _
  have cC := Lib.hid (columns_at g o R cap C cc a hR hRm hC _ ((hb.cell (p := ⟨g, o, none⟩) hg).trans h))
  go_enter Try.func73, Try.ntmps73
  go_wp2_with (go_at_call 77; (with_reducible refine cC.out.mono ?_); rintro e w2 ⟨rfl, rfl⟩)
  exact bodyPost_ret (v := .agg #[.int .i64 (R : Int), .int .i64 (C : Int)]) (by simp [results, Try.results73, go_sem]) rfl ⟨rfl, (Below.refl _ _).alloc (Nat.le_refl _) _⟩
end Go.Proofs.Ytcclahemmfjmgaa
