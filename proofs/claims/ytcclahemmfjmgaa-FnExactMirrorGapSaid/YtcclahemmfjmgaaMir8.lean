/-
  How different both halves of an arch are, by the program that has a helper for it; the model.
-/
import Derived.Test.YtcclahemmfjmgaaGap
import Derived.Test.YtcclahemmfjmgaaArchI
namespace Go.Proofs.Ytcclahemmfjmgaa
open Go.ChangeShapes Go.WideShapes Go.ChangeAt Go.RowKit Go.Deep
set_option linter.unusedVariables false
set_option linter.unusedSimpArgs false
attribute [local go_sem] Oper.semAt_some
set_option maxRecDepth 100000 in
set_option maxHeartbeats 3200000 in
theorem gap_mirror (g o cap R C : Nat) (rg ro rc : Nat → Nat) (h : Nat → Nat → Int) (h' : Nat → Nat → Int) (w : World) (x : GR w g o cap R C rg ro rc h) (hh : ∀ i k, h' i k = h i (C - 1 - k)) : Calls Try.prog 55 #[.slice (some ⟨g, o, none⟩) R cap, .iface 44 (.slice (some ⟨g, o, none⟩) R cap), .iface 57 (Value.agg #[.slice (some ⟨g, o, none⟩) R cap])] w fun e w' => e = .returned (.int .i64 (gaF h h' (plAll R C))) ∧ Below w.heap.size w w' := by
  have hx := Lib.hid x
  have hx1 := x
  have hd := Lib.hid (Below.refl w.heap.size w)
  have hh' := Lib.hid hh
  have hbd0 := Lib.hid (fun pre hp => gaF_bd (R := R) (C := C) h h' x.h0 x.h1 (fun i k hi hk => by rw [hh]; exact x.h0 i _ hi (by omega)) (fun i k hi hk => by rw [hh]; exact x.h1 i _ hi (by omega)) pre hp)
  clear hh
  clear x
  refine (callsIn_wide (n := 3)).1 ?_
  refine callsIn_of_wp_marks Try.func55 rfl trivial ?_ rfl
  simp only [Try.ntmps55, List.size_toArray, List.length_cons, List.length_nil, Nat.reduceAdd, Nat.reduceSub, Array.replicate_succ, Array.replicate_zero, List.push_toArray, List.append_toArray, List.nil_append, List.cons_append]
  gi_wp2_with fail
  refine ⟨trivial, (callsIn_wide.2 (places_any _ _ _ _)).mono ?_⟩
  rintro e w2 ⟨rfl, rfl⟩
  gi_wp2_with fail
  obtain ⟨N, hN⟩ : ∃ N, N = w.heap.size := ⟨_, rfl⟩
  have g0 : ((((w.alloc (.cells #[.iface 44 (.slice (some ⟨g, o, none⟩) R cap)] 72)).alloc (.cells #[.iface 57 (Value.agg #[.slice (some ⟨g, o, none⟩) R cap])] 72)).alloc (.cells #[.int .i64 0] 2)).alloc (.cells #[.slice (some ⟨g, o, none⟩) R cap] 44)).heap[N]? = some (.cells #[.iface 44 (.slice (some ⟨g, o, none⟩) R cap)] 72 (0, 0)) := by
    rw [Below.heap_alloc _ _ _ (by simp; omega)]
    rw [Below.heap_alloc _ _ _ (by simp; omega)]
    rw [Below.heap_alloc _ _ _ (by simp; omega)]
    have := heap_alloc_new (w) (.cells #[.iface 44 (.slice (some ⟨g, o, none⟩) R cap)] 72)
    rw [hN]; simpa using this
  have g1 : ((((w.alloc (.cells #[.iface 44 (.slice (some ⟨g, o, none⟩) R cap)] 72)).alloc (.cells #[.iface 57 (Value.agg #[.slice (some ⟨g, o, none⟩) R cap])] 72)).alloc (.cells #[.int .i64 0] 2)).alloc (.cells #[.slice (some ⟨g, o, none⟩) R cap] 44)).heap[N + 1]? = some (.cells #[.iface 57 (Value.agg #[.slice (some ⟨g, o, none⟩) R cap])] 72 (0, 0)) := by
    rw [Below.heap_alloc _ _ _ (by simp; omega)]
    rw [Below.heap_alloc _ _ _ (by simp; omega)]
    have := heap_alloc_new ((w.alloc (.cells #[.iface 44 (.slice (some ⟨g, o, none⟩) R cap)] 72))) (.cells #[.iface 57 (Value.agg #[.slice (some ⟨g, o, none⟩) R cap])] 72)
    rw [hN]; simpa using this
  have g2 : ((((w.alloc (.cells #[.iface 44 (.slice (some ⟨g, o, none⟩) R cap)] 72)).alloc (.cells #[.iface 57 (Value.agg #[.slice (some ⟨g, o, none⟩) R cap])] 72)).alloc (.cells #[.int .i64 0] 2)).alloc (.cells #[.slice (some ⟨g, o, none⟩) R cap] 44)).heap[N + 1 + 1]? = some (.cells #[.int .i64 0] 2 (0, 0)) := by
    rw [Below.heap_alloc _ _ _ (by simp; omega)]
    have := heap_alloc_new (((w.alloc (.cells #[.iface 44 (.slice (some ⟨g, o, none⟩) R cap)] 72)).alloc (.cells #[.iface 57 (Value.agg #[.slice (some ⟨g, o, none⟩) R cap])] 72))) (.cells #[.int .i64 0] 2)
    rw [hN]; simpa using this
  have g3 : ((((w.alloc (.cells #[.iface 44 (.slice (some ⟨g, o, none⟩) R cap)] 72)).alloc (.cells #[.iface 57 (Value.agg #[.slice (some ⟨g, o, none⟩) R cap])] 72)).alloc (.cells #[.int .i64 0] 2)).alloc (.cells #[.slice (some ⟨g, o, none⟩) R cap] 44)).heap[N + 1 + 1 + 1]? = some (.cells #[.slice (some ⟨g, o, none⟩) R cap] 44 (0, 0)) := by
    have := heap_alloc_new ((((w.alloc (.cells #[.iface 44 (.slice (some ⟨g, o, none⟩) R cap)] 72)).alloc (.cells #[.iface 57 (Value.agg #[.slice (some ⟨g, o, none⟩) R cap])] 72)).alloc (.cells #[.int .i64 0] 2))) (.cells #[.slice (some ⟨g, o, none⟩) R cap] 44)
    rw [hN]; simpa using this
  have gz : ((((w.alloc (.cells #[.iface 44 (.slice (some ⟨g, o, none⟩) R cap)] 72)).alloc (.cells #[.iface 57 (Value.agg #[.slice (some ⟨g, o, none⟩) R cap])] 72)).alloc (.cells #[.int .i64 0] 2)).alloc (.cells #[.slice (some ⟨g, o, none⟩) R cap] 44)).heap.size = N + 4 := by simp [hN]
  have gB : Below w.heap.size w ((((w.alloc (.cells #[.iface 44 (.slice (some ⟨g, o, none⟩) R cap)] 72)).alloc (.cells #[.iface 57 (Value.agg #[.slice (some ⟨g, o, none⟩) R cap])] 72)).alloc (.cells #[.int .i64 0] 2)).alloc (.cells #[.slice (some ⟨g, o, none⟩) R cap] 44)) := ((((Below.refl _ _).alloc (by simp <;> omega) _).alloc (by simp <;> omega) _).alloc (by simp <;> omega) _).alloc (by simp <;> omega) _
  have gW := hd.out.trans (gB.mono hd.out.size)
  have hx2 := hx1.below gB
  have hwN : w.heap.size ≤ N := by rw [hN]; exact hd.out.size
  have hgN : g < N := by rw [hN]; exact hx1.gl
  rw [← hN]
  clear hx1 gB hd hN
  generalize ((((w.alloc (.cells #[.iface 44 (.slice (some ⟨g, o, none⟩) R cap)] 72)).alloc (.cells #[.iface 57 (Value.agg #[.slice (some ⟨g, o, none⟩) R cap])] 72)).alloc (.cells #[.int .i64 0] 2)).alloc (.cells #[.slice (some ⟨g, o, none⟩) R cap] 44)) = W0 at g0 g1 g2 g3 gz gW hx2 ⊢
  have hseq := places_seq 2 (N + 1 + 1 + 1) g o cap R C (fun b => b ≠ N + 1 + 1) W0 (hx2.pl (cellB g3 0 _ rfl)) (show N + 1 + 1 + 1 ≠ N + 1 + 1 by omega) (by omega)
  have hbd := Lib.hid (fun pre hp => hbd0.out pre hp)
  refine' rangeP rfl (enters_of Try.func79 (by kernel_rfl) rfl) hseq
    (fun pre W => (W.heap[N]? = some (.cells #[.iface 44 (.slice (some ⟨g, o, none⟩) R cap)] 72 (0, 0)) ∧ W.heap[N + 1]? = some (.cells #[.iface 57 (Value.agg #[.slice (some ⟨g, o, none⟩) R cap])] 72 (0, 0)) ∧ W.heap[N + 1 + 1]? = some (.cells #[.int .i64 (gaF h h' pre)] 2 (0, 0))) ∧ Below w.heap.size w W)
    (fun _ _ _ => False)
    (fun s A B h hAB => ⟨⟨low_heap h.1.1 (by omega) hAB, low_heap h.1.2.1 (by omega) hAB, low_heap h.1.2.2 (by omega) hAB⟩, h.2.trans (hAB.mono (by omega))⟩)
    (fun _ _ _ _ h _ => h)
    ⟨⟨g0, g1, g2⟩, gW⟩ ?assign ?body ?done ?stop
  case assign =>
    rintro l B x W K hB hK
    unfold encP
    gi_wp2
    exact hK
  case body =>
    rintro l B pre ⟨p, q⟩ W hpre hl hlB hBW ⟨⟨i0, i1, i2⟩, iB⟩ hBx hWz
    obtain ⟨hp, hq, hpl⟩ := pre_place hpre
    clear hpl
    have hsb := hbd.out pre ((List.prefix_append _ _).trans hpre)
    have hnext := gaF_next h h' pre (p, q)
    obtain ⟨s, hse⟩ : ∃ s, s = gaF h h' pre := ⟨_, rfl⟩
    rw [← hse] at i2 hsb hnext
    dsimp only at i2 hsb hnext hBx hp hq ⊢
    have hz := Lib.hid (hx.out.below iB)
    have cA0 := fun w' (hw' : Below W.heap.size W w') => at_any g o cap R C rg ro rc h w' (hz.out.below hw') p q hp hq
    have cB0 := fun w' (hw' : Below W.heap.size W w') => (show Calls Try.prog 108 #[.agg #[.slice (some ⟨g, o, none⟩) R cap], encP (p, q)] w' fun e w'' => e = .returned (.int .i64 (h' p q)) ∧ Below w'.heap.size w' w'' from by rw [hh'.out p q]; exact mirror_at g o cap R C rg ro rc h w' (hz.out.below hw') p q hp hq)
    unfold encP at cA0 cB0
    dsimp only at cA0 cB0
    have z1a := hz.out.h0 p q hp hq
    have z1b := hz.out.h1 p q hp hq
    have z2a := (show 0 ≤ h' p q from by rw [hh'.out p q]; exact hz.out.h0 p (C - 1 - q) hp (by omega))
    have z2b := (show h' p q ≤ 1000 from by rw [hh'.out p q]; exact hz.out.h1 p (C - 1 - q) hp (by omega))
    obtain ⟨z1, hz1⟩ : ∃ z, z = h p q := ⟨_, rfl⟩
    obtain ⟨z2, hz2⟩ : ∃ z, z = h' p q := ⟨_, rfl⟩
    rw [← hz1] at cA0 hnext z1a z1b
    rw [← hz2] at cB0 hnext z2a z2b
    have cD0 := fun w' => distG z1 z2 (by omega) (by omega) (by omega) (by omega) w'
    have dbd := absG_bd z1a z1b z2a z2b
    obtain ⟨dd, hdd⟩ : ∃ d, d = absG z1 z2 := ⟨_, rfl⟩
    rw [← hdd] at cD0 hnext dbd
    have cA := Lib.hid cA0
    have cB := Lib.hid cB0
    have cD := Lib.hid cD0
    clear hz1 hz2 hdd cA0 cB0 cD0 z1a z1b z2a z2b hp hq
    have hN0 : N < W.heap.size := by omega
    have hN1 : N + 1 < W.heap.size := by omega
    have hN2 : N + 1 + 1 < W.heap.size := by omega
    have keyC : Hid (∀ w', Below W.heap.size W w' → w'.heap[N]? = some (.cells #[.iface 44 (.slice (some ⟨g, o, none⟩) R cap)] 72 (0, 0)) ∧ w'.heap[N + 1]? = some (.cells #[.iface 57 (Value.agg #[.slice (some ⟨g, o, none⟩) R cap])] 72 (0, 0)) ∧ w'.heap[N + 1 + 1]? = some (.cells #[.int .i64 s] 2 (0, 0)) ∧ w'.heap[B]? = some (.cells #[.int .i64 (p : Int), .int .i64 (q : Int)] 46 (0, 0))) := Lib.hid (fun w' hw' => ⟨(hw'.block _ hN0).trans i0, (hw'.block _ hN1).trans i1, (hw'.block _ hN2).trans i2, (hw'.block _ hBW).trans hBx⟩)
    clear hse hpre i0 i1 i2 hBx
    have open0 : Hid (∀ w', Below W.heap.size W w' → w'.cell? ⟨N, 0, none⟩ = some (.iface 44 (.slice (some ⟨g, o, none⟩) R cap)) ∧ w'.cell? ⟨N + 1, 0, none⟩ = some (.iface 57 (Value.agg #[.slice (some ⟨g, o, none⟩) R cap])) ∧ w'.cell? ⟨N + 1 + 1, 0, none⟩ = some ((.int .i64 s)) ∧ w'.cell? ⟨B, 0, none⟩ = some (.int .i64 (p : Int)) ∧ w'.cell? ⟨B, 1, none⟩ = some (.int .i64 (q : Int))) := Lib.hid (fun w' hw' => by
      obtain ⟨e0, e1, e2, e3⟩ := keyC.out w' hw'
      exact ⟨cellB e0 0 _ rfl, cellB e1 0 _ rfl, cellB e2 0 _ rfl, cellB e3 0 _ rfl, cellB e3 1 _ rfl⟩)
    by_cases hcs : dd < s
    · have hr : Hid (gaF h h' (pre ++ [(p, q)]) = s) := Lib.hid (by rw [hnext]; unfold maxG; rw [if_pos hcs])
      clear hnext
      gi_wp2_with fail
      refine wpIn_calm 9 (fun w' => Below W.heap.size W w') (by kernel_rfl) (by kernel_rfl) (by rintro ⟨_, _, h⟩; exact h) (by kernel_rfl) (by kernel_rfl) (by kernel_rfl) (belowN (Below.refl _ _) 1) ?_
      simp only [List.take_succ_cons, List.take_zero, List.drop_succ_cons, List.drop_zero]
      refine calm_take (v := ?vy1) (by rfl) ?ey1 ?ry1
      case ey1 => (intro w' hw'; obtain ⟨c0, c1, c2, c3, c4⟩ := open0.out w' hw'; go_simp; try with_reducible rfl)
      try simp only [Act.put, List.setIfInBounds_toArray, List.set_cons_zero, List.set_cons_succ]
      refine calm_take (v := ?vy2) (by rfl) ?ey2 ?ry2
      case ey2 => (intro w' hw'; obtain ⟨c0, c1, c2, c3, c4⟩ := open0.out w' hw'; go_simp; try with_reducible rfl)
      try simp only [Act.put, List.setIfInBounds_toArray, List.set_cons_zero, List.set_cons_succ]
      refine calm_take (v := ?vy3) (by rfl) ?ey3 ?ry3
      case ey3 => (intro w' hw'; obtain ⟨c0, c1, c2, c3, c4⟩ := open0.out w' hw'; go_simp; try with_reducible rfl)
      try simp only [Act.put, List.setIfInBounds_toArray, List.set_cons_zero, List.set_cons_succ]
      refine calm_call (v := .int .i64 z1) (f := ?fy4) (args := ?ay4) (by rfl) ?ey4 ?cy4 ?ry4
      case ey4 => (intro w' hw'; obtain ⟨c0, c1, c2, c3, c4⟩ := open0.out w' hw'; go_simp; try (go_invoke; go_simp); first | (with_reducible rfl) | (refine ⟨?_, ?_⟩ <;> with_reducible rfl))
      case cy4 => (intro w' hw'; with_reducible exact calm_ret hw' (cA.out w' hw'))
      try simp only [Act.put, List.setIfInBounds_toArray, List.set_cons_zero, List.set_cons_succ]
      refine calm_take (v := ?vy5) (by rfl) ?ey5 ?ry5
      case ey5 => (intro w' hw'; obtain ⟨c0, c1, c2, c3, c4⟩ := open0.out w' hw'; go_simp; try with_reducible rfl)
      try simp only [Act.put, List.setIfInBounds_toArray, List.set_cons_zero, List.set_cons_succ]
      refine calm_take (v := ?vy6) (by rfl) ?ey6 ?ry6
      case ey6 => (intro w' hw'; obtain ⟨c0, c1, c2, c3, c4⟩ := open0.out w' hw'; go_simp; try with_reducible rfl)
      try simp only [Act.put, List.setIfInBounds_toArray, List.set_cons_zero, List.set_cons_succ]
      refine calm_call (v := .int .i64 z2) (f := ?fy7) (args := ?ay7) (by rfl) ?ey7 ?cy7 ?ry7
      case ey7 => (intro w' hw'; obtain ⟨c0, c1, c2, c3, c4⟩ := open0.out w' hw'; go_simp; try (go_invoke; go_simp); first | (with_reducible rfl) | (refine ⟨?_, ?_⟩ <;> with_reducible rfl))
      case cy7 => (intro w' hw'; with_reducible exact calm_ret hw' (cB.out w' hw'))
      try simp only [Act.put, List.setIfInBounds_toArray, List.set_cons_zero, List.set_cons_succ]
      refine calm_call (v := .int .i64 dd) (f := ?fy8) (args := ?ay8) (by rfl) ?ey8 ?cy8 ?ry8
      case ey8 => (intro w' hw'; obtain ⟨c0, c1, c2, c3, c4⟩ := open0.out w' hw'; go_simp; first | (with_reducible rfl) | (refine ⟨?_, ?_⟩ <;> with_reducible rfl))
      case cy8 => (intro w' hw'; with_reducible exact calm_same hw' (cD.out w'))
      try simp only [Act.put, List.setIfInBounds_toArray, List.set_cons_zero, List.set_cons_succ]
      refine calm_take (v := ?vy9) (by rfl) ?ey9 ?ry9
      case ey9 => (intro w' hw'; obtain ⟨c0, c1, c2, c3, c4⟩ := open0.out w' hw'; go_simp; try with_reducible rfl)
      try simp only [Act.put, List.setIfInBounds_toArray, List.set_cons_zero, List.set_cons_succ]
      refine wpQuiet_nil (fun w' hw' => ?_)
      obtain ⟨e0, e1, e2, e3⟩ := keyC.out w' hw'
      obtain ⟨c0, c1, c2, c3, c4⟩ := open0.out w' hw'
      have f0 := freeB e2 0
      go_wp2
      all_goals gi_wp2
      all_goals
        refine ⟨(KeepsFrom.below hw').trans ((KeepsOthers.setCell w' _ _).from _), (Keeps.of_below hw').trans (Keeps.setCell _ _ (by simp) _), ⟨(Below.heap_setCell _ _ _ _ (by simp <;> omega)).trans e0, (Below.heap_setCell _ _ _ _ (by simp <;> omega)).trans e1, ?_⟩, (below2 iB hw').setCell (p := ⟨N + 1 + 1, 0, none⟩) (by show w.heap.size ≤ N + 1 + 1; omega) _⟩
        rw [hr.out]
        exact heap_set e2 0 _ _ (by simp <;> omega)
    · have hr : Hid (gaF h h' (pre ++ [(p, q)]) = dd) := Lib.hid (by rw [hnext]; unfold maxG; rw [if_neg hcs])
      clear hnext
      gi_wp2_with fail
      refine wpIn_calm 9 (fun w' => Below W.heap.size W w') (by kernel_rfl) (by kernel_rfl) (by rintro ⟨_, _, h⟩; exact h) (by kernel_rfl) (by kernel_rfl) (by kernel_rfl) (belowN (Below.refl _ _) 1) ?_
      simp only [List.take_succ_cons, List.take_zero, List.drop_succ_cons, List.drop_zero]
      refine calm_take (v := ?vy10) (by rfl) ?ey10 ?ry10
      case ey10 => (intro w' hw'; obtain ⟨c0, c1, c2, c3, c4⟩ := open0.out w' hw'; go_simp; try with_reducible rfl)
      try simp only [Act.put, List.setIfInBounds_toArray, List.set_cons_zero, List.set_cons_succ]
      refine calm_take (v := ?vy11) (by rfl) ?ey11 ?ry11
      case ey11 => (intro w' hw'; obtain ⟨c0, c1, c2, c3, c4⟩ := open0.out w' hw'; go_simp; try with_reducible rfl)
      try simp only [Act.put, List.setIfInBounds_toArray, List.set_cons_zero, List.set_cons_succ]
      refine calm_take (v := ?vy12) (by rfl) ?ey12 ?ry12
      case ey12 => (intro w' hw'; obtain ⟨c0, c1, c2, c3, c4⟩ := open0.out w' hw'; go_simp; try with_reducible rfl)
      try simp only [Act.put, List.setIfInBounds_toArray, List.set_cons_zero, List.set_cons_succ]
      refine calm_call (v := .int .i64 z1) (f := ?fy13) (args := ?ay13) (by rfl) ?ey13 ?cy13 ?ry13
      case ey13 => (intro w' hw'; obtain ⟨c0, c1, c2, c3, c4⟩ := open0.out w' hw'; go_simp; try (go_invoke; go_simp); first | (with_reducible rfl) | (refine ⟨?_, ?_⟩ <;> with_reducible rfl))
      case cy13 => (intro w' hw'; with_reducible exact calm_ret hw' (cA.out w' hw'))
      try simp only [Act.put, List.setIfInBounds_toArray, List.set_cons_zero, List.set_cons_succ]
      refine calm_take (v := ?vy14) (by rfl) ?ey14 ?ry14
      case ey14 => (intro w' hw'; obtain ⟨c0, c1, c2, c3, c4⟩ := open0.out w' hw'; go_simp; try with_reducible rfl)
      try simp only [Act.put, List.setIfInBounds_toArray, List.set_cons_zero, List.set_cons_succ]
      refine calm_take (v := ?vy15) (by rfl) ?ey15 ?ry15
      case ey15 => (intro w' hw'; obtain ⟨c0, c1, c2, c3, c4⟩ := open0.out w' hw'; go_simp; try with_reducible rfl)
      try simp only [Act.put, List.setIfInBounds_toArray, List.set_cons_zero, List.set_cons_succ]
      refine calm_call (v := .int .i64 z2) (f := ?fy16) (args := ?ay16) (by rfl) ?ey16 ?cy16 ?ry16
      case ey16 => (intro w' hw'; obtain ⟨c0, c1, c2, c3, c4⟩ := open0.out w' hw'; go_simp; try (go_invoke; go_simp); first | (with_reducible rfl) | (refine ⟨?_, ?_⟩ <;> with_reducible rfl))
      case cy16 => (intro w' hw'; with_reducible exact calm_ret hw' (cB.out w' hw'))
      try simp only [Act.put, List.setIfInBounds_toArray, List.set_cons_zero, List.set_cons_succ]
      refine calm_call (v := .int .i64 dd) (f := ?fy17) (args := ?ay17) (by rfl) ?ey17 ?cy17 ?ry17
      case ey17 => (intro w' hw'; obtain ⟨c0, c1, c2, c3, c4⟩ := open0.out w' hw'; go_simp; first | (with_reducible rfl) | (refine ⟨?_, ?_⟩ <;> with_reducible rfl))
      case cy17 => (intro w' hw'; with_reducible exact calm_same hw' (cD.out w'))
      try simp only [Act.put, List.setIfInBounds_toArray, List.set_cons_zero, List.set_cons_succ]
      refine calm_take (v := ?vy18) (by rfl) ?ey18 ?ry18
      case ey18 => (intro w' hw'; obtain ⟨c0, c1, c2, c3, c4⟩ := open0.out w' hw'; go_simp; try with_reducible rfl)
      try simp only [Act.put, List.setIfInBounds_toArray, List.set_cons_zero, List.set_cons_succ]
      refine wpQuiet_nil (fun w' hw' => ?_)
      obtain ⟨e0, e1, e2, e3⟩ := keyC.out w' hw'
      obtain ⟨c0, c1, c2, c3, c4⟩ := open0.out w' hw'
      have f0 := freeB e2 0
      go_wp2
      all_goals gi_wp2
      all_goals
        refine ⟨(KeepsFrom.below hw').trans ((KeepsOthers.setCell w' _ _).from _), (Keeps.of_below hw').trans (Keeps.setCell _ _ (by simp) _), ⟨(Below.heap_setCell _ _ _ _ (by simp <;> omega)).trans e0, (Below.heap_setCell _ _ _ _ (by simp <;> omega)).trans e1, ?_⟩, (below2 iB hw').setCell (p := ⟨N + 1 + 1, 0, none⟩) (by show w.heap.size ≤ N + 1 + 1; omega) _⟩
        rw [hr.out]
        exact heap_set e2 0 _ _ (by simp <;> omega)
  case done =>
    rintro K W hK ⟨⟨i0, i1, i2⟩, iB⟩ hD
    have hsb := hbd.out _ (List.prefix_refl _)
    obtain ⟨s, hse⟩ : ∃ s, s = gaF h h' (plAll R C) := ⟨_, rfl⟩
    rw [← hse] at i2 hsb
    have hval := Lib.hid hse
    have c0 := cellB i2 0 _ rfl
    clear hse
    gi_wp2
    refine ⟨by simp, .inl ⟨_, _, rfl, run_takeDeferred hD, ?_⟩⟩
    refine ⟨.int .i64 s, ?_, by rw [hval.out], iB.trans (below_put _ _ (by omega) iB.size)⟩
    simp [results, Try.f55, go_sem]
  case stop =>
    rintro K c pre W _ _ h _
    exact h.elim
/-- the greatest difference over these places -/
def miF (C : Nat) (h : Nat → Nat → Int) (L : List (Nat × Nat)) : Int := L.foldl (fun s p => maxG s (absG (h p.1 p.2) (h p.1 (C - 1 - p.2)))) 0
def miV (G : List (List Int)) : Int := if okG G then miF (colsG G) (hG G) (plAll G.length (colsG G)) else 0
theorem miF_next (C : Nat) (h : Nat → Nat → Int) (L : List (Nat × Nat)) (p : Nat × Nat) : miF C h (L ++ [p]) = maxG (miF C h L) (absG (h p.1 p.2) (h p.1 (C - 1 - p.2))) := by
  unfold miF; rw [List.foldl_append]; rfl
theorem miF_bd {R C : Nat} (h : Nat → Nat → Int) (h0 : ∀ i k, i < R → k < C → 0 ≤ h i k) (h1 : ∀ i k, i < R → k < C → h i k ≤ 1000) (L : List (Nat × Nat)) : L <+: plAll R C → 0 ≤ miF C h L ∧ miF C h L ≤ 1000 := by
  refine snoc_ind (P := fun L => L <+: plAll R C → 0 ≤ miF C h L ∧ miF C h L ≤ 1000) (fun _ => ⟨Int.le_refl _, by unfold miF; simp⟩) (fun L p ih hp => ?_) L
  obtain ⟨a, b, _⟩ := pre_place hp
  have i := ih ((List.prefix_append _ _).trans hp)
  have d := absG_bd (h0 p.1 p.2 a b) (h1 p.1 p.2 a b) (h0 p.1 (C - 1 - p.2) a (by omega)) (h1 p.1 (C - 1 - p.2) a (by omega))
  show 0 ≤ miF C h (L ++ [p]) ∧ miF C h (L ++ [p]) ≤ 1000
  rw [miF_next]
  unfold maxG; split <;> omega
set_option maxHeartbeats 3200000 in
theorem implMirrorGap_any (v : Value) (G : List (List Int)) (w : World) (hn : G.length + totL G ≤ 1048576) (hv : GridAt w v G) : Calls Try.prog 26 #[v] w fun e w' => e = .returned (.tuple #[.int .i64 (miV G), .int .i64 (code (okG G) 1)]) ∧ Below w.heap.size w w' := by
  have cV := Lib.hid (implValidArch_any v G w hn hv)
  have hV : Hid (miV G = if okG G then miF (colsG G) (hG G) (plAll G.length (colsG G)) else 0) := Lib.hid rfl
  cases hok : okG G
  · rw [hok] at cV hV
    obtain ⟨a, cap, rfl, _⟩ := hv
    clear hok hn
    go_enter Try.func26, Try.ntmps26
    go_wp2_with (go_at_call 17; refine cV.out.mono ?_; rintro e w2 ⟨rfl, hd⟩)
    go_ret2
    exact ⟨by rw [hV.out]; rfl, hd.below⟩
  obtain ⟨g, o, cap, rg, ro, rc, rfl, hGR⟩ := grid_GR hv hok
  rw [hok] at cV hV
  have cS0 := fun W (hb : Below w.heap.size w W) => gap_mirror g o cap G.length (colsG G) rg ro rc (hG G) (fun i k => hG G i (colsG G - 1 - k)) W (hGR.below hb) (fun i k => rfl)
  rw [show miV G = gaF (hG G) (fun i k => hG G i (colsG G - 1 - k)) (plAll G.length (colsG G)) from hV.out]
  obtain ⟨M, hM⟩ : ∃ M, M = gaF (hG G) (fun i k => hG G i (colsG G - 1 - k)) (plAll G.length (colsG G)) := ⟨_, rfl⟩
  rw [← hM] at cS0 ⊢
  have cS := Lib.hid cS0
  clear hok hn hv hGR hV hM cS0
  go_enter Try.func26, Try.ntmps26
  go_wp2_with fail
  refine cV.out.mono ?_
  rintro e w2 ⟨rfl, hd⟩
  have B2 := hd.below
  clear hd cV
  go_wp2_with fail
  have hB3 : Below w.heap.size w (w2.alloc (.cells #[.slice (some ⟨g, o, none⟩) G.length cap] 44)) := B2.alloc B2.size _
  first
    | (refine (cS.out _ hB3).mono ?_; rintro e w3 ⟨rfl, b3⟩; have B4 := below2 hB3 b3)
    | (refine (cS.out _ B2).mono ?_; rintro e w3 ⟨rfl, b3⟩; have B4 := below2 B2 b3)
  go_wp2
  go_ret2
  exact ⟨ret_int2 rfl rfl, B4⟩
set_option maxHeartbeats 3200000 in
theorem specMirrorGap_any (v : Value) (G : List (List Int)) (w : World) (hn : G.length + totL G ≤ 1048576) (hv : GridAt w v G) : Calls Try.prog 25 #[v] w fun e w' => e = .returned (.tuple #[.int .i64 (miV G), .int .i64 (code (okG G) 1)]) ∧ Below w.heap.size w w' := by
  have cV := Lib.hid (l07Ok_any v G w hn hv)
  have hV : Hid (miV G = if okG G then miF (colsG G) (hG G) (plAll G.length (colsG G)) else 0) := Lib.hid rfl
  cases hok : okG G
  · rw [hok] at cV hV
    obtain ⟨a, cap, rfl, _⟩ := hv
    clear hok hn
    go_enter Try.func25, Try.ntmps25
    go_wp2_with (go_at_call 42; refine cV.out.mono ?_; rintro e w2 ⟨rfl, hd⟩)
    go_ret2
    exact ⟨by rw [hV.out]; rfl, hd.below⟩
  obtain ⟨g, o, cap, rg, ro, rc, rfl, hGR⟩ := grid_GR hv hok
  rw [hok] at cV hV
  rw [show miV G = miF (colsG G) (hG G) (plAll G.length (colsG G)) from hV.out]
  obtain ⟨R, hR⟩ : ∃ R, R = G.length := ⟨_, rfl⟩
  obtain ⟨C, hC⟩ : ∃ C, C = colsG G := ⟨_, rfl⟩
  obtain ⟨h, hh⟩ : ∃ h, h = hG G := ⟨_, rfl⟩
  rw [← hR] at cV
  rw [← hR, ← hC, ← hh] at hGR ⊢
  have hx := Lib.hid hGR
  have hR2 := hGR.R10
  have hC2 := hGR.C10
  have hbd := Lib.hid (fun pre hp => miF_bd (R := R) (C := C) h hGR.h0 hGR.h1 pre hp)
  clear hok hn hv hGR hV hR hC hh
  go_enter Try.func25, Try.ntmps25
  go_wp2_with (go_at_call 42; refine cV.out.mono ?_; rintro e w2 ⟨rfl, hd⟩)
  go_loopw [4, 5] (fun x i wr => ∃ (k : Nat) (s : Int), k ≤ R ∧ i = .int .i64 k ∧ x = .int .i64 s ∧ Hid (s = miF C h (plTo C k 0)) ∧ DrewOf w wr) (fun _ i _ => R - (intOf i).toNat)
  case atStart => exact ⟨0, 0, by omega, rfl, rfl, Lib.hid rfl, hd⟩
  case round =>
    obtain ⟨k, s, hk, rfl, rfl, hs, hd⟩ := hrel
    by_cases hlt : k < R
    · have hkI : (k : Int) < (R : Int) := by omega
      have c1 := (hx.out.drew hd).top k hlt
      go_wp2
      clear c1
      go_loopw [4, 7] (fun x i wr => ∃ (m : Nat) (s : Int), m ≤ C ∧ i = .int .i64 m ∧ x = .int .i64 s ∧ Hid (s = miF C h (plTo C k m)) ∧ DrewOf w wr) (fun _ i _ => C - (intOf i).toNat)
      case atStart => exact ⟨0, s, by omega, rfl, rfl, hs, hd⟩
      case round =>
        obtain ⟨m, s, hm, rfl, rfl, hs, hd⟩ := hrel
        by_cases hlm : m < C
        · have hz := Lib.hid (hx.out.drew hd)
          have c1 := hz.out.top k hlt
          have c2 := hz.out.cel k hlt m hlm
          have c3 := hz.out.cel k hlt (C - 1 - m) (by omega)
          have hw2 : IntKind.i64.wrap ((C : Int) - 1 - (m : Int)) = ((C - 1 - m : Nat) : Int) := by rw [show ((C - 1 - m : Nat) : Int) = (C : Int) - 1 - (m : Int) by omega]; exact IntWalk.i64_in _ (by omega)
          have z1a := hz.out.h0 k m hlt hlm
          have z1b := hz.out.h1 k m hlt hlm
          have z2a := hz.out.h0 k (C - 1 - m) hlt (by omega)
          have z2b := hz.out.h1 k (C - 1 - m) hlt (by omega)
          have hnext := miF_next C h (plTo C k m) (k, m)
          rw [← hs.out, ← plTo_next] at hnext
          dsimp only at hnext
          obtain ⟨z1, hz1⟩ : ∃ z, z = h k m := ⟨_, rfl⟩
          obtain ⟨z2, hz2⟩ : ∃ z, z = h k (C - 1 - m) := ⟨_, rfl⟩
          rw [← hz1] at c2 hnext z1a z1b
          rw [← hz2] at c3 hnext z2a z2b
          have hmI : (m : Int) < (C : Int) := by omega
          have cD := Lib.hid (fun W => l03AbsG z1 z2 (by omega) (by omega) (by omega) (by omega) W)
          have cM := Lib.hid (fun W => l00MaxG s (absG z1 z2) W)
          obtain ⟨dd, hdd⟩ : ∃ d, d = absG z1 z2 := ⟨_, rfl⟩
          rw [← hdd] at cD hnext cM
          obtain ⟨s2, hs2⟩ : ∃ d, d = maxG s dd := ⟨_, rfl⟩
          rw [← hs2] at hnext cM
          have hr : Hid (s2 = miF C h (plTo C k (m + 1))) := Lib.hid hnext.symm
          have hw1 : IntKind.i64.wrap ((C : Int) - 1) = (C : Int) - 1 := IntWalk.i64_in _ (by omega)
          obtain ⟨d, hde⟩ : ∃ d, d = C - 1 - m := ⟨_, rfl⟩
          have hdI : (d : Int) < (C : Int) := by omega
          rw [← hde] at hw2 c3
          clear hde hz1 hz2 hdd hs2 hnext z1a z1b z2a z2b hs
          go_wp2
          go_quiet ((first | (go_at_call 50; exact Qs (cD.out _)) | (go_at_call 49; exact Qs (cM.out _))))
          go_wp2
          go_roundw
          case rel => exact ⟨m + 1, s2, by omega, by go_num, rfl, hr, hd.more _⟩
          case measure => simp [intOf]; omega
        · have hmC : m = C := by omega
          have hr : Hid (s = miF C h (plTo C (k + 1) 0)) := Lib.hid (by have := hs.out; rw [hmC, plTo_row] at this; exact this)
          clear hmC hs
          go_wp2
          go_roundw
          case rel => exact ⟨k + 1, s, by omega, by go_num, rfl, hr, hd⟩
          case measure => simp [intOf]; omega
    · have hkR : k = R := by omega
      have hr : Hid (s = miF C h (plAll R C)) := Lib.hid (by have := hs.out; rw [hkR] at this; exact this)
      clear hkR hs
      go_wp2
      go_ret2
      exact ⟨by rw [hr.out]; rfl, hd.below⟩
end Go.Proofs.Ytcclahemmfjmgaa
