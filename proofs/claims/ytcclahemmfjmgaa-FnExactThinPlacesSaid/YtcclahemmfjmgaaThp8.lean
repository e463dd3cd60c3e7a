/-
  Where the wood between two grids is too thin, by the program that has a helper for it.
-/
import Derived.Test.YtcclahemmfjmgaaLow
import Derived.Test.YtcclahemmfjmgaaGap
import Derived.Test.YtcclahemmfjmgaaWood8
import Derived.Test.YtcclahemmfjmgaaArchI
namespace Go.Proofs.Ytcclahemmfjmgaa
open Go.ChangeShapes Go.WideShapes Go.ChangeAt Go.RowKit Go.Deep
set_option linter.unusedVariables false
set_option linter.unusedSimpArgs false
attribute [local go_sem] Oper.semAt_some
set_option maxRecDepth 100000 in
set_option maxHeartbeats 6400000 in
theorem low_wood (n : Int) (g o cap R C : Nat) (rg ro rc : Nat → Nat) (h : Nat → Nat → Int) (g' o' cap' : Nat) (rg' ro' rc' : Nat → Nat) (h' f : Nat → Nat → Int) (w : World) (x : GR w g o cap R C rg ro rc h) (x' : GR w g' o' cap' R C rg' ro' rc' h') (hf : ∀ i k, f i k = h i k - h' i k) : Calls Try.prog 74 #[.slice (some ⟨g, o, none⟩) R cap, .iface 74 (.agg #[.iface 44 (.slice (some ⟨g, o, none⟩) R cap), .iface 44 (.slice (some ⟨g', o', none⟩) R cap')]), .int .i64 n] w (RowsG (loF n f (plAll R C)) w) := by
  have hx := Lib.hid x
  have r1 := x.R1
  have r2 := x.R10
  have c2 := x.C10
  have hgw := x.gl
  have hx' := Lib.hid x'
  have hf' := Lib.hid hf
  clear x' hf
  clear x
  refine (callsIn_wide (n := 3)).1 ?_
  refine callsIn_of_wp_marks Try.func74 rfl trivial ?_ rfl
  simp only [Try.ntmps74, List.size_toArray, List.length_cons, List.length_nil, Nat.reduceAdd, Nat.reduceSub, Array.replicate_succ, Array.replicate_zero, List.push_toArray, List.append_toArray, List.nil_append, List.cons_append]
  gi_wp2_with fail
  refine ⟨trivial, (callsIn_wide.2 (places_any _ _ _ _)).mono ?_⟩
  rintro e w2 ⟨rfl, rfl⟩
  gi_wp2_with fail
  obtain ⟨N, hN⟩ : ∃ N, N = w.heap.size := ⟨_, rfl⟩
  have g0 : ((((w.alloc (.cells #[.iface 74 (.agg #[.iface 44 (.slice (some ⟨g, o, none⟩) R cap), .iface 44 (.slice (some ⟨g', o', none⟩) R cap')])] 72)).alloc (.cells #[.int .i64 n] 2)).alloc (.cells #[.slice none 0 0] 22)).alloc (.cells #[.slice (some ⟨g, o, none⟩) R cap] 44)).heap[N]? = some (.cells #[.iface 74 (.agg #[.iface 44 (.slice (some ⟨g, o, none⟩) R cap), .iface 44 (.slice (some ⟨g', o', none⟩) R cap')])] 72 (0, 0)) := by
    rw [Below.heap_alloc _ _ _ (by simp; omega)]
    rw [Below.heap_alloc _ _ _ (by simp; omega)]
    rw [Below.heap_alloc _ _ _ (by simp; omega)]
    have := heap_alloc_new (w) (.cells #[.iface 74 (.agg #[.iface 44 (.slice (some ⟨g, o, none⟩) R cap), .iface 44 (.slice (some ⟨g', o', none⟩) R cap')])] 72)
    rw [hN]; simpa using this
  have g1 : ((((w.alloc (.cells #[.iface 74 (.agg #[.iface 44 (.slice (some ⟨g, o, none⟩) R cap), .iface 44 (.slice (some ⟨g', o', none⟩) R cap')])] 72)).alloc (.cells #[.int .i64 n] 2)).alloc (.cells #[.slice none 0 0] 22)).alloc (.cells #[.slice (some ⟨g, o, none⟩) R cap] 44)).heap[N + 1]? = some (.cells #[.int .i64 n] 2 (0, 0)) := by
    rw [Below.heap_alloc _ _ _ (by simp; omega)]
    rw [Below.heap_alloc _ _ _ (by simp; omega)]
    have := heap_alloc_new ((w.alloc (.cells #[.iface 74 (.agg #[.iface 44 (.slice (some ⟨g, o, none⟩) R cap), .iface 44 (.slice (some ⟨g', o', none⟩) R cap')])] 72))) (.cells #[.int .i64 n] 2)
    rw [hN]; simpa using this
  have g2 : ((((w.alloc (.cells #[.iface 74 (.agg #[.iface 44 (.slice (some ⟨g, o, none⟩) R cap), .iface 44 (.slice (some ⟨g', o', none⟩) R cap')])] 72)).alloc (.cells #[.int .i64 n] 2)).alloc (.cells #[.slice none 0 0] 22)).alloc (.cells #[.slice (some ⟨g, o, none⟩) R cap] 44)).heap[N + 1 + 1]? = some (.cells #[.slice none 0 0] 22 (0, 0)) := by
    rw [Below.heap_alloc _ _ _ (by simp; omega)]
    have := heap_alloc_new (((w.alloc (.cells #[.iface 74 (.agg #[.iface 44 (.slice (some ⟨g, o, none⟩) R cap), .iface 44 (.slice (some ⟨g', o', none⟩) R cap')])] 72)).alloc (.cells #[.int .i64 n] 2))) (.cells #[.slice none 0 0] 22)
    rw [hN]; simpa using this
  have g3 : ((((w.alloc (.cells #[.iface 74 (.agg #[.iface 44 (.slice (some ⟨g, o, none⟩) R cap), .iface 44 (.slice (some ⟨g', o', none⟩) R cap')])] 72)).alloc (.cells #[.int .i64 n] 2)).alloc (.cells #[.slice none 0 0] 22)).alloc (.cells #[.slice (some ⟨g, o, none⟩) R cap] 44)).heap[N + 1 + 1 + 1]? = some (.cells #[.slice (some ⟨g, o, none⟩) R cap] 44 (0, 0)) := by
    have := heap_alloc_new ((((w.alloc (.cells #[.iface 74 (.agg #[.iface 44 (.slice (some ⟨g, o, none⟩) R cap), .iface 44 (.slice (some ⟨g', o', none⟩) R cap')])] 72)).alloc (.cells #[.int .i64 n] 2)).alloc (.cells #[.slice none 0 0] 22))) (.cells #[.slice (some ⟨g, o, none⟩) R cap] 44)
    rw [hN]; simpa using this
  have gz : ((((w.alloc (.cells #[.iface 74 (.agg #[.iface 44 (.slice (some ⟨g, o, none⟩) R cap), .iface 44 (.slice (some ⟨g', o', none⟩) R cap')])] 72)).alloc (.cells #[.int .i64 n] 2)).alloc (.cells #[.slice none 0 0] 22)).alloc (.cells #[.slice (some ⟨g, o, none⟩) R cap] 44)).heap.size = N + 4 := by simp [hN]
  have gB : Below w.heap.size w ((((w.alloc (.cells #[.iface 74 (.agg #[.iface 44 (.slice (some ⟨g, o, none⟩) R cap), .iface 44 (.slice (some ⟨g', o', none⟩) R cap')])] 72)).alloc (.cells #[.int .i64 n] 2)).alloc (.cells #[.slice none 0 0] 22)).alloc (.cells #[.slice (some ⟨g, o, none⟩) R cap] 44)) := ((((Below.refl _ _).alloc (by simp <;> omega) _).alloc (by simp <;> omega) _).alloc (by simp <;> omega) _).alloc (by simp <;> omega) _
  have gW := gB
  have hx2 := hx.out.below gB
  have hgN : g < N := by rw [hN]; exact hgw
  have hwN : w.heap.size ≤ N := by omega
  have hNw := Lib.hid hN
  rw [← hN]
  clear gB hN hgw
  generalize ((((w.alloc (.cells #[.iface 74 (.agg #[.iface 44 (.slice (some ⟨g, o, none⟩) R cap), .iface 44 (.slice (some ⟨g', o', none⟩) R cap')])] 72)).alloc (.cells #[.int .i64 n] 2)).alloc (.cells #[.slice none 0 0] 22)).alloc (.cells #[.slice (some ⟨g, o, none⟩) R cap] 44)) = W0 at g0 g1 g2 g3 gz gW hx2 ⊢
  obtain ⟨i0, hi, hz0, hz1, hz2⟩ := info_parts infoG
  have hseq := places_seqN 2 (N + 1 + 1 + 1) g o cap R C (fun b => b < N + 4 ∧ b ≠ N + 1 + 1) W0 (hx2.pl (cellB g3 0 _ rfl)) (show N + 1 + 1 + 1 < N + 4 ∧ N + 1 + 1 + 1 ≠ N + 1 + 1 by omega) (show g < N + 4 ∧ g ≠ N + 1 + 1 by omega)
  obtain ⟨LO, hLO⟩ : ∃ LO, LO = N + 4 := ⟨_, rfl⟩
  have hst : OwnG LO W0.heap.size W0 (.slice none 0 0) (loF n f []) [] := OwnG.nil _ _
  refine' rangePN rfl (enters_of Try.func79 (by kernel_rfl) rfl) hseq
    (fun pre W => (W.heap[N]? = some (.cells #[.iface 74 (.agg #[.iface 44 (.slice (some ⟨g, o, none⟩) R cap), .iface 44 (.slice (some ⟨g', o', none⟩) R cap')])] 72 (0, 0)) ∧ W.heap[N + 1]? = some (.cells #[.int .i64 n] 2 (0, 0)) ∧ ∃ pa LN pc vs, W.heap[N + 1 + 1]? = some (.cells #[.slice pa LN pc] 22 (0, 0)) ∧ OwnG LO W.heap.size W (.slice pa LN pc) (loF n f pre) vs ∧ LN = (loF n f pre).length) ∧ Below w.heap.size w W)
    (fun _ _ _ => False)
    (fun s A B h hAB hS => by
      obtain ⟨⟨h0, h1, pa, LN, pc, vs, h2, h3, h4⟩, h5⟩ := h
      exact ⟨⟨hS.same _ _ h0 rfl, hS.same _ _ h1 rfl, pa, LN, pc, vs, hS.same _ _ h2 rfl, (h3.cells hS).wide hS.size (Nat.le_refl _), h4⟩, h5.trans (hAB.mono (by omega))⟩)
    (fun _ _ _ _ h _ _ => h)
    ⟨⟨g0, g1, none, 0, 0, [], g2, hst, rfl⟩, gW⟩ ?assign ?body ?done ?stop
  case assign =>
    rintro l B x W K hB hK
    unfold encP
    gi_wp2
    exact hK
  case body =>
    rintro l B pre ⟨p, q⟩ W hpre hl hlB hBW ⟨⟨i0L, i1, pa, LN, pc, vs, i2, iO, hLNe⟩, iB⟩ hBx hWz
    obtain ⟨hp, hq, hpl⟩ := pre_place hpre
    clear hpl
    have hlen := (List.prefix_append _ _ |>.trans hpre).length_le
    have hl100 := plAll_hun r2 c2
    have hll := loF_len n f pre
    have hLN100 : LN ≤ 100 := by omega
    have hnext := loF_next n f pre (p, q)
    obtain ⟨LL, hLL⟩ : ∃ L, L = loF n f pre := ⟨_, rfl⟩
    rw [← hLL] at iO hnext hLNe
    dsimp only at hnext hBx hp hq ⊢
    have hp9 : p ≤ 1000 := by omega
    have hq9 : q ≤ 1000 := by omega
    have hz := Lib.hid (hx.out.below iB)
    have hz' := Lib.hid (hx'.out.below iB)
    have cA0 := fun w' (hw' : Below W.heap.size W w') => (show Calls Try.prog 72 #[.agg #[.iface 44 (.slice (some ⟨g, o, none⟩) R cap), .iface 44 (.slice (some ⟨g', o', none⟩) R cap')], encP (p, q)] w' fun e w'' => e = .returned (.int .i64 (f p q)) ∧ Below w'.heap.size w' w'' from by rw [hf'.out p q]; exact wood_two g o cap R C rg ro rc h g' o' cap' rg' ro' rc' h' w' (hz.out.below hw') (hz'.out.below hw') p q hp hq)
    unfold encP at cA0
    dsimp only at cA0
    obtain ⟨z, hz1⟩ : ∃ z, z = f p q := ⟨_, rfl⟩
    first | rw [← hz1] at cA0 hnext | (simp only [← hz1] at cA0 hnext)
    have cA := Lib.hid cA0
    have hN0 : N < W.heap.size := by omega
    have hN1 : N + 1 < W.heap.size := by omega
    have hN2 : N + 1 + 1 < W.heap.size := by omega
    have keyC : Hid (∀ w', Below W.heap.size W w' → w'.heap[N]? = some (.cells #[.iface 74 (.agg #[.iface 44 (.slice (some ⟨g, o, none⟩) R cap), .iface 44 (.slice (some ⟨g', o', none⟩) R cap')])] 72 (0, 0)) ∧ w'.heap[N + 1]? = some (.cells #[.int .i64 n] 2 (0, 0)) ∧ w'.heap[N + 1 + 1]? = some (.cells #[.slice pa LN pc] 22 (0, 0)) ∧ w'.heap[B]? = some (.cells #[.int .i64 (p : Int), .int .i64 (q : Int)] 46 (0, 0))) := Lib.hid (fun w' hw' => ⟨(hw'.block _ hN0).trans i0L, (hw'.block _ hN1).trans i1, (hw'.block _ hN2).trans i2, (hw'.block _ hBW).trans hBx⟩)
    have O1 := Lib.hid iO
    have hLN := Lib.hid hLNe
    clear hLL hpre i0L i1 i2 hBx cA0 hz1 iO hLNe hll hlen hl100
    have open0 : Hid (∀ w', Below W.heap.size W w' → w'.cell? ⟨N, 0, none⟩ = some (.iface 74 (.agg #[.iface 44 (.slice (some ⟨g, o, none⟩) R cap), .iface 44 (.slice (some ⟨g', o', none⟩) R cap')])) ∧ w'.cell? ⟨N + 1, 0, none⟩ = some (.int .i64 n) ∧ w'.cell? ⟨B, 0, none⟩ = some (.int .i64 (p : Int)) ∧ w'.cell? ⟨B, 1, none⟩ = some (.int .i64 (q : Int))) := Lib.hid (fun w' hw' => by
      obtain ⟨e0, e1, e2, e3⟩ := keyC.out w' hw'
      exact ⟨cellB e0 0 _ rfl, cellB e1 0 _ rfl, cellB e3 0 _ rfl, cellB e3 1 _ rfl⟩)
    by_cases hcs : z < n
    rotate_left
    · have hr : Hid (loF n f (pre ++ [(p, q)]) = LL) := Lib.hid (by rw [hnext, if_neg hcs])
      clear hnext
      gi_wp2_with fail
      refine wpIn_calm 5 (fun w' => Below W.heap.size W w') (by kernel_rfl) (by kernel_rfl) (by rintro ⟨_, _, h⟩; exact h) (by kernel_rfl) (by kernel_rfl) (by kernel_rfl) (belowN (Below.refl _ _) 1) ?_
      simp only [List.take_succ_cons, List.take_zero, List.drop_succ_cons, List.drop_zero]
      refine calm_take (v := ?vy1) (by rfl) ?ey1 ?ry1
      case ey1 => (intro w' hw'; obtain ⟨c0, c1, c2, c3⟩ := open0.out w' hw'; go_simp; try with_reducible rfl)
      try simp only [Act.put, List.setIfInBounds_toArray, List.set_cons_zero, List.set_cons_succ]
      refine calm_take (v := ?vy2) (by rfl) ?ey2 ?ry2
      case ey2 => (intro w' hw'; obtain ⟨c0, c1, c2, c3⟩ := open0.out w' hw'; go_simp; try with_reducible rfl)
      try simp only [Act.put, List.setIfInBounds_toArray, List.set_cons_zero, List.set_cons_succ]
      refine calm_call (v := .int .i64 z) (f := ?fy3) (args := ?ay3) (by rfl) ?ey3 ?cy3 ?ry3
      case ey3 => (intro w' hw'; obtain ⟨c0, c1, c2, c3⟩ := open0.out w' hw'; go_simp; try (go_invoke; go_simp); first | (with_reducible rfl) | (refine ⟨?_, ?_⟩ <;> with_reducible rfl))
      case cy3 => (intro w' hw'; with_reducible exact calm_ret hw' (cA.out w' hw'))
      try simp only [Act.put, List.setIfInBounds_toArray, List.set_cons_zero, List.set_cons_succ]
      refine calm_take (v := ?vy4) (by rfl) ?ey4 ?ry4
      case ey4 => (intro w' hw'; obtain ⟨c0, c1, c2, c3⟩ := open0.out w' hw'; go_simp; try with_reducible rfl)
      try simp only [Act.put, List.setIfInBounds_toArray, List.set_cons_zero, List.set_cons_succ]
      refine calm_take (v := ?vy5) (by rfl) ?ey5 ?ry5
      case ey5 => (intro w' hw'; obtain ⟨c0, c1, c2, c3⟩ := open0.out w' hw'; go_simp; try with_reducible rfl)
      try simp only [Act.put, List.setIfInBounds_toArray, List.set_cons_zero, List.set_cons_succ]
      refine wpQuiet_nil (fun w' hw' => ?_)
      obtain ⟨e0, e1, e2, e3⟩ := keyC.out w' hw'
      refine wpList_nil ?_
      gi_wp2
      exact ⟨KeepsFrom.below hw', Keeps.of_below hw', ⟨e0, e1, pa, LN, pc, vs, e2, by rw [hr.out]; exact (O1.out.kept hw').wide hw'.size (Nat.le_refl _), by rw [hr.out]; exact hLN.out⟩, below2 iB hw'⟩
    · have hr : Hid (loF n f (pre ++ [(p, q)]) = LL ++ [plR (p, q)]) := Lib.hid (by rw [hnext, if_pos hcs])
      clear hnext
      gi_wp2_with fail
      refine wpIn_calm 5 (fun w' => Below W.heap.size W w') (by kernel_rfl) (by kernel_rfl) (by rintro ⟨_, _, h⟩; exact h) (by kernel_rfl) (by kernel_rfl) (by kernel_rfl) (belowN (Below.refl _ _) 1) ?_
      simp only [List.take_succ_cons, List.take_zero, List.drop_succ_cons, List.drop_zero]
      refine calm_take (v := ?vy6) (by rfl) ?ey6 ?ry6
      case ey6 => (intro w' hw'; obtain ⟨c0, c1, c2, c3⟩ := open0.out w' hw'; go_simp; try with_reducible rfl)
      try simp only [Act.put, List.setIfInBounds_toArray, List.set_cons_zero, List.set_cons_succ]
      refine calm_take (v := ?vy7) (by rfl) ?ey7 ?ry7
      case ey7 => (intro w' hw'; obtain ⟨c0, c1, c2, c3⟩ := open0.out w' hw'; go_simp; try with_reducible rfl)
      try simp only [Act.put, List.setIfInBounds_toArray, List.set_cons_zero, List.set_cons_succ]
      refine calm_call (v := .int .i64 z) (f := ?fy8) (args := ?ay8) (by rfl) ?ey8 ?cy8 ?ry8
      case ey8 => (intro w' hw'; obtain ⟨c0, c1, c2, c3⟩ := open0.out w' hw'; go_simp; try (go_invoke; go_simp); first | (with_reducible rfl) | (refine ⟨?_, ?_⟩ <;> with_reducible rfl))
      case cy8 => (intro w' hw'; with_reducible exact calm_ret hw' (cA.out w' hw'))
      try simp only [Act.put, List.setIfInBounds_toArray, List.set_cons_zero, List.set_cons_succ]
      refine calm_take (v := ?vy9) (by rfl) ?ey9 ?ry9
      case ey9 => (intro w' hw'; obtain ⟨c0, c1, c2, c3⟩ := open0.out w' hw'; go_simp; try with_reducible rfl)
      try simp only [Act.put, List.setIfInBounds_toArray, List.set_cons_zero, List.set_cons_succ]
      refine calm_take (v := ?vy10) (by rfl) ?ey10 ?ry10
      case ey10 => (intro w' hw'; obtain ⟨c0, c1, c2, c3⟩ := open0.out w' hw'; go_simp; try with_reducible rfl)
      try simp only [Act.put, List.setIfInBounds_toArray, List.set_cons_zero, List.set_cons_succ]
      refine wpQuiet_nil (fun w' hw' => ?_)
      obtain ⟨e0, e1, k0, k3⟩ := keyC.out w' hw'
      have O := Lib.hid (O1.out.kept hw')
      have hw9 := hw'.size
      generalize w' = w5 at e0 e1 k0 k3 O hw' hw9 ⊢
      refine wpList_nil ?_
      gi_wp2_with fail
      have hfar : Hid (∀ b, b < LO → some b ≠ (Value.slice pa LN pc).ownBlock) := Lib.hid (fun b hb e => by have := (O.out.top.lt b e.symm).1; omega)
      have hfarB : Hid (∀ b : Nat, some B ≠ (Value.slice pa LN pc).ownBlock) := Lib.hid (fun b => own_not_box O.out.top k3 (by decide))
      refine wpIn_held_tail (S := (fun w'' => w''.heap[N + 1 + 1]? = some (.cells #[.slice pa LN pc] 22 (0, 0)) ∧ w''.heap[B]? = some (.cells #[.int .i64 (p : Int), .int .i64 (q : Int)] 46 (0, 0)))) 5 (by kernel_rfl) (by kernel_rfl) (by rintro ⟨_, _, h⟩; exact h) (by kernel_rfl) (by kernel_rfl) ⟨k0, k3⟩ (fun hHeld => ?_)
      simp only [List.take_succ_cons, List.take_zero]
      refine wpAnyH_take (i := 0) (oi := ⟨some 17, _, _, _, _, _⟩) (v := ?vy110) rfl (by kernel_rfl) (by kernel_rfl) (by kernel_rfl) (fun _ _ _ h => h) (Or.inl ⟨by rfl, ?hy110⟩) (by assumption) ?ry110
      case hy110 => (intro w'' hSw; obtain ⟨s0, s1⟩ := hSw; have s2 := cellB s0 0 _ rfl; have s3 := cellB s1 0 _ rfl; have s4 := cellB s1 1 _ rfl; clear s0 s1; go_simp; try with_reducible rfl)
      try simp only [Act.put, List.setIfInBounds_toArray, List.set_cons_zero, List.set_cons_succ]
      refine wpAnyH_take (i := 1) (oi := ⟨some 18, _, _, _, _, _⟩) (v := ?vy111) rfl (by kernel_rfl) (by kernel_rfl) (by kernel_rfl) (fun _ _ _ h => h) (Or.inl ⟨by rfl, ?hy111⟩) (by assumption) ?ry111
      case hy111 => (intro w'' hSw; obtain ⟨s0, s1⟩ := hSw; have s2 := cellB s0 0 _ rfl; have s3 := cellB s1 0 _ rfl; have s4 := cellB s1 1 _ rfl; clear s0 s1; go_simp; try with_reducible rfl)
      try simp only [Act.put, List.setIfInBounds_toArray, List.set_cons_zero, List.set_cons_succ]
      refine wpAnyH_ready (rs := [2]) (by kernel_rfl) (by simp) ?_
      refine AllReadyH.cons (o := ⟨some 19, _, _, _, _, _⟩) rfl (fun K hK => ?_) AllReadyH.nil
      go_simp
      refine (numbers_any p q hp9 hq9 _).mono ?_
      rintro e w2 ⟨g2, c2, rfl, own2, b2⟩
      try go_wp2_with fail
      refine hK.out _ _ ?_ (fun hHeld2 => ?_)
      · exact ⟨(b2.block _ (lt_of_some hHeld.1)).trans hHeld.1, (b2.block _ (lt_of_some hHeld.2)).trans hHeld.2⟩
      clear hK K hHeld
      have hHeld := hHeld2
      clear hHeld2
      try simp only [Act.put, List.setIfInBounds_toArray, List.set_cons_zero, List.set_cons_succ]
      refine wpAnyH_ready (rs := [3]) (by kernel_rfl) (by simp) ?_
      refine AllReadyH.cons (o := ⟨some 20, _, _, _, _, _⟩) rfl (fun K hK => ?_) AllReadyH.nil
      go_simp
      try go_wp2_with fail
      refine hK.out _ _ ?_ (fun hHeld2 => ?_)
      · exact ⟨(Below.heap_alloc _ _ _ (lt_of_some hHeld.1)).trans hHeld.1, (Below.heap_alloc _ _ _ (lt_of_some hHeld.2)).trans hHeld.2⟩
      clear hK K hHeld
      have hHeld := hHeld2
      clear hHeld2
      try simp only [Act.put, List.setIfInBounds_toArray, List.set_cons_zero, List.set_cons_succ]
      refine wpAnyH_ready (rs := [4]) (by kernel_rfl) (by simp) ?_
      refine AllReadyH.cons (o := ⟨some 21, _, _, _, _, _⟩) rfl (fun K hK => ?_) AllReadyH.nil
      have O2 := Lib.hid (O.out.drewN 1)
      have b1s : w5.heap.size ≤ w2.heap.size := b2.size
      refine step_append_lies _ (by rfl) _ _ _ (by rfl) LO 39 i0 (.slice none 0 0) 1 24 Try.underlying22 hi hz0 hz1 hz2 rfl (by decide) _ LN vs (by rfl) (((O2.out.kept b2).top' hLN.out).alloc _) _ 1 1 [.slice (some ⟨g2, 0, none⟩) 2 c2] (by rfl) (by rfl) (World.news_of_block (heap_alloc_new _ _)) (by simp [Value.oneCell']) (by omega) (by unfold maxLen; omega) (by omega) (by simp; omega) _ rfl ?_
      intro g9 cap9 w9 hown9 hgrow9 hat9 hlt9
      have q0 := (hgrow9.block _ (lt_of_some hHeld.1) (hfar.out _ (by omega))).trans hHeld.1
      have q1 := (hgrow9.block _ (lt_of_some hHeld.2) (hfarB.out 0)).trans hHeld.2
      refine hK.out _ _ ?_ (fun hHeld2 => ?_)
      · exact ⟨q0, q1⟩
      clear hK K hHeld
      have hHeld := hHeld2
      clear hHeld2
      try simp only [Act.put, List.setIfInBounds_toArray, List.set_cons_zero, List.set_cons_succ]
      refine wpAnyH_done (by kernel_rfl) ?_ _
      refine tailQ_list (by simp) ?_
      simp only [List.drop_succ_cons, List.drop_zero]
      have kN := cellB q0 0 _ rfl
      have fN := freeB q0 0
      go_wp2
      gi_wp2
      have b5 : Below w5.heap.size w5 (w2.alloc (.cells #[.slice (some ⟨g2, 0, none⟩) 2 c2] 39)) := ((belowN (Below.refl _ w5) 1).trans b2).alloc b1s _
      have b3 := below2 hw' b5
      have Oc := (O2.out.kept b2).top' hLN.out
      have O9 := O2.out.snoc (w1 := w2.alloc (.cells #[.slice (some ⟨g2, 0, none⟩) 2 c2] 39)) (Z := plR (p, q)) (b2.alloc b1s _) (own2.alloc _) (plR_in hp9 hq9) hgrow9 (by rw [← hLN.out]; exact hown9) (by show LO ≤ w5.heap.size; omega) (by decide)
      have a0 := (hgrow9.block _ (Nat.lt_of_lt_of_le (lt_of_some e0) b5.size) (hfar.out _ (by omega))).trans ((b5.block _ (lt_of_some e0)).trans e0)
      have a1 := (hgrow9.block _ (Nat.lt_of_lt_of_le (lt_of_some e1) b5.size) (hfar.out _ (by omega))).trans ((b5.block _ (lt_of_some e1)).trans e1)
      have hbl : ∀ k, (Value.slice pa LN pc).ownBlock = some k → LO ≤ k := fun k hk => (Oc.lt k hk).1
      refine ⟨((KeepsFrom.below b3).trans (KeepsFrom.grown hgrow9 (fun k hk => own_isCells (Oc.alloc _) hk))).trans ((KeepsOthers.setCell w9 _ _).from _), ((Keeps.of_below b3).trans (Keeps.grown hgrow9 (fun k hk h => by have := hbl k hk; omega))).trans (Keeps.setCell _ _ (by simp) _), ⟨?_, ?_, some ⟨g9, 0, none⟩, LN + 1, cap9, vs ++ [.slice (some ⟨g2, 0, none⟩) 2 c2], ?_, ?_, ?_⟩, ?_⟩
      · rw [Below.heap_setCell _ _ _ _ (by show N ≠ N + 1 + 1; omega)]; exact a0
      · rw [Below.heap_setCell _ _ _ _ (by show N + 1 ≠ N + 1 + 1; omega)]; exact a1
      · exact heap_set q0 0 _ _ (by simp)
      · rw [hr.out]
        have := O9.beside (lo := N + 1 + 1) (hi := N + 1 + 1 + 1) (Beside.grown (grownBy_setCell' w9 (N + 1 + 1) (.slice (some ⟨g9, 0, none⟩) (LN + 1) cap9)) (fun k hk => by cases hk; omega)) (Or.inr (by omega))
        exact this.wide (by simp) (Nat.le_refl _)
      · rw [hr.out, List.length_append, hLN.out]; rfl
      · exact ((below2 iB b3).grown hgrow9 (Nat.le_trans iB.size b3.size) (fun k hk => by have := hbl k hk; omega)).setCell (p := ⟨N + 1 + 1, 0, none⟩) (by show w.heap.size ≤ N + 1 + 1; omega) _
  case done =>
    rintro K W hK ⟨⟨i0L, i1, pa, LN, pc, vs, i2, iO, hLNe⟩, iB⟩ hD
    have c0 := cellB i2 0 _ rfl
    have iO' := Lib.hid iO
    clear iO hLNe
    gi_wp2
    refine ⟨by simp, .inl ⟨_, _, rfl, run_takeDeferred hD, ?_⟩⟩
    refine ⟨.slice pa LN pc, ?_, .slice pa LN pc, vs, rfl, ?_, iB.trans (below_put _ _ (by omega) iB.size)⟩
    · simp [results, Try.f74, go_sem]
    · exact ((iO'.out.cells (SameCells.putObj _ hD rfl)).low (by omega)).wide (by simp) (Nat.le_refl _)
  case stop =>
    rintro K c pre W _ _ h _
    exact h.elim
def thF (n : Int) (h h' : Nat → Nat → Int) (L : List (Nat × Nat)) : List (List Int) := (L.filter fun p => decide (h p.1 p.2 - h' p.1 p.2 < n)).map plR
def thB (G G' : List (List Int)) (n : Int) : Bool := okG G && okG G' && inB n 0 1000 && decide (G.length = G'.length) && decide (colsG G = colsG G')
def thV (G G' : List (List Int)) (n : Int) : List (List Int) := if thB G G' n then thF n (hG G) (hG G') (plAll G.length (colsG G)) else []
def thC (G G' : List (List Int)) (n : Int) : Int := if okG G && okG G' then (if inB n 0 1000 then (if decide (G.length = G'.length) && decide (colsG G = colsG G') then 0 else 7) else 2) else 1
theorem thF_next (n : Int) (h h' : Nat → Nat → Int) (L : List (Nat × Nat)) (p : Nat × Nat) : thF n h h' (L ++ [p]) = if h p.1 p.2 - h' p.1 p.2 < n then thF n h h' L ++ [plR p] else thF n h h' L := by
  unfold thF; rw [List.filter_append, List.map_append]
  by_cases hh : h p.1 p.2 - h' p.1 p.2 < n
  · rw [if_pos hh, List.filter_cons_of_pos (by simpa using hh)]; rfl
  · rw [if_neg hh, List.filter_cons_of_neg (by simpa using hh)]; simp
theorem thF_len (n : Int) (h h' : Nat → Nat → Int) (L : List (Nat × Nat)) : (thF n h h' L).length ≤ L.length := by
  unfold thF; rw [List.length_map]; exact List.length_filter_le _ _
theorem thF_tot (n : Int) (h h' : Nat → Nat → Int) (L : List (Nat × Nat)) : totL (thF n h h' L) ≤ 2 * L.length := by
  refine snoc_ind (P := fun L => totL (thF n h h' L) ≤ 2 * L.length) (by unfold thF; simp [totL]) (fun L p ih => ?_) L
  show totL (thF n h h' (L ++ [p])) ≤ 2 * (L ++ [p]).length
  rw [thF_next, List.length_append]
  split
  · rw [totL_append]
    have : totL [plR p] = 2 := rfl
    simp only [List.length_singleton]; omega
  · simp only [List.length_singleton]; omega
theorem plAll_len {R C : Nat} (hR : R ≤ 10) (hC : C ≤ 10) : (plAll R C).length ≤ 100 := by
  unfold plAll; rw [plTo_len]
  have : R * C ≤ 10 * 10 := Nat.mul_le_mul hR hC
  omega
theorem thV_len (G G' : List (List Int)) (n : Int) : (thV G G' n).length + totL (thV G G' n) ≤ 1048576 := by
  unfold thV
  split
  · rename_i hb
    have hok : okG G = true := by unfold thB at hb; simp only [Bool.and_eq_true] at hb; exact hb.1.1.1.1
    obtain ⟨_, h2, _, h4, _⟩ := okG_rows hok
    have a := thF_len n (hG G) (hG G') (plAll G.length (colsG G))
    have b := thF_tot n (hG G) (hG G') (plAll G.length (colsG G))
    have c := plAll_len h2 h4
    omega
  · simp [totL]
theorem code2_any (b : Nat) (v v' : Value) (G G' : List (List Int)) (num : Int) (w : World) (hb : b < w.heap.size) (hc : w.cell? ⟨b, 0, none⟩ = some v) (hc' : w.cell? ⟨b, 1, none⟩ = some v') (hv : GridAt w v G) (hv' : GridAt w v' G') (hn : G.length + totL G ≤ 1048576) (hn' : G'.length + totL G' ≤ 1048576) :
    Calls Try.prog 71 #[.int .i64 num, .slice (some ⟨b, 0, none⟩) 2 2] w fun e w' => e = .returned (.int .i64 (codeG (okG G && okG G') (inB num 0 1000))) ∧ DrewOf w w' := by
  have := codeOfGrids_any b 2 (fun j => if j = 0 then v else v') (fun j => if j = 0 then G else G') num w (by omega) hb (fun j hj => by
    match j, hj with
    | 0, _ => exact ⟨hc, hv, hn⟩
    | 1, _ => exact ⟨hc', hv', hn'⟩)
  rwa [show allG 2 (fun j => if j = 0 then G else G') = (okG G && okG G') by rw [allG_next, allG_next]; rfl] at this
theorem infoGG : (Try.prog.info? 39).map (fun i => (i.zero, i.size, i.bytes)) = some (some (.slice none 0 0), 1, 24) := infoG
set_option maxRecDepth 100000 in
set_option maxHeartbeats 6400000 in
theorem implThinPlaces_any (v v' : Value) (G G' : List (List Int)) (n : Int) (w : World) (hn : G.length + totL G ≤ 1048576) (hn' : G'.length + totL G' ≤ 1048576) (hv : GridAt w v G) (hv' : GridAt w v' G') : Calls Try.prog 38 #[v, v', .int .i64 n] w (GridRet (thV G G' n) (thC G G' n) w) := by
  obtain ⟨a, cap, rfl, hrest⟩ := hv
  have hv : GridAt w (.slice a G.length cap) G := ⟨a, cap, rfl, hrest⟩
  clear hrest
  obtain ⟨a', cap', rfl, hrest⟩ := hv'
  have hv' : GridAt w (.slice a' G'.length cap') G' := ⟨a', cap', rfl, hrest⟩
  clear hrest
  have hB1 : Below w.heap.size w (w.alloc (.cells #[.slice a G.length cap, .slice a' G'.length cap'] 22)) := (Below.refl _ _).alloc (Nat.le_refl _) _
  have eb1 : (w.alloc (.cells #[.slice a G.length cap, .slice a' G'.length cap'] 22)).heap[w.heap.size]? = some (.cells #[.slice a G.length cap, .slice a' G'.length cap'] 22 (0, 0)) := heap_alloc_new _ _
  have hsz1 : w.heap.size < (w.alloc (.cells #[.slice a G.length cap, .slice a' G'.length cap'] 22)).heap.size := by simp
  have cV := Lib.hid (code2_any w.heap.size (.slice a G.length cap) (.slice a' G'.length cap') G G' n (w.alloc (.cells #[.slice a G.length cap, .slice a' G'.length cap'] 22)) hsz1 (cellB eb1 0 _ rfl) (cellB eb1 1 _ rfl) (hv.below hB1) (hv'.below hB1) hn hn')
  have hT : Hid (thV G G' n = if thB G G' n then thF n (hG G) (hG G') (plAll G.length (colsG G)) else []) := Lib.hid rfl
  have hTB : Hid (thB G G' n = (okG G && okG G' && inB n 0 1000 && decide (G.length = G'.length) && decide (colsG G = colsG G'))) := Lib.hid rfl
  have hTC : Hid (thC G G' n = if okG G && okG G' then (if inB n 0 1000 then (if decide (G.length = G'.length) && decide (colsG G = colsG G') then 0 else 7) else 2) else 1) := Lib.hid rfl
  cases hk2 : (okG G && okG G' && inB n 0 1000)
  · have hc : Hid ((codeG (okG G && okG G') (inB n 0 1000) = 1 ∨ codeG (okG G && okG G') (inB n 0 1000) = 2) ∧ thC G G' n = codeG (okG G && okG G') (inB n 0 1000) ∧ thV G G' n = []) := Lib.hid (by
      rw [hT.out, hTB.out, hTC.out, hk2]
      unfold codeG
      cases h1 : (okG G && okG G')
      · exact ⟨Or.inl rfl, rfl, rfl⟩
      · rw [h1] at hk2; rw [Bool.true_and] at hk2; rw [hk2]; exact ⟨Or.inr rfl, rfl, rfl⟩)
    obtain ⟨cd, hcd⟩ : ∃ c, c = codeG (okG G && okG G') (inB n 0 1000) := ⟨_, rfl⟩
    rw [← hcd] at cV hc
    clear hk2 hn hn' hv hv' hcd hT hTB hTC eb1 hsz1
    rcases hc.out.1 with rfl | rfl
    all_goals
      go_enter Try.func38, Try.ntmps38
      go_wp2_with (go_at_call 71; refine cV.out.mono ?_; rintro e w2 ⟨rfl, hd⟩)
      go_ret2
      exact gridRet_nil hc.out.2.2 hc.out.2.1 (hB1.trans (hd.below.mono hB1.size))
  have hok1 : okG G = true := by simp only [Bool.and_eq_true] at hk2; exact hk2.1.1
  have hok2 : okG G' = true := by simp only [Bool.and_eq_true] at hk2; exact hk2.1.2
  have hnb : inB n 0 1000 = true := by simp only [Bool.and_eq_true] at hk2; exact hk2.2
  have hn01 : 0 ≤ n ∧ n ≤ 1000 := by simpa [inB] using hnb
  obtain ⟨hn0, hn1⟩ := hn01
  rw [hok1, hok2, hnb] at cV hTB hTC
  clear eb1 hsz1
  obtain ⟨g, o, cap1, rg, ro, rc, hva, hGR⟩ := grid_GR hv hok1
  injection hva with ha _ hca
  subst ha hca
  obtain ⟨g', o', cap2, rg', ro', rc', hva, hGR'⟩ := grid_GR hv' hok2
  injection hva with ha _ hca
  subst ha hca
  have hx := Lib.hid hGR
  have hx' := Lib.hid hGR'
  have r1 := hGR.R1
  have r2 := hGR.R10
  have c1 := hGR.C1
  have c2 := hGR.C10
  have r1' := hGR'.R1
  have r2' := hGR'.R10
  have c1' := hGR'.C1
  have c2' := hGR'.C10
  obtain ⟨h, hh⟩ : ∃ h, h = hG G := ⟨_, rfl⟩
  obtain ⟨h', hh'⟩ : ∃ h', h' = hG G' := ⟨_, rfl⟩
  obtain ⟨R, hR⟩ : ∃ R, R = G.length := ⟨_, rfl⟩
  obtain ⟨C, hC⟩ : ∃ C, C = colsG G := ⟨_, rfl⟩
  obtain ⟨R', hR'⟩ : ∃ R', R' = G'.length := ⟨_, rfl⟩
  obtain ⟨C', hC'⟩ : ∃ C', C' = colsG G' := ⟨_, rfl⟩
  obtain ⟨TV, hTV⟩ : ∃ x, x = thV G G' n := ⟨_, rfl⟩
  obtain ⟨TC, hTCe⟩ : ∃ x, x = thC G G' n := ⟨_, rfl⟩
  rw [← hTV] at hT
  rw [← hTCe] at hTC
  rw [← hTV, ← hTCe]
  rw [hTB.out] at hT
  rw [← hR, ← hC, ← hR', ← hC', ← hh, ← hh'] at hT
  rw [← hR, ← hC, ← hR', ← hC'] at hTC
  rw [← hR, ← hR'] at cV hB1
  rw [← hR, ← hR']
  rw [← hR, ← hC, ← hh] at hx
  rw [← hR', ← hC', ← hh'] at hx'
  rw [← hR] at r1 r2
  rw [← hC] at c1 c2
  rw [← hR'] at r1' r2'
  rw [← hC'] at c1' c2'
  clear hk2 hok1 hok2 hnb hn hn' hv hv' hGR hGR' hh hh' hR hC hR' hC' hTV hTCe hTB
  have cZ := Lib.hid (fun W (hb : Below w.heap.size w W) => size_any g o cap R C (rc 0) (some ⟨rg 0, ro 0, none⟩) r1 (by omega) (by omega) W (by simpa using (hx.out.below hb).top 0 (by omega)))
  have cZ' := Lib.hid (fun W (hb : Below w.heap.size w W) => size_any g' o' cap' R' C' (rc' 0) (some ⟨rg' 0, ro' 0, none⟩) r1' (by omega) (by omega) W (by simpa using (hx'.out.below hb).top 0 (by omega)))
  by_cases hsame : R = R' ∧ C = C'
  · obtain ⟨rfl, rfl⟩ := hsame
    have e1 : Hid (TV = loF n (fun i k => h i k - h' i k) (plAll R C)) := Lib.hid (by rw [hT.out]; simp; rfl)
    have e2 : Hid (TC = 0) := Lib.hid (by rw [hTC.out]; simp)
    have cG := Lib.hid (fun W (hb : Below w.heap.size w W) => low_wood n g o cap R C rg ro rc h g' o' cap' rg' ro' rc' h' (fun i k => h i k - h' i k) W (hx.out.below hb) (hx'.out.below hb) (fun _ _ => rfl))
    obtain ⟨V, hV⟩ : ∃ V, V = loF n (fun i k => h i k - h' i k) (plAll R C) := ⟨_, rfl⟩
    rw [← hV] at cG e1
    clear hT hTC hV
    go_enter Try.func38, Try.ntmps38
    go_wp2_with fail
    refine cV.out.mono ?_
    rintro e w2 ⟨rfl, hd⟩
    have b3 := hB1.trans (hd.below.mono hB1.size)
    go_wp2_with fail
    refine (cZ.out _ b3).mono ?_
    rintro e w4 ⟨rfl, b4⟩
    have B4 := below2 b3 b4
    go_wp2_with fail
    refine (cZ'.out _ B4).mono ?_
    rintro e w5 ⟨rfl, b5⟩
    have B5 := below2 B4 b5
    go_wp2_with fail
    refine (cG.out _ B5).mono ?_
    rintro e w6 ⟨v6, vs6, rfl, o6, b6⟩
    go_wp2
    go_ret2
    exact gridRet_mk e1.out e2.out o6 B5.size (below2 B5 b6)
  · have hdd : (decide (R = R') && decide (C = C')) = false := by simp; exact fun x y => hsame ⟨x, y⟩
    have e1 : Hid (TV = []) := Lib.hid (by rw [hT.out, show (true && true && true && decide (R = R') && decide (C = C')) = false from by simp; exact fun x y => hsame ⟨x, y⟩]; rfl)
    have e2 : Hid (TC = 7) := Lib.hid (by rw [hTC.out, hdd]; rfl)
    have hne : Hid ((R : Int) = (R' : Int) → (C : Int) = (C' : Int) → False) := Lib.hid (fun e1 e2 => hsame ⟨by omega, by omega⟩)
    clear hT hTC hsame hdd
    go_enter Try.func38, Try.ntmps38
    go_wp2_with fail
    refine cV.out.mono ?_
    rintro e w2 ⟨rfl, hd⟩
    have b3 := hB1.trans (hd.below.mono hB1.size)
    go_wp2_with fail
    refine (cZ.out _ b3).mono ?_
    rintro e w4 ⟨rfl, b4⟩
    have B4 := below2 b3 b4
    go_wp2_with fail
    refine (cZ'.out _ B4).mono ?_
    rintro e w5 ⟨rfl, b5⟩
    have B5 := below2 B4 b5
    go_wp2
    all_goals (first
      | (go_ret2; exact gridRet_nil e1.out e2.out B5)
      | (exfalso; exact hne.out (by first | rfl | assumption | omega) (by first | rfl | assumption | omega)))
set_option linter.unusedVariables false
set_option linter.unusedSimpArgs false
theorem OwnG.empty (w : World) : OwnG w.heap.size (w.alloc (.cells #[] 39)).heap.size (w.alloc (.cells #[] 39)) (.slice (some ⟨w.heap.size, 0, none⟩) 0 0) [] [] := by
  refine ⟨Nat.le_refl _, rfl, ⟨rfl, Or.inr ⟨w.heap.size, 0, #[], rfl, Nat.le_refl _, heap_alloc_new _ _, Nat.le_refl 0, by unfold maxLen; omega, rfl, rfl⟩⟩, fun i u Z h => by simp at h, fun i j u u' _ h => by simp at h, fun Z h => by simp at h, fun b h => ?_, fun i u h => by simp at h⟩
  simp only [Value.ownBlock, Option.some.injEq] at h
  simp; omega
set_option maxHeartbeats 6400000 in
theorem specThinPlaces_any (v v' : Value) (G G' : List (List Int)) (n : Int) (w : World) (hn : G.length + totL G ≤ 1048576) (hn' : G'.length + totL G' ≤ 1048576) (hv : GridAt w v G) (hv' : GridAt w v' G') : Calls Try.prog 37 #[v, v', .int .i64 n] w (GridRet (thV G G' n) (thC G G' n) w) := by
  obtain ⟨i0, hi, hz0, hz1, hz2⟩ := info_parts infoG
  have cV := Lib.hid (fun W (hd : DrewOf w W) => l07Ok_any v G W hn (hv.below hd.below))
  have cV' := Lib.hid (fun W (hd : DrewOf w W) => l07Ok_any v' G' W hn' (hv'.below hd.below))
  have cH0 := fun W => l07Height_any n W
  have hT : Hid (thV G G' n = if thB G G' n then thF n (hG G) (hG G') (plAll G.length (colsG G)) else []) := Lib.hid rfl
  have hTB : Hid (thB G G' n = (okG G && okG G' && inB n 0 1000 && decide (G.length = G'.length) && decide (colsG G = colsG G'))) := Lib.hid rfl
  have hTC : Hid (thC G G' n = if okG G && okG G' then (if inB n 0 1000 then (if decide (G.length = G'.length) && decide (colsG G = colsG G') then 0 else 7) else 2) else 1) := Lib.hid rfl
  cases hok1 : okG G
  · have e1 := Lib.hid (show thV G G' n = [] by rw [hT.out, hTB.out, hok1]; rfl)
    have e2 := Lib.hid (show thC G G' n = 1 by rw [hTC.out, hok1]; rfl)
    rw [hok1] at cV
    obtain ⟨a, cap, rfl, _⟩ := hv
    obtain ⟨a', cap', rfl, _⟩ := hv'
    clear hok1 hn hn' hT hTB hTC cH0 cV'
    go_enter Try.func37, Try.ntmps37
    go_wp2_with (go_at_call 42; refine (cV.out _ (DrewOf.refl _)).mono ?_; rintro e w2 ⟨rfl, hd⟩)
    go_ret2
    exact gridRet_nil e1.out e2.out hd.below
  rw [hok1] at cV
  cases hok2 : okG G'
  · have e1 := Lib.hid (show thV G G' n = [] by rw [hT.out, hTB.out, hok1, hok2]; rfl)
    have e2 := Lib.hid (show thC G G' n = 1 by rw [hTC.out, hok1, hok2]; rfl)
    rw [hok2] at cV'
    obtain ⟨a, cap, rfl, _⟩ := hv
    obtain ⟨a', cap', rfl, _⟩ := hv'
    clear hok1 hok2 hn hn' hT hTB hTC cH0
    go_enter Try.func37, Try.ntmps37
    go_wp2_with fail
    refine (cV.out _ (DrewOf.refl _)).mono ?_
    rintro e w2 ⟨rfl, hd⟩
    go_wp2_with fail
    refine (cV'.out _ hd).mono ?_
    rintro e w3 ⟨rfl, hd3⟩
    go_wp2
    go_ret2
    exact gridRet_nil e1.out e2.out (hd.trans hd3).below
  rw [hok2] at cV'
  cases hnb : inB n 0 1000
  · have e1 := Lib.hid (show thV G G' n = [] by rw [hT.out, hTB.out, hok1, hok2, hnb]; rfl)
    have e2 := Lib.hid (show thC G G' n = 2 by rw [hTC.out, hok1, hok2, hnb]; rfl)
    rw [hnb] at cH0
    have cH := Lib.hid cH0
    obtain ⟨a, cap, rfl, _⟩ := hv
    obtain ⟨a', cap', rfl, _⟩ := hv'
    clear hok1 hok2 hn hn' hT hTB hTC cH0 hnb
    go_enter Try.func37, Try.ntmps37
    go_wp2_with fail
    refine (cV.out _ (DrewOf.refl _)).mono ?_
    rintro e w2 ⟨rfl, hd⟩
    go_wp2_with fail
    refine (cV'.out _ hd).mono ?_
    rintro e w3 ⟨rfl, hd3⟩
    go_wp2_with (go_at_call 70; refine (cH.out _).mono ?_; rintro e w3 ⟨rfl, rfl⟩)
    go_ret2
    exact gridRet_nil e1.out e2.out (hd.trans hd3).below
  rw [hnb] at cH0
  have cH := Lib.hid cH0
  rw [hok1, hok2, hnb] at hTB hTC
  obtain ⟨g, o, cap, rg, ro, rc, rfl, hGR⟩ := grid_GR hv hok1
  obtain ⟨g', o', cap', rg', ro', rc', rfl, hGR'⟩ := grid_GR hv' hok2
  have hx := Lib.hid hGR
  have hx' := Lib.hid hGR'
  have r1 := hGR.R1
  have r2 := hGR.R10
  have c1 := hGR.C1
  have c2 := hGR.C10
  have r1' := hGR'.R1
  have r2' := hGR'.R10
  have c1' := hGR'.C1
  have c2' := hGR'.C10
  obtain ⟨h, hh⟩ : ∃ h, h = hG G := ⟨_, rfl⟩
  obtain ⟨h', hh'⟩ : ∃ h', h' = hG G' := ⟨_, rfl⟩
  obtain ⟨R, hR⟩ : ∃ R, R = G.length := ⟨_, rfl⟩
  obtain ⟨C, hC⟩ : ∃ C, C = colsG G := ⟨_, rfl⟩
  obtain ⟨R', hR'⟩ : ∃ R', R' = G'.length := ⟨_, rfl⟩
  obtain ⟨C', hC'⟩ : ∃ C', C' = colsG G' := ⟨_, rfl⟩
  obtain ⟨TV, hTV⟩ : ∃ x, x = thV G G' n := ⟨_, rfl⟩
  obtain ⟨TC, hTCe⟩ : ∃ x, x = thC G G' n := ⟨_, rfl⟩
  rw [← hTV] at hT
  rw [← hTCe] at hTC
  rw [← hTV, ← hTCe]
  rw [hTB.out] at hT
  rw [← hR, ← hC, ← hR', ← hC', ← hh, ← hh'] at hT
  rw [← hR, ← hC, ← hR', ← hC'] at hTC
  rw [← hR] at cV
  rw [← hR'] at cV'
  rw [← hR, ← hR']
  rw [← hR, ← hC, ← hh] at hx
  rw [← hR', ← hC', ← hh'] at hx'
  rw [← hR] at r1 r2
  rw [← hC] at c1 c2
  rw [← hR'] at r1' r2'
  rw [← hC'] at c1' c2'
  clear hok1 hok2 hnb hn hn' hv hv' hGR hGR' hh hh' hR hC hR' hC' hTV hTCe hTB cH0
  have r1I : (0 : Int) < (R : Int) := by omega
  have r1I' : (0 : Int) < (R' : Int) := by omega
  by_cases hRR : R = R'
  rotate_left
  · have b1 : ((R : Int) == (R' : Int)) = false := by simpa using (show ¬ (R : Int) = (R' : Int) by omega)
    have b2 : ((R : Int) != (R' : Int)) = true := by simp [bne, b1]
    have e1 := Lib.hid (show TV = [] by rw [hT.out]; simp [hRR])
    have e2 := Lib.hid (show TC = 7 by rw [hTC.out]; simp [hRR])
    clear hRR hT hTC
    go_enter Try.func37, Try.ntmps37
    go_wp2_with fail
    refine (cV.out _ (DrewOf.refl _)).mono ?_
    rintro e w2 ⟨rfl, hd⟩
    go_wp2_with fail
    refine (cV'.out _ hd).mono ?_
    rintro e w3 ⟨rfl, hd3⟩
    go_wp2_with (go_at_call 70; refine (cH.out _).mono ?_; rintro e w3 ⟨rfl, rfl⟩)
    go_quiet (fail)
    go_wp2
    go_ret2
    exact gridRet_nil e1.out e2.out ((hd.trans hd3).more _).below
  have b1 : ((R : Int) == (R' : Int)) = true := by simp [hRR]
  have b2 : ((R : Int) != (R' : Int)) = false := by simp [bne, b1]
  have t0 := hx.out.top 0 (by omega)
  have t0' := hx'.out.top 0 (by omega)
  rw [Nat.add_zero] at t0 t0'
  by_cases hCC : C = C'
  rotate_left
  · have b3 : ((C : Int) == (C' : Int)) = false := by simpa using (show ¬ (C : Int) = (C' : Int) by omega)
    have b4 : ((C : Int) != (C' : Int)) = true := by simp [bne, b3]
    have e1 := Lib.hid (show TV = [] by rw [hT.out]; simp [hCC])
    have e2 := Lib.hid (show TC = 7 by rw [hTC.out]; simp [hCC])
    have hRR' := Lib.hid hRR
    clear hRR hCC hT hTC
    go_enter Try.func37, Try.ntmps37
    go_wp2_with fail
    refine (cV.out _ (DrewOf.refl _)).mono ?_
    rintro e w2 ⟨rfl, hd⟩
    go_wp2_with fail
    refine (cV'.out _ hd).mono ?_
    rintro e w3 ⟨rfl, hd3⟩
    replace t0 := ((hd.trans hd3).cell _).trans t0
    replace t0' := ((hd.trans hd3).cell _).trans t0'
    go_wp2_with (go_at_call 70; refine (cH.out _).mono ?_; rintro e w3 ⟨rfl, rfl⟩)
    go_quiet (fail)
    go_wp2
    go_ret2
    exact gridRet_nil e1.out e2.out ((hd.trans hd3).more _).below
  subst hRR hCC
  have b3 : ((C : Int) == (C : Int)) = true := by simp
  have b4 : ((C : Int) != (C : Int)) = false := by simp
  have e1 := Lib.hid (show TV = thF n h h' (plAll R C) by rw [hT.out]; simp)
  have e2 := Lib.hid (show TC = 0 by rw [hTC.out]; simp)
  clear hT hTC r1' r2' c1' c2'
  go_enter Try.func37, Try.ntmps37
  go_wp2_with fail
  refine (cV.out _ (DrewOf.refl _)).mono ?_
  rintro e w2 ⟨rfl, hd⟩
  go_wp2_with fail
  refine (cV'.out _ hd).mono ?_
  rintro e w3 ⟨rfl, hd3⟩
  replace t0 := ((hd.trans hd3).cell _).trans t0
  replace t0' := ((hd.trans hd3).cell _).trans t0'
  go_wp2_with (go_at_call 70; refine (cH.out _).mono ?_; rintro e w3 ⟨rfl, rfl⟩)
  go_quiet (fail)
  have hd5 := Lib.hid ((hd.trans hd3).more nq).below
  generalize w3.drewN nq = w5 at hd5 ⊢
  clear t0 t0' hd hd3
  go_wp2
  have hst := Lib.hid (OwnG.empty w5)
  have hB5 : Below w.heap.size w (w5.alloc (.cells #[] 39)) := hd5.out.alloc hd5.out.size _
  obtain ⟨LO, hLO⟩ : ∃ LO, LO = w5.heap.size := ⟨_, rfl⟩
  have hLw : w.heap.size ≤ LO := by rw [hLO]; exact hd5.out.size
  have hLs : LO ≤ (w5.alloc (.cells #[] 39)).heap.size := by rw [hLO]; simp
  rw [← hLO] at hst ⊢
  clear hLO hd5
  generalize w5.alloc (.cells #[] 39) = w6 at hst hB5 hLs ⊢
  go_loopw [8, 9] (fun x i wr => ∃ (k : Nat) (pa : Option Addr) (LN pc : Nat) (vs : List Value), k ≤ R ∧ i = .int .i64 k ∧ x = .slice pa LN pc ∧ Hid (OwnG LO wr.heap.size wr (.slice pa LN pc) (thF n h h' (plTo C k 0)) vs) ∧ Hid (LN = (thF n h h' (plTo C k 0)).length) ∧ Below w.heap.size w wr ∧ LO ≤ wr.heap.size) (fun _ i _ => R - (intOf i).toNat)
  case atStart => exact ⟨0, _, 0, 0, [], by omega, rfl, rfl, hst, Lib.hid rfl, hB5, hLs⟩
  case round =>
    obtain ⟨k, pa, LN, pc, vs, hk, rfl, rfl, hO, hLN, hB, hLs⟩ := hrel
    by_cases hlt : k < R
    · have hkI : (k : Int) < (R : Int) := by omega
      go_wp2
      go_loopw [8, 10] (fun x i wr => ∃ (m : Nat) (pa : Option Addr) (LN pc : Nat) (vs : List Value), m ≤ C ∧ i = .int .i64 m ∧ x = .slice pa LN pc ∧ Hid (OwnG LO wr.heap.size wr (.slice pa LN pc) (thF n h h' (plTo C k m)) vs) ∧ Hid (LN = (thF n h h' (plTo C k m)).length) ∧ Below w.heap.size w wr ∧ LO ≤ wr.heap.size) (fun _ i _ => C - (intOf i).toNat)
      case atStart => exact ⟨0, pa, LN, pc, vs, by omega, rfl, rfl, hO, hLN, hB, hLs⟩
      case round =>
        obtain ⟨m, pa, LN, pc, vs, hm, rfl, rfl, hO, hLN, hB, hLs⟩ := hrel
        have hz := Lib.hid (hx.out.below hB)
        have hz' := Lib.hid (hx'.out.below hB)
        have t1 := hz.out.top k hlt
        by_cases hlm : m < C
        · have t2 := hz.out.cel k hlt m hlm
          have t3 := hz'.out.top k hlt
          have t4 := hz'.out.cel k hlt m hlm
          have z1a := hz.out.h0 k m hlt hlm
          have z1b := hz.out.h1 k m hlt hlm
          have z2a := hz'.out.h0 k m hlt hlm
          have z2b := hz'.out.h1 k m hlt hlm
          have hnext := thF_next n h h' (plTo C k m) (k, m)
          rw [← plTo_next] at hnext
          have hll := thF_len n h h' (plTo C k m)
          have hpl : (plTo C k m).length ≤ 100 := Nat.le_trans (plTo_pre (R := R) (by omega) (by omega) (by omega)).length_le (plAll_len r2 c2)
          obtain ⟨LL, hLL⟩ : ∃ L, L = thF n h h' (plTo C k m) := ⟨_, rfl⟩
          have hLN1 := hLN.out
          rw [← hLL] at hO hnext hll hLN1
          have hLN100 : LN ≤ 100 := by omega
          have hLN2 := Lib.hid hLN1
          dsimp only at hnext
          obtain ⟨z1, hz1⟩ : ∃ z, z = h k m := ⟨_, rfl⟩
          obtain ⟨z2, hz2⟩ : ∃ z, z = h' k m := ⟨_, rfl⟩
          rw [← hz1] at t2 hnext z1a z1b
          rw [← hz2] at t4 hnext z2a z2b
          have hmI : (m : Int) < (C : Int) := by omega
          have hw1 : IntKind.i64.wrap (z1 - z2) = z1 - z2 := IntWalk.i64_in _ (by omega)
          clear hz1 hz2 hLL hll hpl hLN1 hLN
          by_cases hl : z1 - z2 < n
          rotate_left
          · have hr : Hid (thF n h h' (plTo C k (m + 1)) = LL) := Lib.hid (by rw [hnext, if_neg hl])
            clear hnext
            go_wp2
            go_quiet (fail)
            go_wp2
            go_roundw
            case rel => exact ⟨m + 1, pa, LN, pc, vs, by omega, by go_num, rfl, Lib.hid (by rw [hr.out]; exact hO.out.drewN _), Lib.hid (by rw [hr.out]; exact hLN2.out), belowN hB _, hLs⟩
            case measure => simp [intOf]; omega
          · have hr : Hid (thF n h h' (plTo C k (m + 1)) = LL ++ [plR (k, m)]) := Lib.hid (by rw [hnext, if_pos hl])
            clear hnext
            go_wp2
            go_quiet (fail)
            have O5 := Lib.hid (hO.out.drewN nq)
            have B5 := Lib.hid (belowN hB nq)
            have hLOw : LO ≤ (wr.drewN nq).heap.size := hLs
            generalize wr.drewN nq = w7 at O5 B5 hLOw ⊢
            clear hO hB
            go_wp2_with (at_builtin; refine wpList_append_own _ rfl _ _ 22 rfl LO 39 i0 (.slice none 0 0) 1 24 Try.underlying22 hi hz0 hz1 hz2 rfl (by decide) _ LN vs rfl (((O5.out.top' hLN2.out).alloc _).alloc _) ⟨w7.heap.size + 1, 0, none⟩ 1 1 [.slice (some ⟨w7.heap.size, 0, none⟩) 2 2] rfl rfl ?c1 ?c2 ?c3 ?c4 ?c5 ?_)
            case c1 =>
              have hb := heap_alloc_new (w7.alloc (.cells #[.int .i64 (k : Int), .int .i64 (m : Int)] 2)) (.cells #[.slice (some ⟨w7.heap.size, 0, none⟩) 2 2] 39)
              rw [World.size_alloc] at hb
              exact World.news_of_block hb
            case c2 => intro u hu; simp at hu; subst hu; rfl
            case c3 => unfold maxLen; omega
            case c4 => omega
            case c5 => simp; omega
            intro v9 w9 hown9 hgrow9 _
            have b5 : Below w7.heap.size w7 ((w7.alloc (.cells #[.int .i64 (k : Int), .int .i64 (m : Int)] 2)).alloc (.cells #[.slice (some ⟨w7.heap.size, 0, none⟩) 2 2] 39)) := ((Below.refl _ _).alloc (Nat.le_refl _) _).alloc (by simp) _
            have own2 : ((w7.alloc (.cells #[.int .i64 (k : Int), .int .i64 (m : Int)] 2)).alloc (.cells #[.slice (some ⟨w7.heap.size, 0, none⟩) 2 2] 39)).ownsRow w7.heap.size 2 1 (.slice (some ⟨w7.heap.size, 0, none⟩) 2 2) (plR (k, m)).length ((plR (k, m)).map encI) := by
              refine World.ownsRow.alloc ?_ _
              exact ⟨rfl, Or.inr ⟨_, _, _, rfl, Nat.le_refl _, heap_alloc_new _ _, by simp [plR], by unfold maxLen; omega, rfl, rfl⟩⟩
            have hbl : ∀ j, (Value.slice pa LN pc).ownBlock = some j → LO ≤ j := fun j hj => (O5.out.top.lt j hj).1
            have O9 := Lib.hid (O5.out.snoc (Z := plR (k, m)) b5 own2 (plR_in (by show k ≤ 1000; omega) (by show m ≤ 1000; omega)) hgrow9 (by rw [← hLN2.out]; exact hown9) hLOw (by decide))
            have B9 := Lib.hid ((B5.out.trans (b5.mono B5.out.size)).grown hgrow9 (Nat.le_trans B5.out.size b5.size) (fun j hj => by have := hbl j hj; omega))
            have hL9 : LO ≤ w9.heap.size := Nat.le_trans hLOw (Nat.le_trans b5.size hgrow9.size)
            obtain ⟨pa9, pc9, rfl⟩ := own_shape hown9
            clear hown9 hgrow9 b5 own2 hbl
            go_wp2
            go_roundw
            case rel => exact ⟨m + 1, pa9, LN + 1, pc9, _, by omega, by go_num, rfl, Lib.hid (by rw [hr.out]; exact O9.out), Lib.hid (by rw [hr.out, List.length_append, hLN2.out]; rfl), B9.out, hL9⟩
            case measure => simp [intOf]; omega
        · have hmC : m = C := by omega
          have hr : Hid (OwnG LO wr.heap.size wr (.slice pa LN pc) (thF n h h' (plTo C (k + 1) 0)) vs) := Lib.hid (by have := hO.out; rw [hmC, plTo_row] at this; exact this)
          have hr2 : Hid (LN = (thF n h h' (plTo C (k + 1) 0)).length) := Lib.hid (by have := hLN.out; rw [hmC, plTo_row] at this; exact this)
          clear hmC hO hLN
          go_wp2
          go_roundw
          case rel => exact ⟨k + 1, pa, LN, pc, vs, by omega, by go_num, rfl, hr, hr2, hB, hLs⟩
          case measure => simp [intOf]; omega
    · have hkR : k = R := by omega
      have hr : Hid (OwnG LO wr.heap.size wr (.slice pa LN pc) (thF n h h' (plAll R C)) vs) := Lib.hid (by have := hO.out; rw [hkR] at this; exact this)
      clear hkR hO hLN
      go_wp2
      go_ret2
      exact gridRet_mk e1.out e2.out hr.out hLw hB
end Go.Proofs.Ytcclahemmfjmgaa
