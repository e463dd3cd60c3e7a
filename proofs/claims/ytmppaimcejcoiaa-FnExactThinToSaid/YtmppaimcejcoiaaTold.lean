/-
  The heights that a function tells, over all places of a grid.
-/
import Derived.Test.YtmppaimcejcoiaaOver
import Derived.Test.YtmppaimcejcoiaaGrf
import Derived.Shelf.RegionOpenPlain
namespace Go.Proofs.Ytmppaimcejcoiaa
open Go.ChangeShapes Go.WideShapes Go.ChangeAt Go.RowKit Go.Deep
set_option linter.unusedVariables false
set_option linter.unusedSimpArgs false
attribute [local go_sem] Oper.semAt_some
theorem told_at (q : Nat) (caps : Array Value) (z : Int) (i k : Nat) (w : World) (eg : ∀ args w, (callFunc q args).run Try.prog w = .ok (.enter q args) w)
    (hf : ∀ W, Below w.heap.size w W → Calls Try.prog q (#[encP (i, k)] ++ caps) W fun e w' => e = .returned (.int .i64 z) ∧ Below W.heap.size W w') :
    Calls Try.prog 82 #[.func (.func q) #[] caps, encP (i, k)] w fun e w' => e = .returned (.int .i64 z) ∧ Below w.heap.size w w' := by
  have hB : Below w.heap.size w (w.alloc (.cells #[.int .i64 (i : Int), .int .i64 (k : Int)] 57)) := (Below.refl _ _).alloc (Nat.le_refl _) _
  have hc := Lib.hid (hf _ hB)
  unfold encP at hc ⊢
  dsimp only at hc ⊢
  clear hf
  go_enter Try.func82, Try.ntmps82
  go_wp2_with (go_at_fn q; refine hc.out.mono ?_; rintro e w' ⟨rfl, b1⟩)
  go_ret
  exact ⟨rfl, below2 hB b1⟩
set_option maxRecDepth 100000 in
set_option maxHeartbeats 6400000 in
theorem heightsOver_told (g o cap R C : Nat) (rg ro rc : Nat → Nat) (h : Nat → Nat → Int) (w : World) (x : GR w g o cap R C rg ro rc h) (sv : Value) (f : Nat → Nat → Int) (hf : ∀ i k, i < R → k < C → inI (f i k))
    (cS : ∀ W, Below w.heap.size w W → ∀ i k, i < R → k < C → Calls Try.prog 82 #[sv, encP (i, k)] W fun e W' => e = .returned (.int .i64 (f i k)) ∧ Below W.heap.size W W') :
    Calls Try.prog 55 #[.slice (some ⟨g, o, none⟩) R cap, .iface 68 sv] w (RowsG ((List.range R).map fun i => (List.range C).map fun k => f i k) w) := by
  have hx := Lib.hid x
  have r1 := x.R1
  have r2 := x.R10
  have c2 := x.C10
  have hgw := x.gl
  have cS' := Lib.hid cS
  have hf' := Lib.hid hf
  clear x cS hf
  refine (callsIn_wide (n := 3)).1 ?_
  refine callsIn_of_wp_marks Try.func55 rfl trivial ?_ rfl
  simp only [Try.ntmps55, List.size_toArray, List.length_cons, List.length_nil, Nat.reduceAdd, Nat.reduceSub, Array.replicate_succ, Array.replicate_zero, List.push_toArray, List.append_toArray, List.nil_append, List.cons_append]
  gi_wp2_with fail
  have hB1 : Below w.heap.size w (w.alloc (.cells #[.iface 68 sv] 75)) := (Below.refl _ _).alloc (Nat.le_refl _) _
  have s0 : (w.alloc (.cells #[.iface 68 sv] 75)).heap[w.heap.size]? = some (.cells #[.iface 68 sv] 75 (0, 0)) := heap_alloc_new _ _
  have z1 : (w.alloc (.cells #[.iface 68 sv] 75)).heap.size = w.heap.size + 1 := by simp
  have t0 := (hx.out.below hB1).top 0 (by omega)
  rw [Nat.add_zero] at t0
  obtain ⟨S0, hS0⟩ : ∃ n, n = w.heap.size := ⟨_, rfl⟩
  rw [← hS0] at s0 z1
  rw [show w.heap.size = S0 from hS0.symm]
  rw [← hS0] at hgw
  have hB1' := Lib.hid hB1
  have hS0' := Lib.hid hS0
  clear hB1 hS0
  generalize w.alloc (.cells #[.iface 68 sv] 75) = w1 at hB1' s0 z1 t0 ⊢
  refine ⟨trivial, (callsIn_wide.2 (columns_at g o R cap C (rc 0) (some ⟨rg 0, ro 0, none⟩) r1 (by omega) (by omega) w1 t0)).mono ?_⟩
  rintro e w2 ⟨rfl, rfl⟩
  clear t0
  obtain ⟨G0, hG0⟩ : ∃ G0, G0 = List.replicate R (List.replicate C (0 : Int)) := ⟨_, rfl⟩
  have hG0l : G0.length = R := by rw [hG0]; simp
  have cN0 := newGrid_any G0 C w1 (by omega) (by omega) (fun k hk => by subst hG0; simp)
  rw [hG0l] at cN0
  have cN := Lib.hid cN0
  have hH0 : Hid (HoG R C f [] G0) := Lib.hid (by rw [hG0]; exact HoG.zero R C f)
  clear cN0 hG0
  gi_wp2_with fail
  refine ⟨trivial, (callsIn_wide.2 cN.out).mono ?_⟩
  rintro e w2 ⟨hv, vs0, rfl, O2, b2⟩
  obtain ⟨a, cap9, rfl⟩ := own_shape O2.top
  rw [hG0l]
  rw [hG0l] at O2
  have s0' := (b2.block _ (by omega)).trans s0
  have B2 := Lib.hid (hB1'.out.trans (b2.mono hB1'.out.size))
  have z2 := b2.size
  have O2' := Lib.hid O2
  clear cN s0 b2 hB1' O2
  gi_wp2_with fail
  refine ⟨trivial, (callsIn_wide.2 (places_any _ _ _ _)).mono ?_⟩
  rintro e w2 ⟨rfl, rfl⟩
  gi_wp2_with fail
  obtain ⟨N, hN⟩ : ∃ N, N = w2.heap.size := ⟨_, rfl⟩
  have g0 : ((w2.alloc (.cells #[.slice a R cap9] 62)).alloc (.cells #[.slice (some ⟨g, o, none⟩) R cap] 62)).heap[N]? = some (.cells #[.slice a R cap9] 62 (0, 0)) := by
    rw [Below.heap_alloc _ _ _ (by simp; omega)]
    have := heap_alloc_new (w2) (.cells #[.slice a R cap9] 62)
    rw [hN]; simpa using this
  have g1 : ((w2.alloc (.cells #[.slice a R cap9] 62)).alloc (.cells #[.slice (some ⟨g, o, none⟩) R cap] 62)).heap[N + 1]? = some (.cells #[.slice (some ⟨g, o, none⟩) R cap] 62 (0, 0)) := by
    have := heap_alloc_new ((w2.alloc (.cells #[.slice a R cap9] 62))) (.cells #[.slice (some ⟨g, o, none⟩) R cap] 62)
    rw [hN]; simpa using this
  have gz : ((w2.alloc (.cells #[.slice a R cap9] 62)).alloc (.cells #[.slice (some ⟨g, o, none⟩) R cap] 62)).heap.size = N + 2 := by simp [hN]
  have gB : Below w2.heap.size w2 ((w2.alloc (.cells #[.slice a R cap9] 62)).alloc (.cells #[.slice (some ⟨g, o, none⟩) R cap] 62)) := ((Below.refl _ _).alloc (by simp <;> omega) _).alloc (by simp <;> omega) _
  have gW := Lib.hid (B2.out.trans (gB.mono B2.out.size))
  have hx2 := hx.out.below gW.out
  have gS := (gB.block _ (lt_of_some s0')).trans s0'
  have O3 := Lib.hid (O2'.out.kept gB)
  have hN2 : S0 + 1 ≤ N := by rw [hN]; omega
  have hNw : N = w2.heap.size := hN
  have hw1s : w1.heap.size = S0 + 1 := z1
  rw [← hN]
  rw [← hN] at O3
  rw [hw1s] at O3
  clear gB hN B2 O2' s0' z2 hNw
  generalize ((w2.alloc (.cells #[.slice a R cap9] 62)).alloc (.cells #[.slice (some ⟨g, o, none⟩) R cap] 62)) = W0 at g0 g1 gz gW hx2 gS O3 ⊢
  have hseq := places_seqN 2 (N + 1) g o cap R C (fun b => (b < S0 + 1 ∨ N ≤ b) ∧ b < N + 2) W0 (hx2.pl (cellB g1 0 _ rfl)) (by constructor <;> omega) (by constructor <;> omega)
  clear hx2
  have hHd : Hid (∀ Gc, HoG R C f (plAll R C) Gc → Gc = (List.range R).map fun i => (List.range C).map fun k => f i k) := Lib.hid (fun Gc h => h.done)
  refine' rangePN rfl (enters_of Try.func59 (by kernel_rfl) rfl) hseq
    (fun pre W => (W.heap[S0]? = some (.cells #[.iface 68 sv] 75 (0, 0)) ∧ W.heap[N]? = some (.cells #[.slice a R cap9] 62 (0, 0)) ∧ ∃ Gc vs, HoG R C f pre Gc ∧ OwnG (S0 + 1) N W (.slice a R cap9) Gc vs) ∧ Below w.heap.size w W)
    (fun _ _ _ => False)
    (fun s A B h hAB hS => by
      obtain ⟨⟨h0, h1, Gc, vs, h2, h3⟩, h5⟩ := h
      exact ⟨⟨hS.same _ _ h0 rfl, hS.same _ _ h1 rfl, Gc, vs, h2, h3.cells hS⟩, h5.trans (hAB.mono (by have := hS0'.out; omega))⟩)
    (fun _ _ _ _ h _ _ => h)
    ⟨⟨gS, g0, G0, vs0, hH0.out, O3.out⟩, gW.out⟩ ?assign ?body ?done ?stop
  case assign =>
    rintro l B x W K hB hK
    unfold encP
    gi_wp2
    exact hK
  case body =>
    rintro l B pre ⟨p, q⟩ W hpre hl hlB hBW ⟨⟨i0, i1, Gc, vs, hHG, iO⟩, iB⟩ hBx hWz
    obtain ⟨hp, hq, hpl⟩ := pre_place hpre
    clear hpl
    dsimp only at hBx hp hq ⊢
    have hpG : p < Gc.length := by rw [hHG.1]; exact hp
    have hqG : q < (Gc[p]).length := by rw [(hHG.2 p hpG).1]; exact hq
    have hnx := Lib.hid (hHG.next (k := q) hpG)
    have cA0 := fun w' (hw' : Below W.heap.size W w') => cS'.out w' (iB.trans (hw'.mono iB.size)) p q hp hq
    have cT0 := fun w' (hw' : Below W.heap.size W w') => set_any (S0 + 1) N p q w' (.slice a R cap9) Gc vs (f p q) (iO.kept hw') hpG hqG (hf'.out p q hp hq)
    unfold encP at cA0
    dsimp only at cA0
    obtain ⟨G9, hG9⟩ : ∃ X, X = Gc.set p ((Gc[p]).set q (f p q)) := ⟨_, rfl⟩
    rw [← hG9] at cT0 hnx
    obtain ⟨z, hz⟩ : ∃ z, z = f p q := ⟨_, rfl⟩
    rw [← hz] at cA0 cT0
    have cA := Lib.hid cA0
    have cT := Lib.hid cT0
    have hNW : N < W.heap.size := by omega
    have hSW : S0 < W.heap.size := by omega
    have keyC : Hid (∀ w', Below W.heap.size W w' → w'.heap[S0]? = some (.cells #[.iface 68 sv] 75 (0, 0)) ∧ w'.heap[N]? = some (.cells #[.slice a R cap9] 62 (0, 0)) ∧ w'.heap[B]? = some (.cells #[.int .i64 (p : Int), .int .i64 (q : Int)] 57 (0, 0))) := Lib.hid (fun w' hw' => ⟨(hw'.block _ hSW).trans i0, (hw'.block _ hNW).trans i1, (hw'.block _ hBW).trans hBx⟩)
    have open0 : Hid (∀ w', Below W.heap.size W w' → w'.cell? ⟨S0, 0, none⟩ = some (.iface 68 sv) ∧ w'.cell? ⟨N, 0, none⟩ = some (.slice a R cap9) ∧ w'.cell? ⟨B, 0, none⟩ = some (.int .i64 (p : Int)) ∧ w'.cell? ⟨B, 1, none⟩ = some (.int .i64 (q : Int))) := Lib.hid (fun w' hw' => by
      obtain ⟨e0, e1, e2⟩ := keyC.out w' hw'
      exact ⟨cellB e0 0 _ rfl, cellB e1 0 _ rfl, cellB e2 0 _ rfl, cellB e2 1 _ rfl⟩)
    clear hz hG9 hpre cA0 cT0 iO i0 i1 hBx hHG hpG hqG
    gi_wp2_with fail
    refine wpIn_calm 5 (fun w' => Below W.heap.size W w') (by kernel_rfl) (by kernel_rfl) (by rintro ⟨_, _, h⟩; exact h) (by kernel_rfl) (by kernel_rfl) (by kernel_rfl) (belowN (Below.refl _ _) 1) ?_
    simp only [List.take_succ_cons, List.take_zero, List.drop_succ_cons, List.drop_zero]
    refine calm_take (v := ?vy1) (by rfl) ?ey1 ?ry1
    case ey1 => (intro w' hw'; obtain ⟨c0, c1, c2', c3⟩ := open0.out w' hw'; go_simp; try with_reducible rfl)
    try simp only [Act.put, List.setIfInBounds_toArray, List.set_cons_zero, List.set_cons_succ]
    refine calm_take (v := ?vy2) (by rfl) ?ey2 ?ry2
    case ey2 => (intro w' hw'; obtain ⟨c0, c1, c2', c3⟩ := open0.out w' hw'; go_simp; try with_reducible rfl)
    try simp only [Act.put, List.setIfInBounds_toArray, List.set_cons_zero, List.set_cons_succ]
    refine calm_take (v := ?vy3) (by rfl) ?ey3 ?ry3
    case ey3 => (intro w' hw'; obtain ⟨c0, c1, c2', c3⟩ := open0.out w' hw'; go_simp; try with_reducible rfl)
    try simp only [Act.put, List.setIfInBounds_toArray, List.set_cons_zero, List.set_cons_succ]
    refine calm_take (v := ?vy4) (by rfl) ?ey4 ?ry4
    case ey4 => (intro w' hw'; obtain ⟨c0, c1, c2', c3⟩ := open0.out w' hw'; go_simp; try with_reducible rfl)
    try simp only [Act.put, List.setIfInBounds_toArray, List.set_cons_zero, List.set_cons_succ]
    refine calm_call (v := .int .i64 z) (f := ?fy5) (args := ?ay5) (by rfl) ?ey5 ?cy5 ?ry5
    case ey5 => (intro w' hw'; obtain ⟨c0, c1, c2', c3⟩ := open0.out w' hw'; go_simp; try (go_invoke; go_simp); first | (with_reducible rfl) | (refine ⟨?_, ?_⟩ <;> with_reducible rfl))
    case cy5 => (intro w' hw'; with_reducible exact calm_ret hw' (cA.out w' hw'))
    try simp only [Act.put, List.setIfInBounds_toArray, List.set_cons_zero, List.set_cons_succ]
    refine wpQuiet_nil (fun w' hw' => ?_)
    obtain ⟨e0, e1, e2⟩ := keyC.out w' hw'
    go_wp2_with fail
    refine (cT.out w' hw').mono ?_
    rintro e w5 ⟨rfl, O5, g9, w4, hlo, hhi, b4, hgr, hcl⟩
    have B4 := below2 hw' b4
    have f0 := (hgr.block _ (lt_of_some ((b4.block _ (lt_of_some e0)).trans e0)) (by intro h; injection h with h; omega)).trans ((b4.block _ (lt_of_some e0)).trans e0)
    have f1 := (hgr.block _ (lt_of_some ((b4.block _ (lt_of_some e1)).trans e1)) (by intro h; injection h with h; omega)).trans ((b4.block _ (lt_of_some e1)).trans e1)
    have f0' := Lib.hid f0
    have f1' := Lib.hid f1
    have O5' := Lib.hid O5
    clear f0 f1 e0 e1 e2 O5
    first | gi_wp2 | skip
    exact ⟨(KeepsFrom.below B4).trans (KeepsFrom.grown hgr (fun k hk => by injection hk with hk; subst hk; exact hcl)), (Keeps.of_below B4).trans (Keeps.grown hgr (fun k hk h => by injection hk with hk; omega)), ⟨f0'.out, f1'.out, G9, vs, hnx.out, O5'.out⟩, (below2 iB B4).grown hgr (by have := iB.size; have := B4.size; omega) (fun k hk => by injection hk with hk; have := hS0'.out; omega)⟩
  case done =>
    rintro K W hK ⟨⟨i0, i1, Gc, vs, hHG, iO⟩, iB⟩ hD
    have c0 := cellB i1 0 _ rfl
    have hE := Lib.hid (hHd.out Gc hHG)
    have iO' := Lib.hid iO
    clear iO hHG i0 i1
    gi_wp2
    refine ⟨by simp, .inl ⟨_, _, rfl, run_takeDeferred hD, ?_⟩⟩
    refine ⟨.slice a R cap9, ?_, .slice a R cap9, vs, rfl, ?_, iB.trans (below_put _ _ (by have := hS0'.out; omega) iB.size)⟩
    · simp [results, Try.f55, go_sem]
    · rw [← hE.out]
      exact ((iO'.out.cells (SameCells.putObj _ hD rfl)).low (by have := hS0'.out; omega)).wide (by have := iO'.out.hiW; simp; omega) (Nat.le_refl _)
  case stop =>
    rintro K c pre W _ _ h _
    exact h.elim
end Go.Proofs.Ytmppaimcejcoiaa
