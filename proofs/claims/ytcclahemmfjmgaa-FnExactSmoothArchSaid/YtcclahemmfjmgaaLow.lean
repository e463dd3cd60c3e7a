/-
  The places over which a surface is lower than a height.
-/
import Derived.Test.YtcclahemmfjmgaaSurf
import Derived.Test.YtcclahemmfjmgaaNum
import Derived.Test.YtcclahemmfjmgaaSeqN
import Derived.Deep.AppendLies
import Derived.Handy
namespace Go.Proofs.Ytcclahemmfjmgaa
open Go.ChangeShapes Go.WideShapes Go.ChangeAt Go.RowKit Go.Deep
set_option linter.unusedVariables false
set_option linter.unusedSimpArgs false
attribute [local go_sem] Oper.semAt_some
theorem own_cells {A B : World} {lo e size n : Nat} {v : Value} {xs : List Value} (h : A.ownsRow lo e size v n xs) (hs : SameCells A B) : B.ownsRow lo e size v n xs := by
  refine ⟨h.1, ?_⟩
  rcases h.2 with h1 | ⟨g, cap, cur, hv, hg, hc, r⟩
  · exact Or.inl h1
  · exact Or.inr ⟨g, cap, cur, hv, hg, hs.same _ _ hc rfl, r⟩
theorem OwnG.top' {lo hi n : Nat} {A : World} {v : Value} {G : List (List Int)} {vs : List Value} (h : OwnG lo hi A v G vs) (e : n = G.length) : A.ownsRow lo 39 1 v n vs := by subst e; exact h.top
theorem own_not_box {w : World} {lo e size n B : Nat} {t : TypeId} {v : Value} {xs : List Value} {cs : Array Value} (h : w.ownsRow lo e size v n xs) (hb : w.heap[B]? = some (.cells cs t (0, 0))) (ht : t ≠ e) : some B ≠ v.ownBlock := by
  intro hh
  rcases h.2 with ⟨rfl, _⟩ | ⟨g, cap, cur, rfl, _, hc, _⟩
  · simp [Value.ownBlock] at hh
  · simp only [Value.ownBlock, Option.some.injEq] at hh
    subst hh
    rw [hb] at hc
    injection hc with h1
    injection h1 with _ h2
    exact ht h2
theorem own_isCells {w : World} {lo e size n k : Nat} {v : Value} {xs : List Value} (h : w.ownsRow lo e size v n xs) (hk : v.ownBlock = some k) : ∃ o, w.heap[k]? = some o ∧ o.isCells = true := by
  rcases h.2 with ⟨rfl, _⟩ | ⟨g, cap, cur, rfl, _, hc, _⟩
  · simp [Value.ownBlock] at hk
  · simp only [Value.ownBlock, Option.some.injEq] at hk
    subst hk
    exact ⟨_, hc, rfl⟩
theorem OwnG.cells {lo hi : Nat} {A B : World} {v : Value} {G : List (List Int)} {vs : List Value} (h : OwnG lo hi A v G vs) (hs : SameCells A B) : OwnG lo hi B v G vs :=
  ⟨Nat.le_trans h.hiW hs.size, h.len, own_cells h.top hs, fun i u Z e1 e2 => own_cells (h.row i u Z e1 e2) hs, h.apart, h.inn, h.topIn, h.rowIn⟩
/-- the places of these where the height is less than n -/
def loF (n : Int) (f : Nat → Nat → Int) (L : List (Nat × Nat)) : List (List Int) := (L.filter fun p => decide (f p.1 p.2 < n)).map plR
theorem loF_next (n : Int) (f : Nat → Nat → Int) (L : List (Nat × Nat)) (p : Nat × Nat) : loF n f (L ++ [p]) = if f p.1 p.2 < n then loF n f L ++ [plR p] else loF n f L := by
  unfold loF; rw [List.filter_append, List.map_append]
  by_cases hh : f p.1 p.2 < n
  · rw [if_pos hh, List.filter_cons_of_pos (by simpa using hh)]; rfl
  · rw [if_neg hh, List.filter_cons_of_neg (by simpa using hh)]; simp
theorem loF_len (n : Int) (f : Nat → Nat → Int) (L : List (Nat × Nat)) : (loF n f L).length ≤ L.length := by
  unfold loF; rw [List.length_map]; exact List.length_filter_le _ _
theorem loF_tot (n : Int) (f : Nat → Nat → Int) (L : List (Nat × Nat)) : totL (loF n f L) ≤ 2 * L.length := by
  refine snoc_ind (P := fun L => totL (loF n f L) ≤ 2 * L.length) (by unfold loF; simp [totL]) (fun L p ih => ?_) L
  show totL (loF n f (L ++ [p])) ≤ 2 * (L ++ [p]).length
  rw [loF_next, List.length_append]
  split
  · rw [totL_append]
    have : totL [plR p] = 2 := rfl
    simp only [List.length_singleton]; omega
  · simp only [List.length_singleton]; omega
theorem plAll_hun {R C : Nat} (hR : R ≤ 10) (hC : C ≤ 10) : (plAll R C).length ≤ 100 := by
  unfold plAll; rw [plTo_len]
  have : R * C ≤ 10 * 10 := Nat.mul_le_mul hR hC
  omega
theorem infoGL : (Try.prog.info? 39).map (fun i => (i.zero, i.size, i.bytes)) = some (some (.slice none 0 0), 1, 24) := infoG
set_option maxRecDepth 100000 in
set_option maxHeartbeats 6400000 in
theorem low_grid (n : Int) (g o cap R C : Nat) (rg ro rc : Nat → Nat) (h : Nat → Nat → Int)  (w : World) (x : GR w g o cap R C rg ro rc h)  : Calls Try.prog 74 #[.slice (some ⟨g, o, none⟩) R cap, .iface 44 (Value.slice (some ⟨g, o, none⟩) R cap), .int .i64 n] w (RowsG (loF n h (plAll R C)) w) := by
  have hx := Lib.hid x
  have r1 := x.R1
  have r2 := x.R10
  have c2 := x.C10
  have hgw := x.gl
  clear x
  refine (callsIn_wide (n := 3)).1 ?_
  refine callsIn_of_wp_marks Try.func74 rfl trivial ?_ rfl
  simp only [Try.ntmps74, List.size_toArray, List.length_cons, List.length_nil, Nat.reduceAdd, Nat.reduceSub, Array.replicate_succ, Array.replicate_zero, List.push_toArray, List.append_toArray, List.nil_append, List.cons_append]
  gi_wp2_with fail
  refine ⟨trivial, (callsIn_wide.2 (places_any _ _ _ _)).mono ?_⟩
  rintro e w2 ⟨rfl, rfl⟩
  gi_wp2_with fail
  obtain ⟨N, hN⟩ : ∃ N, N = w.heap.size := ⟨_, rfl⟩
  have g0 : ((((w.alloc (.cells #[.iface 44 (Value.slice (some ⟨g, o, none⟩) R cap)] 72)).alloc (.cells #[.int .i64 n] 2)).alloc (.cells #[.slice none 0 0] 22)).alloc (.cells #[.slice (some ⟨g, o, none⟩) R cap] 44)).heap[N]? = some (.cells #[.iface 44 (Value.slice (some ⟨g, o, none⟩) R cap)] 72 (0, 0)) := by
    rw [Below.heap_alloc _ _ _ (by simp; omega)]
    rw [Below.heap_alloc _ _ _ (by simp; omega)]
    rw [Below.heap_alloc _ _ _ (by simp; omega)]
    have := heap_alloc_new (w) (.cells #[.iface 44 (Value.slice (some ⟨g, o, none⟩) R cap)] 72)
    rw [hN]; simpa using this
  have g1 : ((((w.alloc (.cells #[.iface 44 (Value.slice (some ⟨g, o, none⟩) R cap)] 72)).alloc (.cells #[.int .i64 n] 2)).alloc (.cells #[.slice none 0 0] 22)).alloc (.cells #[.slice (some ⟨g, o, none⟩) R cap] 44)).heap[N + 1]? = some (.cells #[.int .i64 n] 2 (0, 0)) := by
    rw [Below.heap_alloc _ _ _ (by simp; omega)]
    rw [Below.heap_alloc _ _ _ (by simp; omega)]
    have := heap_alloc_new ((w.alloc (.cells #[.iface 44 (Value.slice (some ⟨g, o, none⟩) R cap)] 72))) (.cells #[.int .i64 n] 2)
    rw [hN]; simpa using this
  have g2 : ((((w.alloc (.cells #[.iface 44 (Value.slice (some ⟨g, o, none⟩) R cap)] 72)).alloc (.cells #[.int .i64 n] 2)).alloc (.cells #[.slice none 0 0] 22)).alloc (.cells #[.slice (some ⟨g, o, none⟩) R cap] 44)).heap[N + 1 + 1]? = some (.cells #[.slice none 0 0] 22 (0, 0)) := by
    rw [Below.heap_alloc _ _ _ (by simp; omega)]
    have := heap_alloc_new (((w.alloc (.cells #[.iface 44 (Value.slice (some ⟨g, o, none⟩) R cap)] 72)).alloc (.cells #[.int .i64 n] 2))) (.cells #[.slice none 0 0] 22)
    rw [hN]; simpa using this
  have g3 : ((((w.alloc (.cells #[.iface 44 (Value.slice (some ⟨g, o, none⟩) R cap)] 72)).alloc (.cells #[.int .i64 n] 2)).alloc (.cells #[.slice none 0 0] 22)).alloc (.cells #[.slice (some ⟨g, o, none⟩) R cap] 44)).heap[N + 1 + 1 + 1]? = some (.cells #[.slice (some ⟨g, o, none⟩) R cap] 44 (0, 0)) := by
    have := heap_alloc_new ((((w.alloc (.cells #[.iface 44 (Value.slice (some ⟨g, o, none⟩) R cap)] 72)).alloc (.cells #[.int .i64 n] 2)).alloc (.cells #[.slice none 0 0] 22))) (.cells #[.slice (some ⟨g, o, none⟩) R cap] 44)
    rw [hN]; simpa using this
  have gz : ((((w.alloc (.cells #[.iface 44 (Value.slice (some ⟨g, o, none⟩) R cap)] 72)).alloc (.cells #[.int .i64 n] 2)).alloc (.cells #[.slice none 0 0] 22)).alloc (.cells #[.slice (some ⟨g, o, none⟩) R cap] 44)).heap.size = N + 4 := by simp [hN]
  have gB : Below w.heap.size w ((((w.alloc (.cells #[.iface 44 (Value.slice (some ⟨g, o, none⟩) R cap)] 72)).alloc (.cells #[.int .i64 n] 2)).alloc (.cells #[.slice none 0 0] 22)).alloc (.cells #[.slice (some ⟨g, o, none⟩) R cap] 44)) := ((((Below.refl _ _).alloc (by simp <;> omega) _).alloc (by simp <;> omega) _).alloc (by simp <;> omega) _).alloc (by simp <;> omega) _
  have gW := gB
  have hx2 := hx.out.below gB
  have hgN : g < N := by rw [hN]; exact hgw
  have hwN : w.heap.size ≤ N := by omega
  have hNw := Lib.hid hN
  rw [← hN]
  clear gB hN hgw
  generalize ((((w.alloc (.cells #[.iface 44 (Value.slice (some ⟨g, o, none⟩) R cap)] 72)).alloc (.cells #[.int .i64 n] 2)).alloc (.cells #[.slice none 0 0] 22)).alloc (.cells #[.slice (some ⟨g, o, none⟩) R cap] 44)) = W0 at g0 g1 g2 g3 gz gW hx2 ⊢
  obtain ⟨i0, hi, hz0, hz1, hz2⟩ := info_parts infoG
  have hseq := places_seqN 2 (N + 1 + 1 + 1) g o cap R C (fun b => b < N + 4 ∧ b ≠ N + 1 + 1) W0 (hx2.pl (cellB g3 0 _ rfl)) (show N + 1 + 1 + 1 < N + 4 ∧ N + 1 + 1 + 1 ≠ N + 1 + 1 by omega) (show g < N + 4 ∧ g ≠ N + 1 + 1 by omega)
  obtain ⟨LO, hLO⟩ : ∃ LO, LO = N + 4 := ⟨_, rfl⟩
  have hst : OwnG LO W0.heap.size W0 (.slice none 0 0) (loF n h []) [] := OwnG.nil _ _
  refine' rangePN rfl (enters_of Try.func79 (by kernel_rfl) rfl) hseq
    (fun pre W => (W.heap[N]? = some (.cells #[.iface 44 (Value.slice (some ⟨g, o, none⟩) R cap)] 72 (0, 0)) ∧ W.heap[N + 1]? = some (.cells #[.int .i64 n] 2 (0, 0)) ∧ ∃ pa LN pc vs, W.heap[N + 1 + 1]? = some (.cells #[.slice pa LN pc] 22 (0, 0)) ∧ OwnG LO W.heap.size W (.slice pa LN pc) (loF n h pre) vs ∧ LN = (loF n h pre).length) ∧ Below w.heap.size w W)
    (fun _ _ _ => False)
    (fun s A B h hAB hS => by
      obtain ⟨⟨h0, h1, pa, LN, pc, vs, h2, h3, h4⟩, h5⟩ := h
      exact ⟨⟨hS.same _ _ h0 rfl, hS.same _ _ h1 rfl, pa, LN, pc, vs, hS.same _ _ h2 rfl, (h3.cells hS).wide hS.size (Nat.le_refl _), h4⟩, h5.trans (hAB.mono (by omega))⟩)
    (fun _ _ _ _ h _ _ => h)
    ⟨⟨g0, g1, none, 0, 0, [], g2, hst, rfl⟩, gW⟩ ?assign ?body ?done ?stop
  case assign =>
    rintro l B x W K hB hK
    unfold encP
    gi_wp2
    exact hK
  case body =>
    rintro l B pre ⟨p, q⟩ W hpre hl hlB hBW ⟨⟨i0L, i1, pa, LN, pc, vs, i2, iO, hLNe⟩, iB⟩ hBx hWz
    obtain ⟨hp, hq, hpl⟩ := pre_place hpre
    clear hpl
    have hlen := (List.prefix_append _ _ |>.trans hpre).length_le
    have hl100 := plAll_hun r2 c2
    have hll := loF_len n h pre
    have hLN100 : LN ≤ 100 := by omega
    have hnext := loF_next n h pre (p, q)
    obtain ⟨LL, hLL⟩ : ∃ L, L = loF n h pre := ⟨_, rfl⟩
    rw [← hLL] at iO hnext hLNe
    dsimp only at hnext hBx hp hq ⊢
    have hp9 : p ≤ 1000 := by omega
    have hq9 : q ≤ 1000 := by omega
    have hz := Lib.hid (hx.out.below iB)
    have cA0 := fun w' (hw' : Below W.heap.size W w') => at_any g o cap R C rg ro rc h w' (hz.out.below hw') p q hp hq
    unfold encP at cA0
    dsimp only at cA0
    obtain ⟨z, hz1⟩ : ∃ z, z = h p q := ⟨_, rfl⟩
    first | rw [← hz1] at cA0 hnext | (simp only [← hz1] at cA0 hnext)
    have cA := Lib.hid cA0
    have hN0 : N < W.heap.size := by omega
    have hN1 : N + 1 < W.heap.size := by omega
    have hN2 : N + 1 + 1 < W.heap.size := by omega
    have keyC : Hid (∀ w', Below W.heap.size W w' → w'.heap[N]? = some (.cells #[.iface 44 (Value.slice (some ⟨g, o, none⟩) R cap)] 72 (0, 0)) ∧ w'.heap[N + 1]? = some (.cells #[.int .i64 n] 2 (0, 0)) ∧ w'.heap[N + 1 + 1]? = some (.cells #[.slice pa LN pc] 22 (0, 0)) ∧ w'.heap[B]? = some (.cells #[.int .i64 (p : Int), .int .i64 (q : Int)] 46 (0, 0))) := Lib.hid (fun w' hw' => ⟨(hw'.block _ hN0).trans i0L, (hw'.block _ hN1).trans i1, (hw'.block _ hN2).trans i2, (hw'.block _ hBW).trans hBx⟩)
    have O1 := Lib.hid iO
    have hLN := Lib.hid hLNe
    clear hLL hpre i0L i1 i2 hBx cA0 hz1 iO hLNe hll hlen hl100
    have open0 : Hid (∀ w', Below W.heap.size W w' → w'.cell? ⟨N, 0, none⟩ = some (.iface 44 (Value.slice (some ⟨g, o, none⟩) R cap)) ∧ w'.cell? ⟨N + 1, 0, none⟩ = some (.int .i64 n) ∧ w'.cell? ⟨B, 0, none⟩ = some (.int .i64 (p : Int)) ∧ w'.cell? ⟨B, 1, none⟩ = some (.int .i64 (q : Int))) := Lib.hid (fun w' hw' => by
      obtain ⟨e0, e1, e2, e3⟩ := keyC.out w' hw'
      exact ⟨cellB e0 0 _ rfl, cellB e1 0 _ rfl, cellB e3 0 _ rfl, cellB e3 1 _ rfl⟩)
    by_cases hcs : z < n
    rotate_left
    · have hr : Hid (loF n h (pre ++ [(p, q)]) = LL) := Lib.hid (by rw [hnext, if_neg hcs])
      clear hnext
      gi_wp2_with fail
      refine wpIn_calm 5 (fun w' => Below W.heap.size W w') (by kernel_rfl) (by kernel_rfl) (by rintro ⟨_, _, h⟩; exact h) (by kernel_rfl) (by kernel_rfl) (by kernel_rfl) (belowN (Below.refl _ _) 1) ?_
      simp only [List.take_succ_cons, List.take_zero, List.drop_succ_cons, List.drop_zero]
      refine calm_take (v := ?vy1) (by rfl) ?ey1 ?ry1
      case ey1 => (intro w' hw'; obtain ⟨c0, c1, c2, c3⟩ := open0.out w' hw'; go_simp; try with_reducible rfl)
      try simp only [Act.put, List.setIfInBounds_toArray, List.set_cons_zero, List.set_cons_succ]
      refine calm_take (v := ?vy2) (by rfl) ?ey2 ?ry2
      case ey2 => (intro w' hw'; obtain ⟨c0, c1, c2, c3⟩ := open0.out w' hw'; go_simp; try with_reducible rfl)
      try simp only [Act.put, List.setIfInBounds_toArray, List.set_cons_zero, List.set_cons_succ]
      refine calm_call (v := .int .i64 z) (f := ?fy3) (args := ?ay3) (by rfl) ?ey3 ?cy3 ?ry3
      case ey3 => (intro w' hw'; obtain ⟨c0, c1, c2, c3⟩ := open0.out w' hw'; go_simp; try (go_invoke; go_simp); first | (with_reducible rfl) | (refine ⟨?_, ?_⟩ <;> with_reducible rfl))
      case cy3 => (intro w' hw'; with_reducible exact calm_ret hw' (cA.out w' hw'))
      try simp only [Act.put, List.setIfInBounds_toArray, List.set_cons_zero, List.set_cons_succ]
      refine calm_take (v := ?vy4) (by rfl) ?ey4 ?ry4
      case ey4 => (intro w' hw'; obtain ⟨c0, c1, c2, c3⟩ := open0.out w' hw'; go_simp; try with_reducible rfl)
      try simp only [Act.put, List.setIfInBounds_toArray, List.set_cons_zero, List.set_cons_succ]
      refine calm_take (v := ?vy5) (by rfl) ?ey5 ?ry5
      case ey5 => (intro w' hw'; obtain ⟨c0, c1, c2, c3⟩ := open0.out w' hw'; go_simp; try with_reducible rfl)
      try simp only [Act.put, List.setIfInBounds_toArray, List.set_cons_zero, List.set_cons_succ]
      refine wpQuiet_nil (fun w' hw' => ?_)
      obtain ⟨e0, e1, e2, e3⟩ := keyC.out w' hw'
      refine wpList_nil ?_
      gi_wp2
      exact ⟨KeepsFrom.below hw', Keeps.of_below hw', ⟨e0, e1, pa, LN, pc, vs, e2, by rw [hr.out]; exact (O1.out.kept hw').wide hw'.size (Nat.le_refl _), by rw [hr.out]; exact hLN.out⟩, below2 iB hw'⟩
    · have hr : Hid (loF n h (pre ++ [(p, q)]) = LL ++ [plR (p, q)]) := Lib.hid (by rw [hnext, if_pos hcs])
      clear hnext
      gi_wp2_with fail
      refine wpIn_calm 5 (fun w' => Below W.heap.size W w') (by kernel_rfl) (by kernel_rfl) (by rintro ⟨_, _, h⟩; exact h) (by kernel_rfl) (by kernel_rfl) (by kernel_rfl) (belowN (Below.refl _ _) 1) ?_
      simp only [List.take_succ_cons, List.take_zero, List.drop_succ_cons, List.drop_zero]
      refine calm_take (v := ?vy6) (by rfl) ?ey6 ?ry6
      case ey6 => (intro w' hw'; obtain ⟨c0, c1, c2, c3⟩ := open0.out w' hw'; go_simp; try with_reducible rfl)
      try simp only [Act.put, List.setIfInBounds_toArray, List.set_cons_zero, List.set_cons_succ]
      refine calm_take (v := ?vy7) (by rfl) ?ey7 ?ry7
      case ey7 => (intro w' hw'; obtain ⟨c0, c1, c2, c3⟩ := open0.out w' hw'; go_simp; try with_reducible rfl)
      try simp only [Act.put, List.setIfInBounds_toArray, List.set_cons_zero, List.set_cons_succ]
      refine calm_call (v := .int .i64 z) (f := ?fy8) (args := ?ay8) (by rfl) ?ey8 ?cy8 ?ry8
      case ey8 => (intro w' hw'; obtain ⟨c0, c1, c2, c3⟩ := open0.out w' hw'; go_simp; try (go_invoke; go_simp); first | (with_reducible rfl) | (refine ⟨?_, ?_⟩ <;> with_reducible rfl))
      case cy8 => (intro w' hw'; with_reducible exact calm_ret hw' (cA.out w' hw'))
      try simp only [Act.put, List.setIfInBounds_toArray, List.set_cons_zero, List.set_cons_succ]
      refine calm_take (v := ?vy9) (by rfl) ?ey9 ?ry9
      case ey9 => (intro w' hw'; obtain ⟨c0, c1, c2, c3⟩ := open0.out w' hw'; go_simp; try with_reducible rfl)
      try simp only [Act.put, List.setIfInBounds_toArray, List.set_cons_zero, List.set_cons_succ]
      refine calm_take (v := ?vy10) (by rfl) ?ey10 ?ry10
      case ey10 => (intro w' hw'; obtain ⟨c0, c1, c2, c3⟩ := open0.out w' hw'; go_simp; try with_reducible rfl)
      try simp only [Act.put, List.setIfInBounds_toArray, List.set_cons_zero, List.set_cons_succ]
      refine wpQuiet_nil (fun w' hw' => ?_)
      obtain ⟨e0, e1, k0, k3⟩ := keyC.out w' hw'
      have O := Lib.hid (O1.out.kept hw')
      have hw9 := hw'.size
      generalize w' = w5 at e0 e1 k0 k3 O hw' hw9 ⊢
      refine wpList_nil ?_
      gi_wp2_with fail
      have hfar : Hid (∀ b, b < LO → some b ≠ (Value.slice pa LN pc).ownBlock) := Lib.hid (fun b hb e => by have := (O.out.top.lt b e.symm).1; omega)
      have hfarB : Hid (∀ b : Nat, some B ≠ (Value.slice pa LN pc).ownBlock) := Lib.hid (fun b => own_not_box O.out.top k3 (by decide))
      refine wpIn_held_tail (S := (fun w'' => w''.heap[N + 1 + 1]? = some (.cells #[.slice pa LN pc] 22 (0, 0)) ∧ w''.heap[B]? = some (.cells #[.int .i64 (p : Int), .int .i64 (q : Int)] 46 (0, 0)))) 5 (by kernel_rfl) (by kernel_rfl) (by rintro ⟨_, _, h⟩; exact h) (by kernel_rfl) (by kernel_rfl) ⟨k0, k3⟩ (fun hHeld => ?_)
      simp only [List.take_succ_cons, List.take_zero]
      refine wpAnyH_take (i := 0) (oi := ⟨some 17, _, _, _, _, _⟩) (v := ?vy110) rfl (by kernel_rfl) (by kernel_rfl) (by kernel_rfl) (fun _ _ _ h => h) (Or.inl ⟨by rfl, ?hy110⟩) (by assumption) ?ry110
      case hy110 => (intro w'' hSw; obtain ⟨s0, s1⟩ := hSw; have s2 := cellB s0 0 _ rfl; have s3 := cellB s1 0 _ rfl; have s4 := cellB s1 1 _ rfl; clear s0 s1; go_simp; try with_reducible rfl)
      try simp only [Act.put, List.setIfInBounds_toArray, List.set_cons_zero, List.set_cons_succ]
      refine wpAnyH_take (i := 1) (oi := ⟨some 18, _, _, _, _, _⟩) (v := ?vy111) rfl (by kernel_rfl) (by kernel_rfl) (by kernel_rfl) (fun _ _ _ h => h) (Or.inl ⟨by rfl, ?hy111⟩) (by assumption) ?ry111
      case hy111 => (intro w'' hSw; obtain ⟨s0, s1⟩ := hSw; have s2 := cellB s0 0 _ rfl; have s3 := cellB s1 0 _ rfl; have s4 := cellB s1 1 _ rfl; clear s0 s1; go_simp; try with_reducible rfl)
      try simp only [Act.put, List.setIfInBounds_toArray, List.set_cons_zero, List.set_cons_succ]
      refine wpAnyH_ready (rs := [2]) (by kernel_rfl) (by simp) ?_
      refine AllReadyH.cons (o := ⟨some 19, _, _, _, _, _⟩) rfl (fun K hK => ?_) AllReadyH.nil
      go_simp
      refine (numbers_any p q hp9 hq9 _).mono ?_
      rintro e w2 ⟨g2, c2, rfl, own2, b2⟩
      try go_wp2_with fail
      refine hK.out _ _ ?_ (fun hHeld2 => ?_)
      · exact ⟨(b2.block _ (lt_of_some hHeld.1)).trans hHeld.1, (b2.block _ (lt_of_some hHeld.2)).trans hHeld.2⟩
      clear hK K hHeld
      have hHeld := hHeld2
      clear hHeld2
      try simp only [Act.put, List.setIfInBounds_toArray, List.set_cons_zero, List.set_cons_succ]
      refine wpAnyH_ready (rs := [3]) (by kernel_rfl) (by simp) ?_
      refine AllReadyH.cons (o := ⟨some 20, _, _, _, _, _⟩) rfl (fun K hK => ?_) AllReadyH.nil
      go_simp
      try go_wp2_with fail
      refine hK.out _ _ ?_ (fun hHeld2 => ?_)
      · exact ⟨(Below.heap_alloc _ _ _ (lt_of_some hHeld.1)).trans hHeld.1, (Below.heap_alloc _ _ _ (lt_of_some hHeld.2)).trans hHeld.2⟩
      clear hK K hHeld
      have hHeld := hHeld2
      clear hHeld2
      try simp only [Act.put, List.setIfInBounds_toArray, List.set_cons_zero, List.set_cons_succ]
      refine wpAnyH_ready (rs := [4]) (by kernel_rfl) (by simp) ?_
      refine AllReadyH.cons (o := ⟨some 21, _, _, _, _, _⟩) rfl (fun K hK => ?_) AllReadyH.nil
      have O2 := Lib.hid (O.out.drewN 1)
      have b1s : w5.heap.size ≤ w2.heap.size := b2.size
      refine step_append_lies _ (by rfl) _ _ _ (by rfl) LO 39 i0 (.slice none 0 0) 1 24 Try.underlying22 hi hz0 hz1 hz2 rfl (by decide) _ LN vs (by rfl) (((O2.out.kept b2).top' hLN.out).alloc _) _ 1 1 [.slice (some ⟨g2, 0, none⟩) 2 c2] (by rfl) (by rfl) (World.news_of_block (heap_alloc_new _ _)) (by simp [Value.oneCell']) (by omega) (by unfold maxLen; omega) (by omega) (by simp; omega) _ rfl ?_
      intro g9 cap9 w9 hown9 hgrow9 hat9 hlt9
      have q0 := (hgrow9.block _ (lt_of_some hHeld.1) (hfar.out _ (by omega))).trans hHeld.1
      have q1 := (hgrow9.block _ (lt_of_some hHeld.2) (hfarB.out 0)).trans hHeld.2
      refine hK.out _ _ ?_ (fun hHeld2 => ?_)
      · exact ⟨q0, q1⟩
      clear hK K hHeld
      have hHeld := hHeld2
      clear hHeld2
      try simp only [Act.put, List.setIfInBounds_toArray, List.set_cons_zero, List.set_cons_succ]
      refine wpAnyH_done (by kernel_rfl) ?_ _
      refine tailQ_list (by simp) ?_
      simp only [List.drop_succ_cons, List.drop_zero]
      have kN := cellB q0 0 _ rfl
      have fN := freeB q0 0
      go_wp2
      gi_wp2
      have b5 : Below w5.heap.size w5 (w2.alloc (.cells #[.slice (some ⟨g2, 0, none⟩) 2 c2] 39)) := ((belowN (Below.refl _ w5) 1).trans b2).alloc b1s _
      have b3 := below2 hw' b5
      have Oc := (O2.out.kept b2).top' hLN.out
      have O9 := O2.out.snoc (w1 := w2.alloc (.cells #[.slice (some ⟨g2, 0, none⟩) 2 c2] 39)) (Z := plR (p, q)) (b2.alloc b1s _) (own2.alloc _) (plR_in hp9 hq9) hgrow9 (by rw [← hLN.out]; exact hown9) (by show LO ≤ w5.heap.size; omega) (by decide)
      have a0 := (hgrow9.block _ (Nat.lt_of_lt_of_le (lt_of_some e0) b5.size) (hfar.out _ (by omega))).trans ((b5.block _ (lt_of_some e0)).trans e0)
      have a1 := (hgrow9.block _ (Nat.lt_of_lt_of_le (lt_of_some e1) b5.size) (hfar.out _ (by omega))).trans ((b5.block _ (lt_of_some e1)).trans e1)
      have hbl : ∀ k, (Value.slice pa LN pc).ownBlock = some k → LO ≤ k := fun k hk => (Oc.lt k hk).1
      refine ⟨((KeepsFrom.below b3).trans (KeepsFrom.grown hgrow9 (fun k hk => own_isCells (Oc.alloc _) hk))).trans ((KeepsOthers.setCell w9 _ _).from _), ((Keeps.of_below b3).trans (Keeps.grown hgrow9 (fun k hk h => by have := hbl k hk; omega))).trans (Keeps.setCell _ _ (by simp) _), ⟨?_, ?_, some ⟨g9, 0, none⟩, LN + 1, cap9, vs ++ [.slice (some ⟨g2, 0, none⟩) 2 c2], ?_, ?_, ?_⟩, ?_⟩
      · rw [Below.heap_setCell _ _ _ _ (by show N ≠ N + 1 + 1; omega)]; exact a0
      · rw [Below.heap_setCell _ _ _ _ (by show N + 1 ≠ N + 1 + 1; omega)]; exact a1
      · exact heap_set q0 0 _ _ (by simp)
      · rw [hr.out]
        have := O9.beside (lo := N + 1 + 1) (hi := N + 1 + 1 + 1) (Beside.grown (grownBy_setCell' w9 (N + 1 + 1) (.slice (some ⟨g9, 0, none⟩) (LN + 1) cap9)) (fun k hk => by cases hk; omega)) (Or.inr (by omega))
        exact this.wide (by simp) (Nat.le_refl _)
      · rw [hr.out, List.length_append, hLN.out]; rfl
      · exact ((below2 iB b3).grown hgrow9 (Nat.le_trans iB.size b3.size) (fun k hk => by have := hbl k hk; omega)).setCell (p := ⟨N + 1 + 1, 0, none⟩) (by show w.heap.size ≤ N + 1 + 1; omega) _
  case done =>
    rintro K W hK ⟨⟨i0L, i1, pa, LN, pc, vs, i2, iO, hLNe⟩, iB⟩ hD
    have c0 := cellB i2 0 _ rfl
    have iO' := Lib.hid iO
    clear iO hLNe
    gi_wp2
    refine ⟨by simp, .inl ⟨_, _, rfl, run_takeDeferred hD, ?_⟩⟩
    refine ⟨.slice pa LN pc, ?_, .slice pa LN pc, vs, rfl, ?_, iB.trans (below_put _ _ (by omega) iB.size)⟩
    · simp [results, Try.f74, go_sem]
    · exact ((iO'.out.cells (SameCells.putObj _ hD rfl)).low (by omega)).wide (by simp) (Nat.le_refl _)
  case stop =>
    rintro K c pre W _ _ h _
    exact h.elim
end Go.Proofs.Ytcclahemmfjmgaa
