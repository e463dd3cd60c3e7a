/-
  The program's highest place.
-/
import Derived.Test.YtcclahemmfjmgaaPla2
namespace Go.Proofs.Ytcclahemmfjmgaa
open Go.ChangeShapes Go.WideShapes Go.ChangeAt Go.RowKit Go.Deep
set_option linter.unusedVariables false
set_option linter.unusedSimpArgs false
attribute [local go_sem] Oper.semAt_some
theorem GR.pl {w : World} {g o cap R C : Nat} {rg ro rc : Nat → Nat} {h : Nat → Nat → Int} (x : GR w g o cap R C rg ro rc h) {bg : Nat} (hb : w.cell? ⟨bg, 0, none⟩ = some (.slice (some ⟨g, o, none⟩) R cap)) : PlH w bg g o cap R C :=
  ⟨hb, fun i hi => ⟨_, _, x.top i hi⟩, x.R1, x.R10, x.C10⟩
/-- the first place with the greatest height -/
def hiF (h : Nat → Nat → Int) (L : List (Nat × Nat)) : Nat × Nat := L.foldl (fun b p => if h b.1 b.2 < h p.1 p.2 then p else b) (0, 0)
def hiV (G : List (List Int)) : Nat × Nat := if okG G then hiF (hG G) (plAll G.length (colsG G)) else (0, 0)
theorem hiF_next (h : Nat → Nat → Int) (L : List (Nat × Nat)) (p : Nat × Nat) : hiF h (L ++ [p]) = if h (hiF h L).1 (hiF h L).2 < h p.1 p.2 then p else hiF h L := by
  unfold hiF; rw [List.foldl_append]; rfl
theorem snoc_ind {α : Type} {P : List α → Prop} (h0 : P []) (h1 : ∀ L x, P L → P (L ++ [x])) (L : List α) : P L := by
  have : ∀ M : List α, P M.reverse := by
    intro M
    induction M with
    | nil => exact h0
    | cons x M ih => simpa using h1 _ x ih
  have := this L.reverse
  simpa using this
theorem hiF_in (h : Nat → Nat → Int) (L : List (Nat × Nat)) : hiF h L = (0, 0) ∨ hiF h L ∈ L := by
  refine snoc_ind (P := fun L => hiF h L = (0, 0) ∨ hiF h L ∈ L) (Or.inl rfl) (fun L p ih => ?_) L
  show hiF h (L ++ [p]) = (0, 0) ∨ hiF h (L ++ [p]) ∈ L ++ [p]
  · rw [hiF_next]
    split
    · exact Or.inr (by simp)
    · rcases ih with h1 | h1
      · exact Or.inl h1
      · exact Or.inr (by simp [h1])
theorem hiF_pre {R C : Nat} (hR : 1 ≤ R) (hC : 1 ≤ C) (h : Nat → Nat → Int) {pre : List (Nat × Nat)} (hp : pre <+: plAll R C) : (hiF h pre).1 < R ∧ (hiF h pre).2 < C := by
  rcases hiF_in h pre with h1 | h1
  · rw [h1]; exact ⟨hR, hC⟩
  · have := hp.subset h1
    exact mem_plAll.1 this
set_option maxRecDepth 100000 in
set_option maxHeartbeats 3200000 in
theorem implHighestOf_any (v : Value) (G : List (List Int)) (w : World) (hn : G.length + totL G ≤ 1048576) (hv : GridAt w v G) : Calls Try.prog 20 #[v] w fun e w' => e = .returned (.tuple #[.int .i64 ((hiV G).1 : Int), .int .i64 ((hiV G).2 : Int), .int .i64 (code (okG G) 1)]) ∧ Below w.heap.size w w' := by
  have cV := Lib.hid (implValidArch_any v G w hn hv)
  have hV : Hid (hiV G = if okG G then hiF (hG G) (plAll G.length (colsG G)) else (0, 0)) := Lib.hid rfl
  cases hok : okG G
  · rw [hok] at cV hV
    obtain ⟨a, cap, rfl, _⟩ := hv
    clear hok hn
    go_enter Try.func20, Try.ntmps20
    go_wp2_with (go_at_call 17; refine cV.out.mono ?_; rintro e w2 ⟨rfl, hd⟩)
    go_ret3
    exact ⟨by rw [hV.out]; rfl, hd.below⟩
  obtain ⟨g, o, cap, rg, ro, rc, rfl, hGR⟩ := grid_GR hv hok
  rw [hok] at cV hV
  rw [show hiV G = hiF (hG G) (plAll G.length (colsG G)) from hV.out]
  obtain ⟨R, hR⟩ : ∃ R, R = G.length := ⟨_, rfl⟩
  obtain ⟨C, hC⟩ : ∃ C, C = colsG G := ⟨_, rfl⟩
  obtain ⟨h, hh⟩ : ∃ h, h = hG G := ⟨_, rfl⟩
  rw [← hR] at cV
  rw [← hR, ← hC, ← hh] at hGR ⊢
  have hx := Lib.hid hGR
  clear hok hn hv hGR hV hR hC hh
  refine (callsIn_wide (n := 3)).1 ?_
  refine callsIn_of_wp_marks Try.func20 rfl trivial ?_ rfl
  simp only [Try.ntmps20, List.size_toArray, List.length_cons, List.length_nil, Nat.reduceAdd, Nat.reduceSub, Array.replicate_succ, Array.replicate_zero, List.push_toArray, List.append_toArray, List.nil_append, List.cons_append]
  gi_wp2_with fail
  refine ⟨trivial, (callsIn_wide.2 cV.out).mono ?_⟩
  rintro e w1 ⟨rfl, hd1⟩
  have hx1 := hx.out.below hd1.below
  have hd := Lib.hid hd1.below
  clear hd1
  gi_wp2_with fail
  refine ⟨trivial, (callsIn_wide.2 (places_any _ _ _ _)).mono ?_⟩
  rintro e w2 ⟨rfl, rfl⟩
  gi_wp2_with fail
  obtain ⟨N, hN⟩ : ∃ N, N = w1.heap.size := ⟨_, rfl⟩
  have g0 : (((w1.alloc (.cells #[.slice (some ⟨g, o, none⟩) R cap] 44)).alloc (.cells #[.int .i64 0, .int .i64 0] 46)).alloc (.cells #[.slice (some ⟨g, o, none⟩) R cap] 44)).heap[N]? = some (.cells #[.slice (some ⟨g, o, none⟩) R cap] 44 (0, 0)) := by
    rw [Below.heap_alloc _ _ _ (by simp; omega), Below.heap_alloc _ _ _ (by simp; omega), hN]; exact heap_alloc_new _ _
  have g1 : (((w1.alloc (.cells #[.slice (some ⟨g, o, none⟩) R cap] 44)).alloc (.cells #[.int .i64 0, .int .i64 0] 46)).alloc (.cells #[.slice (some ⟨g, o, none⟩) R cap] 44)).heap[N + 1]? = some (.cells #[.int .i64 0, .int .i64 0] 46 (0, 0)) := by
    rw [Below.heap_alloc _ _ _ (by simp; omega)]
    have := heap_alloc_new (w1.alloc (.cells #[.slice (some ⟨g, o, none⟩) R cap] 44)) (.cells #[.int .i64 0, .int .i64 0] 46)
    rw [hN]; simpa using this
  have g2 : (((w1.alloc (.cells #[.slice (some ⟨g, o, none⟩) R cap] 44)).alloc (.cells #[.int .i64 0, .int .i64 0] 46)).alloc (.cells #[.slice (some ⟨g, o, none⟩) R cap] 44)).heap[N + 1 + 1]? = some (.cells #[.slice (some ⟨g, o, none⟩) R cap] 44 (0, 0)) := by
    have := heap_alloc_new ((w1.alloc (.cells #[.slice (some ⟨g, o, none⟩) R cap] 44)).alloc (.cells #[.int .i64 0, .int .i64 0] 46)) (.cells #[.slice (some ⟨g, o, none⟩) R cap] 44)
    rw [hN]; simpa using this
  have gz : (((w1.alloc (.cells #[.slice (some ⟨g, o, none⟩) R cap] 44)).alloc (.cells #[.int .i64 0, .int .i64 0] 46)).alloc (.cells #[.slice (some ⟨g, o, none⟩) R cap] 44)).heap.size = N + 3 := by simp [hN]
  have gB : Below w1.heap.size w1 (((w1.alloc (.cells #[.slice (some ⟨g, o, none⟩) R cap] 44)).alloc (.cells #[.int .i64 0, .int .i64 0] 46)).alloc (.cells #[.slice (some ⟨g, o, none⟩) R cap] 44)) := (((Below.refl _ _).alloc (Nat.le_refl _) _).alloc (by simp) _).alloc (by simp <;> omega) _
  have gW := hd.out.trans (gB.mono hd.out.size)
  have hx2 := hx1.below gB
  have hwN : w.heap.size ≤ N := by rw [hN]; exact hd.out.size
  have hgN : g < N := by rw [hN]; exact hx1.gl
  rw [← hN]
  clear hx1 gB hd hN cV
  generalize ((w1.alloc (.cells #[.slice (some ⟨g, o, none⟩) R cap] 44)).alloc (.cells #[.int .i64 0, .int .i64 0] 46)).alloc (.cells #[.slice (some ⟨g, o, none⟩) R cap] 44) = W0 at g0 g1 g2 gz gW hx2 ⊢
  have hseq := places_seq 2 (N + 1 + 1) g o cap R C (fun b => b ≠ N + 1) W0 (hx2.pl (cellB g2 0 _ rfl)) (by simp) (by omega)
  have hbd := Lib.hid (fun pre hp => hiF_pre (R := R) (C := C) hx2.R1 hx2.C1 h (pre := pre) hp)
  refine' rangeP rfl (enters_of Try.func79 (by kernel_rfl) rfl) hseq
    (fun pre W => (W.heap[N]? = some (.cells #[.slice (some ⟨g, o, none⟩) R cap] 44 (0, 0)) ∧ W.heap[N + 1]? = some (.cells #[.int .i64 ((hiF h pre).1 : Int), .int .i64 ((hiF h pre).2 : Int)] 46 (0, 0))) ∧ Below w.heap.size w W)
    (fun _ _ _ => False)
    (fun s A B h hAB => ⟨⟨low_heap h.1.1 (by omega) hAB, low_heap h.1.2 (by omega) hAB⟩, h.2.trans (hAB.mono (by omega))⟩)
    (fun _ _ _ _ h _ => h)
    ⟨⟨g0, g1⟩, gW⟩ ?assign ?body ?done ?stop
  case assign =>
    rintro l B x W K hB hK
    unfold encP
    gi_wp2
    exact hK
  case body =>
    rintro l B pre ⟨p, q⟩ W hpre hl hlB hBW ⟨⟨i0, i1⟩, iB⟩ hBx hWz
    obtain ⟨hp, hq, _⟩ := pre_place hpre
    obtain ⟨hb1, hb2⟩ := hbd.out pre ((List.prefix_append _ _).trans hpre)
    have hnext := hiF_next h pre (p, q)
    obtain ⟨⟨b1, b2⟩, hbe⟩ : ∃ b, b = hiF h pre := ⟨_, rfl⟩
    rw [← hbe] at i1 hb1 hb2 hnext
    dsimp only at i1 hb1 hb2 hnext hBx hp hq ⊢
    have hz := Lib.hid (hx.out.below iB)
    have cA0 := fun w' (hw' : Below W.heap.size W w') => at_any g o cap R C rg ro rc h w' (hz.out.below hw') p q hp hq
    have cB0 := fun w' (hw' : Below W.heap.size W w') => at_any g o cap R C rg ro rc h w' (hz.out.below hw') b1 b2 hb1 hb2
    unfold encP at cA0 cB0
    dsimp only at cA0 cB0
    obtain ⟨z1, hz1⟩ : ∃ z, z = h p q := ⟨_, rfl⟩
    obtain ⟨z2, hz2⟩ : ∃ z, z = h b1 b2 := ⟨_, rfl⟩
    rw [← hz1] at cA0 hnext
    rw [← hz2] at cB0 hnext
    have cA := Lib.hid cA0
    have cB := Lib.hid cB0
    have hN1 : N < W.heap.size := by omega
    have hN2 : N + 1 < W.heap.size := by omega
    have keyC : Hid (∀ w', Below W.heap.size W w' → w'.heap[N]? = some (.cells #[.slice (some ⟨g, o, none⟩) R cap] 44 (0, 0)) ∧ w'.heap[N + 1]? = some (.cells #[.int .i64 (b1 : Int), .int .i64 (b2 : Int)] 46 (0, 0)) ∧ w'.heap[B]? = some (.cells #[.int .i64 (p : Int), .int .i64 (q : Int)] 46 (0, 0))) := Lib.hid (fun w' hw' => ⟨(hw'.block _ hN1).trans i0, (hw'.block _ hN2).trans i1, (hw'.block _ hBW).trans hBx⟩)
    have hBN : B ≠ N + 1 := by omega
    clear hz1 hz2 hbe cA0 cB0 hpre i0 i1 hBx hp hq hb1 hb2
    have open0 : Hid (∀ w', Below W.heap.size W w' → w'.cell? ⟨N, 0, none⟩ = some (.slice (some ⟨g, o, none⟩) R cap) ∧ w'.cell? ⟨N + 1, 0, none⟩ = some (.int .i64 (b1 : Int)) ∧ w'.cell? ⟨N + 1, 1, none⟩ = some (.int .i64 (b2 : Int)) ∧ w'.cell? ⟨B, 0, none⟩ = some (.int .i64 (p : Int)) ∧ w'.cell? ⟨B, 1, none⟩ = some (.int .i64 (q : Int))) := Lib.hid (fun w' hw' => by
      obtain ⟨e0, e1, e2⟩ := keyC.out w' hw'
      exact ⟨cellB e0 0 _ rfl, cellB e1 0 _ rfl, cellB e1 1 _ rfl, cellB e2 0 _ rfl, cellB e2 1 _ rfl⟩)
    by_cases hlt : z2 < z1
    · have hr : Hid (hiF h (pre ++ [(p, q)]) = (p, q)) := Lib.hid (by rw [hnext, if_pos hlt])
      clear hnext
      gi_wp2_with fail
      refine wpIn_calm 7 (fun w' => Below W.heap.size W w') (by kernel_rfl) (by kernel_rfl) (by rintro ⟨_, _, h⟩; exact h) (by kernel_rfl) (by kernel_rfl) (by kernel_rfl) (belowN (Below.refl _ _) 1) ?_
      simp only [List.take_succ_cons, List.take_zero, List.drop_succ_cons, List.drop_zero]
      refine calm_take (v := ?vy1) (by rfl) ?ey1 ?ry1
      case ey1 => (intro w' hw'; obtain ⟨c0, c1, c2, c3, c4⟩ := open0.out w' hw'; go_simp; try with_reducible rfl)
      try simp only [Act.put, List.setIfInBounds_toArray, List.set_cons_zero, List.set_cons_succ]
      refine calm_take (v := ?vy2) (by rfl) ?ey2 ?ry2
      case ey2 => (intro w' hw'; obtain ⟨c0, c1, c2, c3, c4⟩ := open0.out w' hw'; go_simp; try with_reducible rfl)
      try simp only [Act.put, List.setIfInBounds_toArray, List.set_cons_zero, List.set_cons_succ]
      refine calm_call (v := .int .i64 z1) (f := ?fy3) (args := ?ay3) (by rfl) ?ey3 ?cy3 ?ry3
      case ey3 => (intro w' hw'; obtain ⟨c0, c1, c2, c3, c4⟩ := open0.out w' hw'; go_simp; first | (with_reducible rfl) | (refine ⟨?_, ?_⟩ <;> with_reducible rfl))
      case cy3 => (intro w' hw'; with_reducible exact calm_ret hw' (cA.out w' hw'))
      try simp only [Act.put, List.setIfInBounds_toArray, List.set_cons_zero, List.set_cons_succ]
      refine calm_take (v := ?vy4) (by rfl) ?ey4 ?ry4
      case ey4 => (intro w' hw'; obtain ⟨c0, c1, c2, c3, c4⟩ := open0.out w' hw'; go_simp; try with_reducible rfl)
      try simp only [Act.put, List.setIfInBounds_toArray, List.set_cons_zero, List.set_cons_succ]
      refine calm_take (v := ?vy5) (by rfl) ?ey5 ?ry5
      case ey5 => (intro w' hw'; obtain ⟨c0, c1, c2, c3, c4⟩ := open0.out w' hw'; go_simp; try with_reducible rfl)
      try simp only [Act.put, List.setIfInBounds_toArray, List.set_cons_zero, List.set_cons_succ]
      refine calm_call (v := .int .i64 z2) (f := ?fy6) (args := ?ay6) (by rfl) ?ey6 ?cy6 ?ry6
      case ey6 => (intro w' hw'; obtain ⟨c0, c1, c2, c3, c4⟩ := open0.out w' hw'; go_simp; first | (with_reducible rfl) | (refine ⟨?_, ?_⟩ <;> with_reducible rfl))
      case cy6 => (intro w' hw'; with_reducible exact calm_ret hw' (cB.out w' hw'))
      try simp only [Act.put, List.setIfInBounds_toArray, List.set_cons_zero, List.set_cons_succ]
      refine calm_take (v := ?vy7) (by rfl) ?ey7 ?ry7
      case ey7 => (intro w' hw'; obtain ⟨c0, c1, c2, c3, c4⟩ := open0.out w' hw'; go_simp; try with_reducible rfl)
      try simp only [Act.put, List.setIfInBounds_toArray, List.set_cons_zero, List.set_cons_succ]
      refine wpQuiet_nil (fun w' hw' => ?_)
      obtain ⟨e0, e1, e2⟩ := keyC.out w' hw'
      obtain ⟨c0, c1, c2, c3, c4⟩ := open0.out w' hw'
      have f0 := freeB e1 0
      have f1 := freeB e1 1
      refine wpList_nil ?_
      gi_wp2
      refine ⟨(KeepsFrom.below hw').trans (((KeepsOthers.setCell w' _ _).trans (KeepsOthers.setCell _ _ _)).from _), (Keeps.of_below hw').trans ((Keeps.setCell _ _ (by simp) _).trans (Keeps.setCell _ _ (by simp) _)), ⟨(other2 (by omega)).trans e0, ?_⟩, ((below2 iB hw').setCell (p := ⟨N + 1, 0, none⟩) (by show w.heap.size ≤ N + 1; omega) _).setCell (p := ⟨N + 1, 1, none⟩) (by show w.heap.size ≤ N + 1; omega) _⟩
      rw [hr.out]
      exact heap_set2 e1
    · have hr : Hid (hiF h (pre ++ [(p, q)]) = (b1, b2)) := Lib.hid (by rw [hnext, if_neg hlt])
      clear hnext
      gi_wp2_with fail
      refine wpIn_calm 7 (fun w' => Below W.heap.size W w') (by kernel_rfl) (by kernel_rfl) (by rintro ⟨_, _, h⟩; exact h) (by kernel_rfl) (by kernel_rfl) (by kernel_rfl) (belowN (Below.refl _ _) 1) ?_
      simp only [List.take_succ_cons, List.take_zero, List.drop_succ_cons, List.drop_zero]
      refine calm_take (v := ?vy8) (by rfl) ?ey8 ?ry8
      case ey8 => (intro w' hw'; obtain ⟨c0, c1, c2, c3, c4⟩ := open0.out w' hw'; go_simp; try with_reducible rfl)
      try simp only [Act.put, List.setIfInBounds_toArray, List.set_cons_zero, List.set_cons_succ]
      refine calm_take (v := ?vy9) (by rfl) ?ey9 ?ry9
      case ey9 => (intro w' hw'; obtain ⟨c0, c1, c2, c3, c4⟩ := open0.out w' hw'; go_simp; try with_reducible rfl)
      try simp only [Act.put, List.setIfInBounds_toArray, List.set_cons_zero, List.set_cons_succ]
      refine calm_call (v := .int .i64 z1) (f := ?fy10) (args := ?ay10) (by rfl) ?ey10 ?cy10 ?ry10
      case ey10 => (intro w' hw'; obtain ⟨c0, c1, c2, c3, c4⟩ := open0.out w' hw'; go_simp; first | (with_reducible rfl) | (refine ⟨?_, ?_⟩ <;> with_reducible rfl))
      case cy10 => (intro w' hw'; with_reducible exact calm_ret hw' (cA.out w' hw'))
      try simp only [Act.put, List.setIfInBounds_toArray, List.set_cons_zero, List.set_cons_succ]
      refine calm_take (v := ?vy11) (by rfl) ?ey11 ?ry11
      case ey11 => (intro w' hw'; obtain ⟨c0, c1, c2, c3, c4⟩ := open0.out w' hw'; go_simp; try with_reducible rfl)
      try simp only [Act.put, List.setIfInBounds_toArray, List.set_cons_zero, List.set_cons_succ]
      refine calm_take (v := ?vy12) (by rfl) ?ey12 ?ry12
      case ey12 => (intro w' hw'; obtain ⟨c0, c1, c2, c3, c4⟩ := open0.out w' hw'; go_simp; try with_reducible rfl)
      try simp only [Act.put, List.setIfInBounds_toArray, List.set_cons_zero, List.set_cons_succ]
      refine calm_call (v := .int .i64 z2) (f := ?fy13) (args := ?ay13) (by rfl) ?ey13 ?cy13 ?ry13
      case ey13 => (intro w' hw'; obtain ⟨c0, c1, c2, c3, c4⟩ := open0.out w' hw'; go_simp; first | (with_reducible rfl) | (refine ⟨?_, ?_⟩ <;> with_reducible rfl))
      case cy13 => (intro w' hw'; with_reducible exact calm_ret hw' (cB.out w' hw'))
      try simp only [Act.put, List.setIfInBounds_toArray, List.set_cons_zero, List.set_cons_succ]
      refine calm_take (v := ?vy14) (by rfl) ?ey14 ?ry14
      case ey14 => (intro w' hw'; obtain ⟨c0, c1, c2, c3, c4⟩ := open0.out w' hw'; go_simp; try with_reducible rfl)
      try simp only [Act.put, List.setIfInBounds_toArray, List.set_cons_zero, List.set_cons_succ]
      refine wpQuiet_nil (fun w' hw' => ?_)
      obtain ⟨e0, e1, e2⟩ := keyC.out w' hw'
      refine wpList_nil ?_
      gi_wp2
      exact ⟨KeepsFrom.below hw', Keeps.of_below hw', ⟨e0, by rw [hr.out]; exact e1⟩, below2 iB hw'⟩
  case done =>
    rintro K W hK ⟨⟨i0, i1⟩, iB⟩ hD
    obtain ⟨⟨b1, b2⟩, hbe⟩ : ∃ b, b = hiF h (plAll R C) := ⟨_, rfl⟩
    rw [← hbe] at i1
    have hval := Lib.hid hbe
    dsimp only at i1
    have c0 := cellB i1 0 _ rfl
    have c1 := cellB i1 1 _ rfl
    clear hbe
    gi_wp2_with fail
    refine wpIn_wide.2 ?_
    go_quiet (fail)
    gi_wp2
    have hD' : (W.drewN nq).heap[K]? = some (.deferred (some [])) := hD
    have hb3 := (World.putObj_heap_other (o := .deferred none) (show N + 1 ≠ K by omega)).trans i1
    refine ⟨by simp, .inl ⟨_, _, rfl, run_takeDeferred hD', ?_⟩⟩
    refine ⟨.tuple #[.int .i64 (b1 : Int), .int .i64 (b2 : Int), .int .i64 0], ?_, by rw [← hval.out]; rfl, ?_⟩
    · simp [results, Try.f20, go_sem]
    · have hp : Below w.heap.size (W.drewN nq) ((W.drewN nq).putObj K (.deferred none)) := below_put (n := w.heap.size) (W.drewN nq) _ (by omega) iB.size
      exact (belowN iB nq).trans hp
  case stop =>
    rintro K c pre W _ _ h _
    exact h.elim
end Go.Proofs.Ytcclahemmfjmgaa
