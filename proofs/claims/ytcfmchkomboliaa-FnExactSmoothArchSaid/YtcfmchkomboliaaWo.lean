/-
  The sum of all heights over a height: the program and the model.
-/
import Derived.Test.YtcfmchkomboliaaWood
namespace Go.Proofs.Ytcfmchkomboliaa
open Go.ChangeShapes Go.WideShapes Go.ChangeAt Go.RowKit Go.Deep
set_option linter.unusedVariables false
set_option linter.unusedSimpArgs false
attribute [local go_sem] Oper.semAt_some
theorem code1_any (b : Nat) (v : Value) (G : List (List Int)) (num : Int) (w : World) (hb : b < w.heap.size) (hc : w.cell? ⟨b, 0, none⟩ = some v) (hv : GridAt w v G) (hn : G.length + totL G ≤ 1048576) :
    Calls Try.prog 71 #[.int .i64 num, .slice (some ⟨b, 0, none⟩) 1 1] w fun e w' => e = .returned (.int .i64 (codeG (okG G) (inB num 0 1000))) ∧ DrewOf w w' := by
  have := codeOfGrids_any b 1 (fun _ => v) (fun _ => G) num w (by omega) hb (fun j hj => ⟨by rw [show j = 0 by omega]; exact hc, hv, hn⟩)
  rwa [show allG 1 (fun _ => G) = okG G by rw [allG_next]; rfl] at this
def woF (n : Int) (h : Nat → Nat → Int) (L : List (Nat × Nat)) : Int := L.foldl (fun s p => s + maxG 0 (h p.1 p.2 - n)) 0
def woV (G : List (List Int)) (n : Int) : Int := if okG G && inB n 0 1000 then woF n (hG G) (plAll G.length (colsG G)) else 0
theorem woF_next (n : Int) (h : Nat → Nat → Int) (L : List (Nat × Nat)) (p : Nat × Nat) : woF n h (L ++ [p]) = woF n h L + maxG 0 (h p.1 p.2 - n) := by
  unfold woF; rw [List.foldl_append]; rfl
theorem woF_bd0 {R C : Nat} {n : Int} (hn0 : 0 ≤ n) (h : Nat → Nat → Int) (h1 : ∀ i k, i < R → k < C → h i k ≤ 1000) (L : List (Nat × Nat)) : L <+: plAll R C → 0 ≤ woF n h L ∧ woF n h L ≤ 1000 * L.length := by
  refine snoc_ind (P := fun L => L <+: plAll R C → 0 ≤ woF n h L ∧ woF n h L ≤ 1000 * L.length) (fun _ => ⟨Int.le_refl _, by unfold woF; simp⟩) (fun L p ih hp => ?_) L
  obtain ⟨a, b, _⟩ := pre_place hp
  have i := ih ((List.prefix_append _ _).trans hp)
  have e := h1 p.1 p.2 a b
  show 0 ≤ woF n h (L ++ [p]) ∧ woF n h (L ++ [p]) ≤ 1000 * (L ++ [p]).length
  rw [woF_next, List.length_append]
  simp only [List.length_singleton]
  unfold maxG; split <;> omega
theorem woF_bd {R C : Nat} (hR : R ≤ 10) (hC : C ≤ 10) {n : Int} (hn0 : 0 ≤ n) (h : Nat → Nat → Int) (h1 : ∀ i k, i < R → k < C → h i k ≤ 1000) (L : List (Nat × Nat)) (hp : L <+: plAll R C) : 0 ≤ woF n h L ∧ woF n h L ≤ 1000000 := by
  have i := woF_bd0 hn0 h h1 L hp
  have l := hp.length_le
  unfold plAll at l
  rw [plTo_len] at l
  have : R * C ≤ 10 * 10 := Nat.mul_le_mul hR hC
  omega
set_option maxRecDepth 100000 in
set_option maxHeartbeats 3200000 in
theorem implWoodOver_any (v : Value) (G : List (List Int)) (n : Int) (w : World) (hn : G.length + totL G ≤ 1048576) (hv : GridAt w v G) : Calls Try.prog 36 #[v, .int .i64 n] w fun e w' => e = .returned (.tuple #[.int .i64 (woV G n), .int .i64 (codeG (okG G) (inB n 0 1000))]) ∧ Below w.heap.size w w' := by
  have hV : Hid (woV G n = if okG G && inB n 0 1000 then woF n (hG G) (plAll G.length (colsG G)) else 0) := Lib.hid rfl
  obtain ⟨a, cap, rfl, hrest⟩ := hv
  have hv : GridAt w (.slice a G.length cap) G := ⟨a, cap, rfl, hrest⟩
  clear hrest
  have hB1 : Below w.heap.size w (w.alloc (.cells #[.slice a G.length cap] 22)) := (Below.refl _ _).alloc (Nat.le_refl _) _
  have cV := Lib.hid (code1_any w.heap.size (.slice a G.length cap) G n (w.alloc (.cells #[.slice a G.length cap] 22)) (by simp) (cellB (heap_alloc_new w (.cells #[.slice a G.length cap] 22)) 0 _ rfl) (hv.below hB1) hn)
  cases hok : okG G && inB n 0 1000
  · rw [hok] at hV
    have hc : Hid (codeG (okG G) (inB n 0 1000) = 1 ∨ codeG (okG G) (inB n 0 1000) = 2) := Lib.hid (by
      unfold codeG; cases h1 : okG G
      · exact Or.inl rfl
      · rw [h1] at hok; simp at hok; rw [hok]; exact Or.inr rfl)
    obtain ⟨cd, hcd⟩ : ∃ c, c = codeG (okG G) (inB n 0 1000) := ⟨_, rfl⟩
    rw [← hcd] at cV hc ⊢
    clear hok hn hv hB1 hcd
    rcases hc.out with rfl | rfl
    all_goals
      go_enter Try.func36, Try.ntmps36
      go_wp2_with (go_at_call 71; refine cV.out.mono ?_; rintro e w2 ⟨rfl, hd⟩)
      go_ret2
      exact ⟨by rw [hV.out]; rfl, ((Below.refl _ _).alloc (Nat.le_refl _) _).trans (hd.below.mono (by simp))⟩
  have hok1 : okG G = true := by rw [Bool.and_eq_true] at hok; exact hok.1
  have hnb : inB n 0 1000 = true := by rw [Bool.and_eq_true] at hok; exact hok.2
  have hn01 : 0 ≤ n ∧ n ≤ 1000 := by simpa [inB] using hnb
  rw [hok1, hnb] at cV
  rw [hok] at hV
  rw [show woV G n = woF n (hG G) (plAll G.length (colsG G)) from hV.out, hok1, hnb]
  obtain ⟨hn0, hn1⟩ := hn01
  obtain ⟨g, o, cap', rg, ro, rc, hva, hGR⟩ := grid_GR hv hok1
  injection hva with ha _ hca
  subst ha hca
  obtain ⟨R, hR⟩ : ∃ R, R = G.length := ⟨_, rfl⟩
  obtain ⟨C, hC⟩ : ∃ C, C = colsG G := ⟨_, rfl⟩
  obtain ⟨h, hh⟩ : ∃ h, h = hG G := ⟨_, rfl⟩
  rw [← hR] at cV
  rw [← hR, ← hC, ← hh] at hGR ⊢
  have hx := Lib.hid hGR
  clear hok hok1 hnb hn hv hGR hV hR hC hh hB1
  refine (callsIn_wide (n := 3)).1 ?_
  refine callsIn_of_wp_marks Try.func36 rfl trivial ?_ rfl
  simp only [Try.ntmps36, List.size_toArray, List.length_cons, List.length_nil, Nat.reduceAdd, Nat.reduceSub, Array.replicate_succ, Array.replicate_zero, List.push_toArray, List.append_toArray, List.nil_append, List.cons_append]
  gi_wp2_with fail
  refine ⟨trivial, (callsIn_wide.2 cV.out).mono ?_⟩
  rintro e w1 ⟨rfl, hd1⟩
  have hdB : Below w.heap.size w w1 := ((Below.refl _ _).alloc (Nat.le_refl _) _).trans (hd1.below.mono (by simp))
  have hx1 := hx.out.below hdB
  have hd := Lib.hid hdB
  clear hd1 hdB
  gi_wp2_with fail
  refine ⟨trivial, (callsIn_wide.2 (places_any _ _ _ _)).mono ?_⟩
  rintro e w2 ⟨rfl, rfl⟩
  gi_wp2_with fail
  obtain ⟨N, hN⟩ : ∃ N, N = w1.heap.size := ⟨_, rfl⟩
  have g0 : (((w1.alloc (.cells #[.int .i64 0] 2)).alloc (.cells #[.iface 44 (.slice (some ⟨g, o, none⟩) R cap), .iface 68 (.int .i64 n)] 72)).alloc (.cells #[.slice (some ⟨g, o, none⟩) R cap] 44)).heap[N]? = some (.cells #[.int .i64 0] 2 (0, 0)) := by
    rw [Below.heap_alloc _ _ _ (by simp; omega)]
    rw [Below.heap_alloc _ _ _ (by simp; omega)]
    have := heap_alloc_new (w1) (.cells #[.int .i64 0] 2)
    rw [hN]; simpa using this
  have g1 : (((w1.alloc (.cells #[.int .i64 0] 2)).alloc (.cells #[.iface 44 (.slice (some ⟨g, o, none⟩) R cap), .iface 68 (.int .i64 n)] 72)).alloc (.cells #[.slice (some ⟨g, o, none⟩) R cap] 44)).heap[N + 1]? = some (.cells #[.iface 44 (.slice (some ⟨g, o, none⟩) R cap), .iface 68 (.int .i64 n)] 72 (0, 0)) := by
    rw [Below.heap_alloc _ _ _ (by simp; omega)]
    have := heap_alloc_new ((w1.alloc (.cells #[.int .i64 0] 2))) (.cells #[.iface 44 (.slice (some ⟨g, o, none⟩) R cap), .iface 68 (.int .i64 n)] 72)
    rw [hN]; simpa using this
  have g2 : (((w1.alloc (.cells #[.int .i64 0] 2)).alloc (.cells #[.iface 44 (.slice (some ⟨g, o, none⟩) R cap), .iface 68 (.int .i64 n)] 72)).alloc (.cells #[.slice (some ⟨g, o, none⟩) R cap] 44)).heap[N + 1 + 1]? = some (.cells #[.slice (some ⟨g, o, none⟩) R cap] 44 (0, 0)) := by
    have := heap_alloc_new (((w1.alloc (.cells #[.int .i64 0] 2)).alloc (.cells #[.iface 44 (.slice (some ⟨g, o, none⟩) R cap), .iface 68 (.int .i64 n)] 72))) (.cells #[.slice (some ⟨g, o, none⟩) R cap] 44)
    rw [hN]; simpa using this
  have gz : (((w1.alloc (.cells #[.int .i64 0] 2)).alloc (.cells #[.iface 44 (.slice (some ⟨g, o, none⟩) R cap), .iface 68 (.int .i64 n)] 72)).alloc (.cells #[.slice (some ⟨g, o, none⟩) R cap] 44)).heap.size = N + 3 := by simp [hN]
  have gB : Below w1.heap.size w1 (((w1.alloc (.cells #[.int .i64 0] 2)).alloc (.cells #[.iface 44 (.slice (some ⟨g, o, none⟩) R cap), .iface 68 (.int .i64 n)] 72)).alloc (.cells #[.slice (some ⟨g, o, none⟩) R cap] 44)) := (((Below.refl _ _).alloc (by simp <;> omega) _).alloc (by simp <;> omega) _).alloc (by simp <;> omega) _
  have gW := hd.out.trans (gB.mono hd.out.size)
  have hx2 := hx1.below gB
  have hwN : w.heap.size ≤ N := by rw [hN]; exact hd.out.size
  have hgN : g < N := by rw [hN]; exact hx1.gl
  rw [← hN]
  clear hx1 gB hd hN cV
  generalize (((w1.alloc (.cells #[.int .i64 0] 2)).alloc (.cells #[.iface 44 (.slice (some ⟨g, o, none⟩) R cap), .iface 68 (.int .i64 n)] 72)).alloc (.cells #[.slice (some ⟨g, o, none⟩) R cap] 44)) = W0 at g0 g1 g2 gz gW hx2 ⊢
  have hseq := places_seq 2 (N + 1 + 1) g o cap R C (fun b => b ≠ N) W0 (hx2.pl (cellB g2 0 _ rfl)) (show N + 1 + 1 ≠ N by omega) (by omega)
  have hbd := Lib.hid (fun pre hp => woF_bd (R := R) (C := C) hx2.R10 hx2.C10 hn0 h hx2.h1 pre hp)
  refine' rangeP rfl (enters_of Try.func77 (by kernel_rfl) rfl) hseq
    (fun pre W => (W.heap[N]? = some (.cells #[.int .i64 (woF n h pre)] 2 (0, 0)) ∧ W.heap[N + 1]? = some (.cells #[.iface 44 (.slice (some ⟨g, o, none⟩) R cap), .iface 68 (.int .i64 n)] 72 (0, 0))) ∧ Below w.heap.size w W)
    (fun _ _ _ => False)
    (fun s A B h hAB => ⟨⟨low_heap h.1.1 (by omega) hAB, low_heap h.1.2 (by omega) hAB⟩, h.2.trans (hAB.mono (by omega))⟩)
    (fun _ _ _ _ h _ => h)
    ⟨⟨g0, g1⟩, gW⟩ ?assign ?body ?done ?stop
  case assign =>
    rintro l B x W K hB hK
    unfold encP
    gi_wp2
    exact hK
  case body =>
    rintro l B pre ⟨p, q⟩ W hpre hl hlB hBW ⟨⟨i0, i1⟩, iB⟩ hBx hWz
    obtain ⟨hp, hq, hpl⟩ := pre_place hpre
    clear hpl
    have hsb := hbd.out pre ((List.prefix_append _ _).trans hpre)
    have hnext := woF_next n h pre (p, q)
    obtain ⟨s, hse⟩ : ∃ s, s = woF n h pre := ⟨_, rfl⟩
    rw [← hse] at i0 hsb hnext
    dsimp only at i0 hsb hnext hBx hp hq ⊢
    have hz := Lib.hid (hx.out.below iB)
    have cA0 := fun w' (hw' : Below W.heap.size W w') => wood_flat g o cap R C rg ro rc h n hn0 hn1 w' (hz.out.below hw') p q hp hq
    unfold encP at cA0
    dsimp only at cA0
    have z1a := hz.out.h0 p q hp hq
    have z1b := hz.out.h1 p q hp hq
    obtain ⟨z1, hz1⟩ : ∃ z, z = h p q - n := ⟨_, rfl⟩
    rw [← hz1] at cA0 hnext
    have zb : -1000 ≤ z1 ∧ z1 ≤ 1000 := by omega
    have cA := Lib.hid cA0
    have hwz : IntKind.i64.wrap (s + z1) = s + z1 := IntWalk.i64_in _ (by omega)
    have hws : IntKind.i64.wrap s = s := IntWalk.i64_in _ (by omega)
    have hws0 : IntKind.i64.wrap (s + 0) = s := by rw [Int.add_zero]; exact hws
    clear hz1 cA0 hp hq z1a z1b
    have hN0 : N < W.heap.size := by omega
    have hN1 : N + 1 < W.heap.size := by omega
    have keyC : Hid (∀ w', Below W.heap.size W w' → w'.heap[N]? = some (.cells #[.int .i64 s] 2 (0, 0)) ∧ w'.heap[N + 1]? = some (.cells #[.iface 44 (.slice (some ⟨g, o, none⟩) R cap), .iface 68 (.int .i64 n)] 72 (0, 0)) ∧ w'.heap[B]? = some (.cells #[.int .i64 (p : Int), .int .i64 (q : Int)] 46 (0, 0))) := Lib.hid (fun w' hw' => ⟨(hw'.block _ hN0).trans i0, (hw'.block _ hN1).trans i1, (hw'.block _ hBW).trans hBx⟩)
    clear hse hpre i0 i1 hBx
    have open0 : Hid (∀ w', Below W.heap.size W w' → w'.cell? ⟨N, 0, none⟩ = some ((.int .i64 s)) ∧ w'.cell? ⟨N + 1, 0, none⟩ = some (.iface 44 (.slice (some ⟨g, o, none⟩) R cap)) ∧ w'.cell? ⟨N + 1, 1, none⟩ = some (.iface 68 (.int .i64 n)) ∧ w'.cell? ⟨B, 0, none⟩ = some (.int .i64 (p : Int)) ∧ w'.cell? ⟨B, 1, none⟩ = some (.int .i64 (q : Int))) := Lib.hid (fun w' hw' => by
      obtain ⟨e0, e1, e2⟩ := keyC.out w' hw'
      exact ⟨cellB e0 0 _ rfl, cellB e1 0 _ rfl, cellB e1 1 _ rfl, cellB e2 0 _ rfl, cellB e2 1 _ rfl⟩)
    by_cases hcs : z1 < 0
    · have hr : Hid (woF n h (pre ++ [(p, q)]) = s) := Lib.hid (by rw [hnext]; unfold maxG; rw [if_pos (by omega)]; omega)
      clear hnext
      gi_wp2_with fail
      refine wpIn_calm 6 (fun w' => Below W.heap.size W w') (by kernel_rfl) (by kernel_rfl) (by rintro ⟨_, _, h⟩; exact h) (by kernel_rfl) (by kernel_rfl) (by kernel_rfl) (belowN (Below.refl _ _) 1) ?_
      simp only [List.take_succ_cons, List.take_zero, List.drop_succ_cons, List.drop_zero]
      refine calm_take (v := ?vy21) (by rfl) ?ey21 ?ry21
      case ey21 => (intro w' hw'; obtain ⟨c0, c1, c2, c3, c4⟩ := open0.out w' hw'; go_simp; try with_reducible rfl)
      try simp only [Act.put, List.setIfInBounds_toArray, List.set_cons_zero, List.set_cons_succ]
      refine calm_take (v := ?vy22) (by rfl) ?ey22 ?ry22
      case ey22 => (intro w' hw'; obtain ⟨c0, c1, c2, c3, c4⟩ := open0.out w' hw'; go_simp; try with_reducible rfl)
      try simp only [Act.put, List.setIfInBounds_toArray, List.set_cons_zero, List.set_cons_succ]
      refine calm_take (v := ?vy23) (by rfl) ?ey23 ?ry23
      case ey23 => (intro w' hw'; obtain ⟨c0, c1, c2, c3, c4⟩ := open0.out w' hw'; go_simp; try with_reducible rfl)
      try simp only [Act.put, List.setIfInBounds_toArray, List.set_cons_zero, List.set_cons_succ]
      refine calm_call (v := .int .i64 z1) (f := ?fy24) (args := ?ay24) (by rfl) ?ey24 ?cy24 ?ry24
      case ey24 => (intro w' hw'; obtain ⟨c0, c1, c2, c3, c4⟩ := open0.out w' hw'; go_simp; first | (with_reducible rfl) | (refine ⟨?_, ?_⟩ <;> with_reducible rfl))
      case cy24 => (intro w' hw'; with_reducible exact calm_ret hw' (cA.out w' hw'))
      try simp only [Act.put, List.setIfInBounds_toArray, List.set_cons_zero, List.set_cons_succ]
      refine calm_take (v := ?vy25) (by rfl) ?ey25 ?ry25
      case ey25 => (intro w' hw'; obtain ⟨c0, c1, c2, c3, c4⟩ := open0.out w' hw'; go_simp; try with_reducible rfl)
      try simp only [Act.put, List.setIfInBounds_toArray, List.set_cons_zero, List.set_cons_succ]
      refine calm_take (v := ?vy26) (by rfl) ?ey26 ?ry26
      case ey26 => (intro w' hw'; obtain ⟨c0, c1, c2, c3, c4⟩ := open0.out w' hw'; go_simp; try with_reducible rfl)
      try simp only [Act.put, List.setIfInBounds_toArray, List.set_cons_zero, List.set_cons_succ]
      refine wpQuiet_nil (fun w' hw' => ?_)
      obtain ⟨e0, e1, e2⟩ := keyC.out w' hw'
      obtain ⟨c0, c1, c2, c3, c4⟩ := open0.out w' hw'
      have f0 := freeB e0 0
      go_wp2
      all_goals gi_wp2
      all_goals
        refine ⟨(KeepsFrom.below hw').trans ((KeepsOthers.setCell w' _ _).from _), (Keeps.of_below hw').trans (Keeps.setCell _ _ (by simp) _), ⟨?_, (Below.heap_setCell _ _ _ _ (by simp)).trans e1⟩, (below2 iB hw').setCell (p := ⟨N, 0, none⟩) (by show w.heap.size ≤ N; omega) _⟩
        rw [hr.out]
        exact heap_set e0 0 _ _ (by simp <;> omega)
    · have hr : Hid (woF n h (pre ++ [(p, q)]) = s + z1) := Lib.hid (by rw [hnext]; unfold maxG; split <;> omega)
      clear hnext
      gi_wp2_with fail
      refine wpIn_calm 6 (fun w' => Below W.heap.size W w') (by kernel_rfl) (by kernel_rfl) (by rintro ⟨_, _, h⟩; exact h) (by kernel_rfl) (by kernel_rfl) (by kernel_rfl) (belowN (Below.refl _ _) 1) ?_
      simp only [List.take_succ_cons, List.take_zero, List.drop_succ_cons, List.drop_zero]
      refine calm_take (v := ?vy27) (by rfl) ?ey27 ?ry27
      case ey27 => (intro w' hw'; obtain ⟨c0, c1, c2, c3, c4⟩ := open0.out w' hw'; go_simp; try with_reducible rfl)
      try simp only [Act.put, List.setIfInBounds_toArray, List.set_cons_zero, List.set_cons_succ]
      refine calm_take (v := ?vy28) (by rfl) ?ey28 ?ry28
      case ey28 => (intro w' hw'; obtain ⟨c0, c1, c2, c3, c4⟩ := open0.out w' hw'; go_simp; try with_reducible rfl)
      try simp only [Act.put, List.setIfInBounds_toArray, List.set_cons_zero, List.set_cons_succ]
      refine calm_take (v := ?vy29) (by rfl) ?ey29 ?ry29
      case ey29 => (intro w' hw'; obtain ⟨c0, c1, c2, c3, c4⟩ := open0.out w' hw'; go_simp; try with_reducible rfl)
      try simp only [Act.put, List.setIfInBounds_toArray, List.set_cons_zero, List.set_cons_succ]
      refine calm_call (v := .int .i64 z1) (f := ?fy30) (args := ?ay30) (by rfl) ?ey30 ?cy30 ?ry30
      case ey30 => (intro w' hw'; obtain ⟨c0, c1, c2, c3, c4⟩ := open0.out w' hw'; go_simp; first | (with_reducible rfl) | (refine ⟨?_, ?_⟩ <;> with_reducible rfl))
      case cy30 => (intro w' hw'; with_reducible exact calm_ret hw' (cA.out w' hw'))
      try simp only [Act.put, List.setIfInBounds_toArray, List.set_cons_zero, List.set_cons_succ]
      refine calm_take (v := ?vy31) (by rfl) ?ey31 ?ry31
      case ey31 => (intro w' hw'; obtain ⟨c0, c1, c2, c3, c4⟩ := open0.out w' hw'; go_simp; try with_reducible rfl)
      try simp only [Act.put, List.setIfInBounds_toArray, List.set_cons_zero, List.set_cons_succ]
      refine calm_take (v := ?vy32) (by rfl) ?ey32 ?ry32
      case ey32 => (intro w' hw'; obtain ⟨c0, c1, c2, c3, c4⟩ := open0.out w' hw'; go_simp; try with_reducible rfl)
      try simp only [Act.put, List.setIfInBounds_toArray, List.set_cons_zero, List.set_cons_succ]
      refine wpQuiet_nil (fun w' hw' => ?_)
      obtain ⟨e0, e1, e2⟩ := keyC.out w' hw'
      obtain ⟨c0, c1, c2, c3, c4⟩ := open0.out w' hw'
      have f0 := freeB e0 0
      go_wp2
      all_goals gi_wp2
      all_goals
        refine ⟨(KeepsFrom.below hw').trans ((KeepsOthers.setCell w' _ _).from _), (Keeps.of_below hw').trans (Keeps.setCell _ _ (by simp) _), ⟨?_, (Below.heap_setCell _ _ _ _ (by simp)).trans e1⟩, (below2 iB hw').setCell (p := ⟨N, 0, none⟩) (by show w.heap.size ≤ N; omega) _⟩
        rw [hr.out]
        exact heap_set e0 0 _ _ (by simp <;> omega)
  case done =>
    rintro K W hK ⟨⟨i0, i1⟩, iB⟩ hD
    have hsb := hbd.out _ (List.prefix_refl _)
    obtain ⟨s, hse⟩ : ∃ s, s = woF n h (plAll R C) := ⟨_, rfl⟩
    rw [← hse] at i0 hsb
    have hval := Lib.hid hse
    have c0 := cellB i0 0 _ rfl
    clear hse
    gi_wp2
    refine ⟨by simp, .inl ⟨_, _, rfl, run_takeDeferred hD, ?_⟩⟩
    refine ⟨.tuple #[.int .i64 s, .int .i64 0], ?_, by rw [hval.out]; rfl, iB.trans (below_put _ _ (by omega) iB.size)⟩
    simp [results, Try.f36, go_sem]
  case stop =>
    rintro K c pre W _ _ h _
    exact h.elim
set_option maxRecDepth 100000 in
set_option maxHeartbeats 3200000 in
theorem specWoodOver_any (v : Value) (G : List (List Int)) (n : Int) (w : World) (hn : G.length + totL G ≤ 1048576) (hv : GridAt w v G) : Calls Try.prog 35 #[v, .int .i64 n] w fun e w' => e = .returned (.tuple #[.int .i64 (woV G n), .int .i64 (codeG (okG G) (inB n 0 1000))]) ∧ Below w.heap.size w w' := by
  have hV : Hid (woV G n = if okG G && inB n 0 1000 then woF n (hG G) (plAll G.length (colsG G)) else 0) := Lib.hid rfl
  have cV := Lib.hid (l07Ok_any v G w hn hv)
  have cH0 := fun W => l07Height_any n W
  cases hok : okG G
  · rw [hok] at cV hV
    obtain ⟨a, cap, rfl, _⟩ := hv
    clear hok hn cH0
    go_enter Try.func35, Try.ntmps35
    go_wp2_with (go_at_call 42; refine cV.out.mono ?_; rintro e w2 ⟨rfl, hd⟩)
    go_ret2
    exact ⟨by rw [hV.out]; rfl, hd.below⟩
  rw [hok] at cV hV
  cases hnb : inB n 0 1000
  · rw [hnb] at hV cH0
    obtain ⟨a, cap, rfl, _⟩ := hv
    have cH := Lib.hid cH0
    clear hok hn cH0 hnb
    go_enter Try.func35, Try.ntmps35
    go_wp2_with (first
      | (go_at_call 42; refine cV.out.mono ?_; rintro e w2 ⟨rfl, hd⟩)
      | (go_at_call 70; refine (cH.out _).mono ?_; rintro e w3 ⟨rfl, rfl⟩))
    go_ret2
    exact ⟨by rw [hV.out]; rfl, hd.below⟩
  have hn01 : 0 ≤ n ∧ n ≤ 1000 := by simpa [inB] using hnb
  obtain ⟨hn0, hn1⟩ := hn01
  rw [hnb] at cH0 hV
  have cH := Lib.hid cH0
  obtain ⟨g, o, cap, rg, ro, rc, rfl, hGR⟩ := grid_GR hv hok
  rw [show woV G n = woF n (hG G) (plAll G.length (colsG G)) from hV.out]
  obtain ⟨R, hR⟩ : ∃ R, R = G.length := ⟨_, rfl⟩
  obtain ⟨C, hC⟩ : ∃ C, C = colsG G := ⟨_, rfl⟩
  obtain ⟨h, hh⟩ : ∃ h, h = hG G := ⟨_, rfl⟩
  rw [← hR] at cV
  rw [← hR, ← hC, ← hh] at hGR ⊢
  have hx := Lib.hid hGR
  have hR2 := hGR.R10
  have hC2 := hGR.C10
  have hbd := Lib.hid (fun pre hp => woF_bd (R := R) (C := C) hGR.R10 hGR.C10 hn0 h hGR.h1 pre hp)
  clear hok hn hv hGR hV hR hC hh hnb cH0
  go_enter Try.func35, Try.ntmps35
  go_wp2_with (first
      | (go_at_call 42; refine cV.out.mono ?_; rintro e w2 ⟨rfl, hd⟩)
      | (go_at_call 70; refine (cH.out _).mono ?_; rintro e w3 ⟨rfl, rfl⟩))
  go_loopw [6, 7] (fun x i wr => ∃ (k : Nat) (s : Int), k ≤ R ∧ i = .int .i64 k ∧ x = .int .i64 s ∧ Hid (s = woF n h (plTo C k 0)) ∧ DrewOf w wr) (fun _ i _ => R - (intOf i).toNat)
  case atStart => exact ⟨0, 0, by omega, rfl, rfl, Lib.hid rfl, hd⟩
  case round =>
    obtain ⟨k, s, hk, rfl, rfl, hs, hd⟩ := hrel
    by_cases hlt : k < R
    · have hkI : (k : Int) < (R : Int) := by omega
      go_wp2
      go_loopw [6, 8] (fun x i wr => ∃ (m : Nat) (s : Int), m ≤ C ∧ i = .int .i64 m ∧ x = .int .i64 s ∧ Hid (s = woF n h (plTo C k m)) ∧ DrewOf w wr) (fun _ i _ => C - (intOf i).toNat)
      case atStart => exact ⟨0, s, by omega, rfl, rfl, hs, hd⟩
      case round =>
        obtain ⟨m, s, hm, rfl, rfl, hs, hd⟩ := hrel
        have hz := Lib.hid (hx.out.drew hd)
        have c1 := hz.out.top k hlt
        by_cases hlm : m < C
        · have c2 := hz.out.cel k hlt m hlm
          have z1a := hz.out.h0 k m hlt hlm
          have z1b := hz.out.h1 k m hlt hlm
          have hsb := hbd.out (plTo C k m) (plTo_pre (by omega) (by omega) (by omega))
          have hsb2 := hbd.out (plTo C k m ++ [(k, m)]) (by
            rw [← plTo_next]
            by_cases hc : m + 1 = C
            · rw [hc, plTo_row]; exact plTo_pre (by omega) (by omega) (fun _ => rfl)
            · exact plTo_pre (by omega) (by omega) (by omega))
          have hnext := woF_next n h (plTo C k m) (k, m)
          rw [hnext] at hsb2
          rw [← hs.out] at hnext hsb hsb2
          rw [← plTo_next] at hnext
          dsimp only at hnext hsb2
          obtain ⟨z1, hz1⟩ : ∃ z, z = h k m := ⟨_, rfl⟩
          rw [← hz1] at c2 hnext z1a z1b hsb2
          have hmI : (m : Int) < (C : Int) := by omega
          have cM := Lib.hid (fun W => l00MaxG 0 (z1 - n) W)
          obtain ⟨dd, hdd⟩ : ∃ d, d = maxG 0 (z1 - n) := ⟨_, rfl⟩
          rw [← hdd] at cM hnext hsb2
          have hr : Hid (s + dd = woF n h (plTo C k (m + 1))) := Lib.hid hnext.symm
          have hw1 : IntKind.i64.wrap (z1 - n) = z1 - n := IntWalk.i64_in _ (by omega)
          have hw2 : IntKind.i64.wrap (s + dd) = s + dd := IntWalk.i64_in _ (by omega)
          clear hz1 hdd hnext hs hsb hsb2
          go_wp2_with (go_at_call 49; refine (cM.out _).mono ?_; rintro e w3 ⟨rfl, rfl⟩)
          go_roundw
          case rel => exact ⟨m + 1, s + dd, by omega, by go_num, rfl, hr, hd⟩
          case measure => simp [intOf]; omega
        · have hmC : m = C := by omega
          have hr : Hid (s = woF n h (plTo C (k + 1) 0)) := Lib.hid (by have := hs.out; rw [hmC, plTo_row] at this; exact this)
          clear hmC hs
          go_wp2
          go_roundw
          case rel => exact ⟨k + 1, s, by omega, by go_num, rfl, hr, hd⟩
          case measure => simp [intOf]; omega
    · have hkR : k = R := by omega
      have hr : Hid (s = woF n h (plAll R C)) := Lib.hid (by have := hs.out; rw [hkR] at this; exact this)
      clear hkR hs
      go_wp2
      go_ret2
      exact ⟨by rw [hr.out]; rfl, hd.below⟩
end Go.Proofs.Ytcfmchkomboliaa
