/-
  The mass of a plate, on both sides.
-/
import Derived.Test.YtmppaimcejcoiaaHi
import Derived.Test.YtmppaimcejcoiaaPlt
import Derived.Test.YtmppaimcejcoiaaMul
namespace Go.Proofs.Ytmppaimcejcoiaa
open Go.ChangeShapes Go.WideShapes Go.ChangeAt Go.RowKit Go.Deep
set_option linter.unusedVariables false
set_option linter.unusedSimpArgs false
attribute [local go_sem] Oper.semAt_some
/-- the sum of heights over these places -/
def suF (h : Nat → Nat → Int) (L : List (Nat × Nat)) : Int := L.foldl (fun s p => s + h p.1 p.2) 0
theorem suF_next (h : Nat → Nat → Int) (L : List (Nat × Nat)) (p : Nat × Nat) : suF h (L ++ [p]) = suF h L + h p.1 p.2 := by
  unfold suF; rw [List.foldl_append]; rfl
theorem plAll_100 {R C : Nat} (hR : R ≤ 10) (hC : C ≤ 10) : (plAll R C).length ≤ 100 := by
  unfold plAll; rw [plTo_len]
  have : R * C ≤ 10 * 10 := Nat.mul_le_mul hR hC
  omega
theorem suF_bd0 {R C : Nat} (h : Nat → Nat → Int) (h0 : ∀ i k, i < R → k < C → 0 ≤ h i k) (h1 : ∀ i k, i < R → k < C → h i k ≤ 1000) (L : List (Nat × Nat)) : L <+: plAll R C → 0 ≤ suF h L ∧ suF h L ≤ 1000 * L.length := by
  refine snoc_ind (P := fun L => L <+: plAll R C → 0 ≤ suF h L ∧ suF h L ≤ 1000 * L.length) (fun _ => ⟨Int.le_refl _, by unfold suF; simp⟩) (fun L p ih hp => ?_) L
  obtain ⟨a, b, _⟩ := pre_place hp
  have i := ih ((List.prefix_append _ _).trans hp)
  have d0 := h0 p.1 p.2 a b
  have d1 := h1 p.1 p.2 a b
  show 0 ≤ suF h (L ++ [p]) ∧ suF h (L ++ [p]) ≤ 1000 * (L ++ [p]).length
  rw [suF_next, List.length_append]
  simp only [List.length_cons, List.length_nil]
  omega
theorem suF_bd {R C : Nat} (hR : R ≤ 10) (hC : C ≤ 10) (h : Nat → Nat → Int) (h0 : ∀ i k, i < R → k < C → 0 ≤ h i k) (h1 : ∀ i k, i < R → k < C → h i k ≤ 1000) {L : List (Nat × Nat)} (hL : L <+: plAll R C) : 0 ≤ suF h L ∧ suF h L ≤ 100000 := by
  have a := suF_bd0 h h0 h1 L hL
  have b := hL.length_le
  have c := plAll_100 hR hC
  omega
/-- the mass of so much wood -/
def masV (s c d : Int) : Int := rnd (s * c * d) 10000
structure MasF (s c d : Int) : Prop where
  e1 : IntKind.i64.wrap (s * c) = s * c
  e2 : IntKind.i64.wrap (s * c * d) = s * c * d
  lo : 0 ≤ s * c * d
  hi : s * c * d ≤ 2000000000000
theorem masF {s c d : Int} (hs : 0 ≤ s ∧ s ≤ 100000) (hc : 1 ≤ c ∧ c ≤ 10000) (hd : 1 ≤ d ∧ d ≤ 2000) : MasF s c d := by
  have p1 := mulP_bd (a := s) (b := c) (A := 100000) (B := 10000) hs (by omega)
  have p2 := mulP_bd (a := s * c) (b := d) (A := 100000 * 10000) (B := 2000) p1 (by omega)
  exact ⟨IntWalk.i64_in _ (by omega), IntWalk.i64_in _ (by omega), p2.1, by omega⟩
set_option maxRecDepth 100000 in
set_option maxHeartbeats 3200000 in
theorem massOf_any (c d : Int) (hc : 1 ≤ c ∧ c ≤ 10000) (hdd : 1 ≤ d ∧ d ≤ 2000) (g o cap R C : Nat) (rg ro rc : Nat → Nat) (h : Nat → Nat → Int) (w : World) (x : GR w g o cap R C rg ro rc h) : Calls Try.prog 34 #[.agg #[.int .i64 c, .int .i64 d], .slice (some ⟨g, o, none⟩) R cap] w fun e w' => e = .returned (.int .i64 (masV (suF h (plAll R C)) c d)) ∧ Below w.heap.size w w' := by
  have r2 := x.R10
  have c2 := x.C10
  have hx := Lib.hid x
  have hx1 := x
  have hd := Lib.hid (Below.refl w.heap.size w)
  clear x
  refine (callsIn_wide (n := 3)).1 ?_
  refine callsIn_of_wp_marks Try.func34 rfl trivial ?_ rfl
  simp only [Try.ntmps34, List.size_toArray, List.length_cons, List.length_nil, Nat.reduceAdd, Nat.reduceSub, Array.replicate_succ, Array.replicate_zero, List.push_toArray, List.append_toArray, List.nil_append, List.cons_append]
  gi_wp2_with fail
  refine ⟨trivial, (callsIn_wide.2 (places_any _ _ _ _)).mono ?_⟩
  rintro e w2 ⟨rfl, rfl⟩
  gi_wp2_with fail
  obtain ⟨N, hN⟩ : ∃ N, N = w.heap.size := ⟨_, rfl⟩
  have g0 : ((((w.alloc (.cells #[.int .i64 c, .int .i64 d] 45)).alloc (.cells #[.slice (some ⟨g, o, none⟩) R cap] 62)).alloc (.cells #[.int .i64 0] 2)).alloc (.cells #[.slice (some ⟨g, o, none⟩) R cap] 62)).heap[N]? = some (.cells #[.int .i64 c, .int .i64 d] 45 (0, 0)) := by
    rw [Below.heap_alloc _ _ _ (by simp; omega)]
    rw [Below.heap_alloc _ _ _ (by simp; omega)]
    rw [Below.heap_alloc _ _ _ (by simp; omega)]
    have := heap_alloc_new (w) (.cells #[.int .i64 c, .int .i64 d] 45)
    rw [hN]; simpa using this
  have g1 : ((((w.alloc (.cells #[.int .i64 c, .int .i64 d] 45)).alloc (.cells #[.slice (some ⟨g, o, none⟩) R cap] 62)).alloc (.cells #[.int .i64 0] 2)).alloc (.cells #[.slice (some ⟨g, o, none⟩) R cap] 62)).heap[N + 1]? = some (.cells #[.slice (some ⟨g, o, none⟩) R cap] 62 (0, 0)) := by
    rw [Below.heap_alloc _ _ _ (by simp; omega)]
    rw [Below.heap_alloc _ _ _ (by simp; omega)]
    have := heap_alloc_new ((w.alloc (.cells #[.int .i64 c, .int .i64 d] 45))) (.cells #[.slice (some ⟨g, o, none⟩) R cap] 62)
    rw [hN]; simpa using this
  have g2 : ((((w.alloc (.cells #[.int .i64 c, .int .i64 d] 45)).alloc (.cells #[.slice (some ⟨g, o, none⟩) R cap] 62)).alloc (.cells #[.int .i64 0] 2)).alloc (.cells #[.slice (some ⟨g, o, none⟩) R cap] 62)).heap[N + 1 + 1]? = some (.cells #[.int .i64 0] 2 (0, 0)) := by
    rw [Below.heap_alloc _ _ _ (by simp; omega)]
    have := heap_alloc_new (((w.alloc (.cells #[.int .i64 c, .int .i64 d] 45)).alloc (.cells #[.slice (some ⟨g, o, none⟩) R cap] 62))) (.cells #[.int .i64 0] 2)
    rw [hN]; simpa using this
  have g3 : ((((w.alloc (.cells #[.int .i64 c, .int .i64 d] 45)).alloc (.cells #[.slice (some ⟨g, o, none⟩) R cap] 62)).alloc (.cells #[.int .i64 0] 2)).alloc (.cells #[.slice (some ⟨g, o, none⟩) R cap] 62)).heap[N + 1 + 1 + 1]? = some (.cells #[.slice (some ⟨g, o, none⟩) R cap] 62 (0, 0)) := by
    have := heap_alloc_new ((((w.alloc (.cells #[.int .i64 c, .int .i64 d] 45)).alloc (.cells #[.slice (some ⟨g, o, none⟩) R cap] 62)).alloc (.cells #[.int .i64 0] 2))) (.cells #[.slice (some ⟨g, o, none⟩) R cap] 62)
    rw [hN]; simpa using this
  have gz : ((((w.alloc (.cells #[.int .i64 c, .int .i64 d] 45)).alloc (.cells #[.slice (some ⟨g, o, none⟩) R cap] 62)).alloc (.cells #[.int .i64 0] 2)).alloc (.cells #[.slice (some ⟨g, o, none⟩) R cap] 62)).heap.size = N + 4 := by simp [hN]
  have gB : Below w.heap.size w ((((w.alloc (.cells #[.int .i64 c, .int .i64 d] 45)).alloc (.cells #[.slice (some ⟨g, o, none⟩) R cap] 62)).alloc (.cells #[.int .i64 0] 2)).alloc (.cells #[.slice (some ⟨g, o, none⟩) R cap] 62)) := ((((Below.refl _ _).alloc (by simp <;> omega) _).alloc (by simp <;> omega) _).alloc (by simp <;> omega) _).alloc (by simp <;> omega) _
  have gW := hd.out.trans (gB.mono hd.out.size)
  have hx2 := hx1.below gB
  have hwN : w.heap.size ≤ N := by rw [hN]; exact hd.out.size
  have hgN : g < N := by rw [hN]; exact hx1.gl
  rw [← hN]
  clear hx1 gB hd hN
  generalize ((((w.alloc (.cells #[.int .i64 c, .int .i64 d] 45)).alloc (.cells #[.slice (some ⟨g, o, none⟩) R cap] 62)).alloc (.cells #[.int .i64 0] 2)).alloc (.cells #[.slice (some ⟨g, o, none⟩) R cap] 62)) = W0 at g0 g1 g2 g3 gz gW hx2 ⊢
  have hseq := places_seq 2 (N + 1 + 1 + 1) g o cap R C (fun b => b ≠ N + 1 + 1) W0 (hx2.pl (cellB g3 0 _ rfl)) (show N + 1 + 1 + 1 ≠ N + 1 + 1 by omega) (by omega)
  have hbd := Lib.hid (fun pre hp => suF_bd (R := R) (C := C) r2 c2 h hx2.h0 hx2.h1 (L := pre) hp)
  refine' rangeP rfl (enters_of Try.func59 (by kernel_rfl) rfl) hseq
    (fun pre W => (W.heap[N]? = some (.cells #[.int .i64 c, .int .i64 d] 45 (0, 0)) ∧ W.heap[N + 1]? = some (.cells #[.slice (some ⟨g, o, none⟩) R cap] 62 (0, 0)) ∧ W.heap[N + 1 + 1]? = some (.cells #[.int .i64 (suF h pre)] 2 (0, 0))) ∧ Below w.heap.size w W)
    (fun _ _ _ => False)
    (fun s A B h hAB => ⟨⟨low_heap h.1.1 (by omega) hAB, low_heap h.1.2.1 (by omega) hAB, low_heap h.1.2.2 (by omega) hAB⟩, h.2.trans (hAB.mono (by omega))⟩)
    (fun _ _ _ _ h _ => h)
    ⟨⟨g0, g1, g2⟩, gW⟩ ?assign ?body ?done ?stop
  case assign =>
    rintro l B x W K hB hK
    unfold encP
    gi_wp2
    exact hK
  case body =>
    rintro l B pre ⟨p, q⟩ W hpre hl hlB hBW ⟨⟨i0, i1, i2⟩, iB⟩ hBx hWz
    obtain ⟨hp, hq, hpl⟩ := pre_place hpre
    clear hpl
    have hsb := hbd.out pre ((List.prefix_append _ _).trans hpre)
    have hnext := suF_next h pre (p, q)
    obtain ⟨s, hse⟩ : ∃ s, s = suF h pre := ⟨_, rfl⟩
    rw [← hse] at i2 hsb hnext
    dsimp only at i2 hsb hnext hBx hp hq ⊢
    have hz := Lib.hid (hx.out.below iB)
    have cA0 := fun w' (hw' : Below W.heap.size W w') => at_any g o cap R C rg ro rc h w' (hz.out.below hw') p q hp hq
    unfold encP at cA0
    dsimp only at cA0
    have z0 := hz.out.h0 p q hp hq
    have z1 := hz.out.h1 p q hp hq
    obtain ⟨z, hz1⟩ : ∃ z, z = h p q := ⟨_, rfl⟩
    rw [← hz1] at cA0 hnext z0 z1
    have cA := Lib.hid cA0
    have ew : IntKind.i64.wrap (s + z) = s + z := IntWalk.i64_in _ (by omega)
    clear hz1 cA0 hp hq z0 z1
    have hN0 : N < W.heap.size := by omega
    have hN1 : N + 1 < W.heap.size := by omega
    have hN2 : N + 1 + 1 < W.heap.size := by omega
    have keyC : Hid (∀ w', Below W.heap.size W w' → w'.heap[N]? = some (.cells #[.int .i64 c, .int .i64 d] 45 (0, 0)) ∧ w'.heap[N + 1]? = some (.cells #[.slice (some ⟨g, o, none⟩) R cap] 62 (0, 0)) ∧ w'.heap[N + 1 + 1]? = some (.cells #[.int .i64 s] 2 (0, 0)) ∧ w'.heap[B]? = some (.cells #[.int .i64 (p : Int), .int .i64 (q : Int)] 57 (0, 0))) := Lib.hid (fun w' hw' => ⟨(hw'.block _ hN0).trans i0, (hw'.block _ hN1).trans i1, (hw'.block _ hN2).trans i2, (hw'.block _ hBW).trans hBx⟩)
    clear hse hpre i0 i1 i2 hBx
    have open0 : Hid (∀ w', Below W.heap.size W w' → w'.cell? ⟨N, 0, none⟩ = some ((.int .i64 c)) ∧ w'.cell? ⟨N, 1, none⟩ = some ((.int .i64 d)) ∧ w'.cell? ⟨N + 1, 0, none⟩ = some (.slice (some ⟨g, o, none⟩) R cap) ∧ w'.cell? ⟨N + 1 + 1, 0, none⟩ = some ((.int .i64 s)) ∧ w'.cell? ⟨B, 0, none⟩ = some (.int .i64 (p : Int)) ∧ w'.cell? ⟨B, 1, none⟩ = some (.int .i64 (q : Int))) := Lib.hid (fun w' hw' => by
      obtain ⟨e0, e1, e2, e3⟩ := keyC.out w' hw'
      exact ⟨cellB e0 0 _ rfl, cellB e0 1 _ rfl, cellB e1 0 _ rfl, cellB e2 0 _ rfl, cellB e3 0 _ rfl, cellB e3 1 _ rfl⟩)
    · have hr : Hid (suF h (pre ++ [(p, q)]) = s + z) := Lib.hid (by rw [hnext])
      clear hnext
      gi_wp2_with fail
      refine wpIn_calm 5 (fun w' => Below W.heap.size W w') (by kernel_rfl) (by kernel_rfl) (by rintro ⟨_, _, h⟩; exact h) (by kernel_rfl) (by kernel_rfl) (by kernel_rfl) (belowN (Below.refl _ _) 1) ?_
      simp only [List.take_succ_cons, List.take_zero, List.drop_succ_cons, List.drop_zero]
      refine calm_take (v := ?vy1) (by rfl) ?ey1 ?ry1
      case ey1 => (intro w' hw'; obtain ⟨c0, c1, c2, c3, c4, c5⟩ := open0.out w' hw'; go_simp; try with_reducible rfl)
      try simp only [Act.put, List.setIfInBounds_toArray, List.set_cons_zero, List.set_cons_succ]
      refine calm_take (v := ?vy2) (by rfl) ?ey2 ?ry2
      case ey2 => (intro w' hw'; obtain ⟨c0, c1, c2, c3, c4, c5⟩ := open0.out w' hw'; go_simp; try with_reducible rfl)
      try simp only [Act.put, List.setIfInBounds_toArray, List.set_cons_zero, List.set_cons_succ]
      refine calm_take (v := ?vy3) (by rfl) ?ey3 ?ry3
      case ey3 => (intro w' hw'; obtain ⟨c0, c1, c2, c3, c4, c5⟩ := open0.out w' hw'; go_simp; try with_reducible rfl)
      try simp only [Act.put, List.setIfInBounds_toArray, List.set_cons_zero, List.set_cons_succ]
      refine calm_call (v := .int .i64 z) (f := ?fy4) (args := ?ay4) (by rfl) ?ey4 ?cy4 ?ry4
      case ey4 => (intro w' hw'; obtain ⟨c0, c1, c2, c3, c4, c5⟩ := open0.out w' hw'; go_simp; first | (with_reducible rfl) | (refine ⟨?_, ?_⟩ <;> with_reducible rfl))
      case cy4 => (intro w' hw'; with_reducible exact calm_ret hw' (cA.out w' hw'))
      try simp only [Act.put, List.setIfInBounds_toArray, List.set_cons_zero, List.set_cons_succ]
      refine calm_take (v := ?vy5) (by rfl) ?ey5 ?ry5
      case ey5 => (intro w' hw'; obtain ⟨c0, c1, c2, c3, c4, c5⟩ := open0.out w' hw'; go_simp; try with_reducible rfl)
      try simp only [Act.put, List.setIfInBounds_toArray, List.set_cons_zero, List.set_cons_succ]
      refine wpQuiet_nil (fun w' hw' => ?_)
      obtain ⟨e0, e1, e2, e3⟩ := keyC.out w' hw'
      obtain ⟨c0, c1, c2, c3, c4, c5⟩ := open0.out w' hw'
      have f0 := freeB e2 0
      go_wp2
      all_goals gi_wp2
      all_goals
        refine ⟨(KeepsFrom.below hw').trans ((KeepsOthers.setCell w' _ _).from _), (Keeps.of_below hw').trans (Keeps.setCell _ _ (by simp) _), ⟨(Below.heap_setCell _ _ _ _ (by simp <;> omega)).trans e0, (Below.heap_setCell _ _ _ _ (by simp <;> omega)).trans e1, ?_⟩, (below2 iB hw').setCell (p := ⟨N + 1 + 1, 0, none⟩) (by show w.heap.size ≤ N + 1 + 1; omega) _⟩
        rw [hr.out]
        exact heap_set e2 0 _ _ (by simp <;> omega)
  case done =>
    rintro K W hK ⟨⟨i0, i1, i2⟩, iB⟩ hD
    have hsb := hbd.out _ (List.prefix_refl _)
    obtain ⟨s, hse⟩ : ∃ s, s = suF h (plAll R C) := ⟨_, rfl⟩
    rw [← hse] at i2 hsb
    have hval := Lib.hid hse
    have c0 := cellB i2 0 _ rfl
    clear hse
    have hF := masF hsb hc hdd
    have e1 := hF.e1
    have e2 := hF.e2
    have q0 := hF.lo
    have q1 := hF.hi
    have c1 := cellB i0 0 _ rfl
    have c2' := cellB i0 1 _ rfl
    have hcN := Lib.hid (fun W9 => nearest_any (s * c * d) 10000 (by decide) (by omega) (by omega) (by decide) (by decide) W9)
    have hmv : Hid (rnd (s * c * d) 10000 = masV (suF h (plAll R C)) c d) := Lib.hid (by rw [← hval.out]; rfl)
    clear hF hval i1
    gi_wp2_with fail
    refine ⟨trivial, (callsIn_wide.2 (hcN.out _)).mono ?_⟩
    rintro e w9 ⟨rfl, n9, rfl⟩
    gi_wp2
    refine ⟨by simp, .inl ⟨_, _, rfl, run_takeDeferred (w := W.drewN n9) hD, ?_⟩⟩
    refine ⟨.int .i64 (rnd (s * c * d) 10000), ?_, by rw [hmv.out], (belowN iB n9).trans (below_put _ _ (by omega) iB.size)⟩
    simp [results, Try.f34, go_sem]
  case stop =>
    rintro K c pre W _ _ h _
    exact h.elim
/-- a code of a plate and the numbers beside it -/
def cod8 (b1 b2 : Bool) : Int := if b1 = true then (if b2 = true then 0 else 2) else 1
theorem codeOfPlate_any (v : Value) (G : List (List Int)) (b : Bool) (w : World) (hn : G.length + totL G ≤ 1048576) (hv : GridAt w v G) : Calls Try.prog 31 #[v, .bool b] w fun e w' => e = .returned (.int .i64 (cod8 (okP G) b)) ∧ DrewOf w w' := by
  have cV := Lib.hid (implValidPlate_any v G w hn hv)
  obtain ⟨a, cap, rfl, _⟩ := hv
  cases hok : okP G <;> rw [hok] at cV
  · go_enter Try.func31, Try.ntmps31
    go_wp2_with (go_at_call 46; refine cV.out.mono ?_; rintro e w2 ⟨rfl, hd⟩)
    go_ret
    exact ⟨rfl, hd⟩
  · cases b
    all_goals
      go_enter Try.func31, Try.ntmps31
      go_wp2_with (go_at_call 46; refine cV.out.mono ?_; rintro e w2 ⟨rfl, hd⟩)
      go_ret
      exact ⟨rfl, hd⟩
def woodB (c d : Int) : Bool := inB c 1 10000 && inB d 1 2000
theorem isWood_any (c d : Int) (w : World) : Calls Try.prog 28 #[.agg #[.int .i64 c, .int .i64 d]] w fun e w' => e = .returned (.bool (woodB c d)) ∧ Below w.heap.size w w' := by
  have hx : Hid (woodB c d = (inB c 1 10000 && inB d 1 2000)) := Lib.hid rfl
  cases h1 : inB c 1 10000 <;> cases h2 : inB d 1 2000
  all_goals
    go_enter Try.func28, Try.ntmps28
    go_wp2_with (go_at_call 29; refine (within64_any _ _ _ _).mono ?_; rintro e w' ⟨rfl, rfl⟩)
    go_ret
    exact ⟨ret_bool (by rw [hx.out, h1, h2]; rfl), (Below.refl _ _).alloc (Nat.le_refl _) _⟩
theorem l08Density_any (c d : Int) (w : World) : Calls Try.prog 22 #[.int .i64 c, .int .i64 d] w fun e w' => e = .returned (.bool (woodB c d)) ∧ w = w' := by
  have hx : Hid (woodB c d = (inB c 1 10000 && inB d 1 2000)) := Lib.hid rfl
  cases h1 : inB c 1 10000 <;> cases h2 : inB d 1 2000
  all_goals
    go_enter Try.func22, Try.ntmps22
    go_wp2_with (go_at_call 23; refine (l00In_any _ _ _ _).mono ?_; rintro e w' ⟨rfl, rfl⟩)
    go_ret
    exact ⟨ret_bool (by rw [hx.out, h1, h2]; rfl), rfl⟩
def pmV (G : List (List Int)) (c d : Int) : Int := if okP G && woodB c d then masV (suF (hG G) (plAll G.length (colsG G))) c d else 0
theorem wood_bd {c d : Int} (h : woodB c d = true) : (1 ≤ c ∧ c ≤ 10000) ∧ (1 ≤ d ∧ d ≤ 2000) := by
  unfold woodB at h; rw [Bool.and_eq_true, inB_iff, inB_iff] at h; exact h
theorem one_boxP (w : World) (cs : Array Value) (T : TypeId) : (∀ i v, cs[i]? = some v → (w.alloc (.cells cs T)).cell? ⟨w.heap.size, i, none⟩ = some v) ∧ Below w.heap.size w (w.alloc (.cells cs T)) ∧ w.heap.size < (w.alloc (.cells cs T)).heap.size :=
  ⟨fun i v h => cellB (heap_alloc_new _ _) i v h, (Below.refl _ _).alloc (Nat.le_refl _) _, by simp⟩
set_option maxHeartbeats 3200000 in
theorem implPlateMass_any (v : Value) (G : List (List Int)) (c d : Int) (w : World) (hn : G.length + totL G ≤ 1048576) (hv : GridAt w v G) : Calls Try.prog 19 #[v, .int .i64 c, .int .i64 d] w fun e w' => e = .returned (.tuple #[.int .i64 (pmV G c d), .int .i64 (cod8 (okP G) (woodB c d))]) ∧ Below w.heap.size w w' := by
  have cC := Lib.hid (fun W (hb : Below w.heap.size w W) => codeOfPlate_any v G (woodB c d) W hn (hv.below hb))
  have cW := Lib.hid (fun W => isWood_any c d W)
  have hV0 : pmV G c d = if okP G && woodB c d then masV (suF (hG G) (plAll G.length (colsG G))) c d else 0 := rfl
  cases hok : okP G
  · have hV : Hid (pmV G c d = 0) := Lib.hid (by rw [hV0, hok]; rfl)
    rw [hok] at cC
    obtain ⟨a, cap, rfl, _⟩ := hv
    clear hV0 hok
    obtain ⟨q, hq⟩ : ∃ q, q = woodB c d := ⟨_, rfl⟩
    rw [← hq] at cC cW ⊢
    clear hq
    rw [show cod8 false q = 1 from rfl] at cC ⊢
    go_enter Try.func19, Try.ntmps19
    go_wp2_with fail
    obtain ⟨q1, hB0, hsz⟩ := one_boxP w #[.int .i64 c, .int .i64 d] 45
    generalize (w.alloc (.cells #[.int .i64 c, .int .i64 d] 45)) = W0 at q1 hB0 hsz ⊢
    have c0 := q1 0 _ rfl
    have c1 := q1 1 _ rfl
    clear q1
    refine (cW.out _).mono ?_
    rintro e w1 ⟨rfl, b1⟩
    have B1 := below2 hB0 b1
    replace c0 := (b1.cell (p := ⟨w.heap.size, 0, none⟩) hsz).trans c0
    replace c1 := (b1.cell (p := ⟨w.heap.size, 1, none⟩) hsz).trans c1
    have cC1 := Lib.hid (cC.out w1 B1)
    clear b1
    go_wp2_with fail
    refine cC1.out.mono ?_
    rintro e w2 ⟨rfl, hd2⟩
    replace c0 := (hd2.cell _).trans c0
    replace c1 := (hd2.cell _).trans c1
    have B2 := below2 B1 hd2.below
    clear hd2 B1 hB0
    go_wp2
    go_ret2
    exact ⟨ret_int2 hV.out.symm rfl, B2⟩

  cases hwd : woodB c d
  · have hV : Hid (pmV G c d = 0) := Lib.hid (by rw [hV0, hok, hwd]; rfl)
    rw [hok, hwd] at cC
    rw [hwd] at cW
    obtain ⟨a, cap, rfl, _⟩ := hv
    clear hV0 hok hwd
    rw [show cod8 true false = 2 from rfl] at cC ⊢
    go_enter Try.func19, Try.ntmps19
    go_wp2_with fail
    obtain ⟨q1, hB0, hsz⟩ := one_boxP w #[.int .i64 c, .int .i64 d] 45
    generalize (w.alloc (.cells #[.int .i64 c, .int .i64 d] 45)) = W0 at q1 hB0 hsz ⊢
    have c0 := q1 0 _ rfl
    have c1 := q1 1 _ rfl
    clear q1
    refine (cW.out _).mono ?_
    rintro e w1 ⟨rfl, b1⟩
    have B1 := below2 hB0 b1
    replace c0 := (b1.cell (p := ⟨w.heap.size, 0, none⟩) hsz).trans c0
    replace c1 := (b1.cell (p := ⟨w.heap.size, 1, none⟩) hsz).trans c1
    have cC1 := Lib.hid (cC.out w1 B1)
    clear b1
    go_wp2_with fail
    refine cC1.out.mono ?_
    rintro e w2 ⟨rfl, hd2⟩
    replace c0 := (hd2.cell _).trans c0
    replace c1 := (hd2.cell _).trans c1
    have B2 := below2 B1 hd2.below
    clear hd2 B1 hB0
    go_wp2
    go_ret2
    exact ⟨ret_int2 hV.out.symm rfl, B2⟩

  have hV : pmV G c d = masV (suF (hG G) (plAll G.length (colsG G))) c d := by rw [hV0, hok, hwd]; rfl
  obtain ⟨g, o, cap, rg, ro, rc, rfl, hGR⟩ := grid_GR hv (okP_okG hok)
  have hwb := wood_bd hwd
  rw [hok, hwd] at cC
  rw [hwd] at cW
  rw [hV]
  have cM := Lib.hid (fun W (hb : Below w.heap.size w W) => massOf_any c d hwb.1 hwb.2 g o cap G.length (colsG G) rg ro rc (hG G) W (hGR.below hb))
  obtain ⟨M, hM⟩ : ∃ M, M = masV (suF (hG G) (plAll G.length (colsG G))) c d := ⟨_, rfl⟩
  rw [← hM] at cM ⊢
  clear hV0 hV hok hwd hM hwb hGR hv
  rw [show cod8 true true = 0 from rfl] at cC ⊢
  go_enter Try.func19, Try.ntmps19
  go_wp2_with fail
  obtain ⟨q1, hB0, hsz⟩ := one_boxP w #[.int .i64 c, .int .i64 d] 45
  generalize (w.alloc (.cells #[.int .i64 c, .int .i64 d] 45)) = W0 at q1 hB0 hsz ⊢
  have c0 := q1 0 _ rfl
  have c1 := q1 1 _ rfl
  clear q1
  refine (cW.out _).mono ?_
  rintro e w1 ⟨rfl, b1⟩
  have B1 := below2 hB0 b1
  replace c0 := (b1.cell (p := ⟨w.heap.size, 0, none⟩) hsz).trans c0
  replace c1 := (b1.cell (p := ⟨w.heap.size, 1, none⟩) hsz).trans c1
  have cC1 := Lib.hid (cC.out w1 B1)
  clear b1
  go_wp2_with fail
  refine cC1.out.mono ?_
  rintro e w2 ⟨rfl, hd2⟩
  replace c0 := (hd2.cell _).trans c0
  replace c1 := (hd2.cell _).trans c1
  have B2 := below2 B1 hd2.below
  clear hd2 B1 hB0
  go_wp2_with fail
  refine (cM.out _ B2).mono ?_
  rintro e w3 ⟨rfl, b3⟩
  go_wp2
  go_ret2
  exact ⟨ret_int2 rfl rfl, below2 B2 b3⟩
theorem GR.drew8 {w w' : World} {g o cap R C : Nat} {rg ro rc : Nat → Nat} {h : Nat → Nat → Int} (x : GR w g o cap R C rg ro rc h) (hd : DrewOf w w') : GR w' g o cap R C rg ro rc h := x.below hd.below
set_option maxHeartbeats 3200000 in
theorem l08Mass_any (c d : Int) (hc : 1 ≤ c ∧ c ≤ 10000) (hdd : 1 ≤ d ∧ d ≤ 2000) (g o cap R C : Nat) (rg ro rc : Nat → Nat) (h : Nat → Nat → Int) (w : World) (x : GR w g o cap R C rg ro rc h) : Calls Try.prog 25 #[.slice (some ⟨g, o, none⟩) R cap, .int .i64 c, .int .i64 d] w fun e w' => e = .returned (.int .i64 (masV (suF h (plAll R C)) c d)) ∧ DrewOf w w' := by
  have hx := Lib.hid x
  have hR2 := x.R10
  have hC2 := x.C10
  have hbd := Lib.hid (fun pre hp => suF_bd (R := R) (C := C) hR2 hC2 h x.h0 x.h1 (L := pre) hp)
  clear x
  go_enter Try.func25, Try.ntmps25
  go_wp2
  go_loopw [7, 8] (fun x i wr => ∃ (k : Nat) (s : Int), k ≤ R ∧ i = .int .i64 k ∧ x = .int .i64 s ∧ Hid (s = suF h (plTo C k 0)) ∧ DrewOf w wr) (fun _ i _ => R - (intOf i).toNat)
  case atStart => exact ⟨0, 0, by omega, rfl, rfl, Lib.hid rfl, DrewOf.refl _⟩
  case round =>
    obtain ⟨k, s, hk, rfl, rfl, hs, hd⟩ := hrel
    by_cases hlt : k < R
    · have hkI : (k : Int) < (R : Int) := by omega
      have c1 := (hx.out.drew8 hd).top k hlt
      go_wp2
      clear c1
      go_loopw [7, 9] (fun x i wr => ∃ (m : Nat) (s : Int), m ≤ C ∧ i = .int .i64 m ∧ x = .int .i64 s ∧ Hid (s = suF h (plTo C k m)) ∧ DrewOf w wr) (fun _ i _ => C - (intOf i).toNat)
      case atStart => exact ⟨0, s, by omega, rfl, rfl, hs, hd⟩
      case round =>
        obtain ⟨m, s, hm, rfl, rfl, hs, hd⟩ := hrel
        have c1 := (hx.out.drew8 hd).top k hlt
        by_cases hlm : m < C
        · have hz := Lib.hid (hx.out.drew8 hd)
          have c2 := hz.out.cel k hlt m hlm
          have z1a := hz.out.h0 k m hlt hlm
          have z1b := hz.out.h1 k m hlt hlm
          have hpre := plTo_pre (R := R) (C := C) (i := k) (k := m) (by omega) (by omega) (by omega)
          have hsb := hbd.out _ hpre
          rw [← hs.out] at hsb
          have hnext := suF_next h (plTo C k m) (k, m)
          rw [← hs.out, ← plTo_next] at hnext
          dsimp only at hnext
          obtain ⟨z1, hz1⟩ : ∃ z, z = h k m := ⟨_, rfl⟩
          rw [← hz1] at c2 hnext z1a z1b
          have hmI : (m : Int) < (C : Int) := by omega
          have ew : IntKind.i64.wrap (s + z1) = s + z1 := IntWalk.i64_in _ (by omega)
          have hr : Hid (s + z1 = suF h (plTo C k (m + 1))) := Lib.hid hnext.symm
          clear hz1 hnext z1a z1b hs hpre hsb
          go_wp2
          go_roundw
          case rel => exact ⟨m + 1, s + z1, by omega, by go_num, rfl, hr, hd⟩
          case measure => simp [intOf]; omega
        · have hmC : m = C := by omega
          have hr : Hid (s = suF h (plTo C (k + 1) 0)) := Lib.hid (by have := hs.out; rw [hmC, plTo_row] at this; exact this)
          clear hmC hs
          go_wp2
          go_roundw
          case rel => exact ⟨k + 1, s, by omega, by go_num, rfl, hr, hd⟩
          case measure => simp [intOf]; omega
    · have hkR : k = R := by omega
      have hr : Hid (s = suF h (plAll R C)) := Lib.hid (by have := hs.out; rw [hkR] at this; exact this)
      have hsb := hbd.out _ (List.prefix_refl _)
      rw [← hr.out] at hsb
      have hF := masF hsb hc hdd
      have e1 := hF.e1
      have e2 := hF.e2
      have q0 := hF.lo
      have q1 := hF.hi
      clear hkR hs hF
      go_wp2_with (go_at_call 45; refine (l01Div_any _ _ (by decide) (by omega) (by omega) (by decide) (by decide) _).mono ?_; rintro e w' ⟨rfl, rfl⟩)
      go_ret
      exact ⟨ret_int (by rw [← hr.out]; rfl), hd⟩
set_option maxHeartbeats 3200000 in
theorem specPlateMass_any (v : Value) (G : List (List Int)) (c d : Int) (w : World) (hn : G.length + totL G ≤ 1048576) (hv : GridAt w v G) : Calls Try.prog 18 #[v, .int .i64 c, .int .i64 d] w fun e w' => e = .returned (.tuple #[.int .i64 (pmV G c d), .int .i64 (cod8 (okP G) (woodB c d))]) ∧ Below w.heap.size w w' := by
  have cV := Lib.hid (l08Ok_any v G w hn hv)
  have cW := Lib.hid (fun W => l08Density_any c d W)
  have hV0 : pmV G c d = if okP G && woodB c d then masV (suF (hG G) (plAll G.length (colsG G))) c d else 0 := rfl
  cases hok : okP G
  · have hV : Hid (pmV G c d = 0) := Lib.hid (by rw [hV0, hok]; rfl)
    rw [hok] at cV
    obtain ⟨a, cap, rfl, _⟩ := hv
    clear hV0 hok
    go_enter Try.func18, Try.ntmps18
    go_wp2_with (go_at_call 21; refine cV.out.mono ?_; rintro e w2 ⟨rfl, hd⟩)
    go_ret2
    exact ⟨ret_int2 hV.out.symm rfl, hd.below⟩
  cases hwd : woodB c d
  · have hV : Hid (pmV G c d = 0) := Lib.hid (by rw [hV0, hok, hwd]; rfl)
    rw [hok] at cV
    rw [hwd] at cW
    obtain ⟨a, cap, rfl, _⟩ := hv
    clear hV0 hok hwd
    go_enter Try.func18, Try.ntmps18
    go_wp2_with (first
      | (go_at_call 21; refine cV.out.mono ?_; rintro e w2 ⟨rfl, hd⟩)
      | (go_at_call 22; refine (cW.out _).mono ?_; rintro e w3 ⟨rfl, rfl⟩))
    go_ret2
    exact ⟨ret_int2 hV.out.symm rfl, hd.below⟩
  have hV : pmV G c d = masV (suF (hG G) (plAll G.length (colsG G))) c d := by rw [hV0, hok, hwd]; rfl
  obtain ⟨g, o, cap, rg, ro, rc, rfl, hGR⟩ := grid_GR hv (okP_okG hok)
  have hwb := wood_bd hwd
  rw [hok] at cV
  rw [hwd] at cW
  rw [hV]
  have cM := Lib.hid (fun W (hb : DrewOf w W) => l08Mass_any c d hwb.1 hwb.2 g o cap G.length (colsG G) rg ro rc (hG G) W (hGR.drew8 hb))
  obtain ⟨M, hM⟩ : ∃ M, M = masV (suF (hG G) (plAll G.length (colsG G))) c d := ⟨_, rfl⟩
  rw [← hM] at cM ⊢
  clear hV0 hV hok hwd hM hwb hGR hv
  go_enter Try.func18, Try.ntmps18
  go_wp2_with (first
    | (go_at_call 21; refine cV.out.mono ?_; rintro e w2 ⟨rfl, hd⟩)
    | (go_at_call 22; refine (cW.out _).mono ?_; rintro e w3 ⟨rfl, rfl⟩)
    | (go_at_call 25; refine (cM.out _ hd).mono ?_; rintro e w4 ⟨rfl, hd4⟩))
  go_ret2
  exact ⟨ret_int2 rfl rfl, (hd.trans hd4).below⟩
end Go.Proofs.Ytmppaimcejcoiaa
