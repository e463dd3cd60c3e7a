/-
  The mean of the cells that are wanted.
-/
import Derived.Test.YtndnliaahdmbmaaEdg
namespace Go.Proofs.Ytndnliaahdmbmaa
open Go.ChangeShapes Go.WideShapes Go.ChangeAt Go.RowKit Go.Deep
set_option linter.unusedVariables false
set_option linter.unusedSimpArgs false
attribute [local go_sem] Oper.semAt_some
set_option maxRecDepth 1000000
section
variable {P : Program} {ops : Array Oper} {md : Region.Mode} {Q : Exit → Act → World → Prop} {n : Nat}
theorem rows_wide {row : String} {args : Array Value} {w : World} {R : Value → World → Prop} (h : Rows P row args w R) : RowsIn Fence.wide n P row args w R :=
  fun c cs _ => let ⟨v, w', r, s⟩ := h c cs; ⟨v, w', r, stepsIn_wide.2 s⟩
theorem op_wide {o : Oper} {a : Act} {w : World} {K K' : Act → World → Prop} (hQ : ¬ LetsOut Q) (h : ∀ a w, K a w → K' a w) (hh : o.wp P a w K Q ∨ (o.asks P a w ∧ LetsOut Q)) : o.wpIn Fence.wide n P a w K' Q := by
  rcases hh with hh | ⟨_, h2⟩
  · refine ⟨fun _ _ => trivial, ?_⟩
    rw [show Fence.wide.round = none from rfl, Oper.semAt_none]
    unfold Oper.wp at hh
    generalize (execOp a.eval o).run P w = r at *
    cases r with
    | ok x w' =>
      cases x <;> simp only [Oper.upon, Oper.uponIn] at hh ⊢
      case value v => exact h _ _ hh
      case skip => exact h _ _ hh
      case defer d => exact h _ _ hh
      case enter f args => exact ⟨fun e => (by cases e), (callsIn_wide.2 hh).mono (fun e w'' he => by cases e <;> first | exact h _ _ he | exact he)⟩
      case row r args => exact ⟨fun e => (by cases e), (rows_wide hh).mono (fun _ _ he => h _ _ he)⟩
    | halt x w' => cases x <;> simp only [Oper.upon, Oper.uponIn] at hh ⊢ <;> exact hh
  · exact absurd h2 hQ
theorem any_wide (hQ : ¬ LetsOut Q) : ∀ (fuel : Nat) (L : Array Bool) (a : Act) (w : World), wpAny P md ops Q fuel L a w → wpAnyIn Fence.wide n P md ops Q fuel L a w
  | 0, _, _, _, h => h
  | fuel + 1, L, a, w, h => by
    refine ⟨h.1, fun i hi => ?_⟩
    have h2 := h.2 i hi
    unfold wpOp at h2
    unfold wpOpIn
    cases ho : ops[i]? with
    | none => rw [ho] at h2; exact any_wide hQ fuel _ _ _ h2
    | some o =>
      rw [ho] at h2
      simp only [] at h2 ⊢
      by_cases hw : Region.wanted o (yielded ops a.tmps) = true
      · rw [if_pos hw] at h2 ⊢
        exact op_wide hQ (fun a w => any_wide hQ fuel _ a w) h2
      · rw [if_neg hw] at h2 ⊢
        exact ⟨fun _ _ => trivial, any_wide hQ fuel _ _ _ h2⟩
theorem wpIn_calm_wide {id : Nat} {a : Act} {w : World} {ops : List Oper} (k : Nat) (C : World → Prop) (hm : P.follows .mixedOrders = true) (hQ : ¬ LetsOut Q) (hk : decide (k ≤ ops.length) = true) (hB : ordB .any ops.toArray k = true) (hL : Region.lexB .any (ops.take k).toArray = true) (hC : C w.drew)
    (h : wpQuiet P (ops.take k).toArray C (fun a' => ∀ w', C w' → wpList P ops.toArray Q (ops.drop k) a' w') (ops.take k) a) : (Code.region id ops.toArray true).wpIn Fence.wide n P Q a w := by
  have hk' : k ≤ ops.length := by simpa using hk
  refine wpIn_region_any hm (any_wide hQ _ _ _ _ (any_calm k hB (take_size hk') (pre_take hk') hL hC ?_))
  rw [tail_list hk']
  simpa using h
end
/-- the sum of the cells that are wanted, and how many they are -/
def mnF (wb : Nat → Nat → Bool) (h : Nat → Nat → Int) (L : List (Nat × Nat)) : Int × Int := L.foldl (fun s p => if wb p.1 p.2 then (s.1 + h p.1 p.2, s.2 + 1) else s) (0, 0)
theorem mnF_next (wb : Nat → Nat → Bool) (h : Nat → Nat → Int) (L : List (Nat × Nat)) (p : Nat × Nat) : mnF wb h (L ++ [p]) = if wb p.1 p.2 then ((mnF wb h L).1 + h p.1 p.2, (mnF wb h L).2 + 1) else mnF wb h L := by
  unfold mnF; rw [List.foldl_append]; rfl
theorem mnF_bd0 {R C : Nat} (wb : Nat → Nat → Bool) (h : Nat → Nat → Int) (h0 : ∀ i k, i < R → k < C → 0 ≤ h i k) (h1 : ∀ i k, i < R → k < C → h i k ≤ 1000) (L : List (Nat × Nat)) : L <+: plAll R C → (0 ≤ (mnF wb h L).1 ∧ (mnF wb h L).1 ≤ 1000 * L.length) ∧ (0 ≤ (mnF wb h L).2 ∧ (mnF wb h L).2 ≤ L.length) := by
  refine snoc_ind (P := fun L => L <+: plAll R C → (0 ≤ (mnF wb h L).1 ∧ (mnF wb h L).1 ≤ 1000 * L.length) ∧ (0 ≤ (mnF wb h L).2 ∧ (mnF wb h L).2 ≤ L.length)) (fun _ => by unfold mnF; simp) (fun L p ih hp => ?_) L
  obtain ⟨a, b, _⟩ := pre_place hp
  have i := ih ((List.prefix_append _ _).trans hp)
  have d0 := h0 p.1 p.2 a b
  have d1 := h1 p.1 p.2 a b
  rw [mnF_next, List.length_append, List.length_singleton]
  cases wb p.1 p.2
  · rw [if_neg (by decide)]; omega
  · rw [if_pos rfl]; dsimp only; omega
theorem mnF_bd {R C : Nat} (hR : R ≤ 10) (hC : C ≤ 10) (wb : Nat → Nat → Bool) (h : Nat → Nat → Int) (h0 : ∀ i k, i < R → k < C → 0 ≤ h i k) (h1 : ∀ i k, i < R → k < C → h i k ≤ 1000) {L : List (Nat × Nat)} (hL : L <+: plAll R C) : (0 ≤ (mnF wb h L).1 ∧ (mnF wb h L).1 ≤ 100000) ∧ (0 ≤ (mnF wb h L).2 ∧ (mnF wb h L).2 ≤ 100) := by
  have a := mnF_bd0 wb h h0 h1 L hL
  have b := hL.length_le
  have c := plAll_100 hR hC
  omega
set_option maxRecDepth 100000 in
set_option maxHeartbeats 6400000 in
theorem meanBound_any (q : Nat) (r : Value) (wb : Nat → Nat → Bool) (eq' : ∀ args w, (callFunc q args).run Try.prog w = .ok (.enter q args) w) (g o cap R C : Nat) (rg ro rc : Nat → Nat) (h : Nat → Nat → Int) (w : World) (x : GR w g o cap R C rg ro rc h)
    (cQ0 : ∀ W, Below w.heap.size w W → ∀ i k, i < R → k < C → Calls Try.prog q (#[r, encP (i, k)]) W fun e w' => e = .returned (.bool (wb i k)) ∧ Below W.heap.size W w') :
    Calls Try.prog 76 #[.slice (some ⟨g, o, none⟩) R cap, .func (.func q) #[r] #[]] w fun e w' => e = .returned (.tuple #[.int .i64 (rnd (mnF wb h (plAll R C)).1 (mnF wb h (plAll R C)).2), .bool (decide ((mnF wb h (plAll R C)).2 > 0))]) ∧ Below w.heap.size w w' := by
  have r2 := x.R10
  have c2 := x.C10
  have cQ := Lib.hid cQ0
  clear cQ0
  have hx := Lib.hid x
  have hx1 := x
  have hd := Lib.hid (Below.refl w.heap.size w)
  clear x
  refine (callsIn_wide (n := 3)).1 ?_
  refine callsIn_of_wp_marks Try.func76 rfl trivial ?_ rfl
  simp only [Try.ntmps76, List.size_toArray, List.length_cons, List.length_nil, Nat.reduceAdd, Nat.reduceSub, Array.replicate_succ, Array.replicate_zero, List.push_toArray, List.append_toArray, List.nil_append, List.cons_append]
  gi_wp2_with fail
  refine ⟨trivial, (callsIn_wide.2 (places_any _ _ _ _)).mono ?_⟩
  rintro e w2 ⟨rfl, rfl⟩
  gi_wp2_with fail
  obtain ⟨N, hN⟩ : ∃ N, N = w.heap.size := ⟨_, rfl⟩
  have g0 : (((((w.alloc (.cells #[.slice (some ⟨g, o, none⟩) R cap] 76)).alloc (.cells #[.func (.func q) #[r] #[]] 72)).alloc (.cells #[.int .i64 0] 2)).alloc (.cells #[.int .i64 0] 2)).alloc (.cells #[.slice (some ⟨g, o, none⟩) R cap] 76)).heap[N]? = some (.cells #[.slice (some ⟨g, o, none⟩) R cap] 76 (0, 0)) := by
    rw [Below.heap_alloc _ _ _ (by simp; omega)]
    rw [Below.heap_alloc _ _ _ (by simp; omega)]
    rw [Below.heap_alloc _ _ _ (by simp; omega)]
    rw [Below.heap_alloc _ _ _ (by simp; omega)]
    have := heap_alloc_new (w) (.cells #[.slice (some ⟨g, o, none⟩) R cap] 76)
    rw [hN]; simpa using this
  have g1 : (((((w.alloc (.cells #[.slice (some ⟨g, o, none⟩) R cap] 76)).alloc (.cells #[.func (.func q) #[r] #[]] 72)).alloc (.cells #[.int .i64 0] 2)).alloc (.cells #[.int .i64 0] 2)).alloc (.cells #[.slice (some ⟨g, o, none⟩) R cap] 76)).heap[N + 1]? = some (.cells #[.func (.func q) #[r] #[]] 72 (0, 0)) := by
    rw [Below.heap_alloc _ _ _ (by simp; omega)]
    rw [Below.heap_alloc _ _ _ (by simp; omega)]
    rw [Below.heap_alloc _ _ _ (by simp; omega)]
    have := heap_alloc_new ((w.alloc (.cells #[.slice (some ⟨g, o, none⟩) R cap] 76))) (.cells #[.func (.func q) #[r] #[]] 72)
    rw [hN]; simpa using this
  have g2 : (((((w.alloc (.cells #[.slice (some ⟨g, o, none⟩) R cap] 76)).alloc (.cells #[.func (.func q) #[r] #[]] 72)).alloc (.cells #[.int .i64 0] 2)).alloc (.cells #[.int .i64 0] 2)).alloc (.cells #[.slice (some ⟨g, o, none⟩) R cap] 76)).heap[N + 1 + 1]? = some (.cells #[.int .i64 0] 2 (0, 0)) := by
    rw [Below.heap_alloc _ _ _ (by simp; omega)]
    rw [Below.heap_alloc _ _ _ (by simp; omega)]
    have := heap_alloc_new (((w.alloc (.cells #[.slice (some ⟨g, o, none⟩) R cap] 76)).alloc (.cells #[.func (.func q) #[r] #[]] 72))) (.cells #[.int .i64 0] 2)
    rw [hN]; simpa using this
  have g3 : (((((w.alloc (.cells #[.slice (some ⟨g, o, none⟩) R cap] 76)).alloc (.cells #[.func (.func q) #[r] #[]] 72)).alloc (.cells #[.int .i64 0] 2)).alloc (.cells #[.int .i64 0] 2)).alloc (.cells #[.slice (some ⟨g, o, none⟩) R cap] 76)).heap[N + 1 + 1 + 1]? = some (.cells #[.int .i64 0] 2 (0, 0)) := by
    rw [Below.heap_alloc _ _ _ (by simp; omega)]
    have := heap_alloc_new ((((w.alloc (.cells #[.slice (some ⟨g, o, none⟩) R cap] 76)).alloc (.cells #[.func (.func q) #[r] #[]] 72)).alloc (.cells #[.int .i64 0] 2))) (.cells #[.int .i64 0] 2)
    rw [hN]; simpa using this
  have g4 : (((((w.alloc (.cells #[.slice (some ⟨g, o, none⟩) R cap] 76)).alloc (.cells #[.func (.func q) #[r] #[]] 72)).alloc (.cells #[.int .i64 0] 2)).alloc (.cells #[.int .i64 0] 2)).alloc (.cells #[.slice (some ⟨g, o, none⟩) R cap] 76)).heap[N + 1 + 1 + 1 + 1]? = some (.cells #[.slice (some ⟨g, o, none⟩) R cap] 76 (0, 0)) := by
    have := heap_alloc_new (((((w.alloc (.cells #[.slice (some ⟨g, o, none⟩) R cap] 76)).alloc (.cells #[.func (.func q) #[r] #[]] 72)).alloc (.cells #[.int .i64 0] 2)).alloc (.cells #[.int .i64 0] 2))) (.cells #[.slice (some ⟨g, o, none⟩) R cap] 76)
    rw [hN]; simpa using this
  have gz : (((((w.alloc (.cells #[.slice (some ⟨g, o, none⟩) R cap] 76)).alloc (.cells #[.func (.func q) #[r] #[]] 72)).alloc (.cells #[.int .i64 0] 2)).alloc (.cells #[.int .i64 0] 2)).alloc (.cells #[.slice (some ⟨g, o, none⟩) R cap] 76)).heap.size = N + 5 := by simp [hN]
  have gB : Below w.heap.size w (((((w.alloc (.cells #[.slice (some ⟨g, o, none⟩) R cap] 76)).alloc (.cells #[.func (.func q) #[r] #[]] 72)).alloc (.cells #[.int .i64 0] 2)).alloc (.cells #[.int .i64 0] 2)).alloc (.cells #[.slice (some ⟨g, o, none⟩) R cap] 76)) := (((((Below.refl _ _).alloc (by simp <;> omega) _).alloc (by simp <;> omega) _).alloc (by simp <;> omega) _).alloc (by simp <;> omega) _).alloc (by simp <;> omega) _
  have gW := hd.out.trans (gB.mono hd.out.size)
  have hx2 := hx1.below gB
  have hwN : w.heap.size ≤ N := by rw [hN]; exact hd.out.size
  have hgN : g < N := by rw [hN]; exact hx1.gl
  rw [← hN]
  clear hx1 gB hd hN
  generalize (((((w.alloc (.cells #[.slice (some ⟨g, o, none⟩) R cap] 76)).alloc (.cells #[.func (.func q) #[r] #[]] 72)).alloc (.cells #[.int .i64 0] 2)).alloc (.cells #[.int .i64 0] 2)).alloc (.cells #[.slice (some ⟨g, o, none⟩) R cap] 76)) = W0 at g0 g1 g2 g3 g4 gz gW hx2 ⊢
  have hseq := places_seq 2 (N + 1 + 1 + 1 + 1) g o cap R C (fun b => b ≠ N + 1 + 1 ∧ b ≠ N + 1 + 1 + 1) W0 (hx2.pl (cellB g4 0 _ rfl)) (show N + 1 + 1 + 1 + 1 ≠ N + 1 + 1 ∧ N + 1 + 1 + 1 + 1 ≠ N + 1 + 1 + 1 by omega) (by omega)
  have hbd := Lib.hid (fun pre hp => mnF_bd (R := R) (C := C) r2 c2 wb h hx2.h0 hx2.h1 (L := pre) hp)
  refine' rangeP rfl (enters_of Try.func104 (by kernel_rfl) rfl) hseq
    (fun pre W => (W.heap[N]? = some (.cells #[.slice (some ⟨g, o, none⟩) R cap] 76 (0, 0)) ∧ W.heap[N + 1]? = some (.cells #[.func (.func q) #[r] #[]] 72 (0, 0)) ∧ W.heap[N + 1 + 1]? = some (.cells #[.int .i64 (mnF wb h pre).1] 2 (0, 0)) ∧ W.heap[N + 1 + 1 + 1]? = some (.cells #[.int .i64 (mnF wb h pre).2] 2 (0, 0))) ∧ Below w.heap.size w W)
    (fun _ _ _ => False)
    (fun s A B h hAB => ⟨⟨low_heap h.1.1 (by omega) hAB, low_heap h.1.2.1 (by omega) hAB, low_heap h.1.2.2.1 (by omega) hAB, low_heap h.1.2.2.2 (by omega) hAB⟩, h.2.trans (hAB.mono (by omega))⟩)
    (fun _ _ _ _ h _ => h)
    ⟨⟨g0, g1, g2, g3⟩, gW⟩ ?assign ?body ?done ?stop
  case assign =>
    rintro l B x W K hB hK
    unfold encP
    gi_wp2
    exact hK
  case body =>
    rintro l B pre ⟨p, q'⟩ W hpre hl hlB hBW ⟨⟨i0, i1, i2, i3⟩, iB⟩ hBx hWz
    obtain ⟨hp, hq, hpl⟩ := pre_place hpre
    clear hpl
    have hsb := hbd.out pre ((List.prefix_append _ _).trans hpre)
    have hnext := mnF_next wb h pre (p, q')
    obtain ⟨s, hse⟩ : ∃ s, s = (mnF wb h pre).1 := ⟨_, rfl⟩
    obtain ⟨n, hne⟩ : ∃ n, n = (mnF wb h pre).2 := ⟨_, rfl⟩
    have hpair : mnF wb h pre = (s, n) := by rw [hse, hne]
    rw [hpair] at i2 i3 hsb hnext
    dsimp only at i2 i3 hsb hnext hBx hp hq ⊢
    clear hse hne hpair
    have hz := Lib.hid (hx.out.below iB)
    have cA0 := fun w' (hw' : Below W.heap.size W w') => at_any g o cap R C rg ro rc h w' (hz.out.below hw') p q' hp hq
    have cQ1 := fun w' (hw' : Below W.heap.size W w') => cQ.out w' (below2 iB hw') p q' hp hq
    unfold encP at cA0 cQ1
    dsimp only at cA0 cQ1
    have z0 := hz.out.h0 p q' hp hq
    have z1 := hz.out.h1 p q' hp hq
    obtain ⟨z, hz1⟩ : ∃ z, z = h p q' := ⟨_, rfl⟩
    rw [← hz1] at cA0 hnext z0 z1
    have cA := Lib.hid cA0
    have cW := Lib.hid cQ1
    have ew : IntKind.i64.wrap (s + z) = s + z := IntWalk.i64_in _ (by omega)
    have en : IntKind.i64.wrap (n + 1) = n + 1 := IntWalk.i64_in _ (by omega)
    clear hz1 cA0 hp hq z0 z1 cQ1
    have hN0 : N < W.heap.size := by omega
    have hN1 : N + 1 < W.heap.size := by omega
    have hN2 : N + 1 + 1 < W.heap.size := by omega
    have hN3 : N + 1 + 1 + 1 < W.heap.size := by omega
    have keyC : Hid (∀ w', Below W.heap.size W w' → w'.heap[N]? = some (.cells #[.slice (some ⟨g, o, none⟩) R cap] 76 (0, 0)) ∧ w'.heap[N + 1]? = some (.cells #[.func (.func q) #[r] #[]] 72 (0, 0)) ∧ w'.heap[N + 1 + 1]? = some (.cells #[.int .i64 s] 2 (0, 0)) ∧ w'.heap[N + 1 + 1 + 1]? = some (.cells #[.int .i64 n] 2 (0, 0)) ∧ w'.heap[B]? = some (.cells #[.int .i64 (p : Int), .int .i64 (q' : Int)] 71 (0, 0))) := Lib.hid (fun w' hw' => ⟨(hw'.block _ hN0).trans i0, (hw'.block _ hN1).trans i1, (hw'.block _ hN2).trans i2, (hw'.block _ hN3).trans i3, (hw'.block _ hBW).trans hBx⟩)
    have open0 : Hid (∀ w', Below W.heap.size W w' → w'.cell? ⟨N, 0, none⟩ = some (.slice (some ⟨g, o, none⟩) R cap) ∧ w'.cell? ⟨N + 1, 0, none⟩ = some (.func (.func q) #[r] #[]) ∧ w'.cell? ⟨N + 1 + 1, 0, none⟩ = some (.int .i64 s) ∧ w'.cell? ⟨N + 1 + 1 + 1, 0, none⟩ = some (.int .i64 n) ∧ w'.cell? ⟨B, 0, none⟩ = some (.int .i64 (p : Int)) ∧ w'.cell? ⟨B, 1, none⟩ = some (.int .i64 (q' : Int))) := Lib.hid (fun w' hw' => by
      obtain ⟨e0, e1, e2, e3, e4⟩ := keyC.out w' hw'
      exact ⟨cellB e0 0 _ rfl, cellB e1 0 _ rfl, cellB e2 0 _ rfl, cellB e3 0 _ rfl, cellB e4 0 _ rfl, cellB e4 1 _ rfl⟩)
    clear hpre i0 i1 i2 i3 hBx
    obtain ⟨k0, k1, k2, k3, k4, k5⟩ := open0.out W (Below.refl _ _)
    cases hwb : wb p q' <;> rw [hwb] at cW hnext
    · have hr : Hid (mnF wb h (pre ++ [(p, q')]) = (s, n)) := Lib.hid (by rw [hnext]; rfl)
      have cW1 := Lib.hid (cW.out W (Below.refl _ _))
      clear hnext hwb cA cW
      gi_wp2_with fail
      refine ⟨trivial, (callsIn_wide.2 cW1.out).mono ?_⟩
      rintro e w1 ⟨rfl, b1⟩
      gi_wp2
      obtain ⟨e0, e1, e2, e3, e4⟩ := keyC.out w1 b1
      refine ⟨KeepsFrom.below b1, Keeps.of_below b1, ⟨e0, e1, ?_, ?_⟩, below2 iB b1⟩
      · rw [hr.out]; exact e2
      · rw [hr.out]; exact e3
    · have hr : Hid (mnF wb h (pre ++ [(p, q')]) = (s + z, n + 1)) := Lib.hid (by rw [hnext]; rfl)
      have cW1 := Lib.hid (cW.out W (Below.refl _ _))
      clear hnext hwb cW k0 k1 k2 k3 k4 k5
      obtain ⟨k0, k1, k2, k3, k4, k5⟩ := open0.out W (Below.refl _ _)
      gi_wp2_with fail
      refine ⟨trivial, (callsIn_wide.2 cW1.out).mono ?_⟩
      rintro e w1 ⟨rfl, b1⟩
      clear k0 k1 k2 k3 k4 k5
      gi_wp2_with fail
      refine wpIn_calm 5 (fun w' => Below W.heap.size W w') (by kernel_rfl) (by kernel_rfl) (by rintro ⟨_, _, h⟩; exact h) (by kernel_rfl) (by kernel_rfl) (by kernel_rfl) (belowN b1 1) ?_
      simp only [List.take_succ_cons, List.take_zero, List.drop_succ_cons, List.drop_zero]
      refine calm_take (v := ?vy43) (by rfl) ?ey43 ?ry43
      case ey43 => (intro w' hw'; obtain ⟨k0, k1, k2, k3, k4, k5⟩ := open0.out w' hw'; go_simp; try with_reducible rfl)
      try simp only [Act.put, List.setIfInBounds_toArray, List.set_cons_zero, List.set_cons_succ]
      refine calm_take (v := ?vy44) (by rfl) ?ey44 ?ry44
      case ey44 => (intro w' hw'; obtain ⟨k0, k1, k2, k3, k4, k5⟩ := open0.out w' hw'; go_simp; try with_reducible rfl)
      try simp only [Act.put, List.setIfInBounds_toArray, List.set_cons_zero, List.set_cons_succ]
      refine calm_take (v := ?vy45) (by rfl) ?ey45 ?ry45
      case ey45 => (intro w' hw'; obtain ⟨k0, k1, k2, k3, k4, k5⟩ := open0.out w' hw'; go_simp; try with_reducible rfl)
      try simp only [Act.put, List.setIfInBounds_toArray, List.set_cons_zero, List.set_cons_succ]
      refine calm_call (v := .int .i64 z) (f := ?fy46) (args := ?ay46) (by rfl) ?ey46 ?cy46 ?ry46
      case ey46 => (intro w' hw'; obtain ⟨k0, k1, k2, k3, k4, k5⟩ := open0.out w' hw'; go_simp; first | (with_reducible rfl) | (refine ⟨?_, ?_⟩ <;> with_reducible rfl))
      case cy46 => (intro w' hw'; with_reducible exact calm_ret hw' (cA.out w' hw'))
      try simp only [Act.put, List.setIfInBounds_toArray, List.set_cons_zero, List.set_cons_succ]
      refine calm_take (v := ?vy47) (by rfl) ?ey47 ?ry47
      case ey47 => (intro w' hw'; obtain ⟨k0, k1, k2, k3, k4, k5⟩ := open0.out w' hw'; go_simp; try with_reducible rfl)
      try simp only [Act.put, List.setIfInBounds_toArray, List.set_cons_zero, List.set_cons_succ]
      refine wpQuiet_nil (fun w' hw' => ?_)
      obtain ⟨e0, e1, e2, e3, e4⟩ := keyC.out w' hw'
      obtain ⟨k0, k1, k2, k3, k4, k5⟩ := open0.out w' hw'
      have f0 := freeB e2 0
      have f1 := freeB e3 0
      go_wp2
      all_goals gi_wp2
      all_goals
        refine ⟨(KeepsFrom.below hw').trans (((KeepsOthers.setCell w' _ _).from _).trans ((KeepsOthers.setCell _ _ _).from _)), (Keeps.of_below hw').trans ((Keeps.setCell _ _ (by simp) _).trans (Keeps.setCell _ _ (by simp) _)), ⟨(Below.heap_setCell _ _ _ _ (by simp <;> omega)).trans ((Below.heap_setCell _ _ _ _ (by simp <;> omega)).trans e0), (Below.heap_setCell _ _ _ _ (by simp <;> omega)).trans ((Below.heap_setCell _ _ _ _ (by simp <;> omega)).trans e1), ?_, ?_⟩, ((below2 iB hw').setCell (p := ⟨N + 1 + 1, 0, none⟩) (by show w.heap.size ≤ N + 1 + 1; omega) _).setCell (p := ⟨N + 1 + 1 + 1, 0, none⟩) (by show w.heap.size ≤ N + 1 + 1 + 1; omega) _⟩
        · rw [hr.out]
          exact (Below.heap_setCell _ _ _ _ (by simp <;> omega)).trans (heap_set e2 0 _ _ (by simp <;> omega))
        · rw [hr.out]
          exact heap_set ((Below.heap_setCell _ _ _ _ (by simp <;> omega)).trans e3) 0 _ _ (by simp <;> omega)
  case done =>
    rintro K W hK ⟨⟨i0, i1, i2, i3⟩, iB⟩ hD
    have hsb := hbd.out _ (List.prefix_refl _)
    obtain ⟨s, hse⟩ : ∃ s, s = (mnF wb h (plAll R C)).1 := ⟨_, rfl⟩
    obtain ⟨n, hne⟩ : ∃ n, n = (mnF wb h (plAll R C)).2 := ⟨_, rfl⟩
    rw [← hse, ← hne] at hsb
    rw [← hse] at i2
    rw [← hne] at i3
    have hv1 := Lib.hid hse
    have hv2 := Lib.hid hne
    clear hse hne
    have open0 : Hid (∀ w', Below W.heap.size W w' → w'.cell? ⟨N + 1 + 1, 0, none⟩ = some (.int .i64 s) ∧ w'.cell? ⟨N + 1 + 1 + 1, 0, none⟩ = some (.int .i64 n)) := Lib.hid (fun w' hw' => ⟨cellB ((hw'.block _ (lt_of_some i2)).trans i2) 0 _ rfl, cellB ((hw'.block _ (lt_of_some i3)).trans i3) 0 _ rfl⟩)
    have cN : Hid (∀ w', Calls Try.prog 95 #[.int .i64 s, .int .i64 n] w' fun e w'' => e = .returned (.int .i64 (rnd s n)) ∧ Below w'.heap.size w' w'') := Lib.hid (fun w' => by
      by_cases hn0 : n = 0
      · subst hn0
        refine (nearest_zero s w').mono ?_
        rintro e w'' ⟨rfl, rfl⟩
        exact ⟨ret_int (by unfold rnd; rw [if_pos rfl]), Below.refl _ _⟩
      · refine (nearest_any s n hn0 (by omega) (by omega) (by omega) (by omega) w').mono ?_
        rintro e w'' ⟨rfl, m, rfl⟩
        exact ⟨rfl, belowN (Below.refl _ _) m⟩)
    clear i0 i1 i2 i3
    gi_wp2_with fail
    refine wpIn_calm_wide 7 (fun w' => Below W.heap.size W w') (by kernel_rfl) (by rintro ⟨_, _, h⟩; first | (obtain ⟨h1, _⟩ := h; cases h1; done) | (unfold Exit.then at h; dsimp only at h; trace_state; exact h)) (by kernel_rfl) (by kernel_rfl) (by kernel_rfl) (belowN (Below.refl _ _) 1) ?_
    simp only [List.take_succ_cons, List.take_zero, List.drop_succ_cons, List.drop_zero]
    refine calm_take (v := ?vy48) (by rfl) ?ey48 ?ry48
    case ey48 => (intro w' hw'; obtain ⟨k0, k1⟩ := open0.out w' hw'; go_simp; try with_reducible rfl)
    try simp only [Act.put, List.setIfInBounds_toArray, List.set_cons_zero, List.set_cons_succ]
    refine calm_take (v := ?vy49) (by rfl) ?ey49 ?ry49
    case ey49 => (intro w' hw'; obtain ⟨k0, k1⟩ := open0.out w' hw'; go_simp; try with_reducible rfl)
    try simp only [Act.put, List.setIfInBounds_toArray, List.set_cons_zero, List.set_cons_succ]
    refine calm_call (v := .int .i64 (rnd s n)) (f := ?fy50) (args := ?ay50) (by rfl) ?ey50 ?cy50 ?ry50
    case ey50 => (intro w' hw'; obtain ⟨k0, k1⟩ := open0.out w' hw'; go_simp; first | (with_reducible rfl) | (refine ⟨?_, ?_⟩ <;> with_reducible rfl))
    case cy50 => (intro w' hw'; with_reducible exact calm_ret hw' (cN.out w'))
    try simp only [Act.put, List.setIfInBounds_toArray, List.set_cons_zero, List.set_cons_succ]
    refine calm_take (v := ?vy51) (by rfl) ?ey51 ?ry51
    case ey51 => (intro w' hw'; obtain ⟨k0, k1⟩ := open0.out w' hw'; go_simp; try with_reducible rfl)
    try simp only [Act.put, List.setIfInBounds_toArray, List.set_cons_zero, List.set_cons_succ]
    refine calm_take (v := ?vy52) (by rfl) ?ey52 ?ry52
    case ey52 => (intro w' hw'; obtain ⟨k0, k1⟩ := open0.out w' hw'; go_simp; try with_reducible rfl)
    try simp only [Act.put, List.setIfInBounds_toArray, List.set_cons_zero, List.set_cons_succ]
    refine calm_take (v := ?vy53) (by rfl) ?ey53 ?ry53
    case ey53 => (intro w' hw'; obtain ⟨k0, k1⟩ := open0.out w' hw'; go_simp; try with_reducible rfl)
    try simp only [Act.put, List.setIfInBounds_toArray, List.set_cons_zero, List.set_cons_succ]
    refine calm_take (v := ?vy54) (by rfl) ?ey54 ?ry54
    case ey54 => (intro w' hw'; obtain ⟨k0, k1⟩ := open0.out w' hw'; go_simp; try with_reducible rfl)
    try simp only [Act.put, List.setIfInBounds_toArray, List.set_cons_zero, List.set_cons_succ]
    refine wpQuiet_nil (fun w' hw' => ?_)
    go_wp2
    all_goals gi_wp2
    refine ⟨by simp, .inl ⟨_, _, rfl, run_takeDeferred ((hw'.block _ (lt_of_some hD)).trans hD), ?_⟩⟩
    refine ⟨.tuple #[.int .i64 (rnd s n), .bool (decide (n > 0))], ?_, by rw [← hv1.out, ← hv2.out], (below2 iB hw').trans (below_put _ _ (by omega) (Nat.le_trans iB.size hw'.size))⟩
    simp [results, Try.f76, go_sem]
  case stop =>
    rintro K c pre W _ _ h _
    exact h.elim
set_option maxRecDepth 100000 in
set_option maxHeartbeats 6400000 in
theorem meanCaps_any (q : Nat) (caps : Array Value) (wb : Nat → Nat → Bool) (eq' : ∀ args w, (callFunc q args).run Try.prog w = .ok (.enter q args) w) (g o cap R C : Nat) (rg ro rc : Nat → Nat) (h : Nat → Nat → Int) (w : World) (x : GR w g o cap R C rg ro rc h)
    (cQ0 : ∀ W, Below w.heap.size w W → ∀ i k, i < R → k < C → Calls Try.prog q (#[encP (i, k)] ++ caps) W fun e w' => e = .returned (.bool (wb i k)) ∧ Below W.heap.size W w') :
    Calls Try.prog 76 #[.slice (some ⟨g, o, none⟩) R cap, .func (.func q) #[] caps] w fun e w' => e = .returned (.tuple #[.int .i64 (rnd (mnF wb h (plAll R C)).1 (mnF wb h (plAll R C)).2), .bool (decide ((mnF wb h (plAll R C)).2 > 0))]) ∧ Below w.heap.size w w' := by
  have r2 := x.R10
  have c2 := x.C10
  have cQ := Lib.hid cQ0
  clear cQ0
  have hx := Lib.hid x
  have hx1 := x
  have hd := Lib.hid (Below.refl w.heap.size w)
  clear x
  refine (callsIn_wide (n := 3)).1 ?_
  refine callsIn_of_wp_marks Try.func76 rfl trivial ?_ rfl
  simp only [Try.ntmps76, List.size_toArray, List.length_cons, List.length_nil, Nat.reduceAdd, Nat.reduceSub, Array.replicate_succ, Array.replicate_zero, List.push_toArray, List.append_toArray, List.nil_append, List.cons_append]
  gi_wp2_with fail
  refine ⟨trivial, (callsIn_wide.2 (places_any _ _ _ _)).mono ?_⟩
  rintro e w2 ⟨rfl, rfl⟩
  gi_wp2_with fail
  obtain ⟨N, hN⟩ : ∃ N, N = w.heap.size := ⟨_, rfl⟩
  have g0 : (((((w.alloc (.cells #[.slice (some ⟨g, o, none⟩) R cap] 76)).alloc (.cells #[.func (.func q) #[] caps] 72)).alloc (.cells #[.int .i64 0] 2)).alloc (.cells #[.int .i64 0] 2)).alloc (.cells #[.slice (some ⟨g, o, none⟩) R cap] 76)).heap[N]? = some (.cells #[.slice (some ⟨g, o, none⟩) R cap] 76 (0, 0)) := by
    rw [Below.heap_alloc _ _ _ (by simp; omega)]
    rw [Below.heap_alloc _ _ _ (by simp; omega)]
    rw [Below.heap_alloc _ _ _ (by simp; omega)]
    rw [Below.heap_alloc _ _ _ (by simp; omega)]
    have := heap_alloc_new (w) (.cells #[.slice (some ⟨g, o, none⟩) R cap] 76)
    rw [hN]; simpa using this
  have g1 : (((((w.alloc (.cells #[.slice (some ⟨g, o, none⟩) R cap] 76)).alloc (.cells #[.func (.func q) #[] caps] 72)).alloc (.cells #[.int .i64 0] 2)).alloc (.cells #[.int .i64 0] 2)).alloc (.cells #[.slice (some ⟨g, o, none⟩) R cap] 76)).heap[N + 1]? = some (.cells #[.func (.func q) #[] caps] 72 (0, 0)) := by
    rw [Below.heap_alloc _ _ _ (by simp; omega)]
    rw [Below.heap_alloc _ _ _ (by simp; omega)]
    rw [Below.heap_alloc _ _ _ (by simp; omega)]
    have := heap_alloc_new ((w.alloc (.cells #[.slice (some ⟨g, o, none⟩) R cap] 76))) (.cells #[.func (.func q) #[] caps] 72)
    rw [hN]; simpa using this
  have g2 : (((((w.alloc (.cells #[.slice (some ⟨g, o, none⟩) R cap] 76)).alloc (.cells #[.func (.func q) #[] caps] 72)).alloc (.cells #[.int .i64 0] 2)).alloc (.cells #[.int .i64 0] 2)).alloc (.cells #[.slice (some ⟨g, o, none⟩) R cap] 76)).heap[N + 1 + 1]? = some (.cells #[.int .i64 0] 2 (0, 0)) := by
    rw [Below.heap_alloc _ _ _ (by simp; omega)]
    rw [Below.heap_alloc _ _ _ (by simp; omega)]
    have := heap_alloc_new (((w.alloc (.cells #[.slice (some ⟨g, o, none⟩) R cap] 76)).alloc (.cells #[.func (.func q) #[] caps] 72))) (.cells #[.int .i64 0] 2)
    rw [hN]; simpa using this
  have g3 : (((((w.alloc (.cells #[.slice (some ⟨g, o, none⟩) R cap] 76)).alloc (.cells #[.func (.func q) #[] caps] 72)).alloc (.cells #[.int .i64 0] 2)).alloc (.cells #[.int .i64 0] 2)).alloc (.cells #[.slice (some ⟨g, o, none⟩) R cap] 76)).heap[N + 1 + 1 + 1]? = some (.cells #[.int .i64 0] 2 (0, 0)) := by
    rw [Below.heap_alloc _ _ _ (by simp; omega)]
    have := heap_alloc_new ((((w.alloc (.cells #[.slice (some ⟨g, o, none⟩) R cap] 76)).alloc (.cells #[.func (.func q) #[] caps] 72)).alloc (.cells #[.int .i64 0] 2))) (.cells #[.int .i64 0] 2)
    rw [hN]; simpa using this
  have g4 : (((((w.alloc (.cells #[.slice (some ⟨g, o, none⟩) R cap] 76)).alloc (.cells #[.func (.func q) #[] caps] 72)).alloc (.cells #[.int .i64 0] 2)).alloc (.cells #[.int .i64 0] 2)).alloc (.cells #[.slice (some ⟨g, o, none⟩) R cap] 76)).heap[N + 1 + 1 + 1 + 1]? = some (.cells #[.slice (some ⟨g, o, none⟩) R cap] 76 (0, 0)) := by
    have := heap_alloc_new (((((w.alloc (.cells #[.slice (some ⟨g, o, none⟩) R cap] 76)).alloc (.cells #[.func (.func q) #[] caps] 72)).alloc (.cells #[.int .i64 0] 2)).alloc (.cells #[.int .i64 0] 2))) (.cells #[.slice (some ⟨g, o, none⟩) R cap] 76)
    rw [hN]; simpa using this
  have gz : (((((w.alloc (.cells #[.slice (some ⟨g, o, none⟩) R cap] 76)).alloc (.cells #[.func (.func q) #[] caps] 72)).alloc (.cells #[.int .i64 0] 2)).alloc (.cells #[.int .i64 0] 2)).alloc (.cells #[.slice (some ⟨g, o, none⟩) R cap] 76)).heap.size = N + 5 := by simp [hN]
  have gB : Below w.heap.size w (((((w.alloc (.cells #[.slice (some ⟨g, o, none⟩) R cap] 76)).alloc (.cells #[.func (.func q) #[] caps] 72)).alloc (.cells #[.int .i64 0] 2)).alloc (.cells #[.int .i64 0] 2)).alloc (.cells #[.slice (some ⟨g, o, none⟩) R cap] 76)) := (((((Below.refl _ _).alloc (by simp <;> omega) _).alloc (by simp <;> omega) _).alloc (by simp <;> omega) _).alloc (by simp <;> omega) _).alloc (by simp <;> omega) _
  have gW := hd.out.trans (gB.mono hd.out.size)
  have hx2 := hx1.below gB
  have hwN : w.heap.size ≤ N := by rw [hN]; exact hd.out.size
  have hgN : g < N := by rw [hN]; exact hx1.gl
  rw [← hN]
  clear hx1 gB hd hN
  generalize (((((w.alloc (.cells #[.slice (some ⟨g, o, none⟩) R cap] 76)).alloc (.cells #[.func (.func q) #[] caps] 72)).alloc (.cells #[.int .i64 0] 2)).alloc (.cells #[.int .i64 0] 2)).alloc (.cells #[.slice (some ⟨g, o, none⟩) R cap] 76)) = W0 at g0 g1 g2 g3 g4 gz gW hx2 ⊢
  have hseq := places_seq 2 (N + 1 + 1 + 1 + 1) g o cap R C (fun b => b ≠ N + 1 + 1 ∧ b ≠ N + 1 + 1 + 1) W0 (hx2.pl (cellB g4 0 _ rfl)) (show N + 1 + 1 + 1 + 1 ≠ N + 1 + 1 ∧ N + 1 + 1 + 1 + 1 ≠ N + 1 + 1 + 1 by omega) (by omega)
  have hbd := Lib.hid (fun pre hp => mnF_bd (R := R) (C := C) r2 c2 wb h hx2.h0 hx2.h1 (L := pre) hp)
  refine' rangeP rfl (enters_of Try.func104 (by kernel_rfl) rfl) hseq
    (fun pre W => (W.heap[N]? = some (.cells #[.slice (some ⟨g, o, none⟩) R cap] 76 (0, 0)) ∧ W.heap[N + 1]? = some (.cells #[.func (.func q) #[] caps] 72 (0, 0)) ∧ W.heap[N + 1 + 1]? = some (.cells #[.int .i64 (mnF wb h pre).1] 2 (0, 0)) ∧ W.heap[N + 1 + 1 + 1]? = some (.cells #[.int .i64 (mnF wb h pre).2] 2 (0, 0))) ∧ Below w.heap.size w W)
    (fun _ _ _ => False)
    (fun s A B h hAB => ⟨⟨low_heap h.1.1 (by omega) hAB, low_heap h.1.2.1 (by omega) hAB, low_heap h.1.2.2.1 (by omega) hAB, low_heap h.1.2.2.2 (by omega) hAB⟩, h.2.trans (hAB.mono (by omega))⟩)
    (fun _ _ _ _ h _ => h)
    ⟨⟨g0, g1, g2, g3⟩, gW⟩ ?assign ?body ?done ?stop
  case assign =>
    rintro l B x W K hB hK
    unfold encP
    gi_wp2
    exact hK
  case body =>
    rintro l B pre ⟨p, q'⟩ W hpre hl hlB hBW ⟨⟨i0, i1, i2, i3⟩, iB⟩ hBx hWz
    obtain ⟨hp, hq, hpl⟩ := pre_place hpre
    clear hpl
    have hsb := hbd.out pre ((List.prefix_append _ _).trans hpre)
    have hnext := mnF_next wb h pre (p, q')
    obtain ⟨s, hse⟩ : ∃ s, s = (mnF wb h pre).1 := ⟨_, rfl⟩
    obtain ⟨n, hne⟩ : ∃ n, n = (mnF wb h pre).2 := ⟨_, rfl⟩
    have hpair : mnF wb h pre = (s, n) := by rw [hse, hne]
    rw [hpair] at i2 i3 hsb hnext
    dsimp only at i2 i3 hsb hnext hBx hp hq ⊢
    clear hse hne hpair
    have hz := Lib.hid (hx.out.below iB)
    have cA0 := fun w' (hw' : Below W.heap.size W w') => at_any g o cap R C rg ro rc h w' (hz.out.below hw') p q' hp hq
    have cQ1 := fun w' (hw' : Below W.heap.size W w') => cQ.out w' (below2 iB hw') p q' hp hq
    unfold encP at cA0 cQ1
    dsimp only at cA0 cQ1
    have z0 := hz.out.h0 p q' hp hq
    have z1 := hz.out.h1 p q' hp hq
    obtain ⟨z, hz1⟩ : ∃ z, z = h p q' := ⟨_, rfl⟩
    rw [← hz1] at cA0 hnext z0 z1
    have cA := Lib.hid cA0
    have cW := Lib.hid cQ1
    have ew : IntKind.i64.wrap (s + z) = s + z := IntWalk.i64_in _ (by omega)
    have en : IntKind.i64.wrap (n + 1) = n + 1 := IntWalk.i64_in _ (by omega)
    clear hz1 cA0 hp hq z0 z1 cQ1
    have hN0 : N < W.heap.size := by omega
    have hN1 : N + 1 < W.heap.size := by omega
    have hN2 : N + 1 + 1 < W.heap.size := by omega
    have hN3 : N + 1 + 1 + 1 < W.heap.size := by omega
    have keyC : Hid (∀ w', Below W.heap.size W w' → w'.heap[N]? = some (.cells #[.slice (some ⟨g, o, none⟩) R cap] 76 (0, 0)) ∧ w'.heap[N + 1]? = some (.cells #[.func (.func q) #[] caps] 72 (0, 0)) ∧ w'.heap[N + 1 + 1]? = some (.cells #[.int .i64 s] 2 (0, 0)) ∧ w'.heap[N + 1 + 1 + 1]? = some (.cells #[.int .i64 n] 2 (0, 0)) ∧ w'.heap[B]? = some (.cells #[.int .i64 (p : Int), .int .i64 (q' : Int)] 71 (0, 0))) := Lib.hid (fun w' hw' => ⟨(hw'.block _ hN0).trans i0, (hw'.block _ hN1).trans i1, (hw'.block _ hN2).trans i2, (hw'.block _ hN3).trans i3, (hw'.block _ hBW).trans hBx⟩)
    have open0 : Hid (∀ w', Below W.heap.size W w' → w'.cell? ⟨N, 0, none⟩ = some (.slice (some ⟨g, o, none⟩) R cap) ∧ w'.cell? ⟨N + 1, 0, none⟩ = some (.func (.func q) #[] caps) ∧ w'.cell? ⟨N + 1 + 1, 0, none⟩ = some (.int .i64 s) ∧ w'.cell? ⟨N + 1 + 1 + 1, 0, none⟩ = some (.int .i64 n) ∧ w'.cell? ⟨B, 0, none⟩ = some (.int .i64 (p : Int)) ∧ w'.cell? ⟨B, 1, none⟩ = some (.int .i64 (q' : Int))) := Lib.hid (fun w' hw' => by
      obtain ⟨e0, e1, e2, e3, e4⟩ := keyC.out w' hw'
      exact ⟨cellB e0 0 _ rfl, cellB e1 0 _ rfl, cellB e2 0 _ rfl, cellB e3 0 _ rfl, cellB e4 0 _ rfl, cellB e4 1 _ rfl⟩)
    clear hpre i0 i1 i2 i3 hBx
    obtain ⟨k0, k1, k2, k3, k4, k5⟩ := open0.out W (Below.refl _ _)
    cases hwb : wb p q' <;> rw [hwb] at cW hnext
    · have hr : Hid (mnF wb h (pre ++ [(p, q')]) = (s, n)) := Lib.hid (by rw [hnext]; rfl)
      have cW1 := Lib.hid (cW.out W (Below.refl _ _))
      clear hnext hwb cA cW
      gi_wp2_with fail
      refine ⟨trivial, (callsIn_wide.2 cW1.out).mono ?_⟩
      rintro e w1 ⟨rfl, b1⟩
      gi_wp2
      obtain ⟨e0, e1, e2, e3, e4⟩ := keyC.out w1 b1
      refine ⟨KeepsFrom.below b1, Keeps.of_below b1, ⟨e0, e1, ?_, ?_⟩, below2 iB b1⟩
      · rw [hr.out]; exact e2
      · rw [hr.out]; exact e3
    · have hr : Hid (mnF wb h (pre ++ [(p, q')]) = (s + z, n + 1)) := Lib.hid (by rw [hnext]; rfl)
      have cW1 := Lib.hid (cW.out W (Below.refl _ _))
      clear hnext hwb cW k0 k1 k2 k3 k4 k5
      obtain ⟨k0, k1, k2, k3, k4, k5⟩ := open0.out W (Below.refl _ _)
      gi_wp2_with fail
      refine ⟨trivial, (callsIn_wide.2 cW1.out).mono ?_⟩
      rintro e w1 ⟨rfl, b1⟩
      clear k0 k1 k2 k3 k4 k5
      gi_wp2_with fail
      refine wpIn_calm 5 (fun w' => Below W.heap.size W w') (by kernel_rfl) (by kernel_rfl) (by rintro ⟨_, _, h⟩; exact h) (by kernel_rfl) (by kernel_rfl) (by kernel_rfl) (belowN b1 1) ?_
      simp only [List.take_succ_cons, List.take_zero, List.drop_succ_cons, List.drop_zero]
      refine calm_take (v := ?vy55) (by rfl) ?ey55 ?ry55
      case ey55 => (intro w' hw'; obtain ⟨k0, k1, k2, k3, k4, k5⟩ := open0.out w' hw'; go_simp; try with_reducible rfl)
      try simp only [Act.put, List.setIfInBounds_toArray, List.set_cons_zero, List.set_cons_succ]
      refine calm_take (v := ?vy56) (by rfl) ?ey56 ?ry56
      case ey56 => (intro w' hw'; obtain ⟨k0, k1, k2, k3, k4, k5⟩ := open0.out w' hw'; go_simp; try with_reducible rfl)
      try simp only [Act.put, List.setIfInBounds_toArray, List.set_cons_zero, List.set_cons_succ]
      refine calm_take (v := ?vy57) (by rfl) ?ey57 ?ry57
      case ey57 => (intro w' hw'; obtain ⟨k0, k1, k2, k3, k4, k5⟩ := open0.out w' hw'; go_simp; try with_reducible rfl)
      try simp only [Act.put, List.setIfInBounds_toArray, List.set_cons_zero, List.set_cons_succ]
      refine calm_call (v := .int .i64 z) (f := ?fy58) (args := ?ay58) (by rfl) ?ey58 ?cy58 ?ry58
      case ey58 => (intro w' hw'; obtain ⟨k0, k1, k2, k3, k4, k5⟩ := open0.out w' hw'; go_simp; first | (with_reducible rfl) | (refine ⟨?_, ?_⟩ <;> with_reducible rfl))
      case cy58 => (intro w' hw'; with_reducible exact calm_ret hw' (cA.out w' hw'))
      try simp only [Act.put, List.setIfInBounds_toArray, List.set_cons_zero, List.set_cons_succ]
      refine calm_take (v := ?vy59) (by rfl) ?ey59 ?ry59
      case ey59 => (intro w' hw'; obtain ⟨k0, k1, k2, k3, k4, k5⟩ := open0.out w' hw'; go_simp; try with_reducible rfl)
      try simp only [Act.put, List.setIfInBounds_toArray, List.set_cons_zero, List.set_cons_succ]
      refine wpQuiet_nil (fun w' hw' => ?_)
      obtain ⟨e0, e1, e2, e3, e4⟩ := keyC.out w' hw'
      obtain ⟨k0, k1, k2, k3, k4, k5⟩ := open0.out w' hw'
      have f0 := freeB e2 0
      have f1 := freeB e3 0
      go_wp2
      all_goals gi_wp2
      all_goals
        refine ⟨(KeepsFrom.below hw').trans (((KeepsOthers.setCell w' _ _).from _).trans ((KeepsOthers.setCell _ _ _).from _)), (Keeps.of_below hw').trans ((Keeps.setCell _ _ (by simp) _).trans (Keeps.setCell _ _ (by simp) _)), ⟨(Below.heap_setCell _ _ _ _ (by simp <;> omega)).trans ((Below.heap_setCell _ _ _ _ (by simp <;> omega)).trans e0), (Below.heap_setCell _ _ _ _ (by simp <;> omega)).trans ((Below.heap_setCell _ _ _ _ (by simp <;> omega)).trans e1), ?_, ?_⟩, ((below2 iB hw').setCell (p := ⟨N + 1 + 1, 0, none⟩) (by show w.heap.size ≤ N + 1 + 1; omega) _).setCell (p := ⟨N + 1 + 1 + 1, 0, none⟩) (by show w.heap.size ≤ N + 1 + 1 + 1; omega) _⟩
        · rw [hr.out]
          exact (Below.heap_setCell _ _ _ _ (by simp <;> omega)).trans (heap_set e2 0 _ _ (by simp <;> omega))
        · rw [hr.out]
          exact heap_set ((Below.heap_setCell _ _ _ _ (by simp <;> omega)).trans e3) 0 _ _ (by simp <;> omega)
  case done =>
    rintro K W hK ⟨⟨i0, i1, i2, i3⟩, iB⟩ hD
    have hsb := hbd.out _ (List.prefix_refl _)
    obtain ⟨s, hse⟩ : ∃ s, s = (mnF wb h (plAll R C)).1 := ⟨_, rfl⟩
    obtain ⟨n, hne⟩ : ∃ n, n = (mnF wb h (plAll R C)).2 := ⟨_, rfl⟩
    rw [← hse, ← hne] at hsb
    rw [← hse] at i2
    rw [← hne] at i3
    have hv1 := Lib.hid hse
    have hv2 := Lib.hid hne
    clear hse hne
    have open0 : Hid (∀ w', Below W.heap.size W w' → w'.cell? ⟨N + 1 + 1, 0, none⟩ = some (.int .i64 s) ∧ w'.cell? ⟨N + 1 + 1 + 1, 0, none⟩ = some (.int .i64 n)) := Lib.hid (fun w' hw' => ⟨cellB ((hw'.block _ (lt_of_some i2)).trans i2) 0 _ rfl, cellB ((hw'.block _ (lt_of_some i3)).trans i3) 0 _ rfl⟩)
    have cN : Hid (∀ w', Calls Try.prog 95 #[.int .i64 s, .int .i64 n] w' fun e w'' => e = .returned (.int .i64 (rnd s n)) ∧ Below w'.heap.size w' w'') := Lib.hid (fun w' => by
      by_cases hn0 : n = 0
      · subst hn0
        refine (nearest_zero s w').mono ?_
        rintro e w'' ⟨rfl, rfl⟩
        exact ⟨ret_int (by unfold rnd; rw [if_pos rfl]), Below.refl _ _⟩
      · refine (nearest_any s n hn0 (by omega) (by omega) (by omega) (by omega) w').mono ?_
        rintro e w'' ⟨rfl, m, rfl⟩
        exact ⟨rfl, belowN (Below.refl _ _) m⟩)
    clear i0 i1 i2 i3
    gi_wp2_with fail
    refine wpIn_calm_wide 7 (fun w' => Below W.heap.size W w') (by kernel_rfl) (by rintro ⟨_, _, h⟩; first | (obtain ⟨h1, _⟩ := h; cases h1; done) | (unfold Exit.then at h; dsimp only at h; trace_state; exact h)) (by kernel_rfl) (by kernel_rfl) (by kernel_rfl) (belowN (Below.refl _ _) 1) ?_
    simp only [List.take_succ_cons, List.take_zero, List.drop_succ_cons, List.drop_zero]
    refine calm_take (v := ?vy60) (by rfl) ?ey60 ?ry60
    case ey60 => (intro w' hw'; obtain ⟨k0, k1⟩ := open0.out w' hw'; go_simp; try with_reducible rfl)
    try simp only [Act.put, List.setIfInBounds_toArray, List.set_cons_zero, List.set_cons_succ]
    refine calm_take (v := ?vy61) (by rfl) ?ey61 ?ry61
    case ey61 => (intro w' hw'; obtain ⟨k0, k1⟩ := open0.out w' hw'; go_simp; try with_reducible rfl)
    try simp only [Act.put, List.setIfInBounds_toArray, List.set_cons_zero, List.set_cons_succ]
    refine calm_call (v := .int .i64 (rnd s n)) (f := ?fy62) (args := ?ay62) (by rfl) ?ey62 ?cy62 ?ry62
    case ey62 => (intro w' hw'; obtain ⟨k0, k1⟩ := open0.out w' hw'; go_simp; first | (with_reducible rfl) | (refine ⟨?_, ?_⟩ <;> with_reducible rfl))
    case cy62 => (intro w' hw'; with_reducible exact calm_ret hw' (cN.out w'))
    try simp only [Act.put, List.setIfInBounds_toArray, List.set_cons_zero, List.set_cons_succ]
    refine calm_take (v := ?vy63) (by rfl) ?ey63 ?ry63
    case ey63 => (intro w' hw'; obtain ⟨k0, k1⟩ := open0.out w' hw'; go_simp; try with_reducible rfl)
    try simp only [Act.put, List.setIfInBounds_toArray, List.set_cons_zero, List.set_cons_succ]
    refine calm_take (v := ?vy64) (by rfl) ?ey64 ?ry64
    case ey64 => (intro w' hw'; obtain ⟨k0, k1⟩ := open0.out w' hw'; go_simp; try with_reducible rfl)
    try simp only [Act.put, List.setIfInBounds_toArray, List.set_cons_zero, List.set_cons_succ]
    refine calm_take (v := ?vy65) (by rfl) ?ey65 ?ry65
    case ey65 => (intro w' hw'; obtain ⟨k0, k1⟩ := open0.out w' hw'; go_simp; try with_reducible rfl)
    try simp only [Act.put, List.setIfInBounds_toArray, List.set_cons_zero, List.set_cons_succ]
    refine calm_take (v := ?vy66) (by rfl) ?ey66 ?ry66
    case ey66 => (intro w' hw'; obtain ⟨k0, k1⟩ := open0.out w' hw'; go_simp; try with_reducible rfl)
    try simp only [Act.put, List.setIfInBounds_toArray, List.set_cons_zero, List.set_cons_succ]
    refine wpQuiet_nil (fun w' hw' => ?_)
    go_wp2
    all_goals gi_wp2
    refine ⟨by simp, .inl ⟨_, _, rfl, run_takeDeferred ((hw'.block _ (lt_of_some hD)).trans hD), ?_⟩⟩
    refine ⟨.tuple #[.int .i64 (rnd s n), .bool (decide (n > 0))], ?_, by rw [← hv1.out, ← hv2.out], (below2 iB hw').trans (below_put _ _ (by omega) (Nat.le_trans iB.size hw'.size))⟩
    simp [results, Try.f76, go_sem]
  case stop =>
    rintro K c pre W _ _ h _
    exact h.elim
end Go.Proofs.Ytndnliaahdmbmaa
