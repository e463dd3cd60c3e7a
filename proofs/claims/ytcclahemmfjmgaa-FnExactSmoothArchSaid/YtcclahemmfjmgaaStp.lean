/-
  The steepest step of a grid, by the program.
-/
import Derived.Test.YtcclahemmfjmgaaNb
namespace Go.Proofs.Ytcclahemmfjmgaa
open Go.ChangeShapes Go.WideShapes Go.ChangeAt Go.RowKit Go.Deep
set_option linter.unusedVariables false
set_option linter.unusedSimpArgs false
attribute [local go_sem] Oper.semAt_some
def mxF (L : List Int) : Int := L.foldl maxG 0
theorem mxF_app (L : List Int) (x : Int) : mxF (L ++ [x]) = maxG (mxF L) x := by unfold mxF; rw [List.foldl_append]; rfl
theorem mxF_is (L : List Int) (h0 : ∀ x ∈ L, 0 ≤ x) : (mxF L = 0 ∨ mxF L ∈ L) ∧ 0 ≤ mxF L ∧ ∀ x ∈ L, x ≤ mxF L := by
  refine snoc_ind (P := fun L => (∀ x ∈ L, 0 ≤ x) → (mxF L = 0 ∨ mxF L ∈ L) ∧ 0 ≤ mxF L ∧ ∀ x ∈ L, x ≤ mxF L) (fun _ => ⟨Or.inl rfl, Int.le_refl _, fun x hx => by cases hx⟩) (fun L x ih h => ?_) L h0
  obtain ⟨a, b, c⟩ := ih (fun y hy => h y (by simp [hy]))
  have hx := h x (by simp)
  show (mxF (L ++ [x]) = 0 ∨ mxF (L ++ [x]) ∈ L ++ [x]) ∧ 0 ≤ mxF (L ++ [x]) ∧ ∀ y ∈ L ++ [x], y ≤ mxF (L ++ [x])
  rw [mxF_app]
  unfold maxG
  split
  · refine ⟨?_, b, fun y hy => ?_⟩
    · rcases a with a | a
      · exact Or.inl a
      · exact Or.inr (by simp [a])
    · rcases List.mem_append.1 hy with hy | hy
      · exact c y hy
      · simp at hy; subst hy; omega
  · refine ⟨Or.inr (by simp), hx, fun y hy => ?_⟩
    rcases List.mem_append.1 hy with hy | hy
    · have := c y hy; omega
    · simp at hy; subst hy; exact Int.le_refl _
theorem mxF_same {L M : List Int} (hL : ∀ x ∈ L, 0 ≤ x) (h : ∀ x, x ∈ L ↔ x ∈ M) : mxF L = mxF M := by
  obtain ⟨a, b, c⟩ := mxF_is L hL
  obtain ⟨a', b', c'⟩ := mxF_is M (fun x hx => hL x ((h x).2 hx))
  apply Int.le_antisymm
  · rcases a with a | a
    · omega
    · exact c' _ ((h _).1 a)
  · rcases a' with a' | a'
    · omega
    · exact c _ ((h _).2 a')
theorem mxF_bd {L : List Int} (h : ∀ x ∈ L, 0 ≤ x ∧ x ≤ 1000) : 0 ≤ mxF L ∧ mxF L ≤ 1000 := by
  obtain ⟨a, b, _⟩ := mxF_is L (fun x hx => (h x hx).1)
  rcases a with a | a
  · omega
  · exact h _ a
/-- differences to all neighbours -/
def dP (R C : Nat) (h : Nat → Nat → Int) (L : List (Nat × Nat)) : List Int := L.flatMap fun p => (nbL R C p.1 p.2).map fun q => absG (h p.1 p.2) (h q.1 q.2)
/-- differences to the one above and to the one ahead -/
def dU (h : Nat → Nat → Int) (p : Nat × Nat) : List Int := if 0 < p.1 then [absG (h p.1 p.2) (h (p.1 - 1) p.2)] else []
def dW (h : Nat → Nat → Int) (p : Nat × Nat) : List Int := if 0 < p.2 then [absG (h p.1 p.2) (h p.1 (p.2 - 1))] else []
def dS (h : Nat → Nat → Int) (L : List (Nat × Nat)) : List Int := L.flatMap fun p => dU h p ++ dW h p
theorem dP_app (R C : Nat) (h : Nat → Nat → Int) (L : List (Nat × Nat)) (p : Nat × Nat) : dP R C h (L ++ [p]) = dP R C h L ++ (nbL R C p.1 p.2).map fun q => absG (h p.1 p.2) (h q.1 q.2) := by unfold dP; rw [List.flatMap_append]; simp
theorem dS_app (h : Nat → Nat → Int) (L : List (Nat × Nat)) (p : Nat × Nat) : dS h (L ++ [p]) = dS h L ++ (dU h p ++ dW h p) := by unfold dS; rw [List.flatMap_append]; simp
theorem absG_comm (p q : Int) : absG p q = absG q p := by unfold absG; split <;> split <;> omega
theorem mem_nbL {R C i k : Nat} {q : Nat × Nat} : q ∈ nbL R C i k ↔ (1 ≤ i ∧ q = (i - 1, k)) ∨ (1 ≤ k ∧ q = (i, k - 1)) ∨ (k + 1 < C ∧ q = (i, k + 1)) ∨ (i + 1 < R ∧ q = (i + 1, k)) := by
  unfold nbL nbT
  rw [List.mem_filterMap]
  constructor
  · rintro ⟨j, hj, e⟩
    match j, List.mem_range.1 hj, e with
    | 0, _, e => simp only [nb4] at e; split at e <;> simp at e; exact Or.inl ⟨by assumption, e.symm⟩
    | 1, _, e => simp only [nb4] at e; split at e <;> simp at e; exact Or.inr (Or.inl ⟨by assumption, e.symm⟩)
    | 2, _, e => simp only [nb4] at e; split at e <;> simp at e; exact Or.inr (Or.inr (Or.inl ⟨by assumption, e.symm⟩))
    | 3, _, e => simp only [nb4] at e; split at e <;> simp at e; exact Or.inr (Or.inr (Or.inr ⟨by assumption, e.symm⟩))
  · rintro (⟨a, rfl⟩ | ⟨a, rfl⟩ | ⟨a, rfl⟩ | ⟨a, rfl⟩)
    · exact ⟨0, by simp, by simp only [nb4]; rw [if_pos a]⟩
    · exact ⟨1, by simp, by simp only [nb4]; rw [if_pos a]⟩
    · exact ⟨2, by simp, by simp only [nb4]; rw [if_pos a]⟩
    · exact ⟨3, by simp, by simp only [nb4]; rw [if_pos a]⟩
theorem dP_bd {R C : Nat} {h : Nat → Nat → Int} (h0 : ∀ i k, i < R → k < C → 0 ≤ h i k) (h1 : ∀ i k, i < R → k < C → h i k ≤ 1000) {L : List (Nat × Nat)} (hL : L <+: plAll R C) : ∀ x ∈ dP R C h L, 0 ≤ x ∧ x ≤ 1000 := by
  intro x hx
  unfold dP at hx
  obtain ⟨p, hp, hm⟩ := List.mem_flatMap.1 hx
  obtain ⟨q, hq, rfl⟩ := List.mem_map.1 hm
  obtain ⟨a, b⟩ := mem_plAll.1 (hL.subset hp)
  obtain ⟨c, d⟩ := nb_in a b q hq
  exact absG_bd (h0 _ _ a b) (h1 _ _ a b) (h0 _ _ c d) (h1 _ _ c d)
theorem dPS {R C : Nat} (h : Nat → Nat → Int) (x : Int) : x ∈ dP R C h (plAll R C) ↔ x ∈ dS h (plAll R C) := by
  unfold dP dS
  simp only [List.mem_flatMap, List.mem_map, List.mem_append]
  constructor
  · rintro ⟨⟨i, k⟩, hp, q, hq, rfl⟩
    obtain ⟨a, b⟩ := mem_plAll.1 hp
    rcases mem_nbL.1 hq with ⟨e, rfl⟩ | ⟨e, rfl⟩ | ⟨e, rfl⟩ | ⟨e, rfl⟩
    · exact ⟨(i, k), hp, Or.inl (by unfold dU; rw [if_pos (by show 0 < i; omega)]; simp)⟩
    · exact ⟨(i, k), hp, Or.inr (by unfold dW; rw [if_pos (by show 0 < k; omega)]; simp)⟩
    · exact ⟨(i, k + 1), mem_plAll.2 ⟨a, e⟩, Or.inr (by unfold dW; rw [if_pos (by show 0 < k + 1; omega)]; simp [absG_comm])⟩
    · exact ⟨(i + 1, k), mem_plAll.2 ⟨e, b⟩, Or.inl (by unfold dU; rw [if_pos (by show 0 < i + 1; omega)]; simp [absG_comm])⟩
  · rintro ⟨⟨i, k⟩, hp, hx⟩
    rcases hx with hx | hx
    · unfold dU at hx
      split at hx
      · rename_i hi
        simp at hx
        exact ⟨(i, k), hp, (i - 1, k), mem_nbL.2 (Or.inl ⟨hi, rfl⟩), hx.symm⟩
      · cases hx
    · unfold dW at hx
      split at hx
      · rename_i hi
        simp at hx
        exact ⟨(i, k), hp, (i, k - 1), mem_nbL.2 (Or.inr (Or.inl ⟨hi, rfl⟩)), hx.symm⟩
      · cases hx
theorem PlsAt.grown {w w' : World} {v : Value} {L : List (Nat × Nat)} {row : Option Nat} (h : PlsAt w v L) (hg : w.grownBy w' row) (hn : ∀ b, v.ownBlock = some b → some b ≠ row) : PlsAt w' v L := by
  obtain ⟨a, c, h1, h2, h4⟩ := h
  refine ⟨a, c, h1, h2, ?_⟩
  rcases h4 with h4 | ⟨g, e, hg', hc⟩
  · exact Or.inl h4
  · subst e
    have hne := hn g (by rw [h1]; rfl)
    refine Or.inr ⟨g, rfl, Nat.lt_of_lt_of_le hg' hg.size, fun j hj => ⟨?_, ?_⟩⟩
    · exact (World.cell?_of_block (hg.block g hg' hne)).trans (hc j hj).1
    · exact (World.cell?_of_block (hg.block g hg' hne)).trans (hc j hj).2
set_option maxRecDepth 100000 in
set_option maxHeartbeats 3200000 in
theorem steepestStep_any (g o cap R C : Nat) (rg ro rc : Nat → Nat) (h : Nat → Nat → Int) (w : World) (x : GR w g o cap R C rg ro rc h) : Calls Try.prog 51 #[.slice (some ⟨g, o, none⟩) R cap] w fun e w' => e = .returned (.int .i64 (mxF (dS h (plAll R C)))) ∧ Below w.heap.size w w' := by
  have hx := Lib.hid x
  have hx1 := x
  have hd := Lib.hid (Below.refl w.heap.size w)
  clear x
  refine (callsIn_wide (n := 3)).1 ?_
  refine callsIn_of_wp_marks Try.func51 rfl trivial ?_ rfl
  simp only [Try.ntmps51, List.size_toArray, List.length_cons, List.length_nil, Nat.reduceAdd, Nat.reduceSub, Array.replicate_succ, Array.replicate_zero, List.push_toArray, List.append_toArray, List.nil_append, List.cons_append]
  gi_wp2_with fail
  refine ⟨trivial, (callsIn_wide.2 (places_any _ _ _ _)).mono ?_⟩
  rintro e w2 ⟨rfl, rfl⟩
  gi_wp2_with fail
  obtain ⟨N, hN⟩ : ∃ N, N = w.heap.size := ⟨_, rfl⟩
  have g0 : (((w.alloc (.cells #[.slice (some ⟨g, o, none⟩) R cap] 44)).alloc (.cells #[.int .i64 0] 2)).alloc (.cells #[.slice (some ⟨g, o, none⟩) R cap] 44)).heap[N]? = some (.cells #[.slice (some ⟨g, o, none⟩) R cap] 44 (0, 0)) := by
    rw [Below.heap_alloc _ _ _ (by simp; omega)]
    rw [Below.heap_alloc _ _ _ (by simp; omega)]
    have := heap_alloc_new (w) (.cells #[.slice (some ⟨g, o, none⟩) R cap] 44)
    rw [hN]; simpa using this
  have g1 : (((w.alloc (.cells #[.slice (some ⟨g, o, none⟩) R cap] 44)).alloc (.cells #[.int .i64 0] 2)).alloc (.cells #[.slice (some ⟨g, o, none⟩) R cap] 44)).heap[N + 1]? = some (.cells #[.int .i64 0] 2 (0, 0)) := by
    rw [Below.heap_alloc _ _ _ (by simp; omega)]
    have := heap_alloc_new ((w.alloc (.cells #[.slice (some ⟨g, o, none⟩) R cap] 44))) (.cells #[.int .i64 0] 2)
    rw [hN]; simpa using this
  have g2 : (((w.alloc (.cells #[.slice (some ⟨g, o, none⟩) R cap] 44)).alloc (.cells #[.int .i64 0] 2)).alloc (.cells #[.slice (some ⟨g, o, none⟩) R cap] 44)).heap[N + 1 + 1]? = some (.cells #[.slice (some ⟨g, o, none⟩) R cap] 44 (0, 0)) := by
    have := heap_alloc_new (((w.alloc (.cells #[.slice (some ⟨g, o, none⟩) R cap] 44)).alloc (.cells #[.int .i64 0] 2))) (.cells #[.slice (some ⟨g, o, none⟩) R cap] 44)
    rw [hN]; simpa using this
  have gz : (((w.alloc (.cells #[.slice (some ⟨g, o, none⟩) R cap] 44)).alloc (.cells #[.int .i64 0] 2)).alloc (.cells #[.slice (some ⟨g, o, none⟩) R cap] 44)).heap.size = N + 3 := by simp [hN]
  have gB : Below w.heap.size w (((w.alloc (.cells #[.slice (some ⟨g, o, none⟩) R cap] 44)).alloc (.cells #[.int .i64 0] 2)).alloc (.cells #[.slice (some ⟨g, o, none⟩) R cap] 44)) := (((Below.refl _ _).alloc (by simp <;> omega) _).alloc (by simp <;> omega) _).alloc (by simp <;> omega) _
  have gW := hd.out.trans (gB.mono hd.out.size)
  have hx2 := hx1.below gB
  have hwN : w.heap.size ≤ N := by rw [hN]; exact hd.out.size
  have hgN : g < N := by rw [hN]; exact hx1.gl
  rw [← hN]
  clear hx1 gB hd hN
  generalize (((w.alloc (.cells #[.slice (some ⟨g, o, none⟩) R cap] 44)).alloc (.cells #[.int .i64 0] 2)).alloc (.cells #[.slice (some ⟨g, o, none⟩) R cap] 44)) = W0 at g0 g1 g2 gz gW hx2 ⊢
  have hseq := places_seq 2 (N + 1 + 1) g o cap R C (fun b => b ≠ N + 1) W0 (hx2.pl (cellB g2 0 _ rfl)) (show N + 1 + 1 ≠ N + 1 by omega) (by omega)
  have hfin : Hid (mxF (dP R C h (plAll R C)) = mxF (dS h (plAll R C))) := Lib.hid (mxF_same (fun x hx => (dP_bd hx2.h0 hx2.h1 (List.prefix_refl _) x hx).1) (fun x => dPS h x))
  have hR9 := hx2.R10
  have hC9 := hx2.C10
  refine' rangeP rfl (enters_of Try.func79 (by kernel_rfl) rfl) hseq
    (fun pre W => (W.heap[N]? = some (.cells #[.slice (some ⟨g, o, none⟩) R cap] 44 (0, 0)) ∧ W.heap[N + 1]? = some (.cells #[.int .i64 (mxF (dP R C h pre))] 2 (0, 0))) ∧ Below w.heap.size w W)
    (fun _ _ _ => False)
    (fun s A B h hAB => ⟨⟨low_heap h.1.1 (by omega) hAB, low_heap h.1.2 (by omega) hAB⟩, h.2.trans (hAB.mono (by omega))⟩)
    (fun _ _ _ _ h _ => h)
    ⟨⟨g0, g1⟩, gW⟩ ?assign ?body ?done ?stop
  case assign =>
    rintro l B x W K hB hK
    unfold encP
    gi_wp2
    exact hK
  case body =>
    rintro l B pre ⟨p, q⟩ W hpre hl hlB hBW ⟨⟨i0, i1⟩, iB⟩ hBx hWz
    obtain ⟨hp, hq, hpl⟩ := pre_place hpre
    clear hpl
    have hpre' := Lib.hid hpre
    have hz := Lib.hid (hx.out.below iB)
    have hlen4 := nbT_len R C p q 4
    have cN0 := neighbours_any g o cap R C rg ro rc h W hz.out p q hp hq
    unfold encP at cN0
    dsimp only at cN0 hBx hp hq ⊢
    have cN := Lib.hid cN0
    obtain ⟨L, hL⟩ : ∃ L, L = nbL R C p q := ⟨_, rfl⟩
    have hLin : Hid (∀ x ∈ L, x.1 < R ∧ x.2 < C) := Lib.hid (by rw [hL]; exact nb_in hp hq)
    have hL4 : L.length ≤ 4 := by rw [hL]; exact hlen4
    have hend : Hid (mxF (dP R C h (pre ++ [(p, q)])) = mxF (dP R C h pre ++ L.map fun x => absG (h p q) (h x.1 x.2))) := Lib.hid (by rw [dP_app, hL])
    have hpb := Lib.hid (dP_bd (hz.out).h0 (hz.out).h1 ((List.prefix_append _ _).trans hpre'.out))
    rw [← hL] at cN
    obtain ⟨D, hD⟩ : ∃ D, D = dP R C h pre := ⟨_, rfl⟩
    rw [← hD] at i1 hend hpb
    have hN0 : N < W.heap.size := by omega
    have hN1 : N + 1 < W.heap.size := by omega
    have c0 := cellB i0 0 _ rfl
    have c3 := cellB hBx 0 _ rfl
    have c4 := cellB hBx 1 _ rfl
    clear cN0 hL hD hlen4 hpre
    gi_wp2_with fail
    refine ⟨trivial, (CallsIn.inRound l (callsIn_wide.2 cN.out)).mono ?_⟩
    rintro e w1 ⟨v, rfl, hP, hb1, hlow⟩
    have e0 := (hb1.block _ hN0).trans i0
    have e1 := (hb1.block _ hN1).trans i1
    have e2 := (hb1.block _ hBW).trans hBx
    have k0 := KeepsFrom.below (B := W0.heap.size) hb1
    have k1 : Keeps (fun b => b ≠ N + 1) W w1 := Keeps.of_below hb1
    have B1 := below2 iB hb1
    have hs1 := hb1.size
    have hP' := Lib.hid hP
    have hlow' := Lib.hid hlow
    have hst : Hid (mxF D = mxF (D ++ (L.take 0).map fun x => absG (h p q) (h x.1 x.2))) := Lib.hid (by simp)
    obtain ⟨pa, pc, hve, _⟩ := hP
    subst hve
    clear c0 c3 c4 cN hlow hb1 i0 i1 hBx iB
    gi_wp2_with fail
    gi_loopw [14, 6] (fun t u wr => ∃ (j : Nat) (s : Int), j ≤ L.length ∧ t = .int .i64 j ∧ Hid (s = mxF (D ++ (L.take j).map fun x => absG (h p q) (h x.1 x.2))) ∧ wr.heap[N]? = some (.cells #[.slice (some ⟨g, o, none⟩) R cap] 44 (0, 0)) ∧ wr.heap[N + 1]? = some (.cells #[.int .i64 s] 2 (0, 0)) ∧ wr.heap[B]? = some (.cells #[.int .i64 (p : Int), .int .i64 (q : Int)] 46 (0, 0)) ∧ Hid (PlsAt wr (.slice pa L.length pc) L) ∧ Hid (KeepsFrom W0.heap.size W wr) ∧ Hid (Keeps (fun b => b ≠ N + 1) W wr) ∧ Hid (Below w.heap.size w wr) ∧ W.heap.size ≤ wr.heap.size) (fun t _ _ => L.length - (intOf t).toNat)
    case atStart => exact ⟨0, _, by omega, rfl, hst, e0, e1, e2, hP', Lib.hid k0, Lib.hid k1, Lib.hid B1, hs1⟩
    case round =>
      obtain ⟨j, s, hj, rfl, hs, f0, f1, f2, fP, fK, fk, fB, fs⟩ := hrel
      clear e0 e1 e2
      by_cases hlj : j < L.length
      · have hljI : (j : Int) < (L.length : Int) := by omega
        obtain ⟨pa', pc', hve, hcc, hcel⟩ := fP.out
        rcases hcel with hcel | ⟨g9, hge, hg9, hcel⟩
        · rw [hcel] at hlj; simp at hlj
        obtain ⟨m0, m1⟩ := hcel j hlj
        have hpe : pa = some ⟨g9, 0, none⟩ := by injection hve with h1 _ _; rw [h1]; exact hge
        clear hve hcc hcel hge
        have hxin := hLin.out _ (List.getElem_mem hlj)
        have htk : Hid (mxF (D ++ (L.take (j + 1)).map fun x => absG (h p q) (h x.1 x.2)) = maxG s (absG (h p q) (h (L[j]).1 (L[j]).2))) := Lib.hid (by
          rw [List.take_succ_eq_append_getElem hlj, List.map_append, ← List.append_assoc, hs.out]
          exact mxF_app _ _)
        have hsb : 0 ≤ s ∧ s ≤ 1000 := by
          rw [hs.out]
          refine mxF_bd (fun x hx => ?_)
          rcases List.mem_append.1 hx with hx | hx
          · exact hpb.out x hx
          · obtain ⟨y, hy, rfl⟩ := List.mem_map.1 hx
            obtain ⟨a, b⟩ := hLin.out y (List.mem_of_mem_take hy)
            exact absG_bd (hz.out.h0 _ _ hp hq) (hz.out.h1 _ _ hp hq) (hz.out.h0 _ _ a b) (hz.out.h1 _ _ a b)
        obtain ⟨VV, hVV⟩ : ∃ V, V = mxF (D ++ (L.take (j + 1)).map fun x => absG (h p q) (h x.1 x.2)) := ⟨_, rfl⟩
        rw [← hVV] at htk
        have hVV' := Lib.hid hVV
        clear hVV
        obtain ⟨⟨xi, xk⟩, hxe⟩ : ∃ x, x = L[j] := ⟨_, rfl⟩
        rw [← hxe] at m0 m1 hxin htk
        dsimp only at m0 m1 hxin htk
        have m0' : wr.cell? ⟨g9, j * 2, none⟩ = some (.int .i64 (xi : Int)) := m0
        have m1' : wr.cell? ⟨g9, j * 2 + 1, none⟩ = some (.int .i64 (xk : Int)) := m1
        subst hpe
        have hzr := Lib.hid (hx.out.below fB.out)
        have cA0 := fun W' (hb : Below wr.heap.size wr W') => at_any g o cap R C rg ro rc h W' (hzr.out.below hb) p q hp hq
        have cB0 := fun W' (hb : Below wr.heap.size wr W') => at_any g o cap R C rg ro rc h W' (hzr.out.below hb) xi xk hxin.1 hxin.2
        unfold encP at cA0 cB0
        dsimp only at cA0 cB0
        have z1a := hz.out.h0 p q hp hq
        have z1b := hz.out.h1 p q hp hq
        have z2a := hz.out.h0 xi xk hxin.1 hxin.2
        have z2b := hz.out.h1 xi xk hxin.1 hxin.2
        obtain ⟨z1, hz1⟩ : ∃ z, z = h p q := ⟨_, rfl⟩
        obtain ⟨z2, hz2⟩ : ∃ z, z = h xi xk := ⟨_, rfl⟩
        rw [← hz1] at cA0 z1a z1b htk
        rw [← hz2] at cB0 z2a z2b htk
        have cD0 := fun w' => distG z1 z2 (by omega) (by omega) (by omega) (by omega) w'
        have dbd := absG_bd z1a z1b z2a z2b
        obtain ⟨dd, hdd⟩ : ∃ d, d = absG z1 z2 := ⟨_, rfl⟩
        rw [← hdd] at cD0 dbd htk
        have cA := Lib.hid cA0
        have cB := Lib.hid cB0
        have cD := Lib.hid cD0
        have fB' := fB
        have hz1' := Lib.hid hz1
        clear hz2 hdd cA0 cB0 cD0 z1a z1b z2a z2b hs m0 m1 hxe hxin hz1
        have hN0' : N < wr.heap.size := by omega
        have hN1' : N + 1 < wr.heap.size := by omega
        have hB1' : B < wr.heap.size := by omega
        have keyC : Hid (∀ w', Below wr.heap.size (wr.alloc (.cells #[.int .i64 (xi : Int), .int .i64 (xk : Int)] 46)) w' → w'.heap[N]? = some (.cells #[.slice (some ⟨g, o, none⟩) R cap] 44 (0, 0)) ∧ w'.heap[N + 1]? = some (.cells #[.int .i64 s] 2 (0, 0)) ∧ w'.heap[B]? = some (.cells #[.int .i64 (p : Int), .int .i64 (q : Int)] 46 (0, 0))) := Lib.hid (fun w' hw' => ⟨((hw'.block _ hN0').trans (Below.heap_alloc _ _ _ hN0')).trans f0, ((hw'.block _ hN1').trans (Below.heap_alloc _ _ _ hN1')).trans f1, ((hw'.block _ hB1').trans (Below.heap_alloc _ _ _ hB1')).trans f2⟩)
        have hbq : Below wr.heap.size wr (wr.alloc (.cells #[.int .i64 (xi : Int), .int .i64 (xk : Int)] 46)) := (Below.refl _ _).alloc (Nat.le_refl _) _
        have qbox := heap_alloc_new wr (.cells #[.int .i64 (xi : Int), .int .i64 (xk : Int)] 46)
        have hQ9 : (wr.alloc (.cells #[.int .i64 (xi : Int), .int .i64 (xk : Int)] 46)).heap.size = wr.heap.size + 1 := by simp
        gi_wp2_with fail
        obtain ⟨Q9, hQ⟩ : ∃ Q9, Q9 = wr.heap.size := ⟨_, rfl⟩
        rw [← hQ] at qbox hQ9
        rw [show wr.heap.size = Q9 from hQ.symm]
        generalize wr.alloc (.cells #[.int .i64 (xi : Int), .int .i64 (xk : Int)] 46) = W5 at hbq keyC qbox hQ9 ⊢
        have hQlt : Q9 < W5.heap.size := by omega
        have open0 : Hid (∀ w', Below W5.heap.size W5 w' → w'.cell? ⟨N, 0, none⟩ = some (.slice (some ⟨g, o, none⟩) R cap) ∧ w'.cell? ⟨N + 1, 0, none⟩ = some (.int .i64 s) ∧ w'.cell? ⟨B, 0, none⟩ = some (.int .i64 (p : Int)) ∧ w'.cell? ⟨B, 1, none⟩ = some (.int .i64 (q : Int)) ∧ w'.cell? ⟨Q9, 0, none⟩ = some (.int .i64 (xi : Int)) ∧ w'.cell? ⟨Q9, 1, none⟩ = some (.int .i64 (xk : Int))) := Lib.hid (fun w' hw' => by
          obtain ⟨e0, e1, e2⟩ := keyC.out w' (hw'.mono hbq.size)
          have e3 := (hw'.block _ hQlt).trans qbox
          exact ⟨cellB e0 0 _ rfl, cellB e1 0 _ rfl, cellB e2 0 _ rfl, cellB e2 1 _ rfl, cellB e3 0 _ rfl, cellB e3 1 _ rfl⟩)
        have fsQ : W.heap.size ≤ W5.heap.size := by omega
        have fs1 : wr.heap.size ≤ W5.heap.size := by omega
        have hQN : N + 1 < Q9 := by omega
        have hBQ : B < Q9 := by omega
        clear f0 f1 f2 qbox hQ m0' m1' hQ9
        by_cases hcs : dd < s
        · have hr : Hid (mxF (D ++ (L.take (j + 1)).map fun x => absG (h p q) (h x.1 x.2)) = s) := Lib.hid (by rw [← hVV'.out, htk.out]; unfold maxG; rw [if_pos hcs])
          clear htk
          refine wpIn_calm 9 (fun w' => Below W5.heap.size W5 w') (by kernel_rfl) (by kernel_rfl) (by rintro ⟨_, _, h⟩; exact h) (by kernel_rfl) (by kernel_rfl) (by kernel_rfl) (belowN (Below.refl _ _) 1) ?_
          simp only [List.take_succ_cons, List.take_zero, List.drop_succ_cons, List.drop_zero]
          refine calm_take (v := ?vy1) (by rfl) ?ey1 ?ry1
          case ey1 => (intro w' hw'; obtain ⟨c0, c1, c2, c3, c4, c5⟩ := open0.out w' hw'; go_simp; try with_reducible rfl)
          try simp only [Act.put, List.setIfInBounds_toArray, List.set_cons_zero, List.set_cons_succ]
          refine calm_take (v := ?vy2) (by rfl) ?ey2 ?ry2
          case ey2 => (intro w' hw'; obtain ⟨c0, c1, c2, c3, c4, c5⟩ := open0.out w' hw'; go_simp; try with_reducible rfl)
          try simp only [Act.put, List.setIfInBounds_toArray, List.set_cons_zero, List.set_cons_succ]
          refine calm_take (v := ?vy3) (by rfl) ?ey3 ?ry3
          case ey3 => (intro w' hw'; obtain ⟨c0, c1, c2, c3, c4, c5⟩ := open0.out w' hw'; go_simp; try with_reducible rfl)
          try simp only [Act.put, List.setIfInBounds_toArray, List.set_cons_zero, List.set_cons_succ]
          refine calm_call (v := .int .i64 z1) (f := ?fy4) (args := ?ay4) (by rfl) ?ey4 ?cy4 ?ry4
          case ey4 => (intro w' hw'; obtain ⟨c0, c1, c2, c3, c4, c5⟩ := open0.out w' hw'; go_simp; first | (with_reducible rfl) | (refine ⟨?_, ?_⟩ <;> with_reducible rfl))
          case cy4 => (intro w' hw'; with_reducible exact calm_ret hw' (cA.out w' (below2 hbq hw')))
          try simp only [Act.put, List.setIfInBounds_toArray, List.set_cons_zero, List.set_cons_succ]
          refine calm_take (v := ?vy5) (by rfl) ?ey5 ?ry5
          case ey5 => (intro w' hw'; obtain ⟨c0, c1, c2, c3, c4, c5⟩ := open0.out w' hw'; go_simp; try with_reducible rfl)
          try simp only [Act.put, List.setIfInBounds_toArray, List.set_cons_zero, List.set_cons_succ]
          refine calm_take (v := ?vy6) (by rfl) ?ey6 ?ry6
          case ey6 => (intro w' hw'; obtain ⟨c0, c1, c2, c3, c4, c5⟩ := open0.out w' hw'; go_simp; try with_reducible rfl)
          try simp only [Act.put, List.setIfInBounds_toArray, List.set_cons_zero, List.set_cons_succ]
          refine calm_call (v := .int .i64 z2) (f := ?fy7) (args := ?ay7) (by rfl) ?ey7 ?cy7 ?ry7
          case ey7 => (intro w' hw'; obtain ⟨c0, c1, c2, c3, c4, c5⟩ := open0.out w' hw'; go_simp; first | (with_reducible rfl) | (refine ⟨?_, ?_⟩ <;> with_reducible rfl))
          case cy7 => (intro w' hw'; with_reducible exact calm_ret hw' (cB.out w' (below2 hbq hw')))
          try simp only [Act.put, List.setIfInBounds_toArray, List.set_cons_zero, List.set_cons_succ]
          refine calm_call (v := .int .i64 dd) (f := ?fy8) (args := ?ay8) (by rfl) ?ey8 ?cy8 ?ry8
          case ey8 => (intro w' hw'; obtain ⟨c0, c1, c2, c3, c4, c5⟩ := open0.out w' hw'; go_simp; first | (with_reducible rfl) | (refine ⟨?_, ?_⟩ <;> with_reducible rfl))
          case cy8 => (intro w' hw'; with_reducible exact calm_same hw' (cD.out w'))
          try simp only [Act.put, List.setIfInBounds_toArray, List.set_cons_zero, List.set_cons_succ]
          refine calm_take (v := ?vy9) (by rfl) ?ey9 ?ry9
          case ey9 => (intro w' hw'; obtain ⟨c0, c1, c2, c3, c4, c5⟩ := open0.out w' hw'; go_simp; try with_reducible rfl)
          try simp only [Act.put, List.setIfInBounds_toArray, List.set_cons_zero, List.set_cons_succ]
          refine wpQuiet_nil (fun w' hw' => ?_)
          obtain ⟨e0, e1, e2⟩ := keyC.out w' (hw'.mono hbq.size)
          obtain ⟨c0, c1, c2, c3, c4, c5⟩ := open0.out w' hw'
          have f0 := freeB e1 0
          have b9 := below2 hbq hw'
          go_wp2
          all_goals gi_wp2
          all_goals
            go_roundw
            case rel =>
              refine ⟨j + 1, _, by omega, by go_num, Lib.hid hr.out.symm, (Below.heap_setCell _ _ _ _ (by simp)).trans e0, heap_set e1 0 _ _ (by simp <;> omega), (Below.heap_setCell _ _ _ _ (by show B ≠ N + 1; omega)).trans e2, Lib.hid ((fP.out.below b9).grown (grownBy_setCell' w' (N + 1) _) (fun b hb e => ?_)), Lib.hid ((fK.out.trans (KeepsFrom.below b9)).trans ((KeepsOthers.setCell w' _ _).from _)), Lib.hid ((fk.out.trans (Keeps.of_below b9)).trans (Keeps.setCell _ _ (by simp) _)), Lib.hid ((below2 fB.out b9).setCell (p := ⟨N + 1, 0, none⟩) (by show w.heap.size ≤ N + 1; omega) _), ?_⟩
              · injection e with e; have := hlow'.out b hb; omega
              · have := b9.size; show W.heap.size ≤ (w'.setCell ⟨N + 1, 0, none⟩ _).heap.size; simp; omega
            case measure => simp [intOf]; omega
        · have hr : Hid (mxF (D ++ (L.take (j + 1)).map fun x => absG (h p q) (h x.1 x.2)) = dd) := Lib.hid (by rw [← hVV'.out, htk.out]; unfold maxG; rw [if_neg hcs])
          clear htk
          refine wpIn_calm 9 (fun w' => Below W5.heap.size W5 w') (by kernel_rfl) (by kernel_rfl) (by rintro ⟨_, _, h⟩; exact h) (by kernel_rfl) (by kernel_rfl) (by kernel_rfl) (belowN (Below.refl _ _) 1) ?_
          simp only [List.take_succ_cons, List.take_zero, List.drop_succ_cons, List.drop_zero]
          refine calm_take (v := ?vy10) (by rfl) ?ey10 ?ry10
          case ey10 => (intro w' hw'; obtain ⟨c0, c1, c2, c3, c4, c5⟩ := open0.out w' hw'; go_simp; try with_reducible rfl)
          try simp only [Act.put, List.setIfInBounds_toArray, List.set_cons_zero, List.set_cons_succ]
          refine calm_take (v := ?vy11) (by rfl) ?ey11 ?ry11
          case ey11 => (intro w' hw'; obtain ⟨c0, c1, c2, c3, c4, c5⟩ := open0.out w' hw'; go_simp; try with_reducible rfl)
          try simp only [Act.put, List.setIfInBounds_toArray, List.set_cons_zero, List.set_cons_succ]
          refine calm_take (v := ?vy12) (by rfl) ?ey12 ?ry12
          case ey12 => (intro w' hw'; obtain ⟨c0, c1, c2, c3, c4, c5⟩ := open0.out w' hw'; go_simp; try with_reducible rfl)
          try simp only [Act.put, List.setIfInBounds_toArray, List.set_cons_zero, List.set_cons_succ]
          refine calm_call (v := .int .i64 z1) (f := ?fy13) (args := ?ay13) (by rfl) ?ey13 ?cy13 ?ry13
          case ey13 => (intro w' hw'; obtain ⟨c0, c1, c2, c3, c4, c5⟩ := open0.out w' hw'; go_simp; first | (with_reducible rfl) | (refine ⟨?_, ?_⟩ <;> with_reducible rfl))
          case cy13 => (intro w' hw'; with_reducible exact calm_ret hw' (cA.out w' (below2 hbq hw')))
          try simp only [Act.put, List.setIfInBounds_toArray, List.set_cons_zero, List.set_cons_succ]
          refine calm_take (v := ?vy14) (by rfl) ?ey14 ?ry14
          case ey14 => (intro w' hw'; obtain ⟨c0, c1, c2, c3, c4, c5⟩ := open0.out w' hw'; go_simp; try with_reducible rfl)
          try simp only [Act.put, List.setIfInBounds_toArray, List.set_cons_zero, List.set_cons_succ]
          refine calm_take (v := ?vy15) (by rfl) ?ey15 ?ry15
          case ey15 => (intro w' hw'; obtain ⟨c0, c1, c2, c3, c4, c5⟩ := open0.out w' hw'; go_simp; try with_reducible rfl)
          try simp only [Act.put, List.setIfInBounds_toArray, List.set_cons_zero, List.set_cons_succ]
          refine calm_call (v := .int .i64 z2) (f := ?fy16) (args := ?ay16) (by rfl) ?ey16 ?cy16 ?ry16
          case ey16 => (intro w' hw'; obtain ⟨c0, c1, c2, c3, c4, c5⟩ := open0.out w' hw'; go_simp; first | (with_reducible rfl) | (refine ⟨?_, ?_⟩ <;> with_reducible rfl))
          case cy16 => (intro w' hw'; with_reducible exact calm_ret hw' (cB.out w' (below2 hbq hw')))
          try simp only [Act.put, List.setIfInBounds_toArray, List.set_cons_zero, List.set_cons_succ]
          refine calm_call (v := .int .i64 dd) (f := ?fy17) (args := ?ay17) (by rfl) ?ey17 ?cy17 ?ry17
          case ey17 => (intro w' hw'; obtain ⟨c0, c1, c2, c3, c4, c5⟩ := open0.out w' hw'; go_simp; first | (with_reducible rfl) | (refine ⟨?_, ?_⟩ <;> with_reducible rfl))
          case cy17 => (intro w' hw'; with_reducible exact calm_same hw' (cD.out w'))
          try simp only [Act.put, List.setIfInBounds_toArray, List.set_cons_zero, List.set_cons_succ]
          refine calm_take (v := ?vy18) (by rfl) ?ey18 ?ry18
          case ey18 => (intro w' hw'; obtain ⟨c0, c1, c2, c3, c4, c5⟩ := open0.out w' hw'; go_simp; try with_reducible rfl)
          try simp only [Act.put, List.setIfInBounds_toArray, List.set_cons_zero, List.set_cons_succ]
          refine wpQuiet_nil (fun w' hw' => ?_)
          obtain ⟨e0, e1, e2⟩ := keyC.out w' (hw'.mono hbq.size)
          obtain ⟨c0, c1, c2, c3, c4, c5⟩ := open0.out w' hw'
          have f0 := freeB e1 0
          have b9 := below2 hbq hw'
          go_wp2
          all_goals gi_wp2
          all_goals
            go_roundw
            case rel =>
              refine ⟨j + 1, _, by omega, by go_num, Lib.hid hr.out.symm, (Below.heap_setCell _ _ _ _ (by simp)).trans e0, heap_set e1 0 _ _ (by simp <;> omega), (Below.heap_setCell _ _ _ _ (by show B ≠ N + 1; omega)).trans e2, Lib.hid ((fP.out.below b9).grown (grownBy_setCell' w' (N + 1) _) (fun b hb e => ?_)), Lib.hid ((fK.out.trans (KeepsFrom.below b9)).trans ((KeepsOthers.setCell w' _ _).from _)), Lib.hid ((fk.out.trans (Keeps.of_below b9)).trans (Keeps.setCell _ _ (by simp) _)), Lib.hid ((below2 fB.out b9).setCell (p := ⟨N + 1, 0, none⟩) (by show w.heap.size ≤ N + 1; omega) _), ?_⟩
              · injection e with e; have := hlow'.out b hb; omega
              · have := b9.size; show W.heap.size ≤ (w'.setCell ⟨N + 1, 0, none⟩ _).heap.size; simp; omega
            case measure => simp [intOf]; omega
      · have hjL : j = L.length := by omega
        have hr : Hid (mxF (dP R C h (pre ++ [(p, q)])) = s) := Lib.hid (by rw [hend.out, hs.out, hjL, List.take_length])
        clear hjL hs
        gi_wp2
        exact ⟨fK.out, fk.out, ⟨f0, by rw [hr.out]; exact f1⟩, fB.out⟩
  case done =>
    rintro K W hK ⟨⟨i0, i1⟩, iB⟩ hD
    rw [hfin.out] at i1
    obtain ⟨s, hse⟩ : ∃ s, s = mxF (dS h (plAll R C)) := ⟨_, rfl⟩
    rw [← hse] at i1
    have hval := Lib.hid hse
    have c0 := cellB i1 0 _ rfl
    clear hse
    gi_wp2
    refine ⟨by simp, .inl ⟨_, _, rfl, run_takeDeferred hD, ?_⟩⟩
    refine ⟨.int .i64 s, ?_, by rw [hval.out], iB.trans (below_put _ _ (by omega) iB.size)⟩
    simp [results, Try.f51, go_sem]
  case stop =>
    rintro K c pre W _ _ h _
    exact h.elim
end Go.Proofs.Ytcclahemmfjmgaa
