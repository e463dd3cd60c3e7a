/-
  Smooth heights: the program.
-/
import Derived.Test.YtcclahemmfjmgaaOver
import Derived.Test.YtcclahemmfjmgaaEdge8
import Derived.Test.YtcclahemmfjmgaaNb
import Derived.Test.YtcclahemmfjmgaaArchI
namespace Go.Proofs.Ytcclahemmfjmgaa
open Go.ChangeShapes Go.WideShapes Go.ChangeAt Go.RowKit Go.Deep
set_option linter.unusedVariables false
set_option linter.unusedSimpArgs false
def smS (h : Nat → Nat → Int) (L : List (Nat × Nat)) : Int := (L.map fun q => h q.1 q.2).foldl (· + ·) 0
theorem smS_app (h : Nat → Nat → Int) (L : List (Nat × Nat)) (q : Nat × Nat) : smS h (L ++ [q]) = smS h L + h q.1 q.2 := by
  unfold smS; rw [List.map_append, List.foldl_append]; rfl
def smF (R C : Nat) (h : Nat → Nat → Int) (i k : Nat) : Int := if edgeB R C i k then h i k else rnd (4 * h i k + smS h (nbL R C i k)) 8
set_option maxRecDepth 100000 in
set_option maxHeartbeats 6400000 in
theorem smooth_at (g o cap R C : Nat) (rg ro rc : Nat → Nat) (h : Nat → Nat → Int) (w : World) (x : GR w g o cap R C rg ro rc h) (i k : Nat) (hi : i < R) (hk : k < C) : Calls Try.prog 115 #[.agg #[.slice (some ⟨g, o, none⟩) R cap], encP (i, k)] w fun e w' => e = .returned (.int .i64 (smF R C h i k)) ∧ Below w.heap.size w w' := by
  have hx := Lib.hid x
  have za := x.h0 i k hi hk
  have zb := x.h1 i k hi hk
  have hlen4 := nbT_len R C i k 4
  clear x
  have hB : Below w.heap.size w ((w.alloc (.cells #[.slice (some ⟨g, o, none⟩) R cap] 68)).alloc (.cells #[.int .i64 (i : Int), .int .i64 (k : Int)] 46)) := ((Below.refl _ _).alloc (Nat.le_refl _) _).alloc (by simp) _
  have e0 : ((w.alloc (.cells #[.slice (some ⟨g, o, none⟩) R cap] 68)).alloc (.cells #[.int .i64 (i : Int), .int .i64 (k : Int)] 46)).heap[w.heap.size]? = some (.cells #[.slice (some ⟨g, o, none⟩) R cap] 68 (0, 0)) := by
    rw [Below.heap_alloc _ _ _ (by simp)]; exact heap_alloc_new _ _
  have e1 : ((w.alloc (.cells #[.slice (some ⟨g, o, none⟩) R cap] 68)).alloc (.cells #[.int .i64 (i : Int), .int .i64 (k : Int)] 46)).heap[w.heap.size + 1]? = some (.cells #[.int .i64 (i : Int), .int .i64 (k : Int)] 46 (0, 0)) := by
    have := heap_alloc_new (w.alloc (.cells #[.slice (some ⟨g, o, none⟩) R cap] 68)) (.cells #[.int .i64 (i : Int), .int .i64 (k : Int)] 46)
    simpa using this
  have hsz : ((w.alloc (.cells #[.slice (some ⟨g, o, none⟩) R cap] 68)).alloc (.cells #[.int .i64 (i : Int), .int .i64 (k : Int)] 46)).heap.size = w.heap.size + 2 := by simp
  obtain ⟨N, hN⟩ : ∃ N, N = w.heap.size := ⟨_, rfl⟩
  have hB' := Lib.hid hB
  clear hB
  have hgen : ∃ W, W = ((w.alloc (.cells #[.slice (some ⟨g, o, none⟩) R cap] 68)).alloc (.cells #[.int .i64 (i : Int), .int .i64 (k : Int)] 46)) := ⟨_, rfl⟩
  have cE0 := fun W' (hb : Below w.heap.size w W') => isEdge_any g o cap R C rg ro rc h W' (hx.out.below hb) i k hi hk
  have cA0 := fun W' (hb : Below w.heap.size w W') => at_any g o cap R C rg ro rc h W' (hx.out.below hb) i k hi hk
  have cN0 := fun W' (hb : Below w.heap.size w W') => neighbours_any g o cap R C rg ro rc h W' (hx.out.below hb) i k hi hk
  have cQ0 := fun W' (hb : Below w.heap.size w W') a b ha hb' => at_any g o cap R C rg ro rc h W' (hx.out.below hb) a b ha hb'
  unfold encP at cE0 cA0 cN0 cQ0 ⊢
  dsimp only at cE0 cA0 cN0 cQ0 ⊢
  have hv : Hid (smF R C h i k = if edgeB R C i k then h i k else rnd (4 * h i k + smS h (nbL R C i k)) 8) := Lib.hid rfl
  obtain ⟨V, hV⟩ : ∃ V, V = smF R C h i k := ⟨_, rfl⟩
  rw [← hV] at hv ⊢
  obtain ⟨z, hz⟩ : ∃ z, z = h i k := ⟨_, rfl⟩
  rw [← hz] at hv za zb cA0
  obtain ⟨L, hL⟩ : ∃ L, L = nbL R C i k := ⟨_, rfl⟩
  have hLin : Hid (∀ x ∈ L, x.1 < R ∧ x.2 < C) := Lib.hid (by rw [hL]; exact nb_in hi hk)
  have hL4 : L.length ≤ 4 := by rw [hL]; exact hlen4
  rw [← hL] at hv cN0
  have cE := Lib.hid cE0
  have cA := Lib.hid cA0
  have cN := Lib.hid cN0
  have cQ := Lib.hid cQ0
  have key : Hid (∀ w', Below ((w.alloc (.cells #[.slice (some ⟨g, o, none⟩) R cap] 68)).alloc (.cells #[.int .i64 (i : Int), .int .i64 (k : Int)] 46)).heap.size ((w.alloc (.cells #[.slice (some ⟨g, o, none⟩) R cap] 68)).alloc (.cells #[.int .i64 (i : Int), .int .i64 (k : Int)] 46)) w' → Below w.heap.size w w' ∧ w'.cell? ⟨N, 0, none⟩ = some (.slice (some ⟨g, o, none⟩) R cap) ∧ w'.cell? ⟨N + 1, 0, none⟩ = some (.int .i64 (i : Int)) ∧ w'.cell? ⟨N + 1, 1, none⟩ = some (.int .i64 (k : Int))) := Lib.hid (fun w' hw' => by
    have f0 := (hw'.block _ (lt_of_some e0)).trans e0
    have f1 := (hw'.block _ (lt_of_some e1)).trans e1
    rw [hN]
    exact ⟨below2 hB'.out hw', cellB f0 0 _ rfl, cellB f1 0 _ rfl, cellB f1 1 _ rfl⟩)
  clear hgen cE0 cA0 cN0 cQ0 hV hz hL hlen4 e0 e1 hsz
  cases hE : edgeB R C i k
  · rw [hE] at cE hv
    clear hE
    go_enter Try.func115, Try.ntmps115
    go_wp2_with fail
    rw [← hN]
    clear hN
    generalize ((w.alloc (.cells #[.slice (some ⟨g, o, none⟩) R cap] 68)).alloc (.cells #[.int .i64 (i : Int), .int .i64 (k : Int)] 46)) = W at key ⊢
    obtain ⟨kb, c0, c1, c2⟩ := key.out W (Below.refl _ _)
    refine (cE.out W kb).mono ?_
    rintro e w2 ⟨rfl, d2⟩
    obtain ⟨kb2, c0, c1, c2⟩ := key.out w2 d2
    go_wp2_with fail
    refine (cA.out w2 kb2).mono ?_
    rintro e w3 ⟨rfl, d3⟩
    have D3 := d2.trans (d3.mono d2.size)
    obtain ⟨kb3, c0, c1, c2⟩ := key.out w3 D3
    have hwm : IntKind.i64.wrap (4 * z) = 4 * z := IntWalk.i64_in _ (by omega)
    go_wp2_with fail
    refine (cN.out w3 kb3).mono ?_
    rintro e w4 ⟨nv, rfl, hP, d4, hlow⟩
    have D4 := Lib.hid (D3.trans (d4.mono D3.size))
    have s4 := D4.out.size
    have hP' := Lib.hid hP
    obtain ⟨qa, qc, hve, _⟩ := hP
    subst hve
    have hst0 : Hid (4 * z = 4 * z + smS h (L.take 0)) := Lib.hid (by simp [smS])
    clear hlow kb kb2 kb3 c0 c1 c2 d2 d3 d4 D3
    go_wp2_with fail
    go_loopw [26, 7, 5] (fun t u s wr => ∃ (j : Nat) (sm : Int), j ≤ L.length ∧ t = .int .i64 j ∧ s = .int .i64 sm ∧ Hid (sm = 4 * z + smS h (L.take j)) ∧ 0 ≤ sm ∧ sm ≤ 4000 + 1000 * j ∧ Hid (Below w4.heap.size w4 wr)) (fun t _ _ _ => L.length - (intOf t).toNat)
    case atStart => exact ⟨0, _, by omega, rfl, rfl, hst0, by omega, by omega, Lib.hid (Below.refl _ _)⟩
    case round =>
      obtain ⟨j, sm, hj, rfl, rfl, hs, hs0, hs1, fB⟩ := hrel
      have DW := Lib.hid (D4.out.trans (fB.out.mono s4))
      obtain ⟨kb, c0, c1, c2⟩ := key.out wr DW.out
      by_cases hlj : j < L.length
      · have hljI : (j : Int) < (L.length : Int) := by omega
        obtain ⟨qa', qc', hve, hcc, hcel⟩ := hP'.out.below fB.out
        rcases hcel with hcel | ⟨g9, hge, hg9, hcel⟩
        · rw [hcel] at hlj; simp at hlj
        obtain ⟨m0, m1⟩ := hcel j hlj
        have hpe : qa = some ⟨g9, 0, none⟩ := by injection hve with h1 _ _; rw [h1]; exact hge
        clear hve hcc hcel hge
        have hxin := hLin.out _ (List.getElem_mem hlj)
        have htk : Hid (4 * z + smS h (L.take (j + 1)) = sm + h (L[j]).1 (L[j]).2) := Lib.hid (by
          rw [List.take_succ_eq_append_getElem hlj, smS_app, hs.out]; omega)
        obtain ⟨⟨xi, xk⟩, hxe⟩ : ∃ x, x = L[j] := ⟨_, rfl⟩
        rw [← hxe] at m0 m1 hxin htk
        dsimp only at m0 m1 hxin htk
        have m0' : wr.cell? ⟨g9, j * 2, none⟩ = some (.int .i64 (xi : Int)) := m0
        have m1' : wr.cell? ⟨g9, j * 2 + 1, none⟩ = some (.int .i64 (xk : Int)) := m1
        subst hpe
        have y0 := hx.out.h0 xi xk hxin.1 hxin.2
        have y1 := hx.out.h1 xi xk hxin.1 hxin.2
        have cB := Lib.hid (fun W' (hb : Below w.heap.size w W') => cQ.out W' hb xi xk hxin.1 hxin.2)
        obtain ⟨y, hy⟩ : ∃ y, y = h xi xk := ⟨_, rfl⟩
        rw [← hy] at y0 y1 htk cB
        have hwa : IntKind.i64.wrap (sm + y) = sm + y := IntWalk.i64_in _ (by omega)
        clear hy hxe hxin m0 m1 hs
        have q0 := heap_alloc_new wr (.cells #[.int .i64 (xi : Int), .int .i64 (xk : Int)] 46)
        have hbq : Below wr.heap.size wr (wr.alloc (.cells #[.int .i64 (xi : Int), .int .i64 (xk : Int)] 46)) := (Below.refl _ _).alloc (Nat.le_refl _) _
        have q1 := cellB q0 0 _ rfl
        have q2 := cellB q0 1 _ rfl
        have hbq' := Lib.hid hbq
        have c0x := (key.out (wr.alloc (.cells #[.int .i64 (xi : Int), .int .i64 (xk : Int)] 46)) (DW.out.trans (hbq.mono DW.out.size))).2.1
        clear q0 hbq
        clear c0 c1 c2
        go_wp2_with fail
        refine (cB.out _ (kb.trans (hbq'.out.mono kb.size))).mono ?_
        rintro e w5 ⟨rfl, d5⟩
        have F5 := Lib.hid (fB.out.trans ((hbq'.out.trans (d5.mono hbq'.out.size)).mono fB.out.size))
        clear q1 q2 m0' m1' c0x d5
        go_wp2
        go_roundw
        case rel => exact ⟨j + 1, sm + y, by omega, by go_num, rfl, Lib.hid htk.out.symm, by omega, by omega, F5⟩
        case measure => simp [intOf]; omega
      · have hjL : j = L.length := by omega
        have hval : Hid (rnd sm 8 = V) := Lib.hid (by rw [hv.out, hs.out, hjL, List.take_length]; rfl)
        have cR := Lib.hid (fun W' => nearest_any sm 8 (by omega) (by omega) (by omega) (by omega) (by omega) W')
        clear hjL hs hv
        go_wp2_with (go_at_call 116; refine (cR.out _).mono ?_; rintro e w5 ⟨rfl, nn, rfl⟩)
        rw [hval.out]
        go_ret
        exact ⟨rfl, belowN kb _⟩
  · rw [hE] at cE hv
    have hv' := Lib.hid (show V = z by rw [hv.out]; rfl)
    clear hE hv
    go_enter Try.func115, Try.ntmps115
    go_wp2_with fail
    rw [← hN]
    clear hN
    generalize ((w.alloc (.cells #[.slice (some ⟨g, o, none⟩) R cap] 68)).alloc (.cells #[.int .i64 (i : Int), .int .i64 (k : Int)] 46)) = W at key ⊢
    obtain ⟨kb, c0, c1, c2⟩ := key.out W (Below.refl _ _)
    refine (cE.out W kb).mono ?_
    rintro e w2 ⟨rfl, d2⟩
    obtain ⟨kb2, c0, c1, c2⟩ := key.out w2 d2
    go_wp2_with fail
    refine (cA.out w2 kb2).mono ?_
    rintro e w3 ⟨rfl, d3⟩
    have D3 := d2.trans (d3.mono d2.size)
    obtain ⟨kb3, c0, c1, c2⟩ := key.out w3 D3
    go_wp2
    rw [hv'.out]
    go_ret
    exact ⟨rfl, kb3⟩
end Go.Proofs.Ytcclahemmfjmgaa
