/-
  Where the plate between two surfaces is too thin: the program and the model.
-/
import Derived.Test.YtcfmchkomboliaaNum
import Derived.Test.YtcfmchkomboliaaSeqN
import Derived.Deep.AppendLies
namespace Go.Proofs.Ytcfmchkomboliaa
open Go.ChangeShapes Go.WideShapes Go.ChangeAt Go.RowKit Go.Deep
set_option linter.unusedVariables false
set_option linter.unusedSimpArgs false
attribute [local go_sem] Oper.semAt_some
theorem own_cells {A B : World} {lo e size n : Nat} {v : Value} {xs : List Value} (h : A.ownsRow lo e size v n xs) (hs : SameCells A B) : B.ownsRow lo e size v n xs := by
  refine ⟨h.1, ?_⟩
  rcases h.2 with h1 | ⟨g, cap, cur, hv, hg, hc, r⟩
  · exact Or.inl h1
  · exact Or.inr ⟨g, cap, cur, hv, hg, hs.same _ _ hc rfl, r⟩
theorem OwnG.top' {lo hi n : Nat} {A : World} {v : Value} {G : List (List Int)} {vs : List Value} (h : OwnG lo hi A v G vs) (e : n = G.length) : A.ownsRow lo 39 1 v n vs := by subst e; exact h.top
theorem own_not_box {w : World} {lo e size n B : Nat} {t : TypeId} {v : Value} {xs : List Value} {cs : Array Value} (h : w.ownsRow lo e size v n xs) (hb : w.heap[B]? = some (.cells cs t (0, 0))) (ht : t ≠ e) : some B ≠ v.ownBlock := by
  intro hh
  rcases h.2 with ⟨rfl, _⟩ | ⟨g, cap, cur, rfl, _, hc, _⟩
  · simp [Value.ownBlock] at hh
  · simp only [Value.ownBlock, Option.some.injEq] at hh
    subst hh
    rw [hb] at hc
    injection hc with h1
    injection h1 with _ h2
    exact ht h2
theorem own_isCells {w : World} {lo e size n k : Nat} {v : Value} {xs : List Value} (h : w.ownsRow lo e size v n xs) (hk : v.ownBlock = some k) : ∃ o, w.heap[k]? = some o ∧ o.isCells = true := by
  rcases h.2 with ⟨rfl, _⟩ | ⟨g, cap, cur, rfl, _, hc, _⟩
  · simp [Value.ownBlock] at hk
  · simp only [Value.ownBlock, Option.some.injEq] at hk
    subst hk
    exact ⟨_, hc, rfl⟩
theorem OwnG.cells {lo hi : Nat} {A B : World} {v : Value} {G : List (List Int)} {vs : List Value} (h : OwnG lo hi A v G vs) (hs : SameCells A B) : OwnG lo hi B v G vs :=
  ⟨Nat.le_trans h.hiW hs.size, h.len, own_cells h.top hs, fun i u Z e1 e2 => own_cells (h.row i u Z e1 e2) hs, h.apart, h.inn, h.topIn, h.rowIn⟩
def thF (n : Int) (h h' : Nat → Nat → Int) (L : List (Nat × Nat)) : List (List Int) := (L.filter fun p => decide (h p.1 p.2 - h' p.1 p.2 < n)).map plR
def thB (G G' : List (List Int)) (n : Int) : Bool := okG G && okG G' && inB n 0 1000 && decide (G.length = G'.length) && decide (colsG G = colsG G')
def thV (G G' : List (List Int)) (n : Int) : List (List Int) := if thB G G' n then thF n (hG G) (hG G') (plAll G.length (colsG G)) else []
def thC (G G' : List (List Int)) (n : Int) : Int := if okG G && okG G' then (if inB n 0 1000 then (if decide (G.length = G'.length) && decide (colsG G = colsG G') then 0 else 7) else 2) else 1
theorem thF_next (n : Int) (h h' : Nat → Nat → Int) (L : List (Nat × Nat)) (p : Nat × Nat) : thF n h h' (L ++ [p]) = if h p.1 p.2 - h' p.1 p.2 < n then thF n h h' L ++ [plR p] else thF n h h' L := by
  unfold thF; rw [List.filter_append, List.map_append]
  by_cases hh : h p.1 p.2 - h' p.1 p.2 < n
  · rw [if_pos hh, List.filter_cons_of_pos (by simpa using hh)]; rfl
  · rw [if_neg hh, List.filter_cons_of_neg (by simpa using hh)]; simp
theorem thF_len (n : Int) (h h' : Nat → Nat → Int) (L : List (Nat × Nat)) : (thF n h h' L).length ≤ L.length := by
  unfold thF; rw [List.length_map]; exact List.length_filter_le _ _
theorem thF_tot (n : Int) (h h' : Nat → Nat → Int) (L : List (Nat × Nat)) : totL (thF n h h' L) ≤ 2 * L.length := by
  refine snoc_ind (P := fun L => totL (thF n h h' L) ≤ 2 * L.length) (by unfold thF; simp [totL]) (fun L p ih => ?_) L
  show totL (thF n h h' (L ++ [p])) ≤ 2 * (L ++ [p]).length
  rw [thF_next, List.length_append]
  split
  · rw [totL_append]
    have : totL [plR p] = 2 := rfl
    simp only [List.length_singleton]; omega
  · simp only [List.length_singleton]; omega
theorem plAll_len {R C : Nat} (hR : R ≤ 10) (hC : C ≤ 10) : (plAll R C).length ≤ 100 := by
  unfold plAll; rw [plTo_len]
  have : R * C ≤ 10 * 10 := Nat.mul_le_mul hR hC
  omega
theorem thV_len (G G' : List (List Int)) (n : Int) : (thV G G' n).length + totL (thV G G' n) ≤ 1048576 := by
  unfold thV
  split
  · rename_i hb
    have hok : okG G = true := by unfold thB at hb; simp only [Bool.and_eq_true] at hb; exact hb.1.1.1.1
    obtain ⟨_, h2, _, h4, _⟩ := okG_rows hok
    have a := thF_len n (hG G) (hG G') (plAll G.length (colsG G))
    have b := thF_tot n (hG G) (hG G') (plAll G.length (colsG G))
    have c := plAll_len h2 h4
    omega
  · simp [totL]
theorem code2_any (b : Nat) (v v' : Value) (G G' : List (List Int)) (num : Int) (w : World) (hb : b < w.heap.size) (hc : w.cell? ⟨b, 0, none⟩ = some v) (hc' : w.cell? ⟨b, 1, none⟩ = some v') (hv : GridAt w v G) (hv' : GridAt w v' G') (hn : G.length + totL G ≤ 1048576) (hn' : G'.length + totL G' ≤ 1048576) :
    Calls Try.prog 71 #[.int .i64 num, .slice (some ⟨b, 0, none⟩) 2 2] w fun e w' => e = .returned (.int .i64 (codeG (okG G && okG G') (inB num 0 1000))) ∧ DrewOf w w' := by
  have := codeOfGrids_any b 2 (fun j => if j = 0 then v else v') (fun j => if j = 0 then G else G') num w (by omega) hb (fun j hj => by
    match j, hj with
    | 0, _ => exact ⟨hc, hv, hn⟩
    | 1, _ => exact ⟨hc', hv', hn'⟩)
  rwa [show allG 2 (fun j => if j = 0 then G else G') = (okG G && okG G') by rw [allG_next, allG_next]; rfl] at this
theorem infoGG : (Try.prog.info? 39).map (fun i => (i.zero, i.size, i.bytes)) = some (some (.slice none 0 0), 1, 24) := infoG
set_option maxRecDepth 100000 in
set_option maxHeartbeats 6400000 in
theorem implThinPlaces_any (v v' : Value) (G G' : List (List Int)) (n : Int) (w : World) (hn : G.length + totL G ≤ 1048576) (hn' : G'.length + totL G' ≤ 1048576) (hv : GridAt w v G) (hv' : GridAt w v' G') : Calls Try.prog 38 #[v, v', .int .i64 n] w (GridRet (thV G G' n) (thC G G' n) w) := by
  obtain ⟨a, cap, rfl, hrest⟩ := hv
  have hv : GridAt w (.slice a G.length cap) G := ⟨a, cap, rfl, hrest⟩
  clear hrest
  obtain ⟨a', cap', rfl, hrest⟩ := hv'
  have hv' : GridAt w (.slice a' G'.length cap') G' := ⟨a', cap', rfl, hrest⟩
  clear hrest
  have hB1 : Below w.heap.size w ((w.alloc (.cells #[.int .i64 n] 2)).alloc (.cells #[.slice a G.length cap, .slice a' G'.length cap'] 22)) := ((Below.refl _ _).alloc (Nat.le_refl _) _).alloc (by simp) _
  have hsz1 : ((w.alloc (.cells #[.int .i64 n] 2)).alloc (.cells #[.slice a G.length cap, .slice a' G'.length cap'] 22)).heap.size = w.heap.size + 2 := by simp
  have eb0 : ((w.alloc (.cells #[.int .i64 n] 2)).alloc (.cells #[.slice a G.length cap, .slice a' G'.length cap'] 22)).heap[w.heap.size]? = some (.cells #[.int .i64 n] 2 (0, 0)) := by
    rw [Below.heap_alloc _ _ _ (by simp)]; exact heap_alloc_new _ _
  have eb1 : ((w.alloc (.cells #[.int .i64 n] 2)).alloc (.cells #[.slice a G.length cap, .slice a' G'.length cap'] 22)).heap[w.heap.size + 1]? = some (.cells #[.slice a G.length cap, .slice a' G'.length cap'] 22 (0, 0)) := by
    have := heap_alloc_new (w.alloc (.cells #[.int .i64 n] 2)) (.cells #[.slice a G.length cap, .slice a' G'.length cap'] 22)
    rw [World.size_alloc] at this; exact this
  have cV := Lib.hid (code2_any (w.heap.size + 1) (.slice a G.length cap) (.slice a' G'.length cap') G G' n ((w.alloc (.cells #[.int .i64 n] 2)).alloc (.cells #[.slice a G.length cap, .slice a' G'.length cap'] 22)) (by omega) (cellB eb1 0 _ rfl) (cellB eb1 1 _ rfl) (hv.below hB1) (hv'.below hB1) hn hn')
  have hT : Hid (thV G G' n = if thB G G' n then thF n (hG G) (hG G') (plAll G.length (colsG G)) else []) := Lib.hid rfl
  have hTB : Hid (thB G G' n = (okG G && okG G' && inB n 0 1000 && decide (G.length = G'.length) && decide (colsG G = colsG G'))) := Lib.hid rfl
  have hTC : Hid (thC G G' n = if okG G && okG G' then (if inB n 0 1000 then (if decide (G.length = G'.length) && decide (colsG G = colsG G') then 0 else 7) else 2) else 1) := Lib.hid rfl
  cases hk2 : (okG G && okG G' && inB n 0 1000)
  · have hc : Hid ((codeG (okG G && okG G') (inB n 0 1000) = 1 ∨ codeG (okG G && okG G') (inB n 0 1000) = 2) ∧ thC G G' n = codeG (okG G && okG G') (inB n 0 1000) ∧ thV G G' n = []) := Lib.hid (by
      rw [hT.out, hTB.out, hTC.out, hk2]
      unfold codeG
      cases h1 : (okG G && okG G')
      · exact ⟨Or.inl rfl, rfl, rfl⟩
      · rw [h1] at hk2; rw [Bool.true_and] at hk2; rw [hk2]; exact ⟨Or.inr rfl, rfl, rfl⟩)
    obtain ⟨cd, hcd⟩ : ∃ c, c = codeG (okG G && okG G') (inB n 0 1000) := ⟨_, rfl⟩
    rw [← hcd] at cV hc
    clear hk2 hn hn' hv hv' hcd hT hTB hTC eb1
    have eb := cellB eb0 0 _ rfl
    rcases hc.out.1 with rfl | rfl
    all_goals
      go_enter Try.func38, Try.ntmps38
      go_wp2_with (go_at_call 71; refine cV.out.mono ?_; rintro e w2 ⟨rfl, hd⟩)
      go_ret2
      exact gridRet_nil hc.out.2.2 hc.out.2.1 (hB1.trans (hd.below.mono hB1.size))
  have hok1 : okG G = true := by simp only [Bool.and_eq_true] at hk2; exact hk2.1.1
  have hok2 : okG G' = true := by simp only [Bool.and_eq_true] at hk2; exact hk2.1.2
  have hnb : inB n 0 1000 = true := by simp only [Bool.and_eq_true] at hk2; exact hk2.2
  have hn01 : 0 ≤ n ∧ n ≤ 1000 := by simpa [inB] using hnb
  obtain ⟨hn0, hn1⟩ := hn01
  rw [hok1, hok2, hnb] at cV hTB hTC
  obtain ⟨g, o, cap1, rg, ro, rc, hva, hGR⟩ := grid_GR hv hok1
  injection hva with ha _ hca
  subst ha hca
  obtain ⟨g', o', cap2, rg', ro', rc', hva, hGR'⟩ := grid_GR hv' hok2
  injection hva with ha _ hca
  subst ha hca
  have hx := Lib.hid hGR
  have hx' := Lib.hid hGR'
  have r1 := hGR.R1
  have r2 := hGR.R10
  have c1 := hGR.C1
  have c2 := hGR.C10
  have r1' := hGR'.R1
  have r2' := hGR'.R10
  have c1' := hGR'.C1
  have c2' := hGR'.C10
  obtain ⟨h, hh⟩ : ∃ h, h = hG G := ⟨_, rfl⟩
  obtain ⟨h', hh'⟩ : ∃ h', h' = hG G' := ⟨_, rfl⟩
  obtain ⟨R, hR⟩ : ∃ R, R = G.length := ⟨_, rfl⟩
  obtain ⟨C, hC⟩ : ∃ C, C = colsG G := ⟨_, rfl⟩
  obtain ⟨R', hR'⟩ : ∃ R', R' = G'.length := ⟨_, rfl⟩
  obtain ⟨C', hC'⟩ : ∃ C', C' = colsG G' := ⟨_, rfl⟩
  obtain ⟨TV, hTV⟩ : ∃ x, x = thV G G' n := ⟨_, rfl⟩
  obtain ⟨TC, hTCe⟩ : ∃ x, x = thC G G' n := ⟨_, rfl⟩
  rw [← hTV] at hT
  rw [← hTCe] at hTC
  rw [← hTV, ← hTCe]
  rw [hTB.out] at hT
  rw [← hR, ← hC, ← hR', ← hC', ← hh, ← hh'] at hT
  rw [← hR, ← hC, ← hR', ← hC'] at hTC
  rw [← hR, ← hR'] at cV eb1 hB1 hsz1 eb0
  rw [← hR, ← hR']
  rw [← hR, ← hC, ← hh] at hx
  rw [← hR', ← hC', ← hh'] at hx'
  rw [← hR] at r1 r2
  rw [← hC] at c1 c2
  rw [← hR'] at r1' r2'
  rw [← hC'] at c1' c2'
  clear hk2 hok1 hok2 hnb hn hn' hv hv' hGR hGR' hh hh' hR hC hR' hC' hTV hTCe hTB
  have hxA := hx.out.below hB1
  have hxA' := hx'.out.below hB1
  have t0 := hxA.top 0 (by omega)
  have t0' := hxA'.top 0 (by omega)
  rw [Nat.add_zero] at t0 t0'
  have eb := cellB eb0 0 _ rfl
  have cC := Lib.hid (fun (W : World) (hd : DrewOf ((w.alloc (.cells #[.int .i64 n] 2)).alloc (.cells #[.slice (some ⟨g, o, none⟩) R cap, .slice (some ⟨g', o', none⟩) R' cap'] 22)) W) => columns_at g o R cap C (rc 0) (some ⟨rg 0, ro 0, none⟩) r1 (by omega) (by omega) W ((hd.cell _).trans t0))
  have cC' := Lib.hid (fun (W : World) (hd : DrewOf ((w.alloc (.cells #[.int .i64 n] 2)).alloc (.cells #[.slice (some ⟨g, o, none⟩) R cap, .slice (some ⟨g', o', none⟩) R' cap'] 22)) W) => columns_at g' o' R' cap' C' (rc' 0) (some ⟨rg' 0, ro' 0, none⟩) r1' (by omega) (by omega) W ((hd.cell _).trans t0'))
  clear t0 t0'
  by_cases hRR : R = R'
  rotate_left
  · have b1 : ((R : Int) == (R' : Int)) = false := by simpa using (show ¬ (R : Int) = (R' : Int) by omega)
    have b2 : ((R : Int) != (R' : Int)) = true := by simp [bne, b1]
    have e1 := Lib.hid (show TV = [] by rw [hT.out]; simp [hRR])
    have e2 := Lib.hid (show TC = 7 by rw [hTC.out]; simp [hRR])
    clear hRR hT hTC
    go_enter Try.func38, Try.ntmps38
    go_wp2_with (go_at_call 71; refine cV.out.mono ?_; rintro e w2 ⟨rfl, hd⟩)
    go_ret2
    exact gridRet_nil e1.out e2.out (hB1.trans (hd.below.mono hB1.size))
  have b1 : ((R : Int) == (R' : Int)) = true := by simp [hRR]
  have b2 : ((R : Int) != (R' : Int)) = false := by simp [bne, b1]
  by_cases hCC : C = C'
  rotate_left
  · have b3 : ((C : Int) == (C' : Int)) = false := by simpa using (show ¬ (C : Int) = (C' : Int) by omega)
    have b4 : ((C : Int) != (C' : Int)) = true := by simp [bne, b3]
    have e1 := Lib.hid (show TV = [] by rw [hT.out]; simp [hCC])
    have e2 := Lib.hid (show TC = 7 by rw [hTC.out]; simp [hCC])
    have hRR' := Lib.hid hRR
    clear hRR hCC hT hTC
    go_enter Try.func38, Try.ntmps38
    go_wp2_with fail
    refine cV.out.mono ?_
    rintro e w2 ⟨rfl, hd⟩
    go_wp2_with (first
      | (go_at_call 73; (with_reducible refine (cC.out _ hd).mono ?_); rintro e w3 ⟨rfl, rfl⟩)
      | (go_at_call 73; (with_reducible refine (cC'.out _ hd).mono ?_); rintro e w3 ⟨rfl, rfl⟩))
    go_ret2
    exact gridRet_nil e1.out e2.out (hB1.trans (hd.below.mono hB1.size))
  subst hRR hCC
  have b3 : ((C : Int) == (C : Int)) = true := by simp
  have b4 : ((C : Int) != (C : Int)) = false := by simp
  have e1 := Lib.hid (show TV = thF n h h' (plAll R C) by rw [hT.out]; simp)
  have e2 := Lib.hid (show TC = 0 by rw [hTC.out]; simp)
  clear hT hTC r1' r2' c1' c2'
  refine (callsIn_wide (n := 3)).1 ?_
  refine callsIn_of_wp_marks Try.func38 rfl trivial ?_ rfl
  simp only [Try.ntmps38, List.size_toArray, List.length_cons, List.length_nil, Nat.reduceAdd, Nat.reduceSub, Array.replicate_succ, Array.replicate_zero, List.push_toArray, List.append_toArray, List.nil_append, List.cons_append]
  gi_wp2_with fail
  refine ⟨trivial, (callsIn_wide.2 cV.out).mono ?_⟩
  rintro e w1 ⟨rfl, hd1⟩
  gi_wp2_with fail
  refine ⟨trivial, (callsIn_wide.2 (cC.out _ hd1)).mono ?_⟩
  rintro e w1 ⟨rfl, rfl⟩
  gi_wp2_with fail
  refine ⟨trivial, (callsIn_wide.2 (cC'.out _ hd1)).mono ?_⟩
  rintro e w1 ⟨rfl, rfl⟩
  have eL := (hd1.below.block _ (by omega)).trans eb0
  have hdB := hB1.trans (hd1.below.mono hB1.size)
  have hsz2 := hd1.below.size
  rw [hsz1] at hsz2
  clear eb0 hsz1 hB1 eb1 hxA hxA' eb cV cC cC' hd1
  gi_wp2_with fail
  refine ⟨trivial, (callsIn_wide.2 (places_any _ _ _ _)).mono ?_⟩
  rintro e w2 ⟨rfl, rfl⟩
  gi_wp2_with fail
  obtain ⟨N, hN⟩ : ∃ N, N = w1.heap.size := ⟨_, rfl⟩
  obtain ⟨L0, hL0⟩ : ∃ L0, L0 = w.heap.size := ⟨_, rfl⟩
  have g0 : (((w1.alloc (.cells #[.slice none 0 0] 22)).alloc (.cells #[.iface 44 (.slice (some ⟨g, o, none⟩) R cap), .iface 44 (.slice (some ⟨g', o', none⟩) R cap')] 72)).alloc (.cells #[.slice (some ⟨g, o, none⟩) R cap] 44)).heap[N]? = some (.cells #[.slice none 0 0] 22 (0, 0)) := by
    rw [Below.heap_alloc _ _ _ (by simp; omega), Below.heap_alloc _ _ _ (by simp; omega), hN]; exact heap_alloc_new _ _
  have g1 : (((w1.alloc (.cells #[.slice none 0 0] 22)).alloc (.cells #[.iface 44 (.slice (some ⟨g, o, none⟩) R cap), .iface 44 (.slice (some ⟨g', o', none⟩) R cap')] 72)).alloc (.cells #[.slice (some ⟨g, o, none⟩) R cap] 44)).heap[N + 1]? = some (.cells #[.iface 44 (.slice (some ⟨g, o, none⟩) R cap), .iface 44 (.slice (some ⟨g', o', none⟩) R cap')] 72 (0, 0)) := by
    rw [Below.heap_alloc _ _ _ (by simp; omega)]
    have := heap_alloc_new (w1.alloc (.cells #[.slice none 0 0] 22)) (.cells #[.iface 44 (.slice (some ⟨g, o, none⟩) R cap), .iface 44 (.slice (some ⟨g', o', none⟩) R cap')] 72)
    rw [hN]; simpa using this
  have g2 : (((w1.alloc (.cells #[.slice none 0 0] 22)).alloc (.cells #[.iface 44 (.slice (some ⟨g, o, none⟩) R cap), .iface 44 (.slice (some ⟨g', o', none⟩) R cap')] 72)).alloc (.cells #[.slice (some ⟨g, o, none⟩) R cap] 44)).heap[N + 1 + 1]? = some (.cells #[.slice (some ⟨g, o, none⟩) R cap] 44 (0, 0)) := by
    have := heap_alloc_new (((w1.alloc (.cells #[.slice none 0 0] 22)).alloc (.cells #[.iface 44 (.slice (some ⟨g, o, none⟩) R cap), .iface 44 (.slice (some ⟨g', o', none⟩) R cap')] 72))) (.cells #[.slice (some ⟨g, o, none⟩) R cap] 44)
    rw [hN]; simpa using this
  have gz : (((w1.alloc (.cells #[.slice none 0 0] 22)).alloc (.cells #[.iface 44 (.slice (some ⟨g, o, none⟩) R cap), .iface 44 (.slice (some ⟨g', o', none⟩) R cap')] 72)).alloc (.cells #[.slice (some ⟨g, o, none⟩) R cap] 44)).heap.size = N + 3 := by simp [hN]
  have gB : Below w1.heap.size w1 (((w1.alloc (.cells #[.slice none 0 0] 22)).alloc (.cells #[.iface 44 (.slice (some ⟨g, o, none⟩) R cap), .iface 44 (.slice (some ⟨g', o', none⟩) R cap')] 72)).alloc (.cells #[.slice (some ⟨g, o, none⟩) R cap] 44)) := (((Below.refl _ _).alloc (Nat.le_refl _) _).alloc (by simp) _).alloc (by simp <;> omega) _
  have gL : (((w1.alloc (.cells #[.slice none 0 0] 22)).alloc (.cells #[.iface 44 (.slice (some ⟨g, o, none⟩) R cap), .iface 44 (.slice (some ⟨g', o', none⟩) R cap')] 72)).alloc (.cells #[.slice (some ⟨g, o, none⟩) R cap] 44)).heap[L0]? = some (.cells #[.int .i64 n] 2 (0, 0)) := by rw [hL0]; exact (gB.block _ (lt_of_some eL)).trans eL
  have gW := hdB.trans (gB.mono hdB.size)
  have hx2 := hx.out.below gW
  have hx2' := hx'.out.below gW
  have hwN : L0 + 2 ≤ N := by rw [hN, hL0]; exact hsz2
  have hgN : g < N := by rw [hN]; exact Nat.lt_of_lt_of_le hx.out.gl hdB.size
  have hgN' : g' < N := by rw [hN]; exact Nat.lt_of_lt_of_le hx'.out.gl hdB.size
  have hwL : w.heap.size ≤ N := by omega
  rw [← hN, ← hL0]
  clear gB hdB eL hsz2 hN hL0
  generalize (((w1.alloc (.cells #[.slice none 0 0] 22)).alloc (.cells #[.iface 44 (.slice (some ⟨g, o, none⟩) R cap), .iface 44 (.slice (some ⟨g', o', none⟩) R cap')] 72)).alloc (.cells #[.slice (some ⟨g, o, none⟩) R cap] 44)) = W0 at g0 g1 g2 gL gz gW hx2 hx2' ⊢
  obtain ⟨i0, hi, hz0, hz1, hz2⟩ := info_parts infoG
  have hseq := places_seqN 2 (N + 1 + 1) g o cap R C (fun b => b < N + 3 ∧ b ≠ N) W0 (hx2.pl (cellB g2 0 _ rfl)) (show N + 1 + 1 < N + 3 ∧ N + 1 + 1 ≠ N by omega) (show g < N + 3 ∧ g ≠ N by omega)
  obtain ⟨LO, hLO⟩ : ∃ LO, LO = N + 3 := ⟨_, rfl⟩
  have hst : OwnG LO W0.heap.size W0 (.slice none 0 0) (thF n h h' []) [] := OwnG.nil _ _
  refine' rangePN rfl (enters_of Try.func77 (by kernel_rfl) rfl) hseq
    (fun pre W => (W.heap[L0]? = some (.cells #[.int .i64 n] 2 (0, 0)) ∧ W.heap[N + 1]? = some (.cells #[.iface 44 (.slice (some ⟨g, o, none⟩) R cap), .iface 44 (.slice (some ⟨g', o', none⟩) R cap')] 72 (0, 0)) ∧ ∃ pa LN pc vs, W.heap[N]? = some (.cells #[.slice pa LN pc] 22 (0, 0)) ∧ OwnG LO W.heap.size W (.slice pa LN pc) (thF n h h' pre) vs ∧ LN = (thF n h h' pre).length) ∧ Below w.heap.size w W)
    (fun _ _ _ => False)
    (fun s A B h hAB hS => by
      obtain ⟨⟨h0, h1, pa, LN, pc, vs, h2, h3, h4⟩, h5⟩ := h
      exact ⟨⟨hS.same _ _ h0 rfl, hS.same _ _ h1 rfl, pa, LN, pc, vs, hS.same _ _ h2 rfl, (h3.cells hS).wide hS.size (Nat.le_refl _), h4⟩, h5.trans (hAB.mono (by omega))⟩)
    (fun _ _ _ _ h _ _ => h)
    ⟨⟨gL, g1, none, 0, 0, [], g0, hst, rfl⟩, gW⟩ ?assign ?body ?done ?stop
  case assign =>
    rintro l B x W K hB hK
    unfold encP
    gi_wp2
    exact hK
  case body =>
    rintro l B pre ⟨p, q⟩ W hpre hl hlB hBW ⟨⟨i0L, i1, pa, LN, pc, vs, i2, iO, hLNe⟩, iB⟩ hBx hWz
    obtain ⟨hp, hq, hpl⟩ := pre_place hpre
    clear hpl
    have hlen := (List.prefix_append _ _ |>.trans hpre).length_le
    have hl100 := plAll_len r2 c2
    have hll := thF_len n h h' pre
    have hLN100 : LN ≤ 100 := by omega
    have hnext := thF_next n h h' pre (p, q)
    obtain ⟨LL, hLL⟩ : ∃ L, L = thF n h h' pre := ⟨_, rfl⟩
    rw [← hLL] at iO hnext hLNe
    dsimp only at hnext hBx hp hq ⊢
    have hp9 : p ≤ 1000 := by omega
    have hq9 : q ≤ 1000 := by omega
    have hz := Lib.hid (hx.out.below iB)
    have hz' := Lib.hid (hx'.out.below iB)
    have cA0 := fun w' (hw' : Below W.heap.size W w') => wood_two g o cap R C rg ro rc h g' o' cap' rg' ro' rc' h' w' (hz.out.below hw') (hz'.out.below hw') p q hp hq
    unfold encP at cA0
    dsimp only at cA0
    have z1a := hz.out.h0 p q hp hq
    have z1b := hz.out.h1 p q hp hq
    have z2a := hz'.out.h0 p q hp hq
    have z2b := hz'.out.h1 p q hp hq
    obtain ⟨z, hz1⟩ : ∃ z, z = h p q - h' p q := ⟨_, rfl⟩
    rw [← hz1] at cA0 hnext
    have cA := Lib.hid cA0
    have hN0 : N < W.heap.size := by omega
    have hN1 : N + 1 < W.heap.size := by omega
    have hL9 : L0 < W.heap.size := by omega
    have keyC : Hid (∀ w', Below W.heap.size W w' → w'.heap[L0]? = some (.cells #[.int .i64 n] 2 (0, 0)) ∧ w'.heap[N + 1]? = some (.cells #[.iface 44 (.slice (some ⟨g, o, none⟩) R cap), .iface 44 (.slice (some ⟨g', o', none⟩) R cap')] 72 (0, 0)) ∧ w'.heap[N]? = some (.cells #[.slice pa LN pc] 22 (0, 0)) ∧ w'.heap[B]? = some (.cells #[.int .i64 (p : Int), .int .i64 (q : Int)] 46 (0, 0))) := Lib.hid (fun w' hw' => ⟨(hw'.block _ hL9).trans i0L, (hw'.block _ hN1).trans i1, (hw'.block _ hN0).trans i2, (hw'.block _ hBW).trans hBx⟩)
    have O1 := Lib.hid iO
    have hLN := Lib.hid hLNe
    clear hLL hpre i0L i1 i2 hBx cA0 hz1 z1a z1b z2a z2b iO hLNe hll hlen hl100
    have open0 : Hid (∀ w', Below W.heap.size W w' → w'.cell? ⟨L0, 0, none⟩ = some (.int .i64 n) ∧ w'.cell? ⟨N + 1, 0, none⟩ = some (.iface 44 (.slice (some ⟨g, o, none⟩) R cap)) ∧ w'.cell? ⟨N + 1, 1, none⟩ = some (.iface 44 (.slice (some ⟨g', o', none⟩) R cap')) ∧ w'.cell? ⟨B, 0, none⟩ = some (.int .i64 (p : Int)) ∧ w'.cell? ⟨B, 1, none⟩ = some (.int .i64 (q : Int))) := Lib.hid (fun w' hw' => by
      obtain ⟨e0, e1, e2, e3⟩ := keyC.out w' hw'
      exact ⟨cellB e0 0 _ rfl, cellB e1 0 _ rfl, cellB e1 1 _ rfl, cellB e3 0 _ rfl, cellB e3 1 _ rfl⟩)
    by_cases hcs : z < n
    rotate_left
    · have hr : Hid (thF n h h' (pre ++ [(p, q)]) = LL) := Lib.hid (by rw [hnext, if_neg hcs])
      clear hnext
      gi_wp2_with fail
      refine wpIn_calm 5 (fun w' => Below W.heap.size W w') (by kernel_rfl) (by kernel_rfl) (by rintro ⟨_, _, h⟩; exact h) (by kernel_rfl) (by kernel_rfl) (by kernel_rfl) (belowN (Below.refl _ _) 1) ?_
      simp only [List.take_succ_cons, List.take_zero, List.drop_succ_cons, List.drop_zero]
      refine calm_take (v := ?vy33) (by rfl) ?ey33 ?ry33
      case ey33 => (intro w' hw'; obtain ⟨c0, c1, c2, c3, c4⟩ := open0.out w' hw'; go_simp; try with_reducible rfl)
      try simp only [Act.put, List.setIfInBounds_toArray, List.set_cons_zero, List.set_cons_succ]
      refine calm_take (v := ?vy34) (by rfl) ?ey34 ?ry34
      case ey34 => (intro w' hw'; obtain ⟨c0, c1, c2, c3, c4⟩ := open0.out w' hw'; go_simp; try with_reducible rfl)
      try simp only [Act.put, List.setIfInBounds_toArray, List.set_cons_zero, List.set_cons_succ]
      refine calm_call (v := .int .i64 z) (f := ?fy35) (args := ?ay35) (by rfl) ?ey35 ?cy35 ?ry35
      case ey35 => (intro w' hw'; obtain ⟨c0, c1, c2, c3, c4⟩ := open0.out w' hw'; go_simp; first | (with_reducible rfl) | (refine ⟨?_, ?_⟩ <;> with_reducible rfl))
      case cy35 => (intro w' hw'; with_reducible exact calm_ret hw' (cA.out w' hw'))
      try simp only [Act.put, List.setIfInBounds_toArray, List.set_cons_zero, List.set_cons_succ]
      refine calm_take (v := ?vy36) (by rfl) ?ey36 ?ry36
      case ey36 => (intro w' hw'; obtain ⟨c0, c1, c2, c3, c4⟩ := open0.out w' hw'; go_simp; try with_reducible rfl)
      try simp only [Act.put, List.setIfInBounds_toArray, List.set_cons_zero, List.set_cons_succ]
      refine calm_take (v := ?vy37) (by rfl) ?ey37 ?ry37
      case ey37 => (intro w' hw'; obtain ⟨c0, c1, c2, c3, c4⟩ := open0.out w' hw'; go_simp; try with_reducible rfl)
      try simp only [Act.put, List.setIfInBounds_toArray, List.set_cons_zero, List.set_cons_succ]
      refine wpQuiet_nil (fun w' hw' => ?_)
      obtain ⟨e0, e1, e2, e3⟩ := keyC.out w' hw'
      refine wpList_nil ?_
      gi_wp2
      exact ⟨KeepsFrom.below hw', Keeps.of_below hw', ⟨e0, e1, pa, LN, pc, vs, e2, by rw [hr.out]; exact (O1.out.kept hw').wide hw'.size (Nat.le_refl _), by rw [hr.out]; exact hLN.out⟩, below2 iB hw'⟩
    · have hr : Hid (thF n h h' (pre ++ [(p, q)]) = LL ++ [plR (p, q)]) := Lib.hid (by rw [hnext, if_pos hcs])
      clear hnext
      gi_wp2_with fail
      refine wpIn_calm 5 (fun w' => Below W.heap.size W w') (by kernel_rfl) (by kernel_rfl) (by rintro ⟨_, _, h⟩; exact h) (by kernel_rfl) (by kernel_rfl) (by kernel_rfl) (belowN (Below.refl _ _) 1) ?_
      simp only [List.take_succ_cons, List.take_zero, List.drop_succ_cons, List.drop_zero]
      refine calm_take (v := ?vy38) (by rfl) ?ey38 ?ry38
      case ey38 => (intro w' hw'; obtain ⟨c0, c1, c2, c3, c4⟩ := open0.out w' hw'; go_simp; try with_reducible rfl)
      try simp only [Act.put, List.setIfInBounds_toArray, List.set_cons_zero, List.set_cons_succ]
      refine calm_take (v := ?vy39) (by rfl) ?ey39 ?ry39
      case ey39 => (intro w' hw'; obtain ⟨c0, c1, c2, c3, c4⟩ := open0.out w' hw'; go_simp; try with_reducible rfl)
      try simp only [Act.put, List.setIfInBounds_toArray, List.set_cons_zero, List.set_cons_succ]
      refine calm_call (v := .int .i64 z) (f := ?fy40) (args := ?ay40) (by rfl) ?ey40 ?cy40 ?ry40
      case ey40 => (intro w' hw'; obtain ⟨c0, c1, c2, c3, c4⟩ := open0.out w' hw'; go_simp; first | (with_reducible rfl) | (refine ⟨?_, ?_⟩ <;> with_reducible rfl))
      case cy40 => (intro w' hw'; with_reducible exact calm_ret hw' (cA.out w' hw'))
      try simp only [Act.put, List.setIfInBounds_toArray, List.set_cons_zero, List.set_cons_succ]
      refine calm_take (v := ?vy41) (by rfl) ?ey41 ?ry41
      case ey41 => (intro w' hw'; obtain ⟨c0, c1, c2, c3, c4⟩ := open0.out w' hw'; go_simp; try with_reducible rfl)
      try simp only [Act.put, List.setIfInBounds_toArray, List.set_cons_zero, List.set_cons_succ]
      refine calm_take (v := ?vy42) (by rfl) ?ey42 ?ry42
      case ey42 => (intro w' hw'; obtain ⟨c0, c1, c2, c3, c4⟩ := open0.out w' hw'; go_simp; try with_reducible rfl)
      try simp only [Act.put, List.setIfInBounds_toArray, List.set_cons_zero, List.set_cons_succ]
      refine wpQuiet_nil (fun w' hw' => ?_)
      obtain ⟨e0, e1, k0, k3⟩ := keyC.out w' hw'
      have O := Lib.hid (O1.out.kept hw')
      have hw9 := hw'.size
      generalize w' = w5 at e0 e1 k0 k3 O hw' hw9 ⊢
      refine wpList_nil ?_
      gi_wp2_with fail
      have hfar : Hid (∀ b, b < LO → some b ≠ (Value.slice pa LN pc).ownBlock) := Lib.hid (fun b hb e => by have := (O.out.top.lt b e.symm).1; omega)
      have hfarB : Hid (∀ b : Nat, some B ≠ (Value.slice pa LN pc).ownBlock) := Lib.hid (fun b => own_not_box O.out.top k3 (by decide))
      refine wpIn_held_tail (S := (fun w'' => w''.heap[N]? = some (.cells #[.slice pa LN pc] 22 (0, 0)) ∧ w''.heap[B]? = some (.cells #[.int .i64 (p : Int), .int .i64 (q : Int)] 46 (0, 0)))) 5 (by kernel_rfl) (by kernel_rfl) (by rintro ⟨_, _, h⟩; exact h) (by kernel_rfl) (by kernel_rfl) ⟨k0, k3⟩ (fun hHeld => ?_)
      simp only [List.take_succ_cons, List.take_zero]
      refine wpAnyH_take (i := 0) (oi := ⟨some 49, _, _, _, _, _⟩) (v := ?vy430) rfl (by kernel_rfl) (by kernel_rfl) (by kernel_rfl) (fun _ _ _ h => h) (Or.inl ⟨by rfl, ?hy430⟩) (by assumption) ?ry430
      case hy430 => (intro w'' hSw; obtain ⟨s0, s1⟩ := hSw; have s2 := cellB s0 0 _ rfl; have s3 := cellB s1 0 _ rfl; have s4 := cellB s1 1 _ rfl; clear s0 s1; go_simp; try with_reducible rfl)
      try simp only [Act.put, List.setIfInBounds_toArray, List.set_cons_zero, List.set_cons_succ]
      refine wpAnyH_take (i := 1) (oi := ⟨some 50, _, _, _, _, _⟩) (v := ?vy431) rfl (by kernel_rfl) (by kernel_rfl) (by kernel_rfl) (fun _ _ _ h => h) (Or.inl ⟨by rfl, ?hy431⟩) (by assumption) ?ry431
      case hy431 => (intro w'' hSw; obtain ⟨s0, s1⟩ := hSw; have s2 := cellB s0 0 _ rfl; have s3 := cellB s1 0 _ rfl; have s4 := cellB s1 1 _ rfl; clear s0 s1; go_simp; try with_reducible rfl)
      try simp only [Act.put, List.setIfInBounds_toArray, List.set_cons_zero, List.set_cons_succ]
      refine wpAnyH_ready (rs := [2]) (by kernel_rfl) (by simp) ?_
      refine AllReadyH.cons (o := ⟨some 51, _, _, _, _, _⟩) rfl (fun K hK => ?_) AllReadyH.nil
      go_simp
      refine (numbers_any p q hp9 hq9 _).mono ?_
      rintro e w2 ⟨g2, c2, rfl, own2, b2⟩
      try go_wp2_with fail
      refine hK.out _ _ ?_ (fun hHeld2 => ?_)
      · exact ⟨(b2.block _ (lt_of_some hHeld.1)).trans hHeld.1, (b2.block _ (lt_of_some hHeld.2)).trans hHeld.2⟩
      clear hK K hHeld
      have hHeld := hHeld2
      clear hHeld2
      try simp only [Act.put, List.setIfInBounds_toArray, List.set_cons_zero, List.set_cons_succ]
      refine wpAnyH_ready (rs := [3]) (by kernel_rfl) (by simp) ?_
      refine AllReadyH.cons (o := ⟨some 52, _, _, _, _, _⟩) rfl (fun K hK => ?_) AllReadyH.nil
      go_simp
      try go_wp2_with fail
      refine hK.out _ _ ?_ (fun hHeld2 => ?_)
      · exact ⟨(Below.heap_alloc _ _ _ (lt_of_some hHeld.1)).trans hHeld.1, (Below.heap_alloc _ _ _ (lt_of_some hHeld.2)).trans hHeld.2⟩
      clear hK K hHeld
      have hHeld := hHeld2
      clear hHeld2
      try simp only [Act.put, List.setIfInBounds_toArray, List.set_cons_zero, List.set_cons_succ]
      refine wpAnyH_ready (rs := [4]) (by kernel_rfl) (by simp) ?_
      refine AllReadyH.cons (o := ⟨some 53, _, _, _, _, _⟩) rfl (fun K hK => ?_) AllReadyH.nil
      have O2 := Lib.hid (O.out.drewN 1)
      have b1s : w5.heap.size ≤ w2.heap.size := b2.size
      refine step_append_lies _ (by rfl) _ _ _ (by rfl) LO 39 i0 (.slice none 0 0) 1 24 Try.underlying22 hi hz0 hz1 hz2 rfl (by decide) _ LN vs (by rfl) (((O2.out.kept b2).top' hLN.out).alloc _) _ 1 1 [.slice (some ⟨g2, 0, none⟩) 2 c2] (by rfl) (by rfl) (World.news_of_block (heap_alloc_new _ _)) (by simp [Value.oneCell']) (by omega) (by unfold maxLen; omega) (by omega) (by simp; omega) _ rfl ?_
      intro g9 cap9 w9 hown9 hgrow9 hat9 hlt9
      have q0 := (hgrow9.block _ (lt_of_some hHeld.1) (hfar.out _ (by omega))).trans hHeld.1
      have q1 := (hgrow9.block _ (lt_of_some hHeld.2) (hfarB.out 0)).trans hHeld.2
      refine hK.out _ _ ?_ (fun hHeld2 => ?_)
      · exact ⟨q0, q1⟩
      clear hK K hHeld
      have hHeld := hHeld2
      clear hHeld2
      try simp only [Act.put, List.setIfInBounds_toArray, List.set_cons_zero, List.set_cons_succ]
      refine wpAnyH_done (by kernel_rfl) ?_ _
      refine tailQ_list (by simp) ?_
      simp only [List.drop_succ_cons, List.drop_zero]
      have kN := cellB q0 0 _ rfl
      have fN := freeB q0 0
      go_wp2
      gi_wp2
      have b5 : Below w5.heap.size w5 (w2.alloc (.cells #[.slice (some ⟨g2, 0, none⟩) 2 c2] 39)) := ((belowN (Below.refl _ w5) 1).trans b2).alloc b1s _
      have b3 := below2 hw' b5
      have Oc := (O2.out.kept b2).top' hLN.out
      have O9 := O2.out.snoc (w1 := w2.alloc (.cells #[.slice (some ⟨g2, 0, none⟩) 2 c2] 39)) (Z := plR (p, q)) (b2.alloc b1s _) (own2.alloc _) (plR_in hp9 hq9) hgrow9 (by rw [← hLN.out]; exact hown9) (by show LO ≤ w5.heap.size; omega) (by decide)
      have a0 := (hgrow9.block _ (Nat.lt_of_lt_of_le (lt_of_some e0) b5.size) (hfar.out _ (by omega))).trans ((b5.block _ (lt_of_some e0)).trans e0)
      have a1 := (hgrow9.block _ (Nat.lt_of_lt_of_le (lt_of_some e1) b5.size) (hfar.out _ (by omega))).trans ((b5.block _ (lt_of_some e1)).trans e1)
      have hbl : ∀ k, (Value.slice pa LN pc).ownBlock = some k → LO ≤ k := fun k hk => (Oc.lt k hk).1
      refine ⟨((KeepsFrom.below b3).trans (KeepsFrom.grown hgrow9 (fun k hk => own_isCells (Oc.alloc _) hk))).trans ((KeepsOthers.setCell w9 _ _).from _), ((Keeps.of_below b3).trans (Keeps.grown hgrow9 (fun k hk h => by have := hbl k hk; omega))).trans (Keeps.setCell _ _ (by simp) _), ⟨?_, ?_, some ⟨g9, 0, none⟩, LN + 1, cap9, vs ++ [.slice (some ⟨g2, 0, none⟩) 2 c2], ?_, ?_, ?_⟩, ?_⟩
      · rw [Below.heap_setCell _ _ _ _ (by show L0 ≠ N; omega)]; exact a0
      · rw [Below.heap_setCell _ _ _ _ (by show N + 1 ≠ N; omega)]; exact a1
      · exact heap_set q0 0 _ _ (by simp)
      · rw [hr.out]
        have := O9.beside (lo := N) (hi := N + 1) (Beside.grown (grownBy_setCell' w9 N (.slice (some ⟨g9, 0, none⟩) (LN + 1) cap9)) (fun k hk => by cases hk; omega)) (Or.inr (by omega))
        exact this.wide (by simp) (Nat.le_refl _)
      · rw [hr.out, List.length_append, hLN.out]; rfl
      · exact ((below2 iB b3).grown hgrow9 (Nat.le_trans iB.size b3.size) (fun k hk => by have := hbl k hk; omega)).setCell (p := ⟨N, 0, none⟩) (by show w.heap.size ≤ N; omega) _
  case done =>
    rintro K W hK ⟨⟨i0L, i1, pa, LN, pc, vs, i2, iO, hLNe⟩, iB⟩ hD
    have c0 := cellB i2 0 _ rfl
    have iO' := Lib.hid iO
    clear iO hLNe
    gi_wp2
    refine ⟨by simp, .inl ⟨_, _, rfl, run_takeDeferred hD, ?_⟩⟩
    refine ⟨.tuple #[.slice pa LN pc, .int .i64 0], ?_, ?_⟩
    · simp [results, Try.f38, go_sem]
    · refine gridRet_mk e1.out e2.out (iO'.out.cells (SameCells.putObj _ hD rfl)) (by omega) (iB.trans (below_put _ _ (by omega) iB.size))
  case stop =>
    rintro K c pre W _ _ h _
    exact h.elim
end Go.Proofs.Ytcfmchkomboliaa
