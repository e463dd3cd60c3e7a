/-
  The pits: the program.
-/
import Derived.Test.YtcfmchkomboliaaThinS
import Derived.Test.YtcfmchkomboliaaSte
import Derived.WalkMore
namespace Go.Proofs.Ytcfmchkomboliaa
open Go.ChangeShapes Go.WideShapes Go.ChangeAt Go.RowKit Go.Deep
set_option linter.unusedVariables false
set_option linter.unusedSimpArgs false
attribute [local go_sem] Oper.semAt_some
section
variable {F : Fence} {n : Nat} {P : Program} {Q : Exit → Act → World → Prop} {a : Act} {w : World} {b : Frame} {k : List Item} {cs : List Frame}
theorem stepR_scope {c : Code} : step P (lone (b.atR a (.code (.scope c) :: k)) cs w) = .next (lone (b.atR a (.code c :: .inScope c :: k)) cs w) :=
  step_lone_go (by simp [stepG, stepG.exec, Frame.atR])
theorem stepR_inScope {c : Code} : step P (lone (b.atR a (.inScope c :: k)) cs w) = .next (lone (b.atR a k) cs w) :=
  step_lone_go (by simp [stepG, stepG.exec, Frame.atR])
theorem wpIn_scope {c : Code} (h : c.wpIn F n P (Exit.noGoto Q) a w) : (Code.scope c).wpIn F n P Q a w := by
  intro b k cs hro hb hr
  have h0 : (lone (b.atR a (.code (.scope c) :: k)) cs w).fenced P F := fenced_calm hb hr rfl
  obtain ⟨e, a₁, w₁, hq, harr⟩ := h b (.inScope c :: k) cs hro hb hr
  cases e with
  | normal => exact ⟨.normal, a₁, w₁, hq, .head h0 stepR_scope (StepsIn.trans harr (.one (fenced_calm hb hr rfl) stepR_inScope))⟩
  | exit id =>
    have hx : exitTo id (.inScope c :: k) = exitTo id k := by simp [exitTo]
    exact ⟨.exit id, a₁, w₁, hq, fun k' hk => .head h0 stepR_scope (harr.1 k' (by rw [hx]; exact hk)),
      fun hr' hk => let ⟨k₁, h1, h2⟩ := harr.2 hr' (by rw [hx]; exact hk); ⟨k₁, h1, .head h0 stepR_scope h2⟩⟩
  | goto l => exact hq.elim
  | ret => exact ⟨_, a₁, w₁, hq, .of_steps (.one h0 stepR_scope) harr⟩
  | panic ch => exact ⟨_, a₁, w₁, hq, .of_steps (.one h0 stepR_scope) harr⟩
  | outgrown => exact ⟨_, a₁, w₁, hq, .of_steps (.one h0 stepR_scope) harr⟩
end
def pitB (R C : Nat) (h : Nat → Nat → Int) (p : Nat × Nat) : Bool := decide (0 < (nbL R C p.1 p.2).length) && (nbL R C p.1 p.2).all fun q => decide (h p.1 p.2 < h q.1 q.2)
def ptF (R C : Nat) (h : Nat → Nat → Int) (L : List (Nat × Nat)) : List (List Int) := (L.filter (pitB R C h)).map plR
def ptV (G : List (List Int)) : List (List Int) := if okG G then ptF G.length (colsG G) (hG G) (plAll G.length (colsG G)) else []
theorem ptF_next (R C : Nat) (h : Nat → Nat → Int) (L : List (Nat × Nat)) (p : Nat × Nat) : ptF R C h (L ++ [p]) = if pitB R C h p then ptF R C h L ++ [plR p] else ptF R C h L := by
  unfold ptF; rw [List.filter_append, List.map_append]
  by_cases hh : pitB R C h p = true
  · rw [if_pos hh, List.filter_cons_of_pos hh]; rfl
  · rw [if_neg hh, List.filter_cons_of_neg hh]; simp
theorem ptF_len (R C : Nat) (h : Nat → Nat → Int) (L : List (Nat × Nat)) : (ptF R C h L).length ≤ L.length := by
  unfold ptF; rw [List.length_map]; exact List.length_filter_le _ _
theorem ptF_tot (R C : Nat) (h : Nat → Nat → Int) (L : List (Nat × Nat)) : totL (ptF R C h L) ≤ 2 * L.length := by
  refine snoc_ind (P := fun L => totL (ptF R C h L) ≤ 2 * L.length) (by unfold ptF; simp [totL]) (fun L p ih => ?_) L
  show totL (ptF R C h (L ++ [p])) ≤ 2 * (L ++ [p]).length
  rw [ptF_next, List.length_append]
  split
  · rw [totL_append]
    have : totL [plR p] = 2 := rfl
    simp only [List.length_singleton]; omega
  · simp only [List.length_singleton]; omega
theorem ptV_len (G : List (List Int)) : (ptV G).length + totL (ptV G) ≤ 1048576 := by
  unfold ptV
  split
  · rename_i hok
    obtain ⟨_, h2, _, h4, _⟩ := okG_rows hok
    have a := ptF_len G.length (colsG G) (hG G) (plAll G.length (colsG G))
    have b := ptF_tot G.length (colsG G) (hG G) (plAll G.length (colsG G))
    have c := plAll_len h2 h4
    omega
  · simp [totL]
set_option maxRecDepth 100000 in
set_option maxHeartbeats 12800000 in
theorem implPitsOf_any (v : Value) (G : List (List Int)) (w : World) (hn : G.length + totL G ≤ 1048576) (hv : GridAt w v G) : Calls Try.prog 28 #[v] w (GridRet (ptV G) (code (okG G) 1) w) := by
  have cV := Lib.hid (implValidArch_any v G w hn hv)
  cases hok : okG G
  · have e1 := Lib.hid (show ptV G = [] by unfold ptV; rw [hok]; rfl)
    rw [hok] at cV
    obtain ⟨a, cap, rfl, _⟩ := hv
    clear hok hn
    go_enter Try.func28, Try.ntmps28
    go_wp2
    go_step3
    go_wp2_with (go_at_call 17; refine cV.out.mono ?_; rintro e w2 ⟨rfl, hd⟩)
    try rw [Exit.noGoto_ret]
    go_ret2
    exact gridRet_nil e1.out rfl hd.below
  have e1 := Lib.hid (show ptV G = ptF G.length (colsG G) (hG G) (plAll G.length (colsG G)) by unfold ptV; rw [hok]; rfl)
  have e2 : Hid (code true 1 = 0) := Lib.hid rfl
  obtain ⟨g, o, cap, rg, ro, rc, rfl, hGR⟩ := grid_GR hv hok
  rw [hok] at cV
  obtain ⟨PV, hPV⟩ : ∃ x, x = ptV G := ⟨_, rfl⟩
  rw [← hPV] at e1 ⊢
  obtain ⟨R, hR⟩ : ∃ R, R = G.length := ⟨_, rfl⟩
  obtain ⟨C, hC⟩ : ∃ C, C = colsG G := ⟨_, rfl⟩
  obtain ⟨h, hh⟩ : ∃ h, h = hG G := ⟨_, rfl⟩
  rw [← hR] at cV
  rw [← hR, ← hC, ← hh] at hGR e1
  rw [← hR]
  have hx := Lib.hid hGR
  have r2 := hGR.R10
  have c2 := hGR.C10
  clear hok hn hv hGR hPV hR hC hh
  refine (callsIn_wide (n := 3)).1 ?_
  refine callsIn_of_wp_marks Try.func28 rfl trivial ?_ rfl
  simp only [Try.ntmps28, List.size_toArray, List.length_cons, List.length_nil, Nat.reduceAdd, Nat.reduceSub, Array.replicate_succ, Array.replicate_zero, List.push_toArray, List.append_toArray, List.nil_append, List.cons_append]
  gi_wp2_with fail
  refine wpIn_scope ?_
  gi_wp2_with fail
  refine ⟨trivial, (callsIn_wide.2 cV.out).mono ?_⟩
  rintro e w1 ⟨rfl, hd1⟩
  have hx1 := hx.out.below hd1.below
  have hd := Lib.hid hd1.below
  clear hd1
  gi_wp2_with fail
  refine wpIn_label ?_
  gi_wp2_with fail
  refine ⟨trivial, (callsIn_wide.2 (places_any _ _ _ _)).mono ?_⟩
  rintro e w2 ⟨rfl, rfl⟩
  gi_wp2_with fail
  obtain ⟨N, hN⟩ : ∃ N, N = w1.heap.size := ⟨_, rfl⟩
  have g0 : (((w1.alloc (.cells #[.slice none 0 0] 22)).alloc (.cells #[.slice (some ⟨g, o, none⟩) R cap] 44)).alloc (.cells #[.slice (some ⟨g, o, none⟩) R cap] 44)).heap[N]? = some (.cells #[.slice none 0 0] 22 (0, 0)) := by
    rw [Below.heap_alloc _ _ _ (by simp; omega)]
    rw [Below.heap_alloc _ _ _ (by simp; omega)]
    have := heap_alloc_new (w1) (.cells #[.slice none 0 0] 22)
    rw [hN]; simpa using this
  have g1 : (((w1.alloc (.cells #[.slice none 0 0] 22)).alloc (.cells #[.slice (some ⟨g, o, none⟩) R cap] 44)).alloc (.cells #[.slice (some ⟨g, o, none⟩) R cap] 44)).heap[N + 1]? = some (.cells #[.slice (some ⟨g, o, none⟩) R cap] 44 (0, 0)) := by
    rw [Below.heap_alloc _ _ _ (by simp; omega)]
    have := heap_alloc_new ((w1.alloc (.cells #[.slice none 0 0] 22))) (.cells #[.slice (some ⟨g, o, none⟩) R cap] 44)
    rw [hN]; simpa using this
  have g2 : (((w1.alloc (.cells #[.slice none 0 0] 22)).alloc (.cells #[.slice (some ⟨g, o, none⟩) R cap] 44)).alloc (.cells #[.slice (some ⟨g, o, none⟩) R cap] 44)).heap[N + 1 + 1]? = some (.cells #[.slice (some ⟨g, o, none⟩) R cap] 44 (0, 0)) := by
    have := heap_alloc_new (((w1.alloc (.cells #[.slice none 0 0] 22)).alloc (.cells #[.slice (some ⟨g, o, none⟩) R cap] 44))) (.cells #[.slice (some ⟨g, o, none⟩) R cap] 44)
    rw [hN]; simpa using this
  have gz : (((w1.alloc (.cells #[.slice none 0 0] 22)).alloc (.cells #[.slice (some ⟨g, o, none⟩) R cap] 44)).alloc (.cells #[.slice (some ⟨g, o, none⟩) R cap] 44)).heap.size = N + 3 := by simp [hN]
  have gB : Below w1.heap.size w1 (((w1.alloc (.cells #[.slice none 0 0] 22)).alloc (.cells #[.slice (some ⟨g, o, none⟩) R cap] 44)).alloc (.cells #[.slice (some ⟨g, o, none⟩) R cap] 44)) := (((Below.refl _ _).alloc (by simp <;> omega) _).alloc (by simp <;> omega) _).alloc (by simp <;> omega) _
  have gW := hd.out.trans (gB.mono hd.out.size)
  have hx2 := hx1.below gB
  have hwN : w.heap.size ≤ N := by rw [hN]; exact hd.out.size
  have hgN : g < N := by rw [hN]; exact hx1.gl
  rw [← hN]
  clear hx1 gB hd hN cV
  generalize (((w1.alloc (.cells #[.slice none 0 0] 22)).alloc (.cells #[.slice (some ⟨g, o, none⟩) R cap] 44)).alloc (.cells #[.slice (some ⟨g, o, none⟩) R cap] 44)) = W0 at g0 g1 g2 gz gW hx2 ⊢
  obtain ⟨i0, hi, hz0, hz1, hz2⟩ := info_parts infoG
  have hseq := places_seqN 2 (N + 1 + 1) g o cap R C (fun b => b < N + 3 ∧ b ≠ N) W0 (hx2.pl (cellB g2 0 _ rfl)) (show N + 1 + 1 < N + 3 ∧ N + 1 + 1 ≠ N by omega) (show g < N + 3 ∧ g ≠ N by omega)
  obtain ⟨LO, hLO⟩ : ∃ LO, LO = N + 3 := ⟨_, rfl⟩
  have hst : OwnG LO W0.heap.size W0 (.slice none 0 0) (ptF R C h []) [] := OwnG.nil _ _
  refine' rangePN rfl (enters_of Try.func77 (by kernel_rfl) rfl) hseq
    (fun pre W => (W.heap[N + 1]? = some (.cells #[.slice (some ⟨g, o, none⟩) R cap] 44 (0, 0)) ∧ ∃ pa LN pc vs, W.heap[N]? = some (.cells #[.slice pa LN pc] 22 (0, 0)) ∧ OwnG LO W.heap.size W (.slice pa LN pc) (ptF R C h pre) vs ∧ LN = (ptF R C h pre).length) ∧ Below w.heap.size w W)
    (fun _ _ _ => False)
    (fun s A B h hAB hS => by
      obtain ⟨⟨h1, pa, LN, pc, vs, h2, h3, h4⟩, h5⟩ := h
      exact ⟨⟨hS.same _ _ h1 rfl, pa, LN, pc, vs, hS.same _ _ h2 rfl, (h3.cells hS).wide hS.size (Nat.le_refl _), h4⟩, h5.trans (hAB.mono (by omega))⟩)
    (fun _ _ _ _ h _ _ => h)
    ⟨⟨g1, none, 0, 0, [], g0, hst, rfl⟩, gW⟩ ?assign ?body ?done ?stop
  case assign =>
    rintro l B x W K hB hK
    unfold encP
    gi_wp2
    exact hK
  case body =>
    rintro l B pre ⟨p, q⟩ W hpre hl hlB hBW ⟨⟨i1, pa, LN, pc, vs, i2, iO, hLNe⟩, iB⟩ hBx hWz
    obtain ⟨hp, hq, hpl⟩ := pre_place hpre
    clear hpl
    have hlen := (List.prefix_append _ _ |>.trans hpre).length_le
    have hl100 := plAll_len r2 c2
    have hll := ptF_len R C h pre
    have hLN100 : LN ≤ 100 := by omega
    have hnext0 := ptF_next R C h pre (p, q)
    obtain ⟨LL, hLL⟩ : ∃ L, L = ptF R C h pre := ⟨_, rfl⟩
    rw [← hLL] at iO hnext0 hLNe
    have hnext := Lib.hid hnext0
    have hpit : Hid (pitB R C h (p, q) = (decide (0 < (nbL R C p q).length) && (nbL R C p q).all fun x => decide (h p q < h x.1 x.2))) := Lib.hid rfl
    dsimp only at hBx hp hq ⊢
    have hp9 : p ≤ 1000 := by omega
    have hq9 : q ≤ 1000 := by omega
    have hz := Lib.hid (hx.out.below iB)
    have hlen4 := nbT_len R C p q 4
    have cN0 := neighbours_any g o cap R C rg ro rc h W hz.out p q hp hq
    unfold encP at cN0
    dsimp only at cN0
    have cN := Lib.hid cN0
    obtain ⟨L, hL⟩ : ∃ L, L = nbL R C p q := ⟨_, rfl⟩
    have hLin : Hid (∀ x ∈ L, x.1 < R ∧ x.2 < C) := Lib.hid (by rw [hL]; exact nb_in hp hq)
    have hL4 : L.length ≤ 4 := by rw [hL]; exact hlen4
    rw [← hL] at cN hpit
    have hN0 : N < W.heap.size := by omega
    have hN1 : N + 1 < W.heap.size := by omega
    have keyC : Hid (∀ w', Below W.heap.size W w' → w'.heap[N + 1]? = some (.cells #[.slice (some ⟨g, o, none⟩) R cap] 44 (0, 0)) ∧ w'.heap[N]? = some (.cells #[.slice pa LN pc] 22 (0, 0)) ∧ w'.heap[B]? = some (.cells #[.int .i64 (p : Int), .int .i64 (q : Int)] 46 (0, 0))) := Lib.hid (fun w' hw' => ⟨(hw'.block _ hN1).trans i1, (hw'.block _ hN0).trans i2, (hw'.block _ hBW).trans hBx⟩)
    have O1 := Lib.hid iO
    have hLN := Lib.hid hLNe
    have c0 := cellB i1 0 _ rfl
    have c3 := cellB hBx 0 _ rfl
    have c4 := cellB hBx 1 _ rfl
    clear cN0 hL hlen4 hLL hpre i1 i2 hBx iO hLNe hll hlen hl100 hnext0
    gi_wp2_with fail
    refine ⟨trivial, (CallsIn.inRound l (callsIn_wide.2 cN.out)).mono ?_⟩
    rintro e w1 ⟨v, rfl, hP, hb1, hlow⟩
    clear hlow cN c0 c3 c4
    have hP' := Lib.hid hP
    have hb1' := Lib.hid hb1
    have hs1 := hb1.size
    obtain ⟨qa, qc, hve, _⟩ := hP
    subst hve
    have hst0 : Hid (∀ x ∈ L.take 0, h p q < h x.1 x.2) := Lib.hid (by intro x hx; simp at hx)
    clear hb1
    gi_wp2_with fail
    gi_loopw [22, 9] (fun t u wr => ∃ (j : Nat), j ≤ L.length ∧ t = .int .i64 j ∧ Hid (∀ x ∈ L.take j, h p q < h x.1 x.2) ∧ Hid (Below w1.heap.size w1 wr)) (fun t _ _ => L.length - (intOf t).toNat)
    case atStart => exact ⟨0, by omega, rfl, hst0, Lib.hid (Below.refl _ _)⟩
    case round =>
      obtain ⟨j, hj, rfl, hs, fB⟩ := hrel
      have hwW := Lib.hid (hb1'.out.trans (fB.out.mono hs1))
      have fs := fB.out.size
      by_cases hlj : j < L.length
      · have hljI : (j : Int) < (L.length : Int) := by omega
        have fP := hP'.out.below fB.out
        obtain ⟨qa', qc', hve, hcc, hcel⟩ := fP
        rcases hcel with hcel | ⟨g9, hge, hg9, hcel⟩
        · rw [hcel] at hlj; simp at hlj
        obtain ⟨m0, m1⟩ := hcel j hlj
        have hpe : qa = some ⟨g9, 0, none⟩ := by injection hve with h1 _ _; rw [h1]; exact hge
        clear hve hcc hcel hge
        have hxin := hLin.out _ (List.getElem_mem hlj)
        have htk : Hid (∀ x ∈ L.take (j + 1), x ∈ L.take j ∨ x = L[j]) := Lib.hid (by
          intro x hx
          rw [List.take_succ_eq_append_getElem hlj] at hx
          rcases List.mem_append.1 hx with hx | hx
          · exact Or.inl hx
          · exact Or.inr (by simpa using hx))
        have hmem := Lib.hid (List.getElem_mem hlj)
        obtain ⟨⟨xi, xk⟩, hxe⟩ : ∃ x, x = L[j] := ⟨_, rfl⟩
        rw [← hxe] at m0 m1 hxin htk hmem
        dsimp only at m0 m1 hxin
        have m0' : wr.cell? ⟨g9, j * 2, none⟩ = some (.int .i64 (xi : Int)) := m0
        have m1' : wr.cell? ⟨g9, j * 2 + 1, none⟩ = some (.int .i64 (xk : Int)) := m1
        subst hpe
        have hzr := Lib.hid (hx.out.below (below2 iB hwW.out))
        have cA0 := fun W' (hb : Below wr.heap.size wr W') => at_any g o cap R C rg ro rc h W' (hzr.out.below hb) p q hp hq
        have cB0 := fun W' (hb : Below wr.heap.size wr W') => at_any g o cap R C rg ro rc h W' (hzr.out.below hb) xi xk hxin.1 hxin.2
        unfold encP at cA0 cB0
        dsimp only at cA0 cB0
        obtain ⟨z1, hz1'⟩ : ∃ z, z = h p q := ⟨_, rfl⟩
        obtain ⟨z2, hz2'⟩ : ∃ z, z = h xi xk := ⟨_, rfl⟩
        rw [← hz1'] at cA0
        rw [← hz2'] at cB0
        have cA := Lib.hid cA0
        have cB := Lib.hid cB0
        have hz1'' := Lib.hid hz1'
        have hz2'' := Lib.hid hz2'
        clear hz1' hz2' cA0 cB0 m0 m1 hxe hxin
        have hbq : Below wr.heap.size wr (wr.alloc (.cells #[.int .i64 (xi : Int), .int .i64 (xk : Int)] 46)) := (Below.refl _ _).alloc (Nat.le_refl _) _
        have qbox := heap_alloc_new wr (.cells #[.int .i64 (xi : Int), .int .i64 (xk : Int)] 46)
        have hQ9 : (wr.alloc (.cells #[.int .i64 (xi : Int), .int .i64 (xk : Int)] 46)).heap.size = wr.heap.size + 1 := by simp
        gi_wp2_with fail
        obtain ⟨Q9, hQ⟩ : ∃ Q9, Q9 = wr.heap.size := ⟨_, rfl⟩
        rw [← hQ] at qbox hQ9
        rw [show wr.heap.size = Q9 from hQ.symm]
        generalize wr.alloc (.cells #[.int .i64 (xi : Int), .int .i64 (xk : Int)] 46) = W5 at hbq qbox hQ9 ⊢
        have hQlt : Q9 < W5.heap.size := by omega
        have hW5 := Lib.hid (below2 hwW.out hbq)
        have hW5s := hW5.out.size
        have open0 : Hid (∀ w', Below W5.heap.size W5 w' → w'.cell? ⟨N + 1, 0, none⟩ = some (.slice (some ⟨g, o, none⟩) R cap) ∧ w'.cell? ⟨B, 0, none⟩ = some (.int .i64 (p : Int)) ∧ w'.cell? ⟨B, 1, none⟩ = some (.int .i64 (q : Int)) ∧ w'.cell? ⟨Q9, 0, none⟩ = some (.int .i64 (xi : Int)) ∧ w'.cell? ⟨Q9, 1, none⟩ = some (.int .i64 (xk : Int))) := Lib.hid (fun w' hw' => by
          obtain ⟨e1, e0, e2⟩ := keyC.out w' (below2 hW5.out hw')
          have e3 := (hw'.block _ hQlt).trans qbox
          exact ⟨cellB e1 0 _ rfl, cellB e2 0 _ rfl, cellB e2 1 _ rfl, cellB e3 0 _ rfl, cellB e3 1 _ rfl⟩)
        clear qbox hQ m0' m1' hQ9
        by_cases hcs : z2 ≤ z1
        · have hr : Hid (ptF R C h (pre ++ [(p, q)]) = LL) := Lib.hid (by
            rw [hnext.out, if_neg]
            rw [hpit.out]
            intro hc
            rw [Bool.and_eq_true, List.all_eq_true] at hc
            have := hc.2 _ hmem.out
            rw [← hz1''.out, ← hz2''.out] at this
            simp only [decide_eq_true_eq] at this
            omega)
          refine wpIn_calm 7 (fun w' => Below W5.heap.size W5 w') (by kernel_rfl) (by kernel_rfl) (by rintro ⟨_, _, h⟩; exact h) (by kernel_rfl) (by kernel_rfl) (by kernel_rfl) (belowN (Below.refl _ _) 1) ?_
          simp only [List.take_succ_cons, List.take_zero, List.drop_succ_cons, List.drop_zero]
          refine calm_take (v := ?vy33) (by rfl) ?ey33 ?ry33
          case ey33 => (intro w' hw'; obtain ⟨c1, c2', c3, c4, c5⟩ := open0.out w' hw'; go_simp; try with_reducible rfl)
          try simp only [Act.put, List.setIfInBounds_toArray, List.set_cons_zero, List.set_cons_succ]
          refine calm_take (v := ?vy34) (by rfl) ?ey34 ?ry34
          case ey34 => (intro w' hw'; obtain ⟨c1, c2', c3, c4, c5⟩ := open0.out w' hw'; go_simp; try with_reducible rfl)
          try simp only [Act.put, List.setIfInBounds_toArray, List.set_cons_zero, List.set_cons_succ]
          refine calm_call (v := .int .i64 z2) (f := ?fy35) (args := ?ay35) (by rfl) ?ey35 ?cy35 ?ry35
          case ey35 => (intro w' hw'; obtain ⟨c1, c2', c3, c4, c5⟩ := open0.out w' hw'; go_simp; first | (with_reducible rfl) | (refine ⟨?_, ?_⟩ <;> with_reducible rfl))
          case cy35 => (intro w' hw'; with_reducible exact calm_ret hw' (cB.out w' (below2 hbq hw')))
          try simp only [Act.put, List.setIfInBounds_toArray, List.set_cons_zero, List.set_cons_succ]
          refine calm_take (v := ?vy36) (by rfl) ?ey36 ?ry36
          case ey36 => (intro w' hw'; obtain ⟨c1, c2', c3, c4, c5⟩ := open0.out w' hw'; go_simp; try with_reducible rfl)
          try simp only [Act.put, List.setIfInBounds_toArray, List.set_cons_zero, List.set_cons_succ]
          refine calm_take (v := ?vy37) (by rfl) ?ey37 ?ry37
          case ey37 => (intro w' hw'; obtain ⟨c1, c2', c3, c4, c5⟩ := open0.out w' hw'; go_simp; try with_reducible rfl)
          try simp only [Act.put, List.setIfInBounds_toArray, List.set_cons_zero, List.set_cons_succ]
          refine calm_call (v := .int .i64 z1) (f := ?fy38) (args := ?ay38) (by rfl) ?ey38 ?cy38 ?ry38
          case ey38 => (intro w' hw'; obtain ⟨c1, c2', c3, c4, c5⟩ := open0.out w' hw'; go_simp; first | (with_reducible rfl) | (refine ⟨?_, ?_⟩ <;> with_reducible rfl))
          case cy38 => (intro w' hw'; with_reducible exact calm_ret hw' (cA.out w' (below2 hbq hw')))
          try simp only [Act.put, List.setIfInBounds_toArray, List.set_cons_zero, List.set_cons_succ]
          refine calm_take (v := ?vy39) (by rfl) ?ey39 ?ry39
          case ey39 => (intro w' hw'; obtain ⟨c1, c2', c3, c4, c5⟩ := open0.out w' hw'; go_simp; try with_reducible rfl)
          try simp only [Act.put, List.setIfInBounds_toArray, List.set_cons_zero, List.set_cons_succ]
          refine wpQuiet_nil (fun w' hw' => ?_)
          clear hcs
          have hw9 := below2 hW5.out hw'
          obtain ⟨e1, e0, e2⟩ := keyC.out w' hw9
          refine wpList_nil ?_
          gi_wp2
          exact ⟨KeepsFrom.below hw9, Keeps.of_below hw9, ⟨e1, pa, LN, pc, vs, e0, by rw [hr.out]; exact (O1.out.kept hw9).wide hw9.size (Nat.le_refl _), by rw [hr.out]; exact hLN.out⟩, below2 iB hw9⟩
        · have hnx : Hid (∀ x ∈ L.take (j + 1), h p q < h x.1 x.2) := Lib.hid (by
            intro x hx
            rcases htk.out x hx with hx | rfl
            · exact hs.out x hx
            · show h p q < h xi xk
              rw [← hz1''.out, ← hz2''.out]; omega)
          refine wpIn_calm 7 (fun w' => Below W5.heap.size W5 w') (by kernel_rfl) (by kernel_rfl) (by rintro ⟨_, _, h⟩; exact h) (by kernel_rfl) (by kernel_rfl) (by kernel_rfl) (belowN (Below.refl _ _) 1) ?_
          simp only [List.take_succ_cons, List.take_zero, List.drop_succ_cons, List.drop_zero]
          refine calm_take (v := ?vy40) (by rfl) ?ey40 ?ry40
          case ey40 => (intro w' hw'; obtain ⟨c1, c2', c3, c4, c5⟩ := open0.out w' hw'; go_simp; try with_reducible rfl)
          try simp only [Act.put, List.setIfInBounds_toArray, List.set_cons_zero, List.set_cons_succ]
          refine calm_take (v := ?vy41) (by rfl) ?ey41 ?ry41
          case ey41 => (intro w' hw'; obtain ⟨c1, c2', c3, c4, c5⟩ := open0.out w' hw'; go_simp; try with_reducible rfl)
          try simp only [Act.put, List.setIfInBounds_toArray, List.set_cons_zero, List.set_cons_succ]
          refine calm_call (v := .int .i64 z2) (f := ?fy42) (args := ?ay42) (by rfl) ?ey42 ?cy42 ?ry42
          case ey42 => (intro w' hw'; obtain ⟨c1, c2', c3, c4, c5⟩ := open0.out w' hw'; go_simp; first | (with_reducible rfl) | (refine ⟨?_, ?_⟩ <;> with_reducible rfl))
          case cy42 => (intro w' hw'; with_reducible exact calm_ret hw' (cB.out w' (below2 hbq hw')))
          try simp only [Act.put, List.setIfInBounds_toArray, List.set_cons_zero, List.set_cons_succ]
          refine calm_take (v := ?vy43) (by rfl) ?ey43 ?ry43
          case ey43 => (intro w' hw'; obtain ⟨c1, c2', c3, c4, c5⟩ := open0.out w' hw'; go_simp; try with_reducible rfl)
          try simp only [Act.put, List.setIfInBounds_toArray, List.set_cons_zero, List.set_cons_succ]
          refine calm_take (v := ?vy44) (by rfl) ?ey44 ?ry44
          case ey44 => (intro w' hw'; obtain ⟨c1, c2', c3, c4, c5⟩ := open0.out w' hw'; go_simp; try with_reducible rfl)
          try simp only [Act.put, List.setIfInBounds_toArray, List.set_cons_zero, List.set_cons_succ]
          refine calm_call (v := .int .i64 z1) (f := ?fy45) (args := ?ay45) (by rfl) ?ey45 ?cy45 ?ry45
          case ey45 => (intro w' hw'; obtain ⟨c1, c2', c3, c4, c5⟩ := open0.out w' hw'; go_simp; first | (with_reducible rfl) | (refine ⟨?_, ?_⟩ <;> with_reducible rfl))
          case cy45 => (intro w' hw'; with_reducible exact calm_ret hw' (cA.out w' (below2 hbq hw')))
          try simp only [Act.put, List.setIfInBounds_toArray, List.set_cons_zero, List.set_cons_succ]
          refine calm_take (v := ?vy46) (by rfl) ?ey46 ?ry46
          case ey46 => (intro w' hw'; obtain ⟨c1, c2', c3, c4, c5⟩ := open0.out w' hw'; go_simp; try with_reducible rfl)
          try simp only [Act.put, List.setIfInBounds_toArray, List.set_cons_zero, List.set_cons_succ]
          refine wpQuiet_nil (fun w' hw' => ?_)
          have hw9 := below2 (fB.out.trans (hbq.mono fs)) hw'
          refine wpList_nil ?_
          gi_wp2
          go_roundw
          case rel => exact ⟨j + 1, by omega, by go_num, hnx, Lib.hid hw9⟩
          case measure => simp [intOf]; omega
      · have hjL : j = L.length := by omega
        have hall : Hid (∀ x ∈ L, h p q < h x.1 x.2) := Lib.hid (by have := hs.out; rwa [hjL, List.take_length] at this)
        obtain ⟨e1, k0, k3⟩ := keyC.out wr hwW.out
        have O := Lib.hid (O1.out.kept hwW.out)
        have hw' := hwW.out
        have hw9 := hw'.size
        clear hjL hs fB
        generalize wr = w5 at e1 k0 k3 O hw' hw9 ⊢
        by_cases hL0 : 0 < L.length
        · have hr : Hid (ptF R C h (pre ++ [(p, q)]) = LL ++ [plR (p, q)]) := Lib.hid (by
            rw [hnext.out, if_pos]
            rw [hpit.out, Bool.and_eq_true, List.all_eq_true]
            exact ⟨by simpa using hL0, fun x hx => by simpa using hall.out x hx⟩)
          have hL0I : (0 : Int) < (L.length : Int) := by omega
          clear hP' hb1'
          gi_wp2_with fail
          have hfar : Hid (∀ b, b < LO → some b ≠ (Value.slice pa LN pc).ownBlock) := Lib.hid (fun b hb e => by have := (O.out.top.lt b e.symm).1; omega)
          have hfarB : Hid (∀ b : Nat, some B ≠ (Value.slice pa LN pc).ownBlock) := Lib.hid (fun b => own_not_box O.out.top k3 (by decide))
          refine wpIn_held_tail (S := (fun w'' => w''.heap[N]? = some (.cells #[.slice pa LN pc] 22 (0, 0)) ∧ w''.heap[B]? = some (.cells #[.int .i64 (p : Int), .int .i64 (q : Int)] 46 (0, 0)))) 5 (by kernel_rfl) (by kernel_rfl) (by rintro ⟨_, _, h⟩; exact h) (by kernel_rfl) (by kernel_rfl) ⟨k0, k3⟩ (fun hHeld => ?_)
          simp only [List.take_succ_cons, List.take_zero]
          refine wpAnyH_take (i := 0) (oi := ⟨some 37, _, _, _, _, _⟩) (v := ?vy470) rfl (by kernel_rfl) (by kernel_rfl) (by kernel_rfl) (fun _ _ _ h => h) (Or.inl ⟨by rfl, ?hy470⟩) (by assumption) ?ry470
          case hy470 => (intro w'' hSw; obtain ⟨s0, s1⟩ := hSw; have s2 := cellB s0 0 _ rfl; have s3 := cellB s1 0 _ rfl; have s4 := cellB s1 1 _ rfl; clear s0 s1; go_simp; try with_reducible rfl)
          try simp only [Act.put, List.setIfInBounds_toArray, List.set_cons_zero, List.set_cons_succ]
          refine wpAnyH_take (i := 1) (oi := ⟨some 38, _, _, _, _, _⟩) (v := ?vy471) rfl (by kernel_rfl) (by kernel_rfl) (by kernel_rfl) (fun _ _ _ h => h) (Or.inl ⟨by rfl, ?hy471⟩) (by assumption) ?ry471
          case hy471 => (intro w'' hSw; obtain ⟨s0, s1⟩ := hSw; have s2 := cellB s0 0 _ rfl; have s3 := cellB s1 0 _ rfl; have s4 := cellB s1 1 _ rfl; clear s0 s1; go_simp; try with_reducible rfl)
          try simp only [Act.put, List.setIfInBounds_toArray, List.set_cons_zero, List.set_cons_succ]
          refine wpAnyH_ready (rs := [2]) (by kernel_rfl) (by simp) ?_
          refine AllReadyH.cons (o := ⟨some 39, _, _, _, _, _⟩) rfl (fun K hK => ?_) AllReadyH.nil
          go_simp
          refine (numbers_any p q hp9 hq9 _).mono ?_
          rintro e w2 ⟨g2, c2', rfl, own2, b2⟩
          try go_wp2_with fail
          refine hK.out _ _ ?_ (fun hHeld2 => ?_)
          · exact ⟨(b2.block _ (lt_of_some hHeld.1)).trans hHeld.1, (b2.block _ (lt_of_some hHeld.2)).trans hHeld.2⟩
          clear hK K hHeld
          have hHeld := hHeld2
          clear hHeld2
          try simp only [Act.put, List.setIfInBounds_toArray, List.set_cons_zero, List.set_cons_succ]
          refine wpAnyH_ready (rs := [3]) (by kernel_rfl) (by simp) ?_
          refine AllReadyH.cons (o := ⟨some 40, _, _, _, _, _⟩) rfl (fun K hK => ?_) AllReadyH.nil
          go_simp
          try go_wp2_with fail
          refine hK.out _ _ ?_ (fun hHeld2 => ?_)
          · exact ⟨(Below.heap_alloc _ _ _ (lt_of_some hHeld.1)).trans hHeld.1, (Below.heap_alloc _ _ _ (lt_of_some hHeld.2)).trans hHeld.2⟩
          clear hK K hHeld
          have hHeld := hHeld2
          clear hHeld2
          try simp only [Act.put, List.setIfInBounds_toArray, List.set_cons_zero, List.set_cons_succ]
          refine wpAnyH_ready (rs := [4]) (by kernel_rfl) (by simp) ?_
          refine AllReadyH.cons (o := ⟨some 41, _, _, _, _, _⟩) rfl (fun K hK => ?_) AllReadyH.nil
          have O2 := Lib.hid (O.out.drewN 1)
          have b1s : w5.heap.size ≤ w2.heap.size := b2.size
          refine step_append_lies _ (by rfl) _ _ _ (by rfl) LO 39 i0 (.slice none 0 0) 1 24 Try.underlying22 hi hz0 hz1 hz2 rfl (by decide) _ LN vs (by rfl) (((O2.out.kept b2).top' hLN.out).alloc _) _ 1 1 [.slice (some ⟨g2, 0, none⟩) 2 c2'] (by rfl) (by rfl) (World.news_of_block (heap_alloc_new _ _)) (by simp [Value.oneCell']) (by omega) (by unfold maxLen; omega) (by omega) (by simp; omega) _ rfl ?_
          intro g9 cap9 w9 hown9 hgrow9 hat9 hlt9
          have q0 := (hgrow9.block _ (lt_of_some hHeld.1) (hfar.out _ (by omega))).trans hHeld.1
          have q1 := (hgrow9.block _ (lt_of_some hHeld.2) (hfarB.out 0)).trans hHeld.2
          refine hK.out _ _ ?_ (fun hHeld2 => ?_)
          · exact ⟨q0, q1⟩
          clear hK K hHeld
          have hHeld := hHeld2
          clear hHeld2
          try simp only [Act.put, List.setIfInBounds_toArray, List.set_cons_zero, List.set_cons_succ]
          refine wpAnyH_done (by kernel_rfl) ?_ _
          refine tailQ_list (by simp) ?_
          simp only [List.drop_succ_cons, List.drop_zero]
          have kN := cellB q0 0 _ rfl
          have fN := freeB q0 0
          go_wp2
          gi_wp2
          have b5 : Below w5.heap.size w5 (w2.alloc (.cells #[.slice (some ⟨g2, 0, none⟩) 2 c2'] 39)) := ((belowN (Below.refl _ w5) 1).trans b2).alloc b1s _
          have b3 := below2 hw' b5
          have Oc := (O2.out.kept b2).top' hLN.out
          have O9 := O2.out.snoc (w1 := w2.alloc (.cells #[.slice (some ⟨g2, 0, none⟩) 2 c2'] 39)) (Z := plR (p, q)) (b2.alloc b1s _) (own2.alloc _) (plR_in hp9 hq9) hgrow9 (by rw [← hLN.out]; exact hown9) (by show LO ≤ w5.heap.size; omega) (by decide)
          have a1 := (hgrow9.block _ (Nat.lt_of_lt_of_le (lt_of_some e1) b5.size) (hfar.out _ (by omega))).trans ((b5.block _ (lt_of_some e1)).trans e1)
          have hbl : ∀ k, (Value.slice pa LN pc).ownBlock = some k → LO ≤ k := fun k hk => (Oc.lt k hk).1
          refine ⟨((KeepsFrom.below b3).trans (KeepsFrom.grown hgrow9 (fun k hk => own_isCells (Oc.alloc _) hk))).trans ((KeepsOthers.setCell w9 _ _).from _), ((Keeps.of_below b3).trans (Keeps.grown hgrow9 (fun k hk h => by have := hbl k hk; omega))).trans (Keeps.setCell _ _ (by simp) _), ⟨?_, some ⟨g9, 0, none⟩, LN + 1, cap9, vs ++ [.slice (some ⟨g2, 0, none⟩) 2 c2'], ?_, ?_, ?_⟩, ?_⟩
          · rw [Below.heap_setCell _ _ _ _ (by show N + 1 ≠ N; omega)]; exact a1
          · exact heap_set q0 0 _ _ (by simp)
          · rw [hr.out]
            have := O9.beside (lo := N) (hi := N + 1) (Beside.grown (grownBy_setCell' w9 N (.slice (some ⟨g9, 0, none⟩) (LN + 1) cap9)) (fun k hk => by cases hk; omega)) (Or.inr (by omega))
            exact this.wide (by simp) (Nat.le_refl _)
          · rw [hr.out, List.length_append, hLN.out]; rfl
          · exact ((below2 iB b3).grown hgrow9 (Nat.le_trans iB.size b3.size) (fun k hk => by have := hbl k hk; omega)).setCell (p := ⟨N, 0, none⟩) (by show w.heap.size ≤ N; omega) _
        · have hr : Hid (ptF R C h (pre ++ [(p, q)]) = LL) := Lib.hid (by
            rw [hnext.out, if_neg]
            rw [hpit.out, Bool.and_eq_true]
            intro hc
            exact hL0 (by simpa using hc.1))
          have hL0I : ¬ (0 : Int) < (L.length : Int) := by omega
          have e1' := Lib.hid e1
          have k0' := Lib.hid k0
          clear hP' hb1' e1 k0 k3
          gi_wp2
          refine ⟨KeepsFrom.below hw', Keeps.of_below hw', ⟨e1'.out, pa, LN, pc, ?_⟩, below2 iB hw'⟩
          have q1 := show OwnG LO w5.heap.size w5 (.slice pa LN pc) (ptF R C h (pre ++ [(p, q)])) vs by rw [hr.out]; exact O.out.wide hw9 (Nat.le_refl _)
          have q2 := show LN = (ptF R C h (pre ++ [(p, q)])).length by rw [hr.out]; exact hLN.out
          first
            | exact ⟨vs, k0'.out, q1, q2⟩
            | exact ⟨k0'.out, ⟨vs, q1⟩, q2⟩
            | (subst hLO; exact ⟨vs, k0'.out, q1, q2⟩)
            | (subst hLO; exact ⟨k0'.out, ⟨vs, q1⟩, q2⟩)
  case done =>
    rintro K W hK ⟨⟨i1, pa, LN, pc, vs, i2, iO, hLNe⟩, iB⟩ hD
    have c0 := cellB i2 0 _ rfl
    have iO' := Lib.hid iO
    clear iO hLNe
    gi_wp2
    refine ⟨by simp, .inl ⟨_, _, rfl, run_takeDeferred hD, ?_⟩⟩
    refine ⟨.tuple #[.slice pa LN pc, .int .i64 0], ?_, ?_⟩
    · simp [results, Try.f28, go_sem]
    · refine gridRet_mk e1.out e2.out (iO'.out.cells (SameCells.putObj _ hD rfl)) (by omega) (iB.trans (below_put _ _ (by omega) iB.size))
  case stop =>
    rintro K c pre W _ _ h _
    exact h.elim
end Go.Proofs.Ytcfmchkomboliaa
