/-
  EdgeAndMiddle of the model.
-/
import Derived.Test.YtndnliaahdmbmaaEam
namespace Go.Proofs.Ytndnliaahdmbmaa
open Go.ChangeShapes Go.WideShapes Go.ChangeAt Go.RowKit Go.Deep
set_option linter.unusedVariables false
set_option linter.unusedSimpArgs false
set_option maxRecDepth 1000000
set_option linter.unusedVariables false
set_option linter.unusedSimpArgs false
set_option maxRecDepth 1000000
theorem heap_setS {w : World} {b : Nat} {cs : Array Value} {t : TypeId} (h : w.heap[b]? = some (.cells cs t (0, 0))) (i : Nat) (v : Value) (cs' : Array Value) (hc : cs.setIfInBounds i v = cs') : (w.setCell ⟨b, i, none⟩ v).heap[b]? = some (.cells cs' t (0, 0)) := by
  obtain ⟨hlt, hk⟩ := Array.getElem?_eq_some_iff.1 h
  show (w.heap.modify b _)[b]? = _
  rw [Array.getElem?_eq_getElem (by rw [Array.size_modify]; exact hlt), Array.getElem_modify_self, hk, ← hc]
  simp [Array.setIfInBounds]
theorem mnF_pos {R C : Nat} (wb : Nat → Nat → Bool) (h : Nat → Nat → Int) (L : List (Nat × Nat)) : 0 ≤ (mnF wb h L).2 ∧ ∀ p ∈ L, wb p.1 p.2 = true → 1 ≤ (mnF wb h L).2 := by
  refine snoc_ind (P := fun L => 0 ≤ (mnF wb h L).2 ∧ ∀ p ∈ L, wb p.1 p.2 = true → 1 ≤ (mnF wb h L).2) ⟨by unfold mnF; simp, fun p hp => by cases hp⟩ (fun L p ih => ?_) L
  rw [mnF_next]
  cases hw : wb p.1 p.2
  · rw [if_neg (by decide)]
    refine ⟨ih.1, fun q hq hqw => ?_⟩
    rcases List.mem_append.1 hq with h | h
    · exact ih.2 q h hqw
    · rw [List.mem_singleton] at h; subst h; rw [hw] at hqw; cases hqw
  · rw [if_pos rfl]
    exact ⟨by have := ih.1; dsimp only; omega, fun q hq hqw => by have := ih.1; dsimp only; omega⟩
set_option maxHeartbeats 6400000 in
theorem specEdgeAndMiddle_any (v : Value) (G : List (List Int)) (w : World) (hn : G.length + totL G ≤ 1048576) (hv : GridAt w v G) : Calls Try.prog 39 #[v] w fun e w' => e = .returned (.tuple #[.int .i64 (emV G), .int .i64 (emM G), .int .i64 (emC G)]) ∧ Below w.heap.size w w' := by
  have cV := Lib.hid (l08Ok_any v G w hn hv)
  have hA0 : emV G = if okP G && emB G then rnd (edF G).1 (edF G).2 else 0 := rfl
  have hM0 : emM G = if okP G && emB G then rnd (miF8 G).1 (miF8 G).2 else 0 := rfl
  have hC0 : emC G = if okP G = true then (if emB G = true then 0 else 6) else 1 := rfl
  cases hok : okP G
  · have hA : Hid (emV G = 0) := Lib.hid (by rw [hA0, hok]; rfl)
    have hM : Hid (emM G = 0) := Lib.hid (by rw [hM0, hok]; rfl)
    have hC : Hid (emC G = 1) := Lib.hid (by rw [hC0, hok]; rfl)
    rw [hok] at cV
    obtain ⟨a, cap, rfl, _⟩ := hv
    clear hok hA0 hM0 hC0
    go_enter Try.func39, Try.ntmps39
    go_wp2_with (go_at_call 48; refine cV.out.mono ?_; rintro e w2 ⟨rfl, hd⟩)
    go_ret3
    exact ⟨ret_i3 hA.out.symm hM.out.symm hC.out.symm, hd.below⟩
  obtain ⟨g, o, cap, rg, ro, rc, rfl, hGR⟩ := grid_GR hv (okP_okG hok)
  rw [hok] at cV hA0 hM0 hC0
  have hqm : emB G = decide ((miF8 G).2 > 0) := rfl
  unfold edF at hA0
  unfold miF8 at hM0 hqm
  rw [hqm] at hA0 hM0 hC0
  clear hqm
  obtain ⟨h, hh⟩ : ∃ h, h = hG G := ⟨_, rfl⟩
  obtain ⟨R, hR⟩ : ∃ R, R = G.length := ⟨_, rfl⟩
  obtain ⟨C, hC⟩ : ∃ C, C = colsG G := ⟨_, rfl⟩
  rw [← hR, ← hC, ← hh] at hGR hA0 hM0
  rw [← hR, ← hC, ← hh] at hC0
  rw [← hR] at cV ⊢
  have hx := Lib.hid hGR
  have hR2 := hGR.R10
  have hC2 := hGR.C10
  have hR1 := hGR.R1
  have hC1 := hGR.C1
  have hbE := Lib.hid (fun pre hp => mnF_bd (R := R) (C := C) hR2 hC2 (edB R C) h hGR.h0 hGR.h1 (L := pre) hp)
  have hbM := Lib.hid (fun pre hp => mnF_bd (R := R) (C := C) hR2 hC2 (miB R C) h hGR.h0 hGR.h1 (L := pre) hp)
  have hpE : Hid (1 ≤ (mnF (edB R C) h (plAll R C)).2) := Lib.hid ((mnF_pos (R := R) (C := C) (edB R C) h (plAll R C)).2 (0, 0) (mem_plAll.2 ⟨by omega, by omega⟩) (by unfold edB dpV minG; simp; omega))
  replace hA0 := Lib.hid hA0
  replace hM0 := Lib.hid hM0
  replace hC0 := Lib.hid hC0
  clear hok hGR hv hn hh hR hC
  go_enter Try.func39, Try.ntmps39
  go_wp2_with (go_at_call 48; refine cV.out.mono ?_; rintro e w2 ⟨rfl, hd⟩)
  have g1 := heap_alloc_new w2 (.cells #[.int .i64 0, .int .i64 0] 2)
  have g2 := heap_alloc_new (w2.alloc (.cells #[.int .i64 0, .int .i64 0] 2)) (.cells #[.int .i64 0, .int .i64 0] 2)
  have g3 : ((w2.alloc (.cells #[.int .i64 0, .int .i64 0] 2)).alloc (.cells #[.int .i64 0, .int .i64 0] 2)).heap[w2.heap.size]? = some (.cells #[.int .i64 0, .int .i64 0] 2 (0, 0)) := by
    rw [Below.heap_alloc _ _ _ (by simp)]; exact g1
  have gs : (w2.alloc (.cells #[.int .i64 0, .int .i64 0] 2)).heap.size = w2.heap.size + 1 := by simp
  rw [gs] at g2
  have gB : Below w.heap.size w ((w2.alloc (.cells #[.int .i64 0, .int .i64 0] 2)).alloc (.cells #[.int .i64 0, .int .i64 0] 2)) := (hd.below.alloc hd.below.size _).alloc (by rw [gs]; have := hd.below.size; omega) _
  obtain ⟨N, hN⟩ : ∃ N, N = w2.heap.size := ⟨_, rfl⟩
  have hNw : w.heap.size ≤ N := by rw [hN]; exact hd.below.size
  rw [← hN] at g2 g3 ⊢
  have H1 := Lib.hid g3
  have H2 := Lib.hid g2
  have HB := Lib.hid gB
  clear g1 g2 g3 gs gB hN hd cV
  generalize ((w2.alloc (.cells #[.int .i64 0, .int .i64 0] 2)).alloc (.cells #[.int .i64 0, .int .i64 0] 2)) = W0 at H1 H2 HB ⊢
  go_wp2
  go_loopw [7] (fun i wr => ∃ (k : Nat) (s0 s1 c0 c1 : Int), k ≤ R ∧ i = .int .i64 k ∧ Hid ((s0, c0) = mnF (edB R C) h (plTo C k 0)) ∧ Hid ((s1, c1) = mnF (miB R C) h (plTo C k 0)) ∧ Hid (wr.heap[N]? = some (.cells #[.int .i64 s0, .int .i64 s1] 2 (0, 0))) ∧ Hid (wr.heap[N + 1]? = some (.cells #[.int .i64 c0, .int .i64 c1] 2 (0, 0))) ∧ Hid (Below w.heap.size w wr)) (fun i _ => R - (intOf i).toNat)
  case atStart => exact ⟨0, 0, 0, 0, 0, by omega, rfl, Lib.hid rfl, Lib.hid rfl, H1, H2, HB⟩
  case round =>
    obtain ⟨k, s0, s1, c0, c1, hk, rfl, hE, hM, h1, h2, hB⟩ := hrel
    by_cases hlt : k < R
    · have hkI : (k : Int) < (R : Int) := by omega
      go_wp2
      go_loopw [8] (fun i wr => ∃ (m : Nat) (s0 s1 c0 c1 : Int), m ≤ C ∧ i = .int .i64 m ∧ Hid ((s0, c0) = mnF (edB R C) h (plTo C k m)) ∧ Hid ((s1, c1) = mnF (miB R C) h (plTo C k m)) ∧ Hid (wr.heap[N]? = some (.cells #[.int .i64 s0, .int .i64 s1] 2 (0, 0))) ∧ Hid (wr.heap[N + 1]? = some (.cells #[.int .i64 c0, .int .i64 c1] 2 (0, 0))) ∧ Hid (Below w.heap.size w wr)) (fun i _ => C - (intOf i).toNat)
      case atStart => exact ⟨0, s0, s1, c0, c1, by omega, rfl, hE, hM, h1, h2, hB⟩
      case round =>
        obtain ⟨m, s0, s1, c0, c1, hm, rfl, hE, hM, h1, h2, hB⟩ := hrel
        have hz := Lib.hid (hx.out.below hB.out)
        have r1 := hz.out.top k hlt
        by_cases hlm : m < C
        · have r2 := hz.out.cel k hlt m hlm
          have z0 := hz.out.h0 k m hlt hlm
          have z1 := hz.out.h1 k m hlt hlm
          obtain ⟨z, hz1⟩ : ∃ z, z = h k m := ⟨_, rfl⟩
          have hne := mnF_next (edB R C) h (plTo C k m) (k, m)
          have hnm := mnF_next (miB R C) h (plTo C k m) (k, m)
          rw [← hE.out, ← plTo_next] at hne
          rw [← hM.out, ← plTo_next] at hnm
          dsimp only at hne hnm
          have hpre := plTo_pre (R := R) (C := C) (i := k) (k := m) (by omega) (by omega) (by omega)
          have be := hbE.out _ hpre
          have bm := hbM.out _ hpre
          rw [← hE.out] at be
          rw [← hM.out] at bm
          dsimp only at be bm
          rw [← hz1] at r2 hne hnm z0 z1
          have hmI : (m : Int) < (C : Int) := by omega
          have cD0 := fun W => l08Deep_any R C k m hR2 hC2 hlt hlm W
          obtain ⟨dv, hdv⟩ : ∃ dv, dv = dpV R C k m := ⟨_, rfl⟩
          have hd0 := (dpV_bd hlt hlm).1
          rw [← hdv] at cD0 hd0
          have hdv' := Lib.hid hdv
          have cD := Lib.hid cD0
          clear hz1 hpre hE hM hz cD0 hdv
          by_cases hgt : dv > 0
          · have hgI : dv > 0 := hgt
            have hed : edB R C k m = false := by unfold edB; rw [← hdv'.out]; simp; omega
            have hmi : miB R C k m = true := by unfold miB; rw [hed]; rfl
            rw [hed] at hne
            rw [hmi] at hnm
            have hE' : Hid ((s0, c0) = mnF (edB R C) h (plTo C k (m + 1))) := Lib.hid hne.symm
            have hM' : Hid ((s1 + z, c1 + 1) = mnF (miB R C) h (plTo C k (m + 1))) := Lib.hid hnm.symm
            have ew : IntKind.i64.wrap (s1 + z) = s1 + z := IntWalk.i64_in _ (by omega)
            have ec : IntKind.i64.wrap (c1 + 1) = c1 + 1 := IntWalk.i64_in _ (by omega)
            clear hed hmi hne hnm hgt hdv'
            go_wp2_with (go_at_call 74; (with_reducible refine (cD.out _).mono ?_); rintro e w9 ⟨rfl, rfl⟩)
            have open0 : Hid (∀ w', Below wr.heap.size wr w' → w'.cell? ⟨N, 1, none⟩ = some (.int .i64 s1) ∧ w'.cell? ⟨g, o + k, none⟩ = some (.slice (some ⟨rg k, ro k, none⟩) C (rc k)) ∧ w'.cell? ⟨rg k, ro k + m, none⟩ = some (.int .i64 z)) := Lib.hid (fun w' hw' => ⟨cellB ((hw'.block _ (lt_of_some h1.out)).trans h1.out) 1 _ rfl, ⟨(hw'.cell (p := ⟨g, o + k, none⟩) (World.block_lt_of_cell? wr _ r1)).trans r1, (hw'.cell (p := ⟨rg k, ro k + m, none⟩) (World.block_lt_of_cell? wr _ r2)).trans r2⟩⟩)
            clear r1 r2
            refine wp_calm 13 (fun w' => Below wr.heap.size wr w') (by kernel_rfl) (by kernel_rfl) (by kernel_rfl) (by kernel_rfl) (belowN (Below.refl _ _) 1) ?_
            simp only [List.take_succ_cons, List.take_zero, List.drop_succ_cons, List.drop_zero]
            refine calm_take (v := ?vy67) (by rfl) ?ey67 ?ry67
            case ey67 => (intro w' hw'; obtain ⟨d0, d1, d2⟩ := open0.out w' hw'; go_simp; try with_reducible rfl)
            try simp only [Act.put, List.setIfInBounds_toArray, List.set_cons_zero, List.set_cons_succ]
            refine calm_take (v := ?vy68) (by rfl) ?ey68 ?ry68
            case ey68 => (intro w' hw'; obtain ⟨d0, d1, d2⟩ := open0.out w' hw'; go_simp; try with_reducible rfl)
            try simp only [Act.put, List.setIfInBounds_toArray, List.set_cons_zero, List.set_cons_succ]
            refine calm_take (v := ?vy69) (by rfl) ?ey69 ?ry69
            case ey69 => (intro w' hw'; obtain ⟨d0, d1, d2⟩ := open0.out w' hw'; go_simp; try with_reducible rfl)
            try simp only [Act.put, List.setIfInBounds_toArray, List.set_cons_zero, List.set_cons_succ]
            refine calm_take (v := ?vy70) (by rfl) ?ey70 ?ry70
            case ey70 => (intro w' hw'; obtain ⟨d0, d1, d2⟩ := open0.out w' hw'; go_simp; try with_reducible rfl)
            try simp only [Act.put, List.setIfInBounds_toArray, List.set_cons_zero, List.set_cons_succ]
            refine calm_take (v := ?vy71) (by rfl) ?ey71 ?ry71
            case ey71 => (intro w' hw'; obtain ⟨d0, d1, d2⟩ := open0.out w' hw'; go_simp; try with_reducible rfl)
            try simp only [Act.put, List.setIfInBounds_toArray, List.set_cons_zero, List.set_cons_succ]
            refine calm_take (v := ?vy72) (by rfl) ?ey72 ?ry72
            case ey72 => (intro w' hw'; obtain ⟨d0, d1, d2⟩ := open0.out w' hw'; go_simp; try with_reducible rfl)
            try simp only [Act.put, List.setIfInBounds_toArray, List.set_cons_zero, List.set_cons_succ]
            refine calm_take (v := ?vy73) (by rfl) ?ey73 ?ry73
            case ey73 => (intro w' hw'; obtain ⟨d0, d1, d2⟩ := open0.out w' hw'; go_simp; try with_reducible rfl)
            try simp only [Act.put, List.setIfInBounds_toArray, List.set_cons_zero, List.set_cons_succ]
            refine calm_take (v := ?vy74) (by rfl) ?ey74 ?ry74
            case ey74 => (intro w' hw'; obtain ⟨d0, d1, d2⟩ := open0.out w' hw'; go_simp; try with_reducible rfl)
            try simp only [Act.put, List.setIfInBounds_toArray, List.set_cons_zero, List.set_cons_succ]
            refine calm_take (v := ?vy75) (by rfl) ?ey75 ?ry75
            case ey75 => (intro w' hw'; obtain ⟨d0, d1, d2⟩ := open0.out w' hw'; go_simp; try with_reducible rfl)
            try simp only [Act.put, List.setIfInBounds_toArray, List.set_cons_zero, List.set_cons_succ]
            refine calm_take (v := ?vy76) (by rfl) ?ey76 ?ry76
            case ey76 => (intro w' hw'; obtain ⟨d0, d1, d2⟩ := open0.out w' hw'; go_simp; try with_reducible rfl)
            try simp only [Act.put, List.setIfInBounds_toArray, List.set_cons_zero, List.set_cons_succ]
            refine calm_take (v := ?vy77) (by rfl) ?ey77 ?ry77
            case ey77 => (intro w' hw'; obtain ⟨d0, d1, d2⟩ := open0.out w' hw'; go_simp; try with_reducible rfl)
            try simp only [Act.put, List.setIfInBounds_toArray, List.set_cons_zero, List.set_cons_succ]
            refine calm_take (v := ?vy78) (by rfl) ?ey78 ?ry78
            case ey78 => (intro w' hw'; obtain ⟨d0, d1, d2⟩ := open0.out w' hw'; go_simp; try with_reducible rfl)
            try simp only [Act.put, List.setIfInBounds_toArray, List.set_cons_zero, List.set_cons_succ]
            refine calm_take (v := ?vy79) (by rfl) ?ey79 ?ry79
            case ey79 => (intro w' hw'; obtain ⟨d0, d1, d2⟩ := open0.out w' hw'; go_simp; try with_reducible rfl)
            try simp only [Act.put, List.setIfInBounds_toArray, List.set_cons_zero, List.set_cons_succ]
            refine wpQuiet_nil (fun w' hw' => ?_)
            have e1 := (hw'.block _ (lt_of_some h1.out)).trans h1.out
            have e2 := (hw'.block _ (lt_of_some h2.out)).trans h2.out
            have f1 := freeB e1 1
            have f2 := freeB e2 1
            have k1 := cellB e1 1 _ rfl
            have k2 := cellB e2 1 _ rfl
            have HN1 := Lib.hid ((Below.heap_setCell (w'.setCell ⟨N, 1, none⟩ (.int .i64 (s1 + z))) ⟨N + 1, 1, none⟩ (.int .i64 (c1 + 1)) N (by show N ≠ N + 1; omega)).trans (heap_setS e1 1 (.int .i64 (s1 + z)) _ rfl))
            have HN2 := Lib.hid (heap_setS ((Below.heap_setCell w' ⟨N, 1, none⟩ (.int .i64 (s1 + z)) (N + 1) (by show N + 1 ≠ N; omega)).trans e2) 1 (.int .i64 (c1 + 1)) _ rfl)
            have B9 := Lib.hid (((below2 hB.out hw').setCell (p := ⟨N, 1, none⟩) (by show w.heap.size ≤ N; omega) (.int .i64 (s1 + z))).setCell (p := ⟨N + 1, 1, none⟩) (by show w.heap.size ≤ N + 1; omega) (.int .i64 (c1 + 1)))
            clear e1 e2 open0 h1 h2 hB hw'
            go_wp2
            go_roundw
            case rel => exact ⟨m + 1, s0, s1 + z, c0, c1 + 1, by omega, by go_num, hE', hM', HN1, HN2, B9⟩
            case measure => simp [intOf]; omega
          · have hgI : ¬ dv > 0 := hgt
            have hed : edB R C k m = true := by unfold edB; rw [← hdv'.out]; simp; omega
            have hmi : miB R C k m = false := by unfold miB; rw [hed]; rfl
            rw [hed] at hne
            rw [hmi] at hnm
            have hE' : Hid ((s0 + z, c0 + 1) = mnF (edB R C) h (plTo C k (m + 1))) := Lib.hid hne.symm
            have hM' : Hid ((s1, c1) = mnF (miB R C) h (plTo C k (m + 1))) := Lib.hid hnm.symm
            have ew : IntKind.i64.wrap (s0 + z) = s0 + z := IntWalk.i64_in _ (by omega)
            have ec : IntKind.i64.wrap (c0 + 1) = c0 + 1 := IntWalk.i64_in _ (by omega)
            clear hed hmi hne hnm hgt hdv'
            go_wp2_with (go_at_call 74; (with_reducible refine (cD.out _).mono ?_); rintro e w9 ⟨rfl, rfl⟩)
            have open0 : Hid (∀ w', Below wr.heap.size wr w' → w'.cell? ⟨N, 0, none⟩ = some (.int .i64 s0) ∧ w'.cell? ⟨g, o + k, none⟩ = some (.slice (some ⟨rg k, ro k, none⟩) C (rc k)) ∧ w'.cell? ⟨rg k, ro k + m, none⟩ = some (.int .i64 z)) := Lib.hid (fun w' hw' => ⟨cellB ((hw'.block _ (lt_of_some h1.out)).trans h1.out) 0 _ rfl, ⟨(hw'.cell (p := ⟨g, o + k, none⟩) (World.block_lt_of_cell? wr _ r1)).trans r1, (hw'.cell (p := ⟨rg k, ro k + m, none⟩) (World.block_lt_of_cell? wr _ r2)).trans r2⟩⟩)
            clear r1 r2
            refine wp_calm 13 (fun w' => Below wr.heap.size wr w') (by kernel_rfl) (by kernel_rfl) (by kernel_rfl) (by kernel_rfl) (belowN (Below.refl _ _) 1) ?_
            simp only [List.take_succ_cons, List.take_zero, List.drop_succ_cons, List.drop_zero]
            refine calm_take (v := ?vy80) (by rfl) ?ey80 ?ry80
            case ey80 => (intro w' hw'; obtain ⟨d0, d1, d2⟩ := open0.out w' hw'; go_simp; try with_reducible rfl)
            try simp only [Act.put, List.setIfInBounds_toArray, List.set_cons_zero, List.set_cons_succ]
            refine calm_take (v := ?vy81) (by rfl) ?ey81 ?ry81
            case ey81 => (intro w' hw'; obtain ⟨d0, d1, d2⟩ := open0.out w' hw'; go_simp; try with_reducible rfl)
            try simp only [Act.put, List.setIfInBounds_toArray, List.set_cons_zero, List.set_cons_succ]
            refine calm_take (v := ?vy82) (by rfl) ?ey82 ?ry82
            case ey82 => (intro w' hw'; obtain ⟨d0, d1, d2⟩ := open0.out w' hw'; go_simp; try with_reducible rfl)
            try simp only [Act.put, List.setIfInBounds_toArray, List.set_cons_zero, List.set_cons_succ]
            refine calm_take (v := ?vy83) (by rfl) ?ey83 ?ry83
            case ey83 => (intro w' hw'; obtain ⟨d0, d1, d2⟩ := open0.out w' hw'; go_simp; try with_reducible rfl)
            try simp only [Act.put, List.setIfInBounds_toArray, List.set_cons_zero, List.set_cons_succ]
            refine calm_take (v := ?vy84) (by rfl) ?ey84 ?ry84
            case ey84 => (intro w' hw'; obtain ⟨d0, d1, d2⟩ := open0.out w' hw'; go_simp; try with_reducible rfl)
            try simp only [Act.put, List.setIfInBounds_toArray, List.set_cons_zero, List.set_cons_succ]
            refine calm_take (v := ?vy85) (by rfl) ?ey85 ?ry85
            case ey85 => (intro w' hw'; obtain ⟨d0, d1, d2⟩ := open0.out w' hw'; go_simp; try with_reducible rfl)
            try simp only [Act.put, List.setIfInBounds_toArray, List.set_cons_zero, List.set_cons_succ]
            refine calm_take (v := ?vy86) (by rfl) ?ey86 ?ry86
            case ey86 => (intro w' hw'; obtain ⟨d0, d1, d2⟩ := open0.out w' hw'; go_simp; try with_reducible rfl)
            try simp only [Act.put, List.setIfInBounds_toArray, List.set_cons_zero, List.set_cons_succ]
            refine calm_take (v := ?vy87) (by rfl) ?ey87 ?ry87
            case ey87 => (intro w' hw'; obtain ⟨d0, d1, d2⟩ := open0.out w' hw'; go_simp; try with_reducible rfl)
            try simp only [Act.put, List.setIfInBounds_toArray, List.set_cons_zero, List.set_cons_succ]
            refine calm_take (v := ?vy88) (by rfl) ?ey88 ?ry88
            case ey88 => (intro w' hw'; obtain ⟨d0, d1, d2⟩ := open0.out w' hw'; go_simp; try with_reducible rfl)
            try simp only [Act.put, List.setIfInBounds_toArray, List.set_cons_zero, List.set_cons_succ]
            refine calm_take (v := ?vy89) (by rfl) ?ey89 ?ry89
            case ey89 => (intro w' hw'; obtain ⟨d0, d1, d2⟩ := open0.out w' hw'; go_simp; try with_reducible rfl)
            try simp only [Act.put, List.setIfInBounds_toArray, List.set_cons_zero, List.set_cons_succ]
            refine calm_take (v := ?vy90) (by rfl) ?ey90 ?ry90
            case ey90 => (intro w' hw'; obtain ⟨d0, d1, d2⟩ := open0.out w' hw'; go_simp; try with_reducible rfl)
            try simp only [Act.put, List.setIfInBounds_toArray, List.set_cons_zero, List.set_cons_succ]
            refine calm_take (v := ?vy91) (by rfl) ?ey91 ?ry91
            case ey91 => (intro w' hw'; obtain ⟨d0, d1, d2⟩ := open0.out w' hw'; go_simp; try with_reducible rfl)
            try simp only [Act.put, List.setIfInBounds_toArray, List.set_cons_zero, List.set_cons_succ]
            refine calm_take (v := ?vy92) (by rfl) ?ey92 ?ry92
            case ey92 => (intro w' hw'; obtain ⟨d0, d1, d2⟩ := open0.out w' hw'; go_simp; try with_reducible rfl)
            try simp only [Act.put, List.setIfInBounds_toArray, List.set_cons_zero, List.set_cons_succ]
            refine wpQuiet_nil (fun w' hw' => ?_)
            have e1 := (hw'.block _ (lt_of_some h1.out)).trans h1.out
            have e2 := (hw'.block _ (lt_of_some h2.out)).trans h2.out
            have f1 := freeB e1 0
            have f2 := freeB e2 0
            have k1 := cellB e1 0 _ rfl
            have k2 := cellB e2 0 _ rfl
            have HN1 := Lib.hid ((Below.heap_setCell (w'.setCell ⟨N, 0, none⟩ (.int .i64 (s0 + z))) ⟨N + 1, 0, none⟩ (.int .i64 (c0 + 1)) N (by show N ≠ N + 1; omega)).trans (heap_setS e1 0 (.int .i64 (s0 + z)) _ rfl))
            have HN2 := Lib.hid (heap_setS ((Below.heap_setCell w' ⟨N, 0, none⟩ (.int .i64 (s0 + z)) (N + 1) (by show N + 1 ≠ N; omega)).trans e2) 0 (.int .i64 (c0 + 1)) _ rfl)
            have B9 := Lib.hid (((below2 hB.out hw').setCell (p := ⟨N, 0, none⟩) (by show w.heap.size ≤ N; omega) (.int .i64 (s0 + z))).setCell (p := ⟨N + 1, 0, none⟩) (by show w.heap.size ≤ N + 1; omega) (.int .i64 (c0 + 1)))
            clear e1 e2 open0 h1 h2 hB hw'
            go_wp2
            go_roundw
            case rel => exact ⟨m + 1, s0 + z, s1, c0 + 1, c1, by omega, by go_num, hE', hM', HN1, HN2, B9⟩
            case measure => simp [intOf]; omega
        · have hmC : m = C := by omega
          have hE' : Hid ((s0, c0) = mnF (edB R C) h (plTo C (k + 1) 0)) := Lib.hid (by have := hE.out; rw [hmC, plTo_row] at this; exact this)
          have hM' : Hid ((s1, c1) = mnF (miB R C) h (plTo C (k + 1) 0)) := Lib.hid (by have := hM.out; rw [hmC, plTo_row] at this; exact this)
          have hmI : ¬ (m : Int) < (C : Int) := by omega
          clear hmC hE hM hz
          go_wp2
          go_roundw
          case rel => exact ⟨k + 1, s0, s1, c0, c1, by omega, by go_num, hE', hM', h1, h2, hB⟩
          case measure => simp [intOf]; omega
    · have hkR : k = R := by omega
      have hkI : ¬ (k : Int) < (R : Int) := by omega
      have hEv := hE.out
      have hMv := hM.out
      rw [hkR, show plTo C R 0 = plAll R C from rfl] at hEv hMv
      have be := hbE.out _ (List.prefix_refl _)
      have bm := hbM.out _ (List.prefix_refl _)
      have bp := hpE.out
      rw [← hEv] at be bp
      rw [← hMv] at bm
      have hA1 := hA0.out
      have hM1 := hM0.out
      have hC1' := hC0.out
      rw [← hEv, ← hMv] at hA1
      rw [← hMv] at hM1 hC1'
      dsimp only at be bm bp hA1 hM1 hC1'
      clear hA0 hM0 hC0
      have hA0 := Lib.hid hA1
      have hM0 := Lib.hid hM1
      have hC0 := Lib.hid hC1'
      clear hA1 hM1 hC1' hEv hMv hE hM hbE hbM hpE
      by_cases hc1 : c1 = 0
      · have hqv : decide (c1 > 0) = false := by simp; omega
        have hA : Hid (emV G = 0) := Lib.hid (by rw [hA0.out, hqv]; rfl)
        have hM : Hid (emM G = 0) := Lib.hid (by rw [hM0.out, hqv]; rfl)
        have hC : Hid (emC G = 6) := Lib.hid (by rw [hC0.out, hqv]; rfl)
        clear hqv
        have k1 := cellB h2.out 1 _ rfl
        go_wp2
        go_ret3
        exact ⟨ret_i3 hA.out.symm hM.out.symm hC.out.symm, hB.out⟩
      · have hqv : decide (c1 > 0) = true := by simp; omega
        have hA : Hid (emV G = rnd s0 c0) := Lib.hid (by rw [hA0.out, hqv]; exact if_pos rfl)
        have hM : Hid (emM G = rnd s1 c1) := Lib.hid (by rw [hM0.out, hqv]; exact if_pos rfl)
        have hC : Hid (emC G = 0) := Lib.hid (by rw [hC0.out, hqv]; rfl)
        clear hqv
        have open0 : Hid (∀ w', Below wr.heap.size wr w' → w'.cell? ⟨N, 0, none⟩ = some (.int .i64 s0) ∧ w'.cell? ⟨N, 1, none⟩ = some (.int .i64 s1) ∧ w'.cell? ⟨N + 1, 0, none⟩ = some (.int .i64 c0) ∧ w'.cell? ⟨N + 1, 1, none⟩ = some (.int .i64 c1)) := Lib.hid (fun w' hw' => ⟨cellB ((hw'.block _ (lt_of_some h1.out)).trans h1.out) 0 _ rfl, cellB ((hw'.block _ (lt_of_some h1.out)).trans h1.out) 1 _ rfl, cellB ((hw'.block _ (lt_of_some h2.out)).trans h2.out) 0 _ rfl, cellB ((hw'.block _ (lt_of_some h2.out)).trans h2.out) 1 _ rfl⟩)
        have k1 := cellB h2.out 1 _ rfl
        go_wp2_with fail
        clear k1 h1 h2
        refine wp_calm 17 (fun w' => Below wr.heap.size wr w') (by kernel_rfl) (by kernel_rfl) (by kernel_rfl) (by kernel_rfl) (belowN (Below.refl _ _) 1) ?_
        simp only [List.take_succ_cons, List.take_zero, List.drop_succ_cons, List.drop_zero]
        refine calm_take (v := ?vy93) (by rfl) ?ey93 ?ry93
        case ey93 => (intro w' hw'; obtain ⟨d0, d1, d2, d3⟩ := open0.out w' hw'; go_simp; try with_reducible rfl)
        try simp only [Act.put, List.setIfInBounds_toArray, List.set_cons_zero, List.set_cons_succ]
        refine calm_take (v := ?vy94) (by rfl) ?ey94 ?ry94
        case ey94 => (intro w' hw'; obtain ⟨d0, d1, d2, d3⟩ := open0.out w' hw'; go_simp; try with_reducible rfl)
        try simp only [Act.put, List.setIfInBounds_toArray, List.set_cons_zero, List.set_cons_succ]
        refine calm_take (v := ?vy95) (by rfl) ?ey95 ?ry95
        case ey95 => (intro w' hw'; obtain ⟨d0, d1, d2, d3⟩ := open0.out w' hw'; go_simp; try with_reducible rfl)
        try simp only [Act.put, List.setIfInBounds_toArray, List.set_cons_zero, List.set_cons_succ]
        refine calm_take (v := ?vy96) (by rfl) ?ey96 ?ry96
        case ey96 => (intro w' hw'; obtain ⟨d0, d1, d2, d3⟩ := open0.out w' hw'; go_simp; try with_reducible rfl)
        try simp only [Act.put, List.setIfInBounds_toArray, List.set_cons_zero, List.set_cons_succ]
        refine calm_take (v := ?vy97) (by rfl) ?ey97 ?ry97
        case ey97 => (intro w' hw'; obtain ⟨d0, d1, d2, d3⟩ := open0.out w' hw'; go_simp; try with_reducible rfl)
        try simp only [Act.put, List.setIfInBounds_toArray, List.set_cons_zero, List.set_cons_succ]
        refine calm_take (v := ?vy98) (by rfl) ?ey98 ?ry98
        case ey98 => (intro w' hw'; obtain ⟨d0, d1, d2, d3⟩ := open0.out w' hw'; go_simp; try with_reducible rfl)
        try simp only [Act.put, List.setIfInBounds_toArray, List.set_cons_zero, List.set_cons_succ]
        refine calm_call (v := .int .i64 (rnd s0 c0)) (f := ?fy99) (args := ?ay99) (by rfl) ?ey99 ?cy99 ?ry99
        case ey99 => (intro w' hw'; obtain ⟨d0, d1, d2, d3⟩ := open0.out w' hw'; go_simp; first | (with_reducible rfl) | (refine ⟨?_, ?_⟩ <;> with_reducible rfl))
        case cy99 => (intro w' hw'; with_reducible exact calm_same hw' (l01Div_any s0 c0 (by omega) (by omega) (by omega) (by omega) (by omega) w'))
        try simp only [Act.put, List.setIfInBounds_toArray, List.set_cons_zero, List.set_cons_succ]
        refine calm_take (v := ?vy100) (by rfl) ?ey100 ?ry100
        case ey100 => (intro w' hw'; obtain ⟨d0, d1, d2, d3⟩ := open0.out w' hw'; go_simp; try with_reducible rfl)
        try simp only [Act.put, List.setIfInBounds_toArray, List.set_cons_zero, List.set_cons_succ]
        refine calm_take (v := ?vy101) (by rfl) ?ey101 ?ry101
        case ey101 => (intro w' hw'; obtain ⟨d0, d1, d2, d3⟩ := open0.out w' hw'; go_simp; try with_reducible rfl)
        try simp only [Act.put, List.setIfInBounds_toArray, List.set_cons_zero, List.set_cons_succ]
        refine calm_take (v := ?vy102) (by rfl) ?ey102 ?ry102
        case ey102 => (intro w' hw'; obtain ⟨d0, d1, d2, d3⟩ := open0.out w' hw'; go_simp; try with_reducible rfl)
        try simp only [Act.put, List.setIfInBounds_toArray, List.set_cons_zero, List.set_cons_succ]
        refine calm_take (v := ?vy103) (by rfl) ?ey103 ?ry103
        case ey103 => (intro w' hw'; obtain ⟨d0, d1, d2, d3⟩ := open0.out w' hw'; go_simp; try with_reducible rfl)
        try simp only [Act.put, List.setIfInBounds_toArray, List.set_cons_zero, List.set_cons_succ]
        refine calm_take (v := ?vy104) (by rfl) ?ey104 ?ry104
        case ey104 => (intro w' hw'; obtain ⟨d0, d1, d2, d3⟩ := open0.out w' hw'; go_simp; try with_reducible rfl)
        try simp only [Act.put, List.setIfInBounds_toArray, List.set_cons_zero, List.set_cons_succ]
        refine calm_take (v := ?vy105) (by rfl) ?ey105 ?ry105
        case ey105 => (intro w' hw'; obtain ⟨d0, d1, d2, d3⟩ := open0.out w' hw'; go_simp; try with_reducible rfl)
        try simp only [Act.put, List.setIfInBounds_toArray, List.set_cons_zero, List.set_cons_succ]
        refine calm_call (v := .int .i64 (rnd s1 c1)) (f := ?fy106) (args := ?ay106) (by rfl) ?ey106 ?cy106 ?ry106
        case ey106 => (intro w' hw'; obtain ⟨d0, d1, d2, d3⟩ := open0.out w' hw'; go_simp; first | (with_reducible rfl) | (refine ⟨?_, ?_⟩ <;> with_reducible rfl))
        case cy106 => (intro w' hw'; with_reducible exact calm_same hw' (l01Div_any s1 c1 (by omega) (by omega) (by omega) (by omega) (by omega) w'))
        try simp only [Act.put, List.setIfInBounds_toArray, List.set_cons_zero, List.set_cons_succ]
        refine calm_take (v := ?vy107) (by rfl) ?ey107 ?ry107
        case ey107 => (intro w' hw'; obtain ⟨d0, d1, d2, d3⟩ := open0.out w' hw'; go_simp; try with_reducible rfl)
        try simp only [Act.put, List.setIfInBounds_toArray, List.set_cons_zero, List.set_cons_succ]
        refine calm_take (v := ?vy108) (by rfl) ?ey108 ?ry108
        case ey108 => (intro w' hw'; obtain ⟨d0, d1, d2, d3⟩ := open0.out w' hw'; go_simp; try with_reducible rfl)
        try simp only [Act.put, List.setIfInBounds_toArray, List.set_cons_zero, List.set_cons_succ]
        refine calm_take (v := ?vy109) (by rfl) ?ey109 ?ry109
        case ey109 => (intro w' hw'; obtain ⟨d0, d1, d2, d3⟩ := open0.out w' hw'; go_simp; try with_reducible rfl)
        try simp only [Act.put, List.setIfInBounds_toArray, List.set_cons_zero, List.set_cons_succ]
        refine wpQuiet_nil (fun w' hw' => ?_)
        go_wp2
        go_ret3
        exact ⟨ret_i3 hA.out.symm hM.out.symm hC.out.symm, below2 hB.out hw'⟩
end Go.Proofs.Ytndnliaahdmbmaa
