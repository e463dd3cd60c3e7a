/-
  Where the plate between two surfaces is too thin: the model.
-/
import Derived.Test.YtcfmchkomboliaaThin
namespace Go.Proofs.Ytcfmchkomboliaa
open Go.ChangeShapes Go.WideShapes Go.ChangeAt Go.RowKit Go.Deep
set_option linter.unusedVariables false
set_option linter.unusedSimpArgs false
theorem OwnG.empty (w : World) : OwnG w.heap.size (w.alloc (.cells #[] 39)).heap.size (w.alloc (.cells #[] 39)) (.slice (some ⟨w.heap.size, 0, none⟩) 0 0) [] [] := by
  refine ⟨Nat.le_refl _, rfl, ⟨rfl, Or.inr ⟨w.heap.size, 0, #[], rfl, Nat.le_refl _, heap_alloc_new _ _, Nat.le_refl 0, by unfold maxLen; omega, rfl, rfl⟩⟩, fun i u Z h => by simp at h, fun i j u u' _ h => by simp at h, fun Z h => by simp at h, fun b h => ?_, fun i u h => by simp at h⟩
  simp only [Value.ownBlock, Option.some.injEq] at h
  simp; omega
set_option maxHeartbeats 6400000 in
theorem specThinPlaces_any (v v' : Value) (G G' : List (List Int)) (n : Int) (w : World) (hn : G.length + totL G ≤ 1048576) (hn' : G'.length + totL G' ≤ 1048576) (hv : GridAt w v G) (hv' : GridAt w v' G') : Calls Try.prog 37 #[v, v', .int .i64 n] w (GridRet (thV G G' n) (thC G G' n) w) := by
  obtain ⟨i0, hi, hz0, hz1, hz2⟩ := info_parts infoG
  have cV := Lib.hid (fun W (hd : DrewOf w W) => l07Ok_any v G W hn (hv.below hd.below))
  have cV' := Lib.hid (fun W (hd : DrewOf w W) => l07Ok_any v' G' W hn' (hv'.below hd.below))
  have cH0 := fun W => l07Height_any n W
  have hT : Hid (thV G G' n = if thB G G' n then thF n (hG G) (hG G') (plAll G.length (colsG G)) else []) := Lib.hid rfl
  have hTB : Hid (thB G G' n = (okG G && okG G' && inB n 0 1000 && decide (G.length = G'.length) && decide (colsG G = colsG G'))) := Lib.hid rfl
  have hTC : Hid (thC G G' n = if okG G && okG G' then (if inB n 0 1000 then (if decide (G.length = G'.length) && decide (colsG G = colsG G') then 0 else 7) else 2) else 1) := Lib.hid rfl
  cases hok1 : okG G
  · have e1 := Lib.hid (show thV G G' n = [] by rw [hT.out, hTB.out, hok1]; rfl)
    have e2 := Lib.hid (show thC G G' n = 1 by rw [hTC.out, hok1]; rfl)
    rw [hok1] at cV
    obtain ⟨a, cap, rfl, _⟩ := hv
    obtain ⟨a', cap', rfl, _⟩ := hv'
    clear hok1 hn hn' hT hTB hTC cH0 cV'
    go_enter Try.func37, Try.ntmps37
    go_wp2_with (go_at_call 42; refine (cV.out _ (DrewOf.refl _)).mono ?_; rintro e w2 ⟨rfl, hd⟩)
    go_ret2
    exact gridRet_nil e1.out e2.out hd.below
  rw [hok1] at cV
  cases hok2 : okG G'
  · have e1 := Lib.hid (show thV G G' n = [] by rw [hT.out, hTB.out, hok1, hok2]; rfl)
    have e2 := Lib.hid (show thC G G' n = 1 by rw [hTC.out, hok1, hok2]; rfl)
    rw [hok2] at cV'
    obtain ⟨a, cap, rfl, _⟩ := hv
    obtain ⟨a', cap', rfl, _⟩ := hv'
    clear hok1 hok2 hn hn' hT hTB hTC cH0
    go_enter Try.func37, Try.ntmps37
    go_wp2_with fail
    refine (cV.out _ (DrewOf.refl _)).mono ?_
    rintro e w2 ⟨rfl, hd⟩
    go_wp2_with fail
    refine (cV'.out _ hd).mono ?_
    rintro e w3 ⟨rfl, hd3⟩
    go_wp2
    go_ret2
    exact gridRet_nil e1.out e2.out (hd.trans hd3).below
  rw [hok2] at cV'
  cases hnb : inB n 0 1000
  · have e1 := Lib.hid (show thV G G' n = [] by rw [hT.out, hTB.out, hok1, hok2, hnb]; rfl)
    have e2 := Lib.hid (show thC G G' n = 2 by rw [hTC.out, hok1, hok2, hnb]; rfl)
    rw [hnb] at cH0
    have cH := Lib.hid cH0
    obtain ⟨a, cap, rfl, _⟩ := hv
    obtain ⟨a', cap', rfl, _⟩ := hv'
    clear hok1 hok2 hn hn' hT hTB hTC cH0 hnb
    go_enter Try.func37, Try.ntmps37
    go_wp2_with fail
    refine (cV.out _ (DrewOf.refl _)).mono ?_
    rintro e w2 ⟨rfl, hd⟩
    go_wp2_with fail
    refine (cV'.out _ hd).mono ?_
    rintro e w3 ⟨rfl, hd3⟩
    go_wp2_with (go_at_call 70; refine (cH.out _).mono ?_; rintro e w3 ⟨rfl, rfl⟩)
    go_ret2
    exact gridRet_nil e1.out e2.out (hd.trans hd3).below
  rw [hnb] at cH0
  have cH := Lib.hid cH0
  rw [hok1, hok2, hnb] at hTB hTC
  obtain ⟨g, o, cap, rg, ro, rc, rfl, hGR⟩ := grid_GR hv hok1
  obtain ⟨g', o', cap', rg', ro', rc', rfl, hGR'⟩ := grid_GR hv' hok2
  have hx := Lib.hid hGR
  have hx' := Lib.hid hGR'
  have r1 := hGR.R1
  have r2 := hGR.R10
  have c1 := hGR.C1
  have c2 := hGR.C10
  have r1' := hGR'.R1
  have r2' := hGR'.R10
  have c1' := hGR'.C1
  have c2' := hGR'.C10
  obtain ⟨h, hh⟩ : ∃ h, h = hG G := ⟨_, rfl⟩
  obtain ⟨h', hh'⟩ : ∃ h', h' = hG G' := ⟨_, rfl⟩
  obtain ⟨R, hR⟩ : ∃ R, R = G.length := ⟨_, rfl⟩
  obtain ⟨C, hC⟩ : ∃ C, C = colsG G := ⟨_, rfl⟩
  obtain ⟨R', hR'⟩ : ∃ R', R' = G'.length := ⟨_, rfl⟩
  obtain ⟨C', hC'⟩ : ∃ C', C' = colsG G' := ⟨_, rfl⟩
  obtain ⟨TV, hTV⟩ : ∃ x, x = thV G G' n := ⟨_, rfl⟩
  obtain ⟨TC, hTCe⟩ : ∃ x, x = thC G G' n := ⟨_, rfl⟩
  rw [← hTV] at hT
  rw [← hTCe] at hTC
  rw [← hTV, ← hTCe]
  rw [hTB.out] at hT
  rw [← hR, ← hC, ← hR', ← hC', ← hh, ← hh'] at hT
  rw [← hR, ← hC, ← hR', ← hC'] at hTC
  rw [← hR] at cV
  rw [← hR'] at cV'
  rw [← hR, ← hR']
  rw [← hR, ← hC, ← hh] at hx
  rw [← hR', ← hC', ← hh'] at hx'
  rw [← hR] at r1 r2
  rw [← hC] at c1 c2
  rw [← hR'] at r1' r2'
  rw [← hC'] at c1' c2'
  clear hok1 hok2 hnb hn hn' hv hv' hGR hGR' hh hh' hR hC hR' hC' hTV hTCe hTB cH0
  have r1I : (0 : Int) < (R : Int) := by omega
  have r1I' : (0 : Int) < (R' : Int) := by omega
  by_cases hRR : R = R'
  rotate_left
  · have b1 : ((R : Int) == (R' : Int)) = false := by simpa using (show ¬ (R : Int) = (R' : Int) by omega)
    have b2 : ((R : Int) != (R' : Int)) = true := by simp [bne, b1]
    have e1 := Lib.hid (show TV = [] by rw [hT.out]; simp [hRR])
    have e2 := Lib.hid (show TC = 7 by rw [hTC.out]; simp [hRR])
    clear hRR hT hTC
    go_enter Try.func37, Try.ntmps37
    go_wp2_with fail
    refine (cV.out _ (DrewOf.refl _)).mono ?_
    rintro e w2 ⟨rfl, hd⟩
    go_wp2_with fail
    refine (cV'.out _ hd).mono ?_
    rintro e w3 ⟨rfl, hd3⟩
    go_wp2_with (go_at_call 70; refine (cH.out _).mono ?_; rintro e w3 ⟨rfl, rfl⟩)
    go_quiet (fail)
    go_wp2
    go_ret2
    exact gridRet_nil e1.out e2.out ((hd.trans hd3).more _).below
  have b1 : ((R : Int) == (R' : Int)) = true := by simp [hRR]
  have b2 : ((R : Int) != (R' : Int)) = false := by simp [bne, b1]
  have t0 := hx.out.top 0 (by omega)
  have t0' := hx'.out.top 0 (by omega)
  rw [Nat.add_zero] at t0 t0'
  by_cases hCC : C = C'
  rotate_left
  · have b3 : ((C : Int) == (C' : Int)) = false := by simpa using (show ¬ (C : Int) = (C' : Int) by omega)
    have b4 : ((C : Int) != (C' : Int)) = true := by simp [bne, b3]
    have e1 := Lib.hid (show TV = [] by rw [hT.out]; simp [hCC])
    have e2 := Lib.hid (show TC = 7 by rw [hTC.out]; simp [hCC])
    have hRR' := Lib.hid hRR
    clear hRR hCC hT hTC
    go_enter Try.func37, Try.ntmps37
    go_wp2_with fail
    refine (cV.out _ (DrewOf.refl _)).mono ?_
    rintro e w2 ⟨rfl, hd⟩
    go_wp2_with fail
    refine (cV'.out _ hd).mono ?_
    rintro e w3 ⟨rfl, hd3⟩
    replace t0 := ((hd.trans hd3).cell _).trans t0
    replace t0' := ((hd.trans hd3).cell _).trans t0'
    go_wp2_with (go_at_call 70; refine (cH.out _).mono ?_; rintro e w3 ⟨rfl, rfl⟩)
    go_quiet (fail)
    go_wp2
    go_ret2
    exact gridRet_nil e1.out e2.out ((hd.trans hd3).more _).below
  subst hRR hCC
  have b3 : ((C : Int) == (C : Int)) = true := by simp
  have b4 : ((C : Int) != (C : Int)) = false := by simp
  have e1 := Lib.hid (show TV = thF n h h' (plAll R C) by rw [hT.out]; simp)
  have e2 := Lib.hid (show TC = 0 by rw [hTC.out]; simp)
  clear hT hTC r1' r2' c1' c2'
  go_enter Try.func37, Try.ntmps37
  go_wp2_with fail
  refine (cV.out _ (DrewOf.refl _)).mono ?_
  rintro e w2 ⟨rfl, hd⟩
  go_wp2_with fail
  refine (cV'.out _ hd).mono ?_
  rintro e w3 ⟨rfl, hd3⟩
  replace t0 := ((hd.trans hd3).cell _).trans t0
  replace t0' := ((hd.trans hd3).cell _).trans t0'
  go_wp2_with (go_at_call 70; refine (cH.out _).mono ?_; rintro e w3 ⟨rfl, rfl⟩)
  go_quiet (fail)
  have hd5 := Lib.hid ((hd.trans hd3).more nq).below
  generalize w3.drewN nq = w5 at hd5 ⊢
  clear t0 t0' hd hd3
  go_wp2
  have hst := Lib.hid (OwnG.empty w5)
  have hB5 : Below w.heap.size w (w5.alloc (.cells #[] 39)) := hd5.out.alloc hd5.out.size _
  obtain ⟨LO, hLO⟩ : ∃ LO, LO = w5.heap.size := ⟨_, rfl⟩
  have hLw : w.heap.size ≤ LO := by rw [hLO]; exact hd5.out.size
  have hLs : LO ≤ (w5.alloc (.cells #[] 39)).heap.size := by rw [hLO]; simp
  rw [← hLO] at hst ⊢
  clear hLO hd5
  generalize w5.alloc (.cells #[] 39) = w6 at hst hB5 hLs ⊢
  go_loopw [8, 9] (fun x i wr => ∃ (k : Nat) (pa : Option Addr) (LN pc : Nat) (vs : List Value), k ≤ R ∧ i = .int .i64 k ∧ x = .slice pa LN pc ∧ Hid (OwnG LO wr.heap.size wr (.slice pa LN pc) (thF n h h' (plTo C k 0)) vs) ∧ Hid (LN = (thF n h h' (plTo C k 0)).length) ∧ Below w.heap.size w wr ∧ LO ≤ wr.heap.size) (fun _ i _ => R - (intOf i).toNat)
  case atStart => exact ⟨0, _, 0, 0, [], by omega, rfl, rfl, hst, Lib.hid rfl, hB5, hLs⟩
  case round =>
    obtain ⟨k, pa, LN, pc, vs, hk, rfl, rfl, hO, hLN, hB, hLs⟩ := hrel
    by_cases hlt : k < R
    · have hkI : (k : Int) < (R : Int) := by omega
      go_wp2
      go_loopw [8, 10] (fun x i wr => ∃ (m : Nat) (pa : Option Addr) (LN pc : Nat) (vs : List Value), m ≤ C ∧ i = .int .i64 m ∧ x = .slice pa LN pc ∧ Hid (OwnG LO wr.heap.size wr (.slice pa LN pc) (thF n h h' (plTo C k m)) vs) ∧ Hid (LN = (thF n h h' (plTo C k m)).length) ∧ Below w.heap.size w wr ∧ LO ≤ wr.heap.size) (fun _ i _ => C - (intOf i).toNat)
      case atStart => exact ⟨0, pa, LN, pc, vs, by omega, rfl, rfl, hO, hLN, hB, hLs⟩
      case round =>
        obtain ⟨m, pa, LN, pc, vs, hm, rfl, rfl, hO, hLN, hB, hLs⟩ := hrel
        have hz := Lib.hid (hx.out.below hB)
        have hz' := Lib.hid (hx'.out.below hB)
        have t1 := hz.out.top k hlt
        by_cases hlm : m < C
        · have t2 := hz.out.cel k hlt m hlm
          have t3 := hz'.out.top k hlt
          have t4 := hz'.out.cel k hlt m hlm
          have z1a := hz.out.h0 k m hlt hlm
          have z1b := hz.out.h1 k m hlt hlm
          have z2a := hz'.out.h0 k m hlt hlm
          have z2b := hz'.out.h1 k m hlt hlm
          have hnext := thF_next n h h' (plTo C k m) (k, m)
          rw [← plTo_next] at hnext
          have hll := thF_len n h h' (plTo C k m)
          have hpl : (plTo C k m).length ≤ 100 := Nat.le_trans (plTo_pre (R := R) (by omega) (by omega) (by omega)).length_le (plAll_len r2 c2)
          obtain ⟨LL, hLL⟩ : ∃ L, L = thF n h h' (plTo C k m) := ⟨_, rfl⟩
          have hLN1 := hLN.out
          rw [← hLL] at hO hnext hll hLN1
          have hLN100 : LN ≤ 100 := by omega
          have hLN2 := Lib.hid hLN1
          dsimp only at hnext
          obtain ⟨z1, hz1⟩ : ∃ z, z = h k m := ⟨_, rfl⟩
          obtain ⟨z2, hz2⟩ : ∃ z, z = h' k m := ⟨_, rfl⟩
          rw [← hz1] at t2 hnext z1a z1b
          rw [← hz2] at t4 hnext z2a z2b
          have hmI : (m : Int) < (C : Int) := by omega
          have hw1 : IntKind.i64.wrap (z1 - z2) = z1 - z2 := IntWalk.i64_in _ (by omega)
          clear hz1 hz2 hLL hll hpl hLN1 hLN
          by_cases hl : z1 - z2 < n
          rotate_left
          · have hr : Hid (thF n h h' (plTo C k (m + 1)) = LL) := Lib.hid (by rw [hnext, if_neg hl])
            clear hnext
            go_wp2
            go_quiet (fail)
            go_wp2
            go_roundw
            case rel => exact ⟨m + 1, pa, LN, pc, vs, by omega, by go_num, rfl, Lib.hid (by rw [hr.out]; exact hO.out.drewN _), Lib.hid (by rw [hr.out]; exact hLN2.out), belowN hB _, hLs⟩
            case measure => simp [intOf]; omega
          · have hr : Hid (thF n h h' (plTo C k (m + 1)) = LL ++ [plR (k, m)]) := Lib.hid (by rw [hnext, if_pos hl])
            clear hnext
            go_wp2
            go_quiet (fail)
            have O5 := Lib.hid (hO.out.drewN nq)
            have B5 := Lib.hid (belowN hB nq)
            have hLOw : LO ≤ (wr.drewN nq).heap.size := hLs
            generalize wr.drewN nq = w7 at O5 B5 hLOw ⊢
            clear hO hB
            go_wp2_with (at_builtin; refine wpList_append_own _ rfl _ _ 22 rfl LO 39 i0 (.slice none 0 0) 1 24 Try.underlying22 hi hz0 hz1 hz2 rfl (by decide) _ LN vs rfl (((O5.out.top' hLN2.out).alloc _).alloc _) ⟨w7.heap.size + 1, 0, none⟩ 1 1 [.slice (some ⟨w7.heap.size, 0, none⟩) 2 2] rfl rfl ?c1 ?c2 ?c3 ?c4 ?c5 ?_)
            case c1 =>
              have hb := heap_alloc_new (w7.alloc (.cells #[.int .i64 (k : Int), .int .i64 (m : Int)] 2)) (.cells #[.slice (some ⟨w7.heap.size, 0, none⟩) 2 2] 39)
              rw [World.size_alloc] at hb
              exact World.news_of_block hb
            case c2 => intro u hu; simp at hu; subst hu; rfl
            case c3 => unfold maxLen; omega
            case c4 => omega
            case c5 => simp; omega
            intro v9 w9 hown9 hgrow9 _
            have b5 : Below w7.heap.size w7 ((w7.alloc (.cells #[.int .i64 (k : Int), .int .i64 (m : Int)] 2)).alloc (.cells #[.slice (some ⟨w7.heap.size, 0, none⟩) 2 2] 39)) := ((Below.refl _ _).alloc (Nat.le_refl _) _).alloc (by simp) _
            have own2 : ((w7.alloc (.cells #[.int .i64 (k : Int), .int .i64 (m : Int)] 2)).alloc (.cells #[.slice (some ⟨w7.heap.size, 0, none⟩) 2 2] 39)).ownsRow w7.heap.size 2 1 (.slice (some ⟨w7.heap.size, 0, none⟩) 2 2) (plR (k, m)).length ((plR (k, m)).map encI) := by
              refine World.ownsRow.alloc ?_ _
              exact ⟨rfl, Or.inr ⟨_, _, _, rfl, Nat.le_refl _, heap_alloc_new _ _, by simp [plR], by unfold maxLen; omega, rfl, rfl⟩⟩
            have hbl : ∀ j, (Value.slice pa LN pc).ownBlock = some j → LO ≤ j := fun j hj => (O5.out.top.lt j hj).1
            have O9 := Lib.hid (O5.out.snoc (Z := plR (k, m)) b5 own2 (plR_in (by show k ≤ 1000; omega) (by show m ≤ 1000; omega)) hgrow9 (by rw [← hLN2.out]; exact hown9) hLOw (by decide))
            have B9 := Lib.hid ((B5.out.trans (b5.mono B5.out.size)).grown hgrow9 (Nat.le_trans B5.out.size b5.size) (fun j hj => by have := hbl j hj; omega))
            have hL9 : LO ≤ w9.heap.size := Nat.le_trans hLOw (Nat.le_trans b5.size hgrow9.size)
            obtain ⟨pa9, pc9, rfl⟩ := own_shape hown9
            clear hown9 hgrow9 b5 own2 hbl
            go_wp2
            go_roundw
            case rel => exact ⟨m + 1, pa9, LN + 1, pc9, _, by omega, by go_num, rfl, Lib.hid (by rw [hr.out]; exact O9.out), Lib.hid (by rw [hr.out, List.length_append, hLN2.out]; rfl), B9.out, hL9⟩
            case measure => simp [intOf]; omega
        · have hmC : m = C := by omega
          have hr : Hid (OwnG LO wr.heap.size wr (.slice pa LN pc) (thF n h h' (plTo C (k + 1) 0)) vs) := Lib.hid (by have := hO.out; rw [hmC, plTo_row] at this; exact this)
          have hr2 : Hid (LN = (thF n h h' (plTo C (k + 1) 0)).length) := Lib.hid (by have := hLN.out; rw [hmC, plTo_row] at this; exact this)
          clear hmC hO hLN
          go_wp2
          go_roundw
          case rel => exact ⟨k + 1, pa, LN, pc, vs, by omega, by go_num, rfl, hr, hr2, hB, hLs⟩
          case measure => simp [intOf]; omega
    · have hkR : k = R := by omega
      have hr : Hid (OwnG LO wr.heap.size wr (.slice pa LN pc) (thF n h h' (plAll R C)) vs) := Lib.hid (by have := hO.out; rw [hkR] at this; exact this)
      clear hkR hO hLN
      go_wp2
      go_ret2
      exact gridRet_mk e1.out e2.out hr.out hLw hB
end Go.Proofs.Ytcfmchkomboliaa
