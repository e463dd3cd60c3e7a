/-
  Graded plates, by the model.
-/
import Derived.Test.YtndnliaahdmbmaaGpl
import Derived.Test.YtndnliaahdmbmaaToo
namespace Go.Proofs.Ytndnliaahdmbmaa
open Go.ChangeShapes Go.WideShapes Go.ChangeAt Go.RowKit Go.Deep
set_option linter.unusedVariables false
set_option linter.unusedSimpArgs false
set_option maxRecDepth 1000000
set_option maxHeartbeats 6400000 in
theorem specGradedPlate_any (r c a b : Int) (w : World) : Calls Try.prog 41 #[.int .i64 r, .int .i64 c, .int .i64 a, .int .i64 b] w (GridRet (gpV r c a b) (gpC r c a b) w) := by
  obtain ⟨i0, hi, hz0, hz1, hz2⟩ := info_parts infoG
  obtain ⟨i1, hj, hy0, hy1, hy2⟩ := info_parts infoI8
  cases h1 : inB r 1 10
  · have e1 : Hid (gpV r c a b = []) := Lib.hid (by unfold gpV gpB; rw [h1]; rfl)
    have e2 : Hid (2 = gpC r c a b) := Lib.hid (by unfold gpC gpB; rw [h1]; rfl)
    go_enter Try.func41, Try.ntmps41
    go_wp2_with (first | (go_at_call 63; refine (l00In_any _ _ _ _).mono ?_; rw [h1]; rintro e' w' ⟨rfl, rfl⟩) | (go_at_call 64; refine (l08Thick_any _ _).mono ?_; rw [h1]; rintro e' w' ⟨rfl, rfl⟩))
    go_ret2
    exact gridRet_nil e1.out e2.out.symm (Below.refl _ _)
  cases h2 : inB c 1 10
  · have e1 : Hid (gpV r c a b = []) := Lib.hid (by unfold gpV gpB; rw [h1, h2]; rfl)
    have e2 : Hid (2 = gpC r c a b) := Lib.hid (by unfold gpC gpB; rw [h1, h2]; rfl)
    go_enter Try.func41, Try.ntmps41
    go_wp2_with (first | (go_at_call 63; refine (l00In_any _ _ _ _).mono ?_; rw [h1]; rintro e' w' ⟨rfl, rfl⟩) | (go_at_call 64; refine (l08Thick_any _ _).mono ?_; rw [h1]; rintro e' w' ⟨rfl, rfl⟩) | (go_at_call 63; refine (l00In_any _ _ _ _).mono ?_; rw [h2]; rintro e' w' ⟨rfl, rfl⟩) | (go_at_call 64; refine (l08Thick_any _ _).mono ?_; rw [h2]; rintro e' w' ⟨rfl, rfl⟩))
    go_ret2
    exact gridRet_nil e1.out e2.out.symm (Below.refl _ _)
  cases h3 : inB a 1 200
  · have e1 : Hid (gpV r c a b = []) := Lib.hid (by unfold gpV gpB; rw [h1, h2, h3]; rfl)
    have e2 : Hid (2 = gpC r c a b) := Lib.hid (by unfold gpC gpB; rw [h1, h2, h3]; rfl)
    go_enter Try.func41, Try.ntmps41
    go_wp2_with (first | (go_at_call 63; refine (l00In_any _ _ _ _).mono ?_; rw [h1]; rintro e' w' ⟨rfl, rfl⟩) | (go_at_call 64; refine (l08Thick_any _ _).mono ?_; rw [h1]; rintro e' w' ⟨rfl, rfl⟩) | (go_at_call 63; refine (l00In_any _ _ _ _).mono ?_; rw [h2]; rintro e' w' ⟨rfl, rfl⟩) | (go_at_call 64; refine (l08Thick_any _ _).mono ?_; rw [h2]; rintro e' w' ⟨rfl, rfl⟩) | (go_at_call 63; refine (l00In_any _ _ _ _).mono ?_; rw [h3]; rintro e' w' ⟨rfl, rfl⟩) | (go_at_call 64; refine (l08Thick_any _ _).mono ?_; rw [h3]; rintro e' w' ⟨rfl, rfl⟩))
    go_ret2
    exact gridRet_nil e1.out e2.out.symm (Below.refl _ _)
  cases h4 : inB b 1 200
  · have e1 : Hid (gpV r c a b = []) := Lib.hid (by unfold gpV gpB; rw [h1, h2, h3, h4]; rfl)
    have e2 : Hid (2 = gpC r c a b) := Lib.hid (by unfold gpC gpB; rw [h1, h2, h3, h4]; rfl)
    go_enter Try.func41, Try.ntmps41
    go_wp2_with (first | (go_at_call 63; refine (l00In_any _ _ _ _).mono ?_; rw [h1]; rintro e' w' ⟨rfl, rfl⟩) | (go_at_call 64; refine (l08Thick_any _ _).mono ?_; rw [h1]; rintro e' w' ⟨rfl, rfl⟩) | (go_at_call 63; refine (l00In_any _ _ _ _).mono ?_; rw [h2]; rintro e' w' ⟨rfl, rfl⟩) | (go_at_call 64; refine (l08Thick_any _ _).mono ?_; rw [h2]; rintro e' w' ⟨rfl, rfl⟩) | (go_at_call 63; refine (l00In_any _ _ _ _).mono ?_; rw [h3]; rintro e' w' ⟨rfl, rfl⟩) | (go_at_call 64; refine (l08Thick_any _ _).mono ?_; rw [h3]; rintro e' w' ⟨rfl, rfl⟩) | (go_at_call 63; refine (l00In_any _ _ _ _).mono ?_; rw [h4]; rintro e' w' ⟨rfl, rfl⟩) | (go_at_call 64; refine (l08Thick_any _ _).mono ?_; rw [h4]; rintro e' w' ⟨rfl, rfl⟩))
    go_ret2
    exact gridRet_nil e1.out e2.out.symm (Below.refl _ _)
  have b1 := inB_iff.1 h1
  have b2 := inB_iff.1 h2
  have b3 := inB_iff.1 h3
  have b4 := inB_iff.1 h4
  obtain ⟨R, rfl⟩ : ∃ R : Nat, r = R := ⟨r.toNat, by omega⟩
  obtain ⟨C, rfl⟩ : ∃ C : Nat, c = C := ⟨c.toNat, by omega⟩
  have hR1 : 1 ≤ R := by omega
  have hR2 : R ≤ 10 := by omega
  have hC1 : 1 ≤ C := by omega
  have hC2 : C ≤ 10 := by omega
  obtain ⟨f, hf0⟩ : ∃ f, f = gpf R C a b := ⟨_, rfl⟩
  have e1 : Hid (gpV (R : Int) (C : Int) a b = gridF R C f) := Lib.hid (by unfold gpV gpB; rw [h1, h2, h3, h4, hf0]; rfl)
  have e2 : Hid (0 = gpC (R : Int) (C : Int) a b) := Lib.hid (by unfold gpC gpB; rw [h1, h2, h3, h4]; rfl)
  obtain ⟨D, hD⟩ : ∃ D, D = gpD R C := ⟨_, rfl⟩
  have hD0 : Hid (D = (minG (R : Int) (C : Int) - 1) / 2) := Lib.hid hD
  have hf : Hid (∀ k m, f k m = lineR 0 a D b (dpV R C k m)) := Lib.hid (fun k m => by rw [hf0, hD]; rfl)
  have hDb : 0 ≤ D ∧ D ≤ 10 := by have := hD0.out; unfold minG at this; omega
  have hfb : Hid (∀ i k, i < R → k < C → inI (f i k)) := Lib.hid (fun i k hi hk => by
    rw [hf.out i k]
    have := lineG_bd (D := D) b3 b4 (show dpV R C i k ≤ 10 by have := (dpV_bd hi hk).2; omega)
    unfold inI; omega)
  have cM0 := fun W => l00MinG (R : Int) (C : Int) W
  obtain ⟨mn, hmn⟩ : ∃ mn, mn = minG (R : Int) (C : Int) := ⟨_, rfl⟩
  rw [← hmn] at cM0
  have hm0 : 1 ≤ mn ∧ mn ≤ 10 := by unfold minG at hmn; omega
  have hdm : (mn - 1) / 2 = D := by rw [hD0.out, hmn]
  have w1' : IntKind.i64.wrap (mn - 1) = mn - 1 := IntWalk.i64_in _ (by omega)
  have w2' : (mn - 1).tdiv 2 = D := by rw [Int.tdiv_eq_ediv_of_nonneg (by omega)]; exact hdm
  have w3' : IntKind.i64.wrap D = D := IntWalk.i64_in _ (by omega)
  have cM := Lib.hid cM0
  clear hD hmn cM0 hf0
  go_enter Try.func41, Try.ntmps41
  go_wp2_with (first | (go_at_call 79; refine (cM.out _).mono ?_; rintro e' w' ⟨rfl, rfl⟩) | (first | (go_at_call 63; refine (l00In_any _ _ _ _).mono ?_; rw [h1]; rintro e' w' ⟨rfl, rfl⟩) | (go_at_call 64; refine (l08Thick_any _ _).mono ?_; rw [h1]; rintro e' w' ⟨rfl, rfl⟩) | (go_at_call 63; refine (l00In_any _ _ _ _).mono ?_; rw [h2]; rintro e' w' ⟨rfl, rfl⟩) | (go_at_call 64; refine (l08Thick_any _ _).mono ?_; rw [h2]; rintro e' w' ⟨rfl, rfl⟩) | (go_at_call 63; refine (l00In_any _ _ _ _).mono ?_; rw [h3]; rintro e' w' ⟨rfl, rfl⟩) | (go_at_call 64; refine (l08Thick_any _ _).mono ?_; rw [h3]; rintro e' w' ⟨rfl, rfl⟩) | (go_at_call 63; refine (l00In_any _ _ _ _).mono ?_; rw [h4]; rintro e' w' ⟨rfl, rfl⟩) | (go_at_call 64; refine (l08Thick_any _ _).mono ?_; rw [h4]; rintro e' w' ⟨rfl, rfl⟩)))
  have hst := Lib.hid (OwnG.empty8 w)
  have hB5 : Below w.heap.size w (w.alloc (.cells #[] 30)) := (Below.refl _ _).alloc (Nat.le_refl _) _
  obtain ⟨LO, hLO⟩ : ∃ LO, LO = w.heap.size := ⟨_, rfl⟩
  have hLw : w.heap.size ≤ LO := by rw [hLO]; exact Nat.le_refl _
  have hLs : LO ≤ (w.alloc (.cells #[] 30)).heap.size := by rw [hLO]; simp
  rw [← hLO] at hst ⊢
  clear hLO cM w1' w2' w3' hm0 hdm
  generalize w.alloc (.cells #[] 30) = w6 at hst hB5 hLs ⊢
  go_loopw [11, 12] (fun x i wr => ∃ (k : Nat) (pa : Option Addr) (pc : Nat) (vs : List Value), k ≤ R ∧ i = .int .i64 k ∧ x = .slice pa k pc ∧ Hid (OwnG LO wr.heap.size wr (.slice pa k pc) (gridF k C f) vs) ∧ Below w.heap.size w wr ∧ LO ≤ wr.heap.size) (fun _ i _ => R - (intOf i).toNat)
  case atStart => exact ⟨0, _, 0, [], by omega, rfl, rfl, hst, hB5, hLs⟩
  case round =>
    obtain ⟨k, pa, pc, vs, hk, rfl, rfl, hO, hB, hLs⟩ := hrel
    by_cases hlt : k < R
    · have hkI : (k : Int) < (R : Int) := by omega
      obtain ⟨wo, hwo⟩ : ∃ x : World, x = wr := ⟨_, rfl⟩
      subst hwo
      go_wp2
      have hown0 := rowI_start wo
      have hbel0 : Hid (Below wo.heap.size wo (wo.alloc (.cells #[] 2))) := Lib.hid ((Below.refl _ _).alloc (Nat.le_refl _) _)
      have hB0 : wo.heap.size ≤ (wo.alloc (.cells #[] 2)).heap.size := by simp
      obtain ⟨B, hBe0⟩ : ∃ B, B = wo.heap.size := ⟨_, rfl⟩
      have hBe : Hid (wo.heap.size = B) := Lib.hid hBe0.symm
      rw [← hBe0] at hown0 hbel0 hB0 ⊢
      clear hBe0
      generalize wo.alloc (.cells #[] 2) = w7 at hown0 hbel0 hB0 ⊢
      go_loopw [13, 14] (fun q i wr => ∃ m : Nat, m ≤ C ∧ i = .int .i64 m ∧ B ≤ wr.heap.size ∧ wr.ownsRow B 2 1 q m ((List.range m).map fun x => encI (f k x)) ∧ Hid (Below B wo wr)) (fun _ i _ => C - (intOf i).toNat)
      case atStart => exact ⟨0, by omega, rfl, hB0, by simpa using hown0, hbel0⟩
      case round =>
        obtain ⟨m, hm, rfl, hBi, ho, hbel⟩ := hrel
        by_cases hlm : m < C
        · have hmI : (m : Int) < (C : Int) := by omega
          by_cases hDp : D > 0
          · have cD0 := fun W => l08Deep_any R C k m hR2 hC2 hlt hlm W
            have hdb := dpV_bd hlt hlm
            obtain ⟨dv, hdv⟩ : ∃ dv, dv = dpV R C k m := ⟨_, rfl⟩
            rw [← hdv] at cD0 hdb
            have cD := Lib.hid cD0
            have cL0 := fun W => l01Line_any 0 a D b dv (by omega) (by omega) (by omega) (by omega) (by omega) (by omega) (by omega) (by omega) W
            obtain ⟨z, hz⟩ : ∃ z, z = lineR 0 a D b dv := ⟨_, rfl⟩
            rw [← hz] at cL0
            have cL := Lib.hid cL0
            have hzz : Hid (f k m = z) := Lib.hid (by rw [hf.out k m, hz, hdv])
            clear cD0 cL0 hdv hz hdb
            go_wp2_with (first | (go_at_call 74; (with_reducible refine (cD.out _).mono ?_); rintro e' w9 ⟨rfl, rfl⟩) | (go_at_call 80; (with_reducible refine (cL.out _).mono ?_); rintro e' w9 ⟨rfl, rfl⟩) | (at_builtin; refine wpList_append_own _ rfl _ _ 30 rfl B 2 i1 (.int .i64 0) 1 8 Try.underlying30 hj hy0 hy1 hy2 rfl (by decide) _ _ _ rfl (ho.alloc _) ⟨wr.heap.size, 0, none⟩ 1 1 [.int .i64 z] rfl rfl ?c1Az ?c2Az ?c3Az ?c4Az ?c5Az ?_))
            case c1Az =>
              intro j u hj
              match j, hj with
              | 0, hj => simp at hj; subst hj; simp [Addr.add]
            case c2Az => first | rfl | (intro u hu; simp at hu; subst hu; rfl)
            case c3Az => unfold maxLen; omega
            case c4Az => omega
            case c5Az => first | omega | (simp; omega)
            intro v' w3 hown' hgrow' _
            have hb3 : Hid (Below B wo w3) := Lib.hid ((hbel.out.alloc hBi (.cells #[.int .i64 z] 2)).grown hgrow' (by have := hbel.out.size; simp at this ⊢; omega) (fun j hj => ho.own_ge j hj))
            have hown3 : w3.ownsRow B 2 1 v' (m + 1) ((List.range (m + 1)).map fun x => encI (f k x)) := by
              rw [List.range_succ, List.map_append]; simpa [hzz.out, encI] using hown'
            have hB3 : B ≤ w3.heap.size := by have := hgrow'.size; simp at this; omega
            clear hgrow' hown' ho hbel
            go_wp2
            go_roundw
            case rel => exact ⟨m + 1, by omega, by go_num, hB3, hown3, hb3⟩
            case measure => simp [intOf]; omega
          · have hzz : Hid (f k m = a) := Lib.hid (by
              rw [hf.out k m]
              have h0 : dpV R C k m ≤ 0 := by
                have := hD0.out
                unfold minG at this
                unfold dpV minG
                omega
              unfold lineR; rw [if_pos h0])
            go_wp2_with (first | (at_builtin; refine wpList_append_own _ rfl _ _ 30 rfl B 2 i1 (.int .i64 0) 1 8 Try.underlying30 hj hy0 hy1 hy2 rfl (by decide) _ _ _ rfl (ho.alloc _) ⟨wr.heap.size, 0, none⟩ 1 1 [.int .i64 a] rfl rfl ?c1Aa ?c2Aa ?c3Aa ?c4Aa ?c5Aa ?_))
            case c2Aa => first | rfl | (intro u hu; simp at hu; subst hu; rfl)
            case c3Aa => unfold maxLen; omega
            case c4Aa => omega
            case c5Aa => first | omega | (simp; omega)
            intro v' w3 hown' hgrow' _
            have hb3 : Hid (Below B wo w3) := Lib.hid ((hbel.out.alloc hBi (.cells #[.int .i64 a] 2)).grown hgrow' (by have := hbel.out.size; simp at this ⊢; omega) (fun j hj => ho.own_ge j hj))
            have hown3 : w3.ownsRow B 2 1 v' (m + 1) ((List.range (m + 1)).map fun x => encI (f k x)) := by
              rw [List.range_succ, List.map_append]; simpa [hzz.out, encI] using hown'
            have hB3 : B ≤ w3.heap.size := by have := hgrow'.size; simp at this; omega
            clear hgrow' hown' ho hbel
            go_wp2
            go_roundw
            case rel => exact ⟨m + 1, by omega, by go_num, hB3, hown3, hb3⟩
            case measure => simp [intOf]; omega
        · have hmC : m = C := by omega
          have hmI : ¬ (m : Int) < (C : Int) := by omega
          subst hmC
          obtain ⟨aq, capq, rfl⟩ := own_shape ho
          have hbw : Below wo.heap.size wo (wr.alloc (.cells #[.slice aq m capq] 30)) := (by rw [hBe.out]; exact hbel.out.alloc hBi _)
          have htop := (hO.out.kept (w' := wr) (by rw [hBe.out]; exact hbel.out)).top' (n := k) (by rw [gridF_len])
          have hrow : (wr.alloc (.cells #[.slice aq m capq] 30)).ownsRow wo.heap.size 2 1 (.slice aq m capq) ((List.range m).map fun x => f k x).length (((List.range m).map fun x => f k x).map encI) := by
            rw [List.length_map, List.length_range, List.map_map, hBe.out]
            exact ho.alloc _
          have hOk := Lib.hid hO
          clear ho
          go_wp2_with (at_builtin; refine wpList_append_own _ rfl _ _ 22 rfl LO 30 i0 (.slice none 0 0) 1 24 Try.underlying22 hi hz0 hz1 hz2 rfl (by decide) _ k vs rfl (htop.alloc _) ⟨wr.heap.size, 0, none⟩ 1 1 [.slice aq m capq] rfl rfl ?c1R ?c2R ?c3R ?c4R ?c5R ?_)
          case c2R => first | rfl | (intro u hu; simp at hu; subst hu; rfl)
          case c3R => unfold maxLen; omega
          case c4R => omega
          case c5R => first | (have := hBe.out; omega) | (have := hBe.out; simp; omega)
          intro v9 w9 hown9 hgrow9 _
          have hbl : ∀ j, (Value.slice pa k pc).ownBlock = some j → LO ≤ j := fun j hj => (hO.out.top.lt j hj).1
          have O9 := Lib.hid (hO.out.snoc (Z := (List.range m).map fun x => f k x) hbw hrow (fun n hn => by obtain ⟨x, hx, rfl⟩ := List.mem_map.1 hn; exact hfb.out k x hlt (List.mem_range.1 hx)) hgrow9 (by rw [gridF_len]; exact hown9) hLs (by decide))
          have B9 := (hB.trans (hbw.mono hB.size)).grown hgrow9 (Nat.le_trans hB.size hbw.size) (fun j hj => by have := hbl j hj; omega)
          have hL9 : LO ≤ w9.heap.size := Nat.le_trans hLs (Nat.le_trans hbw.size hgrow9.size)
          have hg1 : gridF (k + 1) m f = gridF k m f ++ [(List.range m).map fun x => f k x] := by unfold gridF; rw [List.range_succ, List.map_append]; rfl
          rw [← hg1] at O9
          obtain ⟨pa9, pc9, rfl⟩ := own_shape hown9
          clear hown9 hgrow9 hbl hbw htop hrow hOk hg1
          go_wp2
          go_roundw
          case rel => exact ⟨k + 1, pa9, pc9, _, by omega, by go_num, rfl, O9, B9, hL9⟩
          case measure => simp [intOf]; omega
    · have hkR : k = R := by omega
      have hkI : ¬ (k : Int) < (R : Int) := by omega
      subst hkR
      go_wp2
      go_ret2
      exact gridRet_mk e1.out e2.out.symm hO.out hLw hB
end Go.Proofs.Ytndnliaahdmbmaa
