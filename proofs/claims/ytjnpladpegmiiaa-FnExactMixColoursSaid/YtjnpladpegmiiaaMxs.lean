/-
  Mixtures of stains: the model's.
-/
import Derived.Test.YtjnpladpegmiiaaMix
import Derived.Deep.Cut
namespace Go.Proofs.Ytjnpladpegmiiaa
open Go.ChangeShapes Go.WideShapes Go.ChangeAt Go.RowKit Go.Deep
set_option linter.unusedVariables false
set_option linter.unusedSimpArgs false
set_option maxRecDepth 1000000
/-- the first k numbers of a mixture -/
def mixL (Z : List Ct) (P : List Int) (k : Nat) : List Int := (List.range k).map (mix1 Z P)
theorem mixL_succ (Z : List Ct) (P : List Int) (k : Nat) : mixL Z P (k + 1) = mixL Z P k ++ [mix1 Z P k] := by unfold mixL; rw [List.range_succ, List.map_append]; rfl
/-- one number of the colour of a coat, in memory -/
theorem mixCell {w wr : World} {g o : Nat} {Z : List Ct} (hb : Below w.heap.size w wr) (hg : g < w.heap.size) (hc : ∀ i (hi : i < Z.length), ∃ u, w.rangeAt g (o + i * 4) (Z[i].cells u) ∧ IntsAt w u Z[i].col) (hz : ctsB Z = true) {i : Nat} (hi : i < Z.length) :
    ∃ gc oc uc, gc < w.heap.size ∧ wr.cell? ⟨g, o + i * 4 + 3, none⟩ = some (.slice (some ⟨gc, oc, none⟩) 3 uc) ∧ ∀ k, k < 3 → wr.cell? ⟨gc, oc + k, none⟩ = some (.int .i64 ((Z.getD i ct0).col.getD k 0)) := by
  obtain ⟨u, hu, hui⟩ := hc i hi
  obtain ⟨a, b, c, e, _, _, _⟩ := col3_of (cts_col hz hi)
  rw [e] at hui
  obtain ⟨gc, oc, uc, rfl, hgc, k0, k1, k2⟩ := row3 hui
  refine ⟨gc, oc, uc, hgc, (bcell hb _ _ hg).trans (hu 3 _ rfl), fun k hk => ?_⟩
  rw [cts_getD hi, e]
  match k, hk with
  | 0, _ => exact (bcell hb _ _ hgc).trans k0
  | 1, _ => exact (bcell hb _ _ hgc).trans k1
  | 2, _ => exact (bcell hb _ _ hgc).trans k2
theorem drewBelow {a w w' : World} (h : Below a.heap.size a w) (d : DrewOf w w') : Below a.heap.size a w' := below2 h d.below
set_option maxHeartbeats 6400000 in
theorem specMixColours_any (v : Value) (Z : List Ct) (v' : Value) (P : List Int) (w : World) (hz : Z.length ≤ 1048576) (hv : CtsAt w v Z) (ho : P.length ≤ 1048576) (hv' : IntsAt w v' P) : Calls Try.prog 34 #[v, v'] w (RowC (mixV Z P) (mixC Z P) w) := by
  obtain ⟨i0, hi, hz0, hz1, hz2⟩ := info_parts infoI
  have cV := l13Ok_any v Z w hz hv
  have hV : Hid (mixV Z P = if ctsB Z = true then (if parB Z.length P = true then mix3 Z P else []) else []) := Lib.hid rfl
  have hC : Hid (mixC Z P = if ctsB Z = true then code (parB Z.length P) 7 else 1) := Lib.hid rfl
  obtain ⟨p9, c9, hv9, _, _, hread9⟩ := hv
  subst hv9
  obtain ⟨p8, c8, hv8, _, _, hread8⟩ := hv'
  subst hv8
  cases q1 : ctsB Z
  · rw [q1] at cV hV hC
    replace cV := Lib.hid cV
    clear hread9 hread8
    go_enter Try.func34, Try.ntmps34
    go_wp2_with (first | (go_at_call 47; (with_reducible refine (cV.out).mono ?_); rintro e w1 ⟨rfl, b1⟩))
    go_ret2
    exact rowC_nil hV.out hC.out b1.below
  have hzB := Lib.hid q1
  have hl10 := cts_len q1
  rw [q1] at cV hV hC
  replace cV := Lib.hid cV
  have hr9 := Lib.hid hread9
  have hr8 := Lib.hid hread8
  have hpB : Hid (parB Z.length P = (decide (P.length = Z.length) && allI P 0 1000 && !allI P 0 0)) := Lib.hid rfl
  have hpA : Hid (allI P 0 1000 = allK (wAt P 0 1000) P.length) := Lib.hid rfl
  clear hread9 hread8 q1
  go_enter Try.func34, Try.ntmps34
  go_wp2_with (go_at_call 47; (with_reducible refine (cV.out).mono ?_); rintro e w1 ⟨rfl, b1⟩)
  have hB1 := Lib.hid b1.below
  have hd1 := Lib.hid b1
  clear b1
  go_loopw [6, 7] (fun s i wr => ∃ (k : Nat) (m : Int), k ≤ P.length ∧ i = .int .i64 k ∧ s = .int .i64 m ∧ 0 ≤ m ∧ m ≤ 1000 * k ∧ Hid (m = sumK (psF P) k) ∧ Hid (allK (wAt P 0 1000) k = true) ∧ wr = w1) (fun _ i _ => P.length - (intOf i).toNat)
  case atStart => exact ⟨0, 0, by omega, rfl, rfl, by omega, by omega, Lib.hid rfl, Lib.hid rfl, rfl⟩
  case round =>
    obtain ⟨k, m, hk, rfl, rfl, hm0, hm1, hm, hall, hwr⟩ := hrel
    have hwr2 := hwr.symm
    clear hwr
    subst hwr2
    by_cases hlt : k < P.length
    · rcases hr8.out with h | ⟨g8, o8, rfl, hg8, hc8⟩
      · subst h; simp at hlt
      have hltI : (k : Int) < (P.length : Int) := by omega
      have c0 := rowcell hB1.out hg8 hc8 hlt
      have hst : Hid (wAt P 0 1000 k = inB (P.getD k 0) 0 1000) := Lib.hid rfl
      have hnew : m + P.getD k 0 = sumK (psF P) (k + 1) := by unfold sumK; rw [← hm.out]; rfl
      obtain ⟨x, hx'⟩ : ∃ x, x = P.getD k 0 := ⟨_, rfl⟩
      rw [← hx'] at c0 hst hnew
      have cT := fun W => l00In_any x 0 1000 W
      clear hx' hc8
      cases hcmp : inB x 0 1000
      · rw [hcmp] at cT hst
        have hno : Hid (parB Z.length P = false) := Lib.hid (by rw [hpB.out, hpA.out, allK_no hst.out hlt, Bool.and_false, Bool.false_and])
        clear hnew
        go_wp2_with (go_at_call 65; (with_reducible refine (cT _).mono ?_); rintro e w2 ⟨rfl, rfl⟩)
        go_ret2
        exact rowC_nil (by rw [hV.out, hno.out]; simp) (by rw [hC.out, hno.out]; rfl) hB1.out
      · rw [hcmp] at cT hst
        have hx2 := inB_iff.1 hcmp
        have hall2 : Hid (allK (wAt P 0 1000) (k + 1) = true) := Lib.hid (allK_yes hall.out hst.out)
        have hnew' := Lib.hid hnew
        clear hnew hcmp
        go_wp2_with (go_at_call 65; (with_reducible refine (cT _).mono ?_); rintro e w2 ⟨rfl, rfl⟩)
        go_roundw
        case rel => exact ⟨k + 1, m + x, by omega, by go_num, rfl, by omega, by omega, hnew', hall2, trivial⟩
        case measure => simp [intOf]; omega
    · obtain rfl : k = P.length := by omega
      have hpA1 : allI P 0 1000 = true := hpA.out.trans hall.out
      have hpz := ps_pos (P := P) (fun i hi => (allI_iff.1 hpA1 _ (by rw [getD_of _ hi]; exact List.getElem_mem hi)).1)
      rw [← hm.out] at hpz
      by_cases hle : P.length = Z.length
      · have hle2 : ((P.length : Int) == (Z.length : Int)) = true := by (rw [beq_iff_eq]; omega)
        have hle3 : ((P.length : Int) != (Z.length : Int)) = false := by unfold bne; rw [hle2]; rfl
        by_cases hm9 : m = 0
        · have hno : Hid (parB Z.length P = false) := Lib.hid (by rw [hpB.out, hpz.1 hm9]; simp)
          subst hm9
          clear hpz hpA1 hm
          go_wp2
          go_ret2
          exact rowC_nil (by rw [hV.out, hno.out]; simp) (by rw [hC.out, hno.out]; rfl) hB1.out
        · have hm8 : (m == 0) = false := by (rw [beq_eq_false_iff_ne]; exact hm9)
          have hyes : parB Z.length P = true := by
            have h0 : allI P 0 0 = false := by
              cases h : allI P 0 0 with
              | false => rfl
              | true => exact absurd (hpz.2 h) hm9
            rw [hpB.out, hpA1, h0]; simp [hle]
          have hVy : Hid (mixV Z P = mix3 Z P) := Lib.hid (by rw [hV.out, hyes]; simp)
          have hCy : Hid (mixC Z P = 0) := Lib.hid (by rw [hC.out, hyes]; rfl)
          have hmxb := Lib.hid (fun k (hk : k < 3) n (hn : n ≤ P.length) => mx_bd hzB.out hyes hk n hn)
          have hmx1 := Lib.hid (fun k (hk : k < 3) i (hi : i < P.length) => mx_one hzB.out hyes hk hi)
          have hpar := Lib.hid (fun i hi => (parB_facts hyes).2 i hi)
          have hm1' : 1 ≤ m ∧ m ≤ 10000 := by omega
          have hml := Lib.hid hle
          have hmS := hm
          clear hpz hpA1 hpB hpA hm hall hm0 hm1 hyes
          go_upto_region 14 with fail
          clear hle hle2 hle3 hm8 hm9
          have hown0 := own_low (rowI_start w1) hB1.out.size
          have hbb0 : Hid (Below w.heap.size w (w1.alloc (.cells #[] 2))) := Lib.hid (hB1.out.alloc hB1.out.size _)
          go_loopw [8, 9] (fun u kk wr => ∃ (k : Nat) (L : List Int), k ≤ 3 ∧ kk = .int .i64 k ∧ Hid (L = mixL Z P k) ∧ L.length = k ∧ wr.ownsRow w.heap.size 2 1 u L.length (L.map encI) ∧ Hid (Below w.heap.size w wr)) (fun _ kk _ => 3 - (intOf kk).toNat)
          case atStart => exact ⟨0, [], by omega, rfl, Lib.hid rfl, rfl, hown0, hbb0⟩
          case round =>
            obtain ⟨k, L, hk, rfl, hL, hLk, hown2, hbel2⟩ := hrel
            by_cases hlt : k < 3
            · have hkI : (k : Int) < 3 := by omega
              obtain ⟨wo, hwo⟩ : ∃ wo, wo = wr := ⟨_, rfl⟩
              subst hwo
              have hown3 := Lib.hid hown2
              clear hown2
              go_upto_region 18 with fail
              go_loopw [10, 11] (fun s i wr => ∃ (j : Nat) (q : Int), j ≤ P.length ∧ i = .int .i64 j ∧ s = .int .i64 q ∧ 0 ≤ q ∧ q ≤ 255000 * j ∧ Hid (q = sumK (mxP Z P k) j) ∧ DrewOf wo wr) (fun _ i _ => P.length - (intOf i).toNat)
              case atStart => exact ⟨0, 0, by omega, rfl, rfl, by omega, by omega, Lib.hid rfl, DrewOf.refl _⟩
              case round =>
                obtain ⟨j, q, hj, rfl, rfl, hq0, hq1, hq, hd⟩ := hrel
                by_cases hlj : j < P.length
                · rcases hr9.out with h | ⟨g, o, rfl, hg, hc⟩
                  · have h9 := hml.out; rw [h] at h9; simp at h9; rw [h9] at hlj; simp at hlj
                  rcases hr8.out with h | ⟨g8, o8, rfl, hg8, hc8⟩
                  · subst h; simp at hlj
                  have hbw := drewBelow hbel2.out hd
                  have hjZ : j < Z.length := by rw [← hml.out]; exact hlj
                  obtain ⟨gc, oc, uc, hgc, x3, xk⟩ := mixCell hbw hg hc hzB.out hjZ
                  have xc := xk k hlt
                  have c8 := rowcell hbw hg8 hc8 hlj
                  have hone := hmx1.out k hlt j hlj
                  have hp8 := hpar.out j hlj
                  have hb8 := hmxb.out k hlt (j + 1) (by omega)
                  have hsum : q + mxP Z P k j = sumK (mxP Z P k) (j + 1) := by unfold sumK; rw [← hq.out]
                  rw [← hsum] at hb8
                  unfold mxP at hone hsum hb8
                  obtain ⟨n1, hn1⟩ : ∃ n, n = (Z.getD j ct0).col.getD k 0 := ⟨_, rfl⟩
                  obtain ⟨n2, hn2⟩ : ∃ n, n = P.getD j 0 := ⟨_, rfl⟩
                  rw [← hn1] at xc hone hsum hb8
                  rw [← hn2] at c8 hone hsum hb8 hp8
                  have hjI : (j : Int) < (Z.length : Int) := by omega
                  have hjP : (j : Int) < (P.length : Int) := by omega
                  have ew : IntKind.i64.wrap (n1 * n2) = n1 * n2 := IntWalk.i64_in _ (by omega)
                  have ew2 : IntKind.i64.wrap (q + n1 * n2) = q + n1 * n2 := IntWalk.i64_in _ (by omega)
                  have hsum' := Lib.hid hsum
                  have hnq : 0 ≤ q + n1 * n2 ∧ q + n1 * n2 ≤ 255000 * ((j : Int) + 1) := by omega
                  clear hn1 hn2 xk hc hc8 hsum hone hp8 hb8 hbw
                  go_wp2
                  go_quiet (fail)
                  go_wp2
                  go_roundw
                  case rel => exact ⟨j + 1, q + n1 * n2, by omega, by go_num, rfl, by omega, by omega, hsum', hd.more _⟩
                  case measure => simp [intOf]; omega
                · obtain rfl : j = P.length := by omega
                  have hjI : ¬ ((P.length : Int) < (Z.length : Int)) := by have := hml.out; omega
                  have hqS : Hid (rnd q m = mix1 Z P k) := Lib.hid (by unfold mix1; rw [← hq.out, ← hmS.out])
                  have hl1 : P.length ≤ 10 := by have := hml.out; omega
                  have hq9 : q ≤ 2550000 := by omega
                  have cL0 := fun W => l01Div_any q m (by omega) (by omega) (by omega) (by omega) (by omega) W
                  obtain ⟨z, hz9⟩ : ∃ z, z = rnd q m := ⟨_, rfl⟩
                  rw [← hz9] at cL0 hqS
                  have cL := Lib.hid cL0
                  have hL3 : Hid (L ++ [z] = mixL Z P (k + 1)) := Lib.hid (by rw [mixL_succ, ← hL.out, hqS.out])
                  have hown4 := own_kept' hown3.out hd.below
                  have hbel4 := Lib.hid (drewBelow hbel2.out hd)
                  clear hz9 cL0 hown3 hq hbel2
                  go_wp2_with (first
                    | (go_at_call 66; (with_reducible refine (cL.out _).mono ?_); rintro e w' ⟨rfl, rfl⟩)
                    | (at_builtin; refine wpList_append_own _ rfl _ _ 29 rfl w.heap.size 2 i0 (.int .i64 0) 1 8 Try.underlying29 hi hz0 hz1 hz2 rfl (by decide) _ _ _ rfl (hown4.alloc _) ⟨wr.heap.size, 0, none⟩ 1 1 [.int .i64 z] rfl rfl ?c1A ?c2A ?c3A ?c4A ?c5A ?_))
                  case c1A =>
                    intro j u hj
                    match j, hj with
                    | 0, hj => simp at hj; subst hj; simp [Addr.add]
                  case c2A => intro u hu; simp at hu; subst hu; rfl
                  case c3A => unfold maxLen; omega
                  case c4A => omega
                  case c5A => have := hbel4.out.size; simp; omega
                  intro v'' w3 hown' hgrow' _
                  have hb3 : Below w.heap.size w w3 := (hbel4.out.alloc hbel4.out.size (.cells #[.int .i64 z] 2)).grown hgrow' (by have := hbel4.out.size; simp at this ⊢; omega) (fun j hj => hown4.own_ge j hj)
                  have hLl : (L ++ [z]).length = L.length + 1 := by simp
                  have hown5 : w3.ownsRow w.heap.size 2 1 v'' (L ++ [z]).length ((L ++ [z]).map encI) := by
                    rw [hLl, List.map_append, List.map_singleton]; simpa [encI, hLk] using hown'
                  have hb3' := Lib.hid hb3
                  clear hgrow' hown' hb3 hown4
                  go_wp2
                  go_roundw
                  case rel => exact ⟨k + 1, L ++ [z], by omega, by go_num, hL3, by rw [hLl, hLk], hown5, hb3'⟩
                  case measure => simp [intOf]; omega
            · obtain rfl : k = 3 := by omega
              have hfin : Hid (mixV Z P = L) := Lib.hid (by rw [hVy.out, hL.out]; rfl)
              have hown3 := Lib.hid hown2
              clear hown2
              go_wp2
              go_ret2
              exact rowC_mk hfin.out hCy.out (Nat.le_refl _) hown3.out hbel2.out
      · have hle2 : ((P.length : Int) == (Z.length : Int)) = false := by (rw [beq_eq_false_iff_ne]; omega)
        have hle3 : ((P.length : Int) != (Z.length : Int)) = true := by unfold bne; rw [hle2]; rfl
        have hno : Hid (parB Z.length P = false) := Lib.hid (by rw [hpB.out]; simp [hle])
        clear hpz hpA1 hm
        go_wp2
        go_ret2
        exact rowC_nil (by rw [hV.out, hno.out]; simp) (by rw [hC.out, hno.out]; rfl) hB1.out
end Go.Proofs.Ytjnpladpegmiiaa
