/-
  What is left of strips that were given: the model's contract.
-/
import Derived.Test.YtgbjdjkmmmgnnaaSl
import Derived.Test.YtgbjdjkmmmgnnaaFstS
import Derived.BigQuiet
import Derived.Deep.QuietTactic
import Derived.Deep.RegionHeld3
import Derived.Deep.AppendLies
namespace Go.Proofs.Ytgbjdjkmmmgnnaa
open Go.ChangeShapes Go.WideShapes Go.ChangeAt Go.RowKit Go.Deep
set_option linter.unusedVariables false
set_option linter.unusedSimpArgs false
set_option maxRecDepth 1000000
set_option maxHeartbeats 12800000 in
theorem specStripsLeft_any (v gv : Value) (Z : List Rib) (G : List Int) (L W : Int) (w : World) (hn : Z.length ≤ 1048576) (hnG : G.length ≤ 1048576) (hv : RibsAt w v Z) (hg : IntsAt w gv G) : Calls Try.prog 30 #[v, gv, .int .i64 L, .int .i64 W] w (RowC (slV Z G L W) (slC Z G L W) w) := by
  obtain ⟨i0, hi, hz0, hz1, hz2⟩ := info_parts infoI
  have cA0 := l06Ask_any v Z L W w hn hv
  obtain ⟨pa, cap, rfl, hcap, _, hread⟩ := hv
  obtain ⟨ga, gcap, rfl, hgcap, hgz, hgread⟩ := hg
  have hread' := Lib.hid hread
  have hgread' := Lib.hid hgread
  clear hread hgread
  cases h1 : ribsB Z
  · have hr := Lib.hid (sl_bad (show slC Z G L W = 1 by unfold slC; rw [h1]; rfl) (by decide))
    rw [show askC Z L W = 1 by unfold askC; rw [h1]; rfl] at cA0
    have cA := Lib.hid cA0
    clear cA0
    go_enter Try.func30, Try.ntmps30
    go_wp2_with (go_at_call 47; (with_reducible refine cA.out.mono ?_); rintro e w1 ⟨rfl, d1⟩)
    go_ret2
    exact rowC_nil hr.out.1 hr.out.2 d1.below
  cases h2 : askB L W
  · have hr := Lib.hid (sl_bad (show slC Z G L W = 2 by unfold slC; rw [h1, h2]; rfl) (by decide))
    rw [show askC Z L W = 2 by unfold askC; rw [h1, h2]; rfl] at cA0
    have cA := Lib.hid cA0
    clear cA0
    go_enter Try.func30, Try.ntmps30
    go_wp2_with (go_at_call 47; (with_reducible refine cA.out.mono ?_); rintro e w1 ⟨rfl, d1⟩)
    go_ret2
    exact rowC_nil hr.out.1 hr.out.2 d1.below
  have h2' : (inB L 1 100000 && inB W 0 100) = true := h2
  have h8 := ribs_8 h1
  rw [show askC Z L W = 0 by unfold askC; rw [h1, h2]; rfl] at cA0
  have cA := Lib.hid cA0
  clear cA0
  by_cases h3 : G.length = Z.length
  rotate_left
  · have hr := Lib.hid (sl_bad (show slC Z G L W = 7 by unfold slC; rw [h1, h2, if_pos rfl, if_pos rfl, if_neg h3]) (by decide))
    have t0 : ((G.length : Int) == (Z.length : Int)) = false := beq_eq_false_iff_ne.2 (by omega)
    have u0 : ((G.length : Int) != (Z.length : Int)) = true := by unfold bne; rw [t0]; rfl
    clear h3
    go_enter Try.func30, Try.ntmps30
    go_wp2_with (go_at_call 47; (with_reducible refine cA.out.mono ?_); rintro e w1 ⟨rfl, d1⟩)
    go_ret2
    exact rowC_nil hr.out.1 hr.out.2 d1.below
  have t0 : ((G.length : Int) == (Z.length : Int)) = true := by rw [h3]; exact beq_self_eq_true _
  have u0 : ((G.length : Int) != (Z.length : Int)) = false := by unfold bne; rw [t0]; rfl
  have h3' := Lib.hid h3
  have hG8 : G.length ≤ 8 := by omega
  have hC : Hid (slC Z G L W = if allK (ordS G) Z.length = true then (if allK (fitS L W Z G) Z.length = true then 0 else 6) else 7) := Lib.hid (by unfold slC; rw [h1, h2, if_pos rfl, if_pos rfl, if_pos h3])
  have hLW : (1 ≤ L ∧ L ≤ 100000) ∧ (0 ≤ W ∧ W ≤ 100) := by rw [Bool.and_eq_true, inB_iff, inB_iff] at h2'; exact h2'
  have hin := Lib.hid (slU_in (G := G) h1 hLW.1.1 hLW.2)
  have hmem := Lib.hid (fun k (hk : k < Z.length) => ribs_mem h1 (List.getElem_mem hk))
  have hfi := Lib.hid (fun ho => fit_iff (L := L) (W := W) (G := G) h1 hLW.2.1 ho Z.length (Nat.le_refl _))
  clear h3
  go_enter Try.func30, Try.ntmps30
  go_wp2_with (go_at_call 47; (with_reducible refine cA.out.mono ?_); rintro e w1 ⟨rfl, d1⟩)
  have dd := d1.below
  have hzz : w.heap.size ≤ w1.heap.size := dd.size
  have o1' := Lib.hid (own_low (rowI_start w1) hzz)
  have hb2 := Lib.hid (dd.alloc dd.size (.cells #[] 2))
  have hz2w : w1.heap.size < (w1.alloc (.cells #[] 2)).heap.size := by simp
  clear d1 dd
  generalize w1.alloc (.cells #[] 2) = W0 at o1' hb2 hz2w ⊢
  generalize w1.heap.size = g0 at o1' hzz hz2w ⊢
  go_loopw [11, 12] (fun y i wr => ∃ (k g11 c11 : Nat), k ≤ Z.length ∧ i = .int .i64 k ∧ y = .slice (some ⟨g11, 0, none⟩) (slU L W Z G k).length c11 ∧ Hid (allK (ordS G) k = true) ∧ g11 < wr.heap.size ∧ Hid (wr.ownsRow w.heap.size 2 1 (.slice (some ⟨g11, 0, none⟩) (slU L W Z G k).length c11) (slU L W Z G k).length ((usdL L (slU L W Z G k)).map encI)) ∧ Hid (Below w.heap.size w wr)) (fun _ i _ => Z.length - (intOf i).toNat)
  case atStart => exact ⟨0, g0, 0, by omega, rfl, rfl, Lib.hid rfl, hz2w, o1', hb2⟩
  case round =>
    obtain ⟨k, g11, c11, hk, rfl, rfl, hall, hl11, ho11, hbel⟩ := hrel
    by_cases hlt : k < Z.length
    · rcases hread'.out with h | ⟨g, o, rfl, hg, hc⟩
      · subst h; simp at hlt
      rcases hgread'.out with h | ⟨gg, oo, rfl, hgg, hgc⟩
      · have := h3'.out; subst h; simp at this; omega
      have hltI : (k : Int) < (Z.length : Int) := by omega
      have hlG : k < G.length := by have := h3'.out; omega
      have hltG : (k : Int) < (G.length : Int) := by omega
      have hul := slU_len (L := L) (W := W) (Z := Z) k hall.out
      have hun := usdN_le G k
      have hxm := (hmem.out k hlt).1
      have hiW := Lib.hid (hin.out k (by omega))
      have hcl := Lib.hid (fun W1 (hb : Below w.heap.size w W1) => (ribAt_of (range_below (hc k hlt) hg hb)).2.1)
      have hcg := Lib.hid (fun W1 (hb : Below w.heap.size w W1) => (hb.cell (p := ⟨gg, oo + k, none⟩) hgg).trans (hgc k hlG))
      have hos : ordS G k = inB G[k] 0 (usdN G k) := by unfold ordS; rw [getD_getI hlG]
      have hse : slU L W Z G (k + 1) = cutU L W (slU L W Z G k) G[k].toNat Z[k].len := by rw [← rib_getD_at' hlt, ← getD_getI hlG]; rfl
      rw [← hul] at hos
      obtain ⟨a, ha⟩ : ∃ a, a = Z[k].len := ⟨_, rfl⟩
      obtain ⟨gk, hgk⟩ : ∃ gk, gk = G[k] := ⟨_, rfl⟩
      rw [← ha] at hcl hxm hse
      rw [← hgk] at hcg hos hse
      obtain ⟨U, hU⟩ : ∃ U, U = slU L W Z G k := ⟨_, rfl⟩
      rw [← hU] at ho11 hul hos hse hiW
      have hU8 : U.length ≤ k := by omega
      have hos' := Lib.hid hos
      have hse' := Lib.hid hse
      have c1 := hcl.out wr hbel.out
      have cg := hcg.out wr hbel.out
      clear ha hgk hc hgc hul hos hse
      rw [← hU]
      clear hU hun
      cases hin0 : inB gk 0 (U.length : Int)
      · have hr := Lib.hid (sl_bad (show slC Z G L W = 7 by rw [hC.out, allK_no (by rw [hos'.out, hin0]) hlt]; rfl) (by decide))
        go_wp2_with (go_at_call 55; refine (l00In_any _ _ _ _).mono ?_; rintro e w' ⟨rfl, rfl⟩)
        go_ret2
        exact rowC_nil hr.out.1 hr.out.2 hbel.out
      have hgb := inB_iff.1 hin0
      obtain ⟨j, rfl⟩ : ∃ j : Nat, gk = (j : Int) := ⟨gk.toNat, by omega⟩
      have hall2 : Hid (allK (ordS G) (k + 1) = true) := Lib.hid (allK_yes hall.out (by rw [hos'.out, hin0]))
      have hjl : j ≤ U.length := by omega
      rw [show ((j : Nat) : Int).toNat = j by omega] at hse'
      by_cases hju : j < U.length
      · have hjI : (j : Int) < (U.length : Int) := by omega
        have hjn : ((j : Int) == (U.length : Int)) = false := beq_eq_false_iff_ne.2 (by omega)
        have cu := (ho11.out.cellAt j (by omega)).trans (usd_at L U j hju)
        have hub : -(20000 * (k : Int)) ≤ U.getD j 0 ∧ U.getD j 0 ≤ L - 1 := hiW.out _ (by rw [List.getD_eq_getElem?_getD, List.getElem?_eq_getElem hju]; exact List.getElem_mem hju)
        have hlf : leftK L W U j = U.getD j 0 - W := by unfold leftK; rw [if_pos hju]
        have hset := Lib.hid (fun z hz => usd_set L W U j a z hju (by rw [hlf]; exact hz))
        obtain ⟨x, hx⟩ : ∃ x, x = U.getD j 0 := ⟨_, rfl⟩
        rw [← hx] at cu hub hset
        have cT : takeV (L - x) a W = a + W := by unfold takeV; rw [if_neg (by omega)]
        have cTk0 := fun W1 => l06Take_any (L - x) a W (by omega) (by omega) W1
        rw [cT] at cTk0
        have cTk := Lib.hid cTk0
        have hlen2 := Lib.hid (cutU_lenS L W U j a hju)
        clear hx hlf cT cTk0
        go_wp2_with (go_at_call 55; refine (l00In_any _ _ _ _).mono ?_; rintro e w' ⟨rfl, rfl⟩)
        have p11 := Lib.hid ho11.out
        have pb := Lib.hid hbel.out
        have pl1 : g11 < wr.heap.size := hl11
        have pcu : wr.cell? ⟨g11, j, none⟩ = some (.int .i64 (L - x)) := cu
        clear cu
        go_still_tail 23, (by kernel_rfl)
        still_call (SsF (cTk.out _))
        repeat still_step
        try refine wpStill_nil ?_
        change wpList _ _ _ _ _ wr.drew
        have q11 : wr.drew.ownsRow w.heap.size 2 1 (.slice (some ⟨g11, 0, none⟩) U.length c11) U.length ((usdL L U).map encI) := own_kept p11.out (belowN (Below.refl _ _) 1)
        have qb : Below w.heap.size w wr.drew := belowN pb.out 1
        have ql1 : g11 < wr.drew.heap.size := pl1
        have hfo := q11.frozenAt j
        have hco : wr.drew.cell? ⟨g11, j, none⟩ = some (.int .i64 (L - x)) := pcu
        clear c1 pcu
        generalize wr.drew = W1 at q11 qb ql1 hco hfo ⊢
        obtain ⟨z, hz⟩ : ∃ z, z = L - x + (a + W) := ⟨_, rfl⟩
        rw [← hz, show IntKind.i64.wrap z = z from IntWalk.i64_in _ (by omega)]
        have hst := q11.stored j (.int .i64 z)
        rw [hset.out z (by omega)] at hst
        have eb := Lib.hid (qb.grown hst.2 qb.size (fun k hk => by cases hk; exact (q11.lt g11 rfl).1))
        have hst1 := Lib.hid hst.1
        clear hst q11 hz
        go_wp2
        go_roundw
        case rel => exact ⟨k + 1, g11, c11, by omega, by go_num, by rw [hse'.out, hlen2.out], hall2, by simpa using ql1, Lib.hid (by rw [hse'.out, hlen2.out]; exact hst1.out), eb⟩
        case measure => simp [intOf]; omega
      · obtain rfl : j = U.length := by omega
        have hjn : ((U.length : Int) == (U.length : Int)) = true := beq_self_eq_true _
        have hset := Lib.hid (fun (z : Int) (hz : z = a) => usd_new L W U a z (by rw [hz]; unfold leftK; rw [if_neg (by omega)]; omega))
        have hlen2 := Lib.hid (cutU_lenN L W U a)
        have cT : takeV 0 a W = a := by unfold takeV; rw [if_pos rfl]
        have cTk0 := fun W1 => l06Take_any 0 a W (by omega) (by omega) W1
        rw [cT] at cTk0
        have cTk := Lib.hid cTk0
        clear cT cTk0
        have p11 := ho11.out
        have hWz := hbel.out.size
        go_wp2_with (first
            | (go_at_call 55; refine (l00In_any _ _ _ _).mono ?_; rintro e w' ⟨rfl, rfl⟩)
            | (at_builtin; refine wpList_append_lies _ rfl _ _ 31 rfl w.heap.size 2 i0 (.int .i64 0) 1 8 Try.underlying31 hi hz0 hz1 hz2 rfl (by decide) _ _ _ rfl (p11.alloc _) ⟨wr.heap.size, 0, none⟩ 1 1 [.int .i64 0] rfl rfl ?c1P ?c2P (by decide) ?c3P ?c4P ?c5P (wr.heap.size + 1) ?c6P ?_))
        all_goals try (case c1P => (intro j u hj; match j, hj with | 0, hj => (simp at hj; subst hj; simp [Addr.add])))
        all_goals try (case c2P => (intro u hu; simp at hu; subst hu; rfl))
        all_goals try (case c2P => rfl)
        case c3P => unfold maxLen; omega
        case c4P => omega
        case c5P => simp; omega
        case c6P => simp
        intro gM cM WZ hown3 hgrow3 hgM hltM
        have pb2 := (hbel.out.alloc hWz (.cells #[.int .i64 0] 2)).grown hgrow3 (by simp; omega) (fun j hj => p11.own_ge j hj)
        have hxs : (usdL L U).map encI ++ [.int .i64 0] = (usdL L U ++ [0]).map encI := by rw [List.map_append]; rfl
        rw [hxs] at hown3
        have pcu : WZ.cell? ⟨gM, U.length, none⟩ = some (.int .i64 0) := (hown3.cellAt U.length (by omega)).trans (by rw [List.getElem?_map, List.getElem?_append_right (by rw [usdL_len]; exact Nat.le_refl _), usdL_len, Nat.sub_self]; rfl)
        clear hxs p11 c1 cg
        have p11 := Lib.hid hown3
        have pb := Lib.hid pb2
        have pl1 : gM < WZ.heap.size := hltM
        have c1 := hcl.out WZ pb2
        have cg := hcg.out WZ pb2
        have hjI : (U.length : Int) < (U.length : Int) + 1 := by omega
        clear hown3 hgrow3 hgM pb2
        go_wp2
        go_still_tail 23, (by kernel_rfl)
        still_call (SsF (cTk.out _))
        repeat still_step
        try refine wpStill_nil ?_
        change wpList _ _ _ _ _ WZ.drew
        have q11 : WZ.drew.ownsRow w.heap.size 2 1 (.slice (some ⟨gM, 0, none⟩) (U.length + 1) cM) (U.length + 1) ((usdL L U ++ [0]).map encI) := own_kept p11.out (belowN (Below.refl _ _) 1)
        have qb : Below w.heap.size w WZ.drew := belowN pb.out 1
        have ql1 : gM < WZ.drew.heap.size := pl1
        have hfo := q11.frozenAt U.length
        have hco : WZ.drew.cell? ⟨gM, U.length, none⟩ = some (.int .i64 0) := pcu
        clear c1 pcu
        generalize WZ.drew = W1 at q11 qb ql1 hco hfo ⊢
        try rw [show IntKind.i64.wrap a = a from IntWalk.i64_in _ (by omega)]
        obtain ⟨z, hz⟩ : ∃ z, z = a := ⟨_, rfl⟩
        subst hz
        have hst := q11.stored U.length (.int .i64 z)
        rw [hset.out z (by omega)] at hst
        have eb := Lib.hid (qb.grown hst.2 qb.size (fun k hk => by cases hk; exact (q11.lt gM rfl).1))
        have hst1 := Lib.hid hst.1
        clear hst q11 cTk
        go_wp2
        go_roundw
        case rel => exact ⟨k + 1, gM, cM, by omega, by go_num, by rw [hse'.out, hlen2.out], hall2, by simpa using ql1, Lib.hid (by rw [hse'.out, hlen2.out]; exact hst1.out), eb⟩
        case measure => simp [intOf]; omega
    · have hkl : k = Z.length := by omega
      have ho := hall.out
      rw [hkl] at ho
      have hfi2 := Lib.hid (hfi.out ho)
      have hC2 : Hid (slC Z G L W = if allK (fitS L W Z G) Z.length = true then 0 else 6) := Lib.hid (by rw [hC.out, if_pos ho])
      have hul := slU_len (L := L) (W := W) (Z := Z) k hall.out
      have hun := usdN_le G k
      have hiW := Lib.hid (hin.out k hk)
      rw [← hkl] at hfi2
      obtain ⟨U, hU⟩ : ∃ U, U = slU L W Z G k := ⟨_, rfl⟩
      have hUe : Hid (slU L W Z G Z.length = U) := Lib.hid (by rw [hU, hkl])
      rw [← hU] at ho11 hul hiW hfi2
      have hU8 : U.length ≤ 8 := by omega
      rw [← hU]
      rw [hkl] at hfi2
      clear hU hul hun ho
      have hGk : ¬ ((k : Int) < (G.length : Int)) := by have := h3'.out; omega
      have hBw := hbel.out.size
      have o3 := Lib.hid (own_low (rowI_start wr) hBw)
      have o11b := Lib.hid (ho11.out.alloc (.cells #[] 2))
      have hb3 := Lib.hid (hbel.out.alloc hBw (.cells #[] 2))
      have hz3 : wr.heap.size < (wr.alloc (.cells #[] 2)).heap.size := by simp
      clear hkl
      go_wp2
      generalize wr.alloc (.cells #[] 2) = W3 at o3 o11b hb3 hz3 ⊢
      generalize wr.heap.size = h0 at o3 hz3 hl11 hBw ⊢
      go_loopw [13, 14] (fun y i wr => ∃ (m g13 c13 : Nat), m ≤ U.length ∧ i = .int .i64 m ∧ y = .slice (some ⟨g13, 0, none⟩) m c13 ∧ g13 ≠ g11 ∧ g11 < wr.heap.size ∧ Hid (∀ q, q < m → 0 ≤ U.getD q 0) ∧ Hid (wr.ownsRow w.heap.size 2 1 (.slice (some ⟨g13, 0, none⟩) m c13) m ((U.take m).map encI)) ∧ Hid (wr.ownsRow w.heap.size 2 1 (.slice (some ⟨g11, 0, none⟩) U.length c11) U.length ((usdL L U).map encI)) ∧ Hid (Below w.heap.size w wr)) (fun _ i _ => U.length - (intOf i).toNat)
      case atStart => exact ⟨0, h0, 0, by omega, rfl, rfl, by omega, by omega, Lib.hid (fun q hq => absurd hq (Nat.not_lt_zero _)), o3, o11b, hb3⟩
      case round =>
        obtain ⟨m, g13, c13, hm, rfl, rfl, hgn, hlg, hpos, hoo, hou, hbq⟩ := hrel
        by_cases hltm : m < U.length
        · have hmI : (m : Int) < (U.length : Int) := by omega
          have cu := (hou.out.cellAt m (by omega)).trans (usd_at L U m hltm)
          have hub : -(20000 * (k : Int)) ≤ U.getD m 0 ∧ U.getD m 0 ≤ L - 1 := hiW.out _ (by rw [List.getD_eq_getElem?_getD, List.getElem?_eq_getElem hltm]; exact List.getElem_mem hltm)
          have htk : Hid ((U.take (m + 1)).map encI = (U.take m).map encI ++ [.int .i64 (U.getD m 0)]) := Lib.hid (by rw [List.take_succ_eq_append_getElem hltm, List.map_append, getD_getI hltm]; rfl)
          have hneg : Hid (U.getD m 0 < 0 → negU U) := Lib.hid (fun h => ⟨m, hltm, h⟩)
          have hpos2 : Hid (0 ≤ U.getD m 0 → ∀ q, q < m + 1 → 0 ≤ U.getD q 0) := Lib.hid (fun h q hq => by
            by_cases e : q = m
            · rw [e]; exact h
            · exact hpos.out q (by omega))
          obtain ⟨x, hx⟩ : ∃ x, x = U.getD m 0 := ⟨_, rfl⟩
          rw [← hx] at cu hub htk hneg hpos2
          clear hx
          by_cases hx0 : x < 0
          · have hr := Lib.hid (sl_bad (show slC Z G L W = 6 by rw [hC2.out, if_neg (fun h => hfi2.out.1 h (hneg.out hx0))]) (by decide))
            go_wp2
            go_ret2
            exact rowC_nil hr.out.1 hr.out.2 hbq.out
          · have hWz := hbq.out.size
            have p13 := hoo.out
            have hxx : L - (L - x) = x := by omega
            go_wp2_with (at_builtin; refine wpList_append_lies _ rfl _ _ 31 rfl w.heap.size 2 i0 (.int .i64 0) 1 8 Try.underlying31 hi hz0 hz1 hz2 rfl (by decide) _ _ _ rfl (p13.alloc _) ⟨wr.heap.size, 0, none⟩ 1 1 [.int .i64 x] rfl rfl ?c1R ?c2R (by decide) ?c3R ?c4R ?c5R (wr.heap.size + 1) ?c6R ?_)
            try (case c1R => (intro j u hj; match j, hj with | 0, hj => (simp at hj; subst hj; simp [Addr.add])))
            try (case c2R => (first | rfl | (intro u hu; simp at hu; subst hu; rfl)))
            try (case c3R => (unfold maxLen; omega))
            try (case c4R => omega)
            try (case c5R => (first | omega | (simp; omega)))
            try (case c6R => (first | rfl | simp))
            intro gN cN w3 hown3 hgrow3 hgN hltN
            have hGs : wr.heap.size + 1 ≤ w3.heap.size := by have := hgrow3.size; simp at this; omega
            have hne2 : gN ≠ g11 := by
              rcases hgN with e | e
              · have e : g13 = gN := by simpa [Value.ownBlock] using e
                rw [← e]; exact hgn
              · omega
            have f13 := Lib.hid hown3
            have f11 := Lib.hid ((hou.out.alloc (.cells #[.int .i64 x] 2)).kept hgrow3 (Or.inr (show (Value.slice (some ⟨g11, 0, none⟩) U.length c11).ownBlock ≠ (Value.slice (some ⟨g13, 0, none⟩) m c13).ownBlock from fun e => hgn (by simpa [Value.ownBlock] using e.symm))))
            have fb := Lib.hid ((hbq.out.alloc hWz (.cells #[.int .i64 x] 2)).grown hgrow3 (by simp; omega) (fun j hj => p13.own_ge j hj))
            clear hown3 hgrow3 hgN p13
            go_wp2
            go_roundw
            case rel => exact ⟨m + 1, gN, cN, by omega, by go_num, rfl, hne2, by omega, Lib.hid (hpos2.out (by omega)), Lib.hid (by rw [htk.out]; first | exact f13.out | (rw [List.map_take]; exact f13.out)), f11, fb⟩
            case measure => simp [intOf]; omega
        · have hmk : m = U.length := by omega
          have hgood : ¬ negU U := by
            rintro ⟨i, hi, hn⟩
            have := hpos.out i (by omega)
            omega
          have hr := Lib.hid (sl_good (show slC Z G L W = 0 by rw [hC2.out, if_pos (hfi2.out.2 hgood)]))
          have hrU : Hid (slV Z G L W = U) := Lib.hid (by rw [hr.out.1, hUe.out])
          have f13 : Hid (wr.ownsRow w.heap.size 2 1 (.slice (some ⟨g13, 0, none⟩) m c13) U.length (U.map encI)) := Lib.hid (by have h := hoo.out; rw [hmk, List.take_length] at h; rw [hmk]; exact h)
          clear hmk hgood
          go_wp2
          go_ret2
          exact rowC_mk hrU.out hr.out.2 (Nat.le_refl _) f13.out hbq.out
end Go.Proofs.Ytgbjdjkmmmgnnaa
