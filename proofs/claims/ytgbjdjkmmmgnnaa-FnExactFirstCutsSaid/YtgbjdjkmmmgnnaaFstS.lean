/-
  Ribs from the first strips: the model's contract.
-/
import Derived.Test.YtgbjdjkmmmgnnaaFst
import Derived.BigQuiet
import Derived.Deep.QuietTactic
import Derived.Deep.RegionHeld3
import Derived.Deep.AppendLies
namespace Go.Proofs.Ytgbjdjkmmmgnnaa
open Go.ChangeShapes Go.WideShapes Go.ChangeAt Go.RowKit Go.Deep
set_option linter.unusedVariables false
set_option linter.unusedSimpArgs false
set_option maxRecDepth 1000000
theorem SsF {P : Program} {f : FuncId} {args : Array Value} {w : World} {v : Value} (h : Calls P f args w fun e w' => e = .returned v ∧ w = w') : Calls P f args w fun e w' => e = .returned v ∧ w' = w := h.mono fun _ _ h => ⟨h.1, h.2.symm⟩
def usdL (L : Int) (U : List Int) : List Int := U.map (fun u => L - u)
theorem usdL_len (L : Int) (U : List Int) : (usdL L U).length = U.length := by unfold usdL; simp
theorem usd_at (L : Int) (U : List Int) (j : Nat) (hj : j < U.length) : ((usdL L U).map encI)[j]? = some (.int .i64 (L - U.getD j 0)) := by
  unfold usdL
  rw [List.getElem?_map, List.getElem?_map, List.getD_eq_getElem?_getD, List.getElem?_eq_getElem hj]; rfl
theorem usd_set (L W : Int) (U : List Int) (j : Nat) (a z : Int) (hj : j < U.length) (hz : z = L - (leftK L W U j - a)) : ((usdL L U).map encI).set j (.int .i64 z) = (usdL L (cutU L W U j a)).map encI := by
  subst hz; unfold usdL cutU putU
  rw [if_pos hj, List.map_set, List.map_set]; rfl
theorem usd_new (L W : Int) (U : List Int) (a z : Int) (hz : z = L - (leftK L W U U.length - a)) : ((usdL L U ++ [0]).map encI).set U.length (.int .i64 z) = (usdL L (cutU L W U U.length a)).map encI := by
  subst hz; unfold usdL cutU putU
  rw [if_neg (by omega), List.map_append, List.map_append, List.map_append, List.set_append_right _ _ (by simp)]
  simp [encI]
theorem cutU_lenS (L W : Int) (U : List Int) (j : Nat) (a : Int) (hj : j < U.length) : (cutU L W U j a).length = U.length := by unfold cutU; rw [putU_len, if_pos hj]
theorem cutU_lenN (L W : Int) (U : List Int) (a : Int) : (cutU L W U U.length a).length = U.length + 1 := by unfold cutU; rw [putU_len, if_neg (by omega)]
set_option maxHeartbeats 12800000 in
theorem specFirstCuts_any (v : Value) (Z : List Rib) (L W : Int) (w : World) (hn : Z.length ≤ 1048576) (hv : RibsAt w v Z) : Calls Try.prog 28 #[v, .int .i64 L, .int .i64 W] w (RowNC (firV Z L W) (firN Z L W) (firC Z L W) w) := by
  obtain ⟨i0, hi, hz0, hz1, hz2⟩ := info_parts infoI
  have cA0 := l06Ask_any v Z L W w hn hv
  cases h1 : ribsB Z
  · have hr := Lib.hid (fir_bad (show firC Z L W = 1 by unfold firC; rw [h1]; rfl) (by decide))
    rw [show askC Z L W = 1 by unfold askC; rw [h1]; rfl] at cA0
    have cA := Lib.hid cA0
    clear cA0
    go_enter Try.func28, Try.ntmps28
    go_wp2_with (go_at_call 47; (with_reducible refine cA.out.mono ?_); rintro e w1 ⟨rfl, d1⟩)
    go_ret3
    exact rowNC_nil hr.out d1.below
  cases h2 : askB L W
  · have hr := Lib.hid (fir_bad (show firC Z L W = 2 by unfold firC; rw [h1, h2]; rfl) (by decide))
    rw [show askC Z L W = 2 by unfold askC; rw [h1, h2]; rfl] at cA0
    have cA := Lib.hid cA0
    clear cA0
    go_enter Try.func28, Try.ntmps28
    go_wp2_with (go_at_call 47; (with_reducible refine cA.out.mono ?_); rintro e w1 ⟨rfl, d1⟩)
    go_ret3
    exact rowNC_nil hr.out d1.below
  have h2' : (inB L 1 100000 && inB W 0 100) = true := h2
  have h8 := ribs_8 h1
  rw [show askC Z L W = 0 by unfold askC; rw [h1, h2]; rfl] at cA0
  have cA := Lib.hid cA0
  have hv0 := Lib.hid hv
  clear cA0 hv
  have cS0 := fun W1 (hb : Below w.heap.size w W1) => l06Short_any v Z L W1 (by omega) (hv0.out.below hb)
  cases h3 : allK (lngS Z L) Z.length
  · have hr := Lib.hid (fir_bad (show firC Z L W = 6 by unfold firC; rw [h1, h2, h3]; rfl) (by decide))
    rw [show shortC Z L = 6 by unfold shortC; rw [h3]; rfl] at cS0
    have cS := Lib.hid cS0
    clear cS0
    go_enter Try.func28, Try.ntmps28
    go_wp2_with (first
      | (go_at_call 47; (with_reducible refine cA.out.mono ?_); rintro e w1 ⟨rfl, d1⟩)
      | (go_at_call 48; (with_reducible refine (cS.out _ d1.below).mono ?_); rintro e w2 ⟨rfl, d2⟩))
    go_ret3
    exact rowNC_nil hr.out (d1.trans d2).below
  rw [show shortC Z L = 0 by unfold shortC; rw [h3]; rfl] at cS0
  have cS := Lib.hid cS0
  clear cS0
  have hr := Lib.hid (fir_good (show firC Z L W = 0 by unfold firC; rw [h1, h2, h3]; rfl))
  have hLW : (1 ≤ L ∧ L ≤ 100000) ∧ (0 ≤ W ∧ W ≤ 100) := by rw [Bool.and_eq_true, inB_iff, inB_iff] at h2'; exact h2'
  have hin := Lib.hid (cutsS_in h1 hLW.2.1 h3)
  have hfit := Lib.hid (fun k (hk : k < Z.length) => show Z[k].len ≤ L by have := of_decide_eq_true ((allK_iff _ _).1 h3 k hk); rwa [rib_getD_at' hk] at this)
  have hmem := Lib.hid (fun k (hk : k < Z.length) => ribs_mem h1 (List.getElem_mem hk))
  obtain ⟨pa, cap, rfl, hcap, _, hread⟩ := hv0.out
  have hread' := Lib.hid hread
  clear hread hv0
  go_enter Try.func28, Try.ntmps28
  go_wp2_with (first
      | (go_at_call 47; (with_reducible refine cA.out.mono ?_); rintro e w1 ⟨rfl, d1⟩)
      | (go_at_call 48; (with_reducible refine (cS.out _ d1.below).mono ?_); rintro e w2 ⟨rfl, d2⟩))
  have dd := (d1.trans d2).below
  have hzz : w.heap.size ≤ w2.heap.size := dd.size
  have hb1 : Below w.heap.size w (w2.alloc (.cells #[] 2)) := dd.alloc dd.size _
  have o1 := own_low (rowI_start w2) hzz
  have e1 : (w2.alloc (.cells #[] 2)).heap.size = w2.heap.size + 1 := by simp
  have o2 := own_low (rowI_start (w2.alloc (.cells #[] 2))) hb1.size
  rw [e1] at o2
  have o1' := Lib.hid (o1.alloc (.cells #[] 2))
  have o2' := Lib.hid o2
  have hb2 := Lib.hid (hb1.alloc hb1.size (.cells #[] 2))
  have hz2w : w2.heap.size + 1 < ((w2.alloc (.cells #[] 2)).alloc (.cells #[] 2)).heap.size := by simp
  clear d1 d2 dd hb1 o1 o2 e1
  generalize (w2.alloc (.cells #[] 2)).alloc (.cells #[] 2) = W0 at o1' o2' hb2 hz2w ⊢
  generalize w2.heap.size = g0 at o1' o2' hzz hz2w ⊢
  go_loopw [10, 11, 12] (fun x y i wr => ∃ (k g10 c10 g11 c11 : Nat), k ≤ Z.length ∧ i = .int .i64 k ∧ x = .slice (some ⟨g10, 0, none⟩) k c10 ∧ y = .slice (some ⟨g11, 0, none⟩) (cutsS L W Z k).1.length c11 ∧ g10 ≠ g11 ∧ g10 < wr.heap.size ∧ g11 < wr.heap.size ∧ Hid (wr.ownsRow w.heap.size 2 1 (.slice (some ⟨g10, 0, none⟩) k c10) k ((cutsS L W Z k).2.map encI)) ∧ Hid (wr.ownsRow w.heap.size 2 1 (.slice (some ⟨g11, 0, none⟩) (cutsS L W Z k).1.length c11) (cutsS L W Z k).1.length ((usdL L (cutsS L W Z k).1).map encI)) ∧ Hid (Below w.heap.size w wr)) (fun _ _ i _ => Z.length - (intOf i).toNat)
  case atStart => exact ⟨0, g0, 0, g0 + 1, 0, by omega, rfl, rfl, rfl, by omega, by omega, by omega, o1', o2', hb2⟩
  case round =>
    obtain ⟨k, g10, c10, g11, c11, hk, rfl, rfl, rfl, hgg, hl10, hl11, ho10, ho11, hbel⟩ := hrel
    by_cases hlt : k < Z.length
    · rcases hread'.out with h | ⟨g, o, rfl, hg, hc⟩
      · subst h; simp at hlt
      have hltI : (k : Int) < (Z.length : Int) := by omega
      obtain ⟨i1, i2, i3, _⟩ := hin.out k (by omega)
      have hfk := hfit.out k hlt
      have hxm := (hmem.out k hlt).1
      obtain ⟨a, ha⟩ : ∃ a, a = Z[k].len := ⟨_, rfl⟩
      have hcl := Lib.hid (fun W1 (hb : Below w.heap.size w W1) => (ribAt_of (range_below (hc k hlt) hg hb)).2.1)
      have hstep1 : Hid ((cutsS L W Z (k + 1)).1 = cutU L W (cutsS L W Z k).1 (firstK L W (cutsS L W Z k).1 a) a ∧ (cutsS L W Z (k + 1)).2 = (cutsS L W Z k).2 ++ [((firstK L W (cutsS L W Z k).1 a : Nat) : Int)]) := Lib.hid (by
        rw [ha]
        have e : Z.getD k rib0 = Z[k] := rib_getD_at' hlt
        constructor
        · show cutU L W _ _ _ = _; rw [e]
        · show _ ++ _ = _; rw [e])
      rw [← ha] at hfk hxm hcl
      have hUl : Hid ((cutsS L W Z k).1.length ≤ k) := Lib.hid i2
      obtain ⟨U, hU⟩ : ∃ U, U = (cutsS L W Z k).1 := ⟨_, rfl⟩
      obtain ⟨G, hG⟩ : ∃ G, G = (cutsS L W Z k).2 := ⟨_, rfl⟩
      rw [← hU] at i1 i2 hstep1 ho11 ⊢
      rw [← hG] at i3 ho10 hstep1
      have hUV := Lib.hid i1
      have hBz := hbel.out.size
      clear ha hc hU hG i1 hUl
      go_wp2
      go_loopw [13] (fun q wq => ∃ (j d : Nat), j ≤ U.length ∧ q = .int .i64 j ∧ Hid (allK (nofS L W U a) j = true) ∧ wq = wr.drewN d) (fun q _ => U.length - (intOf q).toNat)
      case atStart => exact ⟨0, 0, by omega, rfl, Lib.hid rfl, rfl⟩
      case round =>
        obtain ⟨j, d, hj, rfl, hall, rfl⟩ := hrel
        have c1 := hcl.out wr hbel.out
        have hkx : k < Z.length := hlt
        have h8k : k ≤ 8 := by omega
        by_cases hju : j < U.length
        · have hjI : (j : Int) < (U.length : Int) := by omega
          have hjn : ((j : Int) == (U.length : Int)) = false := beq_eq_false_iff_ne.2 (by omega)
          have cu := (ho11.out.cellAt j (by omega)).trans (usd_at L U j hju)
          have hub := getV hUV.out hju
          have hlf : leftK L W U j = U.getD j 0 - W := by unfold leftK; rw [if_pos hju]
          have hfv : fitsK L W U j a = decide (a ≤ U.getD j 0 - W) := by unfold fitsK; rw [hlf]
          have hset := Lib.hid (fun z hz => usd_set L W U j a z hju (by rw [hlf]; exact hz))
          obtain ⟨x, hx⟩ : ∃ x, x = U.getD j 0 := ⟨_, rfl⟩
          rw [← hx] at cu hub hfv hset
          clear hx hlf
          by_cases hf : a ≤ x - W
          · have hfk2 : fitsK L W U j a = true := by rw [hfv, decide_eq_true hf]
            have hjj : firstK L W U a = j := firstK_eq hall.out hj hfk2
            rw [hjj] at hstep1
            have hu0 : (L - x == 0) = false := beq_eq_false_iff_ne.2 (by omega)
            have cT : takeV (L - x) a W = a + W := by unfold takeV; rw [if_neg (by omega)]
            have cTk0 := fun W1 => l06Take_any (L - x) a W (by omega) (by omega) W1
            rw [cT] at cTk0
            have cTk := Lib.hid cTk0
            have hlen2 := Lib.hid (cutU_lenS L W U j a hju)
            clear hfv hfk2 hjj cT cTk0 hu0
            go_wp2
            go_quiet (fail)
            go_wp2
            have p10 := Lib.hid (own_kept ho10.out (belowN (Below.refl _ _) (d + nq)))
            have p11 := Lib.hid (own_kept ho11.out (belowN (Below.refl _ _) (d + nq)))
            have pb := Lib.hid (belowN hbel.out (d + nq))
            have pl0 : g10 < (wr.drewN (d + nq)).heap.size := hl10
            have pl1 : g11 < (wr.drewN (d + nq)).heap.size := hl11
            have pcu : (wr.drewN (d + nq)).cell? ⟨g11, j, none⟩ = some (.int .i64 (L - x)) := cu
            have pc1 : (wr.drewN (d + nq)).cell? ⟨g, o + k * 3 + 1, none⟩ = some (.int .i64 a) := c1
            clear c1 cu
            generalize wr.drewN (d + nq) = WZ at p10 p11 pb pl0 pl1 pcu pc1 ⊢
            have c1 := pc1
            clear pc1
            go_still_tail 17, (by kernel_rfl)
            still_call (SsF (cTk.out _))
            repeat still_step
            try refine wpStill_nil ?_
            change wpList _ _ _ _ _ WZ.drew
            have q10 : WZ.drew.ownsRow w.heap.size 2 1 (.slice (some ⟨g10, 0, none⟩) k c10) k (G.map encI) := own_kept p10.out (belowN (Below.refl _ _) 1)
            have q11 : WZ.drew.ownsRow w.heap.size 2 1 (.slice (some ⟨g11, 0, none⟩) U.length c11) U.length ((usdL L U).map encI) := own_kept p11.out (belowN (Below.refl _ _) 1)
            have qb : Below w.heap.size w WZ.drew := belowN pb.out 1
            have ql0 : g10 < WZ.drew.heap.size := pl0
            have ql1 : g11 < WZ.drew.heap.size := pl1
            have hco := pcu
            have hfo := q11.frozenAt j
            clear c1 pcu
            have hco : WZ.drew.cell? ⟨g11, j, none⟩ = some (.int .i64 (L - x)) := hco
            generalize WZ.drew = W1 at q10 q11 qb ql0 ql1 hco hfo ⊢
            obtain ⟨z, hz⟩ : ∃ z, z = (L - x) + (a + W) := ⟨_, rfl⟩
            rw [← hz, show IntKind.i64.wrap z = z from IntWalk.i64_in _ (by omega)]
            have hst := q11.stored j (.int .i64 z)
            rw [hset.out z (by omega)] at hst
            have e10 := q10.kept hst.2 (Or.inr (show (Value.slice (some ⟨g10, 0, none⟩) k c10).ownBlock ≠ some g11 from fun e => hgg (by simpa [Value.ownBlock] using e)))
            have eb := qb.grown hst.2 qb.size (fun k hk => by cases hk; exact (q11.lt g11 rfl).1)
            have hst1 := Lib.hid hst.1
            have es : W1.heap.size = (W1.setCell ⟨g11, j, none⟩ (.int .i64 z)).heap.size := by simp
            clear hz hst q10 q11
            go_wp2_with fail
            generalize W1.setCell ⟨g11, j, none⟩ (.int .i64 z) = W2 at hst1 e10 eb es ⊢
            have hWz := eb.size
            clear qb hco hfo
            go_wp2_with (at_builtin; refine wpList_append_lies _ rfl _ _ 31 rfl w.heap.size 2 i0 (.int .i64 0) 1 8 Try.underlying31 hi hz0 hz1 hz2 rfl (by decide) _ _ _ rfl (e10.alloc _) ⟨W2.heap.size, 0, none⟩ 1 1 [.int .i64 j] rfl rfl ?c1Q ?c2Q (by decide) ?c3Q ?c4Q ?c5Q (W2.heap.size + 1) ?c6Q ?_)
            all_goals try (case c1Q => (intro j u hj; match j, hj with | 0, hj => (simp at hj; subst hj; simp [Addr.add])))
            all_goals try (case c2Q => (intro u hu; simp at hu; subst hu; rfl))
            all_goals try (case c2Q => rfl)
            case c3Q => unfold maxLen; omega
            case c4Q => omega
            case c5Q => simp; omega
            case c6Q => simp
            intro gN cN w3 hown3 hgrow3 hgN hltN
            have hGs : W2.heap.size + 1 ≤ w3.heap.size := by have := hgrow3.size; simp at this; omega
            have hne2 : gN ≠ g11 := by
              rcases hgN with e | e
              · have e : g10 = gN := by simpa [Value.ownBlock] using e
                rw [← e]; exact hgg
              · omega
            have f10 := Lib.hid hown3
            have f11 := Lib.hid ((hst1.out.alloc (.cells #[.int .i64 (j : Nat)] 2)).kept hgrow3 (Or.inr (show (Value.slice (some ⟨g11, 0, none⟩) U.length c11).ownBlock ≠ (Value.slice (some ⟨g10, 0, none⟩) k c10).ownBlock from fun e => hgg (by simpa [Value.ownBlock] using e.symm))))
            have fb := Lib.hid ((eb.alloc eb.size (.cells #[.int .i64 (j : Nat)] 2)).grown hgrow3 (by simp; omega) (fun j hj => e10.own_ge j hj))
            clear hown3 hgrow3 hgN e10 eb hst1
            go_wp2
            go_roundw
            case rel => exact ⟨k + 1, gN, cN, g11, c11, by omega, by go_num, rfl, by rw [hstep1.out.1, hlen2.out], hne2, hltN, by omega, Lib.hid (by rw [hstep1.out.2, List.map_append, List.map_singleton]; exact f10.out), Lib.hid (by rw [hstep1.out.1, hlen2.out]; exact f11.out), fb⟩
            case measure => simp [intOf]; omega
          · have hfk2 : fitsK L W U j a = false := by rw [hfv, decide_eq_false hf]
            have hall2 : Hid (allK (nofS L W U a) (j + 1) = true) := Lib.hid (allK_yes hall.out (by unfold nofS; rw [hfk2]; rfl))
            clear hfv hfk2 hset
            go_wp2
            go_quiet (fail)
            go_wp2
            go_roundw
            case rel => exact ⟨j + 1, _, by omega, by go_num, hall2, rfl⟩
            case measure => simp [intOf]; omega
        · obtain rfl : j = U.length := by omega
          have hjj : firstK L W U a = U.length := firstK_eq hall.out hj (fits_last hfk)
          rw [hjj] at hstep1
          have hjn : ((U.length : Int) == (U.length : Int)) = true := beq_self_eq_true _
          have hset := Lib.hid (fun (z : Int) (hz : z = a) => usd_new L W U a z (by rw [hz]; unfold leftK; rw [if_neg (by omega)]; omega))
          have hlen2 := Lib.hid (cutU_lenN L W U a)
          have cT : takeV 0 a W = a := by unfold takeV; rw [if_pos rfl]
          have cTk0 := fun W1 => l06Take_any 0 a W (by omega) (by omega) W1
          rw [cT] at cTk0
          have cTk := Lib.hid cTk0
          clear hjj cT cTk0
          go_wp2
          go_quiet (fail)
          have p10 := Lib.hid (own_kept ho10.out (belowN (belowN (Below.refl _ _) d) nq))
          have p11 := own_kept ho11.out (belowN (belowN (Below.refl _ _) d) nq)
          have pb := Lib.hid (belowN (belowN hbel.out d) nq)
          have pl0 : g10 < ((wr.drewN d).drewN nq).heap.size := hl10
          have pl1 : g11 < ((wr.drewN d).drewN nq).heap.size := hl11
          generalize (wr.drewN d).drewN nq = WY at p10 p11 pb pl0 pl1 ⊢
          have hWz := pb.out.size
          go_wp2_with (at_builtin; refine wpList_append_lies _ rfl _ _ 31 rfl w.heap.size 2 i0 (.int .i64 0) 1 8 Try.underlying31 hi hz0 hz1 hz2 rfl (by decide) _ _ _ rfl (p11.alloc _) ⟨WY.heap.size, 0, none⟩ 1 1 [.int .i64 0] rfl rfl ?c1P ?c2P (by decide) ?c3P ?c4P ?c5P (WY.heap.size + 1) ?c6P ?_)
          all_goals try (case c1P => (intro j u hj; match j, hj with | 0, hj => (simp at hj; subst hj; simp [Addr.add])))
          all_goals try (case c2P => (intro u hu; simp at hu; subst hu; rfl))
          all_goals try (case c2P => rfl)
          case c3P => unfold maxLen; omega
          case c4P => omega
          case c5P => simp; omega
          case c6P => simp
          intro gM cM WZ hown3 hgrow3 hgM hltM
          have hGs : WY.heap.size + 1 ≤ WZ.heap.size := by have := hgrow3.size; simp at this; omega
          have hne1 : g10 ≠ gM := by
            rcases hgM with e | e
            · have e : g11 = gM := by simpa [Value.ownBlock] using e
              rw [← e]; exact hgg
            · omega
          have pb2 := (pb.out.alloc hWz (.cells #[.int .i64 0] 2)).grown hgrow3 (by simp; omega) (fun j hj => p11.own_ge j hj)
          have r10 := Lib.hid ((p10.out.alloc (.cells #[.int .i64 0] 2)).kept hgrow3 (Or.inr (show (Value.slice (some ⟨g10, 0, none⟩) k c10).ownBlock ≠ (Value.slice (some ⟨g11, 0, none⟩) U.length c11).ownBlock from fun e => hgg (by simpa [Value.ownBlock] using e))))
          have hxs : (usdL L U).map encI ++ [.int .i64 0] = (usdL L U ++ [0]).map encI := by rw [List.map_append]; rfl
          rw [hxs] at hown3
          have pcu : WZ.cell? ⟨gM, U.length, none⟩ = some (.int .i64 0) := (hown3.cellAt U.length (by omega)).trans (by rw [List.getElem?_map, List.getElem?_append_right (by rw [usdL_len]; exact Nat.le_refl _), usdL_len, Nat.sub_self]; rfl)
          have pl0b : g10 < WZ.heap.size := by omega
          clear p10 pb pl0 hxs
          have p10 := r10
          have p11 := Lib.hid hown3
          have pb := Lib.hid pb2
          have pl0 := pl0b
          have pl1 : gM < WZ.heap.size := hltM
          have c1 := hcl.out WZ pb2
          have hjI : (U.length : Int) < (U.length : Int) + 1 := by omega
          clear r10 hown3 hgrow3 hgM pb2
          go_wp2
          go_still_tail 17, (by kernel_rfl)
          still_call (SsF (cTk.out _))
          repeat still_step
          try refine wpStill_nil ?_
          change wpList _ _ _ _ _ WZ.drew
          have q10 : WZ.drew.ownsRow w.heap.size 2 1 (.slice (some ⟨g10, 0, none⟩) k c10) k (G.map encI) := own_kept p10.out (belowN (Below.refl _ _) 1)
          have q11 : WZ.drew.ownsRow w.heap.size 2 1 (.slice (some ⟨gM, 0, none⟩) (U.length + 1) cM) (U.length + 1) ((usdL L U ++ [0]).map encI) := own_kept p11.out (belowN (Below.refl _ _) 1)
          have qb : Below w.heap.size w WZ.drew := belowN pb.out 1
          have ql0 : g10 < WZ.drew.heap.size := pl0
          have ql1 : gM < WZ.drew.heap.size := pl1
          have hco := pcu
          have hfo := q11.frozenAt U.length
          clear c1 pcu
          have hco : WZ.drew.cell? ⟨gM, U.length, none⟩ = some (.int .i64 0) := hco
          generalize WZ.drew = W1 at q10 q11 qb ql0 ql1 hco hfo ⊢
          try rw [show IntKind.i64.wrap a = a from IntWalk.i64_in _ (by omega)]
          obtain ⟨z, hz⟩ : ∃ z, z = a := ⟨_, rfl⟩
          subst hz
          have hst := q11.stored U.length (.int .i64 z)
          rw [hset.out z (by omega)] at hst
          have e10 := q10.kept hst.2 (Or.inr (show (Value.slice (some ⟨g10, 0, none⟩) k c10).ownBlock ≠ some gM from fun e => hne1 (by simpa [Value.ownBlock] using e)))
          have eb := qb.grown hst.2 qb.size (fun k hk => by cases hk; exact (q11.lt gM rfl).1)
          have hst1 := Lib.hid hst.1
          have es : W1.heap.size = (W1.setCell ⟨gM, U.length, none⟩ (.int .i64 z)).heap.size := by simp
          clear hst q10 q11
          go_wp2_with fail
          generalize W1.setCell ⟨gM, U.length, none⟩ (.int .i64 z) = W2 at hst1 e10 eb es ⊢
          have hWz := eb.size
          clear qb hco hfo
          go_wp2_with (at_builtin; refine wpList_append_lies _ rfl _ _ 31 rfl w.heap.size 2 i0 (.int .i64 0) 1 8 Try.underlying31 hi hz0 hz1 hz2 rfl (by decide) _ _ _ rfl (e10.alloc _) ⟨W2.heap.size, 0, none⟩ 1 1 [.int .i64 U.length] rfl rfl ?c1Q ?c2Q (by decide) ?c3Q ?c4Q ?c5Q (W2.heap.size + 1) ?c6Q ?_)
          all_goals try (case c1Q => (intro j u hj; match j, hj with | 0, hj => (simp at hj; subst hj; simp [Addr.add])))
          all_goals try (case c2Q => (intro u hu; simp at hu; subst hu; rfl))
          all_goals try (case c2Q => rfl)
          case c3Q => unfold maxLen; omega
          case c4Q => omega
          case c5Q => simp; omega
          case c6Q => simp
          intro gN cN w3 hown3 hgrow3 hgN hltN
          have hGs : W2.heap.size + 1 ≤ w3.heap.size := by have := hgrow3.size; simp at this; omega
          have hne2 : gN ≠ gM := by
            rcases hgN with e | e
            · have e : g10 = gN := by simpa [Value.ownBlock] using e
              rw [← e]; exact hne1
            · omega
          have f10 := Lib.hid hown3
          have f11 := Lib.hid ((hst1.out.alloc (.cells #[.int .i64 (U.length : Nat)] 2)).kept hgrow3 (Or.inr (show (Value.slice (some ⟨gM, 0, none⟩) (U.length + 1) cM).ownBlock ≠ (Value.slice (some ⟨g10, 0, none⟩) k c10).ownBlock from fun e => hne1 (by simpa [Value.ownBlock] using e.symm))))
          have fb := Lib.hid ((eb.alloc eb.size (.cells #[.int .i64 (U.length : Nat)] 2)).grown hgrow3 (by simp; omega) (fun j hj => e10.own_ge j hj))
          clear hown3 hgrow3 hgN e10 eb hst1
          go_wp2
          go_roundw
          case rel => exact ⟨k + 1, gN, cN, gM, cM, by omega, by go_num, rfl, by rw [hstep1.out.1, hlen2.out], hne2, hltN, by omega, Lib.hid (by rw [hstep1.out.2, List.map_append, List.map_singleton]; exact f10.out), Lib.hid (by rw [hstep1.out.1, hlen2.out]; exact f11.out), fb⟩
          case measure => simp [intOf]; omega
    · have hkl : k = Z.length := by omega
      subst hkl
      go_wp2
      go_ret3
      exact rowNC_mk ⟨hr.out.1, hr.out.2.1, hr.out.2.2⟩ (Nat.le_refl _) (by have := ho10.out; have h3 := (hin.out Z.length (Nat.le_refl _)).2.2.1; rw [h3]; exact this) hbel.out
end Go.Proofs.Ytgbjdjkmmmgnnaa
