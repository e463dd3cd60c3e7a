/-
  What is left of strips that were given: the program's contract.
-/
import Derived.Test.YtgbjdjkmmmgnnaaSl
import Derived.BigQuiet
import Derived.Deep.QuietTactic
import Derived.Deep.RegionHeld3
import Derived.Deep.AppendLies
namespace Go.Proofs.Ytgbjdjkmmmgnnaa
open Go.ChangeShapes Go.WideShapes Go.ChangeAt Go.RowKit Go.Deep
set_option linter.unusedVariables false
set_option linter.unusedSimpArgs false
set_option maxRecDepth 1000000
set_option maxHeartbeats 12800000 in
theorem implStripsLeft_any (v gv : Value) (Z : List Rib) (G : List Int) (L W : Int) (w : World) (hn : Z.length ≤ 1048576) (hnG : G.length ≤ 1048576) (hv : RibsAt w v Z) (hg : IntsAt w gv G) : Calls Try.prog 32 #[v, gv, .int .i64 L, .int .i64 W] w (RowC (slV Z G L W) (slC Z G L W) w) := by
  obtain ⟨i0, hi, hz0, hz1, hz2⟩ := info_parts infoI
  have hv0 := Lib.hid hv
  have hg0 := Lib.hid hg
  obtain ⟨pa, cap, rfl, hcap, _, hread⟩ := hv
  obtain ⟨ga, gcap, rfl, hgcap, hgz, hgread⟩ := hg
  have hread' := Lib.hid hread
  have hgread' := Lib.hid hgread
  clear hread hgread
  cases h1 : ribsB Z
  · have hr := Lib.hid (sl_bad (show slC Z G L W = 1 by unfold slC; rw [h1]; rfl) (by decide))
    go_enter Try.func32, Try.ntmps32
    go_wp2_with (first
      | (go_at_call 50; (with_reducible refine (newStrips_any _ _ _).mono ?_); rintro e w0 ⟨rfl, s0, b0⟩; have cV := Lib.hid (implValidRibs_any (.slice pa Z.length cap) Z w0 hn (hv0.out.below b0)); rw [h1] at cV)
      | (go_at_call 13; (with_reducible refine cV.out.mono ?_); rintro e w1 ⟨rfl, b1⟩; have s1 := s0.below b1; have B1 := below2 b0 b1; have cA := Lib.hid (areAsStated_any _ _ _ _ _ _ _ w1 s1)))
    go_ret2
    exact rowC_nil hr.out.1 hr.out.2 B1
  cases h2 : askB L W
  · have hr := Lib.hid (sl_bad (show slC Z G L W = 2 by unfold slC; rw [h1, h2]; rfl) (by decide))
    have h2' : (inB L 1 100000 && inB W 0 100) = false := h2
    go_enter Try.func32, Try.ntmps32
    go_wp2_with (first
      | (go_at_call 50; (with_reducible refine (newStrips_any _ _ _).mono ?_); rintro e w0 ⟨rfl, s0, b0⟩; have cV := Lib.hid (implValidRibs_any (.slice pa Z.length cap) Z w0 hn (hv0.out.below b0)); rw [h1] at cV)
      | (go_at_call 13; (with_reducible refine cV.out.mono ?_); rintro e w1 ⟨rfl, b1⟩; have s1 := s0.below b1; have B1 := below2 b0 b1; have cA := Lib.hid (areAsStated_any _ _ _ _ _ _ _ w1 s1))
      | (go_at_call 51; (with_reducible refine cA.out.mono ?_); rintro e _ ⟨rfl, rfl⟩))
    go_ret2
    exact rowC_nil hr.out.1 hr.out.2 B1
  have h2' : (inB L 1 100000 && inB W 0 100) = true := h2
  have h8 := ribs_8 h1
  by_cases h3 : G.length = Z.length
  rotate_left
  · have hr := Lib.hid (sl_bad (show slC Z G L W = 7 by unfold slC; rw [h1, h2, if_pos rfl, if_pos rfl, if_neg h3]) (by decide))
    have t0 : ((G.length : Int) == (Z.length : Int)) = false := beq_eq_false_iff_ne.2 (by omega)
    have u0 : ((G.length : Int) != (Z.length : Int)) = true := by unfold bne; rw [t0]; rfl
    clear h3
    go_enter Try.func32, Try.ntmps32
    go_wp2_with (first
      | (go_at_call 50; (with_reducible refine (newStrips_any _ _ _).mono ?_); rintro e w0 ⟨rfl, s0, b0⟩; have cV := Lib.hid (implValidRibs_any (.slice pa Z.length cap) Z w0 hn (hv0.out.below b0)); rw [h1] at cV)
      | (go_at_call 13; (with_reducible refine cV.out.mono ?_); rintro e w1 ⟨rfl, b1⟩; have s1 := s0.below b1; have B1 := below2 b0 b1; have cA := Lib.hid (areAsStated_any _ _ _ _ _ _ _ w1 s1))
      | (go_at_call 51; (with_reducible refine cA.out.mono ?_); rintro e _ ⟨rfl, rfl⟩))
    go_ret2
    exact rowC_nil hr.out.1 hr.out.2 B1
  have t0 : ((G.length : Int) == (Z.length : Int)) = true := by rw [h3]; exact beq_self_eq_true _
  have u0 : ((G.length : Int) != (Z.length : Int)) = false := by unfold bne; rw [t0]; rfl
  have h3' := Lib.hid h3
  have hG8 : G.length ≤ 8 := by omega
  have hoe : allK (ordS G) G.length = allK (ordS G) Z.length := by rw [h3]
  cases h4 : allK (ordS G) Z.length
  · have hr := Lib.hid (sl_bad (show slC Z G L W = 7 by unfold slC; rw [h1, h2, if_pos rfl, if_pos rfl, if_pos h3, h4]; rfl) (by decide))
    have h4' : allK (ordS G) G.length = false := by rw [hoe, h4]
    clear h3 hoe
    go_enter Try.func32, Try.ntmps32
    go_wp2_with (first
      | (go_at_call 50; (with_reducible refine (newStrips_any _ _ _).mono ?_); rintro e w0 ⟨rfl, s0, b0⟩; have cV := Lib.hid (implValidRibs_any (.slice pa Z.length cap) Z w0 hn (hv0.out.below b0)); rw [h1] at cV)
      | (go_at_call 13; (with_reducible refine cV.out.mono ?_); rintro e w1 ⟨rfl, b1⟩; have s1 := s0.below b1; have B1 := below2 b0 b1; have cA := Lib.hid (areAsStated_any _ _ _ _ _ _ _ w1 s1))
      | (go_at_call 51; (with_reducible refine cA.out.mono ?_); rintro e _ ⟨rfl, rfl⟩)
      | (go_at_call 56; (with_reducible refine (inOrder_any _ G _ (by omega) (hg0.out.below B1)).mono ?_); rintro e _ ⟨rfl, rfl⟩))
    go_ret2
    exact rowC_nil hr.out.1 hr.out.2 B1
  have h4' : allK (ordS G) G.length = true := by rw [hoe, h4]
  have hC : Hid (slC Z G L W = if allK (fitS L W Z G) Z.length = true then 0 else 6) := Lib.hid (by unfold slC; rw [h1, h2, if_pos rfl, if_pos rfl, if_pos h3, h4, if_pos rfl])
  have hLW : (1 ≤ L ∧ L ≤ 100000) ∧ (0 ≤ W ∧ W ≤ 100) := by rw [Bool.and_eq_true, inB_iff, inB_iff] at h2'; exact h2'
  have hin := Lib.hid (slU_in (G := G) h1 hLW.1.1 hLW.2)
  have hlen := Lib.hid (fun k (hk : k ≤ Z.length) => slU_len (L := L) (W := W) (Z := Z) k (ord_sub h4 hk))
  have hord := Lib.hid (fun k (hk : k < Z.length) => ord_le h4 hk)
  have hmem := Lib.hid (fun k (hk : k < Z.length) => ribs_mem h1 (List.getElem_mem hk))
  clear h3 hoe
  go_enter Try.func32, Try.ntmps32
  go_wp2_with (first
      | (go_at_call 50; (with_reducible refine (newStrips_any _ _ _).mono ?_); rintro e w0 ⟨rfl, s0, b0⟩; have cV := Lib.hid (implValidRibs_any (.slice pa Z.length cap) Z w0 hn (hv0.out.below b0)); rw [h1] at cV)
      | (go_at_call 13; (with_reducible refine cV.out.mono ?_); rintro e w1 ⟨rfl, b1⟩; have s1 := s0.below b1; have B1 := below2 b0 b1; have cA := Lib.hid (areAsStated_any _ _ _ _ _ _ _ w1 s1))
      | (go_at_call 51; (with_reducible refine cA.out.mono ?_); rintro e _ ⟨rfl, rfl⟩)
      | (go_at_call 56; (with_reducible refine (inOrder_any _ G _ (by omega) (hg0.out.below B1)).mono ?_); rintro e _ ⟨rfl, rfl⟩))
  have hs2 := Lib.hid s1
  have hB2 := Lib.hid B1
  have hzz : w.heap.size ≤ w1.heap.size := B1.size
  clear s0 b0 s1 b1 B1 cV cA
  generalize hp : w.heap.size + 1 = p at hs2 ⊢
  generalize hm : w.heap.size = B at hs2 hzz hp ⊢
  have hB' := Lib.hid hm
  clear hm
  go_loopw [39] (fun i wr => ∃ k : Nat, k ≤ Z.length ∧ i = .int .i64 k ∧ Hid (allK (fitS L W Z G) k = true) ∧ Hid (StripAt B wr p B L W (slU L W Z G k) (gvS G k)) ∧ B ≤ wr.heap.size ∧ Hid (Below w.heap.size w wr)) (fun i _ => Z.length - (intOf i).toNat)
  case atStart => exact ⟨0, by omega, rfl, Lib.hid rfl, hs2, hzz, hB2⟩
  case round =>
    obtain ⟨k, hk, rfl, hall, hst, hBz, hbel⟩ := hrel
    by_cases hlt : k < Z.length
    · rcases hread'.out with h | ⟨g, o, rfl, hg, hc⟩
      · subst h; simp at hlt
      rcases hgread'.out with h | ⟨gg, oo, rfl, hgg, hgc⟩
      · have := h3'.out; subst h; simp at this; omega
      have hltI : (k : Int) < (Z.length : Int) := by omega
      have hlG : k < G.length := by have := h3'.out; omega
      have hltG : (k : Int) < (G.length : Int) := by omega
      obtain ⟨q1, q2⟩ := hord.out k hlt
      have hul := hlen.out k (by omega)
      have hun := usdN_le G k
      have hiU := Lib.hid (fun u hu => show -1000000 ≤ u ∧ u ≤ 1000000 by have := hin.out k (by omega) u hu; omega : inU (slU L W Z G k))
      have hxm := (hmem.out k hlt).1
      have hr0 := range_below (hc k hlt) hg hbel.out
      have hgk := (hbel.out.cell (p := ⟨gg, oo + k, none⟩) hgg).trans (hgc k hlG)
      have hfe : fitS L W Z G k = fitsK L W (slU L W Z G k) (G.getD k 0).toNat Z[k].len := by unfold fitS; rw [rib_getD_at' hlt]
      have hse : slU L W Z G (k + 1) = cutU L W (slU L W Z G k) (G.getD k 0).toNat Z[k].len := by rw [← rib_getD_at' hlt]; rfl
      have hge := gvS_succ G k
      rw [getD_getI hlG] at q1 q2 hfe hse hge
      obtain ⟨x, hx⟩ : ∃ x, x = Z[k] := ⟨_, rfl⟩
      obtain ⟨j, hj⟩ : ∃ j : Nat, j = G[k].toNat := ⟨_, rfl⟩
      rw [← q2, ← hj] at hgk
      rw [← hj] at q1 hfe hse hge
      rw [← hx] at hr0 hxm hfe hse
      obtain ⟨s, a, b⟩ := x
      simp only at hxm hfe hse
      have hr1 : wr.rangeAt g (o + k * 3) [.string s, .int .i64 a, .int .i64 b] := hr0
      obtain ⟨U, hU⟩ : ∃ U, U = slU L W Z G k := ⟨_, rfl⟩
      obtain ⟨V, hV⟩ : ∃ V, V = gvS G k := ⟨_, rfl⟩
      have hVl : V.length = k := by rw [hV, gvS_len]
      rw [← hU] at hst hiU hfe hse hul
      rw [← hV] at hst hge
      have hfe' := Lib.hid hfe
      have hse' := Lib.hid hse
      have hge' := Lib.hid hge
      have hrb := Lib.hid (rib_box s a b wr)
      have hsA := Lib.hid (hst.out.below (w' := wr.alloc (.cells #[.string s, .int .i64 a, .int .i64 b] 50)) ((Below.refl _ _).alloc (Nat.le_refl _) _))
      have hbA := Lib.hid (hbel.out.alloc hbel.out.size (.cells #[.string s, .int .i64 a, .int .i64 b] 50))
      have hzA : wr.heap.size < (wr.alloc (.cells #[.string s, .int .i64 a, .int .i64 b] 50)).heap.size := by simp
      have hgA : (wr.alloc (.cells #[.string s, .int .i64 a, .int .i64 b] 50)).cell? ⟨gg, oo + k, none⟩ = some (.int .i64 j) := (((Below.refl _ _).alloc (Nat.le_refl _) (.cells #[.string s, .int .i64 a, .int .i64 b] 50)).cell (p := ⟨gg, oo + k, none⟩) (Nat.lt_of_lt_of_le hgg hbel.out.size)).trans hgk
      clear hr0 hx hc hst hU hV q2 hj hfe hse hge hgc hgk
      go_wp2_with (refine wpList_load_mid rfl _ _ rfl g (o + k * 3) rfl _ _ hr1 Try.underlying50 rfl rfl ?_)
      generalize wr.alloc (.cells #[.string s, .int .i64 a, .int .i64 b] 50) = W0 at hrb hsA hbA hzA hgA ⊢
      generalize wr.heap.size = bx at hrb hzA hBz ⊢
      obtain ⟨x0, x1, x2⟩ := hrb.out
      simp only at x0 x1 x2
      go_still_tail 6, (by kernel_rfl)
      change wpList _ _ _ _ _ W0.drew
      have hsB := Lib.hid (hsA.out.below (belowN (Below.refl _ _) 1) : StripAt B W0.drew p B L W U V)
      have hbB : Hid (Below w.heap.size w W0.drew) := Lib.hid (belowN hbA.out 1)
      have hzB : B ≤ W0.drew.heap.size := by show B ≤ W0.heap.size; omega
      generalize W0.drew = W1 at hsB hbB hzB ⊢
      clear x0 x1 x2 hgA hsA hbA hrb
      cases hf : fitsK L W U j a
      · have cC := Lib.hid (cut_no B p B L W U V j s a b W1 hLW.1 hLW.2 hiU.out hxm (by omega) (by omega) (by omega) hzB hsB.out hf)
        have hr := Lib.hid (sl_bad (show slC Z G L W = 6 by rw [hC.out, allK_no (by rw [hfe'.out, hf]) hlt]; rfl) (by decide))
        go_wp2_with (go_at_call 53; (with_reducible refine cC.out.mono ?_); rintro e w4 ⟨rfl, s4, b4⟩)
        go_ret2
        exact rowC_nil hr.out.1 hr.out.2 (below2 hbB.out b4)
      · have cC := Lib.hid (cut_yes B p B L W U V j s a b W1 hLW.1 hLW.2 hiU.out hxm (by omega) (by omega) (by omega) hzB hsB.out hf)
        have hall2 : Hid (allK (fitS L W Z G) (k + 1) = true) := Lib.hid (allK_yes hall.out (by rw [hfe'.out, hf]))
        go_wp2_with (go_at_call 53; (with_reducible refine cC.out.mono ?_); rintro e w4 ⟨rfl, s4, b4⟩)
        go_roundw
        case rel => exact ⟨k + 1, by omega, by go_num, hall2, Lib.hid (by rw [hse'.out, hge'.out]; exact s4), by have := b4.size; omega, Lib.hid (hbB.out.trans (hB'.out ▸ b4))⟩
        case measure => simp [intOf]; omega
    · have hkl : k = Z.length := by omega
      have hr := Lib.hid (sl_good (show slC Z G L W = 0 by rw [hC.out, if_pos (hkl ▸ hall.out)]))
      have hUl := hlen.out k hk
      have hun := usdN_le G k
      obtain ⟨U, hU⟩ : ∃ U, U = slU L W Z G k := ⟨_, rfl⟩
      have hrU : Hid (slV Z G L W = U) := Lib.hid (by rw [hr.out.1, hU, hkl])
      rw [← hU] at hst hUl
      have hUl8 : U.length ≤ 8 := by omega
      clear hU hkl hUl hun
      go_wp2_with (first
      | (go_at_call 54; (with_reducible refine (used_any B p B L W _ _ wr hst.out).mono ?_); rintro e _ ⟨rfl, rfl⟩)
      | (at_make; refine wpList_make_full _ rfl _ _ 31 rfl wr.heap.size 2 i0 (.int .i64 0) 1 Try.underlying31 hi hz0 hz1 .i64 .i64 _ _ U.length rfl rfl rfl rfl ?b1 ?b2 ?b3 ?_))
      case b1 => rw [hz2]; omega
      case b2 => unfold maxLen; omega
      case b3 => exact Nat.le_refl _
      intro w5 hown hgr
      have hbe : Below wr.heap.size wr w5 := (Below.refl _ _).grown hgr (Nat.le_refl _) (fun k hk => by cases hk)
      have s5 := hst.out.below hbe
      have hpl := hst.out.lt
      obtain ⟨_, _, ⟨gvv, g1, _⟩, g3⟩ := s5
      have hml := hst.out.2.2.2.lt
      have c2 := Lib.hid (cellB g1 2 _ rfl)
      have g3' := Lib.hid g3
      have hb5 := Lib.hid (below2 hbel.out hbe)
      rw [toList_madeCells_one, ← fillI_zero] at hown
      generalize wr.heap.size = gx at hown hpl hml hBz ⊢
      clear g1 g3 hbe hgr
      go_wp2
      go_loopw [58] (fun i wr => ∃ k : Nat, k ≤ U.length ∧ i = .int .i64 k ∧ wr.ownsRow B 2 1 (.slice (some ⟨gx, 0, none⟩) U.length U.length) U.length (fillI U k) ∧ Hid (wr.cell? ⟨p, 2, none⟩ = some (.map (some B))) ∧ Hid (MapOf wr B U) ∧ Hid (Below w.heap.size w wr)) (fun i _ => U.length - (intOf i).toNat)
      case atStart => exact ⟨0, by omega, rfl, own_low hown hBz, c2, g3', hb5⟩
      case round =>
        obtain ⟨k, hk, rfl, ho, hc2, hmo, hbq⟩ := hrel
        by_cases hlt2 : k < U.length
        · have hltI2 : (k : Int) < (U.length : Int) := by omega
          have k2 := hc2.out
          have hlook := hmo.out.lookV (k := k) (by omega)
          rw [getD_getI hlt2] at hlook
          obtain ⟨z, hz⟩ : ∃ z, z = U[k] := ⟨_, rfl⟩
          rw [← hz] at hlook
          obtain ⟨old, hold⟩ : ∃ old, (fillI U k)[k]? = some old := ⟨_, List.getElem?_eq_getElem (by rw [fillI_len _ _ hk]; exact hlt2)⟩
          have hco := (ho.cellAt k (by omega)).trans hold
          have hfo := ho.frozenAt k
          have hst2 := ho.stored k (.int .i64 z)
          rw [hz, fillI_set U k hlt2, ← hz] at hst2
          have hst' := Lib.hid hst2
          have hgl := (ho.lt gx rfl).1
          have e2 : Hid ((wr.setCell ⟨gx, k, none⟩ (.int .i64 z)).cell? ⟨p, 2, none⟩ = some (.map (some B))) := Lib.hid ((World.cell?_setCell_other _ _ _ _ (by simp <;> omega)).trans k2)
          have e3 := Lib.hid (hmo.out.kept hst'.out.2 (fun e => by injection e; omega))
          have e4 := Lib.hid (hbq.out.grown hst'.out.2 hbq.out.size (fun j hj => by cases hj; exact Nat.le_trans (Nat.le_of_eq hB'.out) hgl))
          clear hz hst2 ho hold
          go_wp2
          go_roundw
          case rel => exact ⟨k + 1, by omega, by go_num, hst'.out.1, e2, e3, e4⟩
          case measure => simp [intOf]; omega
        · have hks : k = U.length := by omega
          have ho2 : Hid (wr.ownsRow B 2 1 (.slice (some ⟨gx, 0, none⟩) U.length U.length) U.length (U.map encI)) := Lib.hid (by have h2 := ho; rw [hks, fillI_all] at h2; exact h2)
          clear hks ho
          go_wp2
          go_ret2
          exact rowC_mk hrU.out hr.out.2 (Nat.le_of_eq hB'.out) ho2.out hbq.out
end Go.Proofs.Ytgbjdjkmmmgnnaa
