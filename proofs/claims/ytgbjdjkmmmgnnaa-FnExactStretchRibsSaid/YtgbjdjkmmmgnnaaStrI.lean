/-
  Ribs that are stretched: the program's contract.
-/
import Derived.Test.YtgbjdjkmmmgnnaaStr
import Derived.OwnWalk
namespace Go.Proofs.Ytgbjdjkmmmgnnaa
open Go.ChangeShapes Go.WideShapes Go.ChangeAt Go.RowKit Go.Deep
set_option linter.unusedVariables false
set_option linter.unusedSimpArgs false
set_option maxRecDepth 1000000
set_option maxHeartbeats 6400000 in
theorem implStretchRibs_any (v : Value) (Z : List Rib) (r : Int) (w : World) (hn : Z.length ≤ 1048576) (hv : RibsAt w v Z) : Calls Try.prog 26 #[v, .int .i64 r] w (RowRib (strV Z r) (strC Z r) w) := by
  have cV := Lib.hid (implValidRibs_any v Z w hn hv)
  cases h1 : ribsB Z
  · have hr := Lib.hid (str_bad (show strC Z r = 1 by unfold strC; rw [h1]; rfl) (by decide))
    rw [h1] at cV
    go_enter Try.func26, Try.ntmps26
    go_wp2_with (go_at_call 13; (with_reducible refine cV.out.mono ?_); rintro e w1 ⟨rfl, b1⟩)
    go_ret2
    exact rib_rowNil hr.out.1 hr.out.2 (b1)
  rw [h1] at cV
  cases h2 : inB r 0 100000
  · have hr := Lib.hid (str_bad (show strC Z r = 2 by unfold strC; rw [h1, h2]; rfl) (by decide))
    go_enter Try.func26, Try.ntmps26
    go_wp2_with (first
      | (go_at_call 13; (with_reducible refine cV.out.mono ?_); rintro e w1 ⟨rfl, b1⟩)
      | (go_at_call 46; refine (isRound_any _ _).mono ?_; rintro e w' ⟨rfl, rfl⟩))
    go_ret2
    exact rib_rowNil hr.out.1 hr.out.2 (b1)
  have hv0 := Lib.hid hv
  obtain ⟨p, cap, rfl, hcap, hids, hread⟩ := hv
  by_cases h0 : Z.length = 0
  · have hr := Lib.hid (str_bad (show strC Z r = 6 by unfold strC; rw [h1, h2, if_pos rfl, if_pos rfl, if_pos h0]) (by decide))
    clear hread
    rw [h0]
    rw [h0] at cV
    go_enter Try.func26, Try.ntmps26
    go_wp2_with (first
      | (go_at_call 13; (with_reducible refine cV.out.mono ?_); rintro e w1 ⟨rfl, b1⟩)
      | (go_at_call 46; refine (isRound_any _ _).mono ?_; rintro e w' ⟨rfl, rfl⟩))
    go_ret2
    exact rib_rowNil hr.out.1 hr.out.2 (b1)
  have hC : Hid (strC Z r = if ribsB (strL Z r) = true then 0 else 6) := Lib.hid (by unfold strC; rw [h1, h2, if_pos rfl, if_pos rfl, if_neg h0])
  rcases hread with h | ⟨g0, o, rfl, hg0, hc⟩
  · subst h; simp at h0
  obtain ⟨i0, hi, hz0, hz1, hz2⟩ := info_parts infoRib
  have hpos : 0 < Z.length := by omega
  have h8 := ribs_8 h1
  have hrb := inB_iff.1 h2
  have hval := Lib.hid h1
  have hids' := Lib.hid hids
  have hc' := Lib.hid hc
  have hlen0 : ((Z.length : Int) == 0) = false := beq_eq_false_iff_ne.2 (by omega)
  have hlb := left_bd h1 (r := r) hpos
  have hLb := lenS_ribs h1 Z.length (Nat.le_refl _)
  have cL := Lib.hid (fun W (hb : Below w.heap.size w W) => ribsLength_any (.slice (some ⟨g0, o, none⟩) Z.length cap) Z W (ribs_lens h1) (hv0.out.below hb))
  have cS := Lib.hid (fun W v (hv : RibsAt W v (ribsF Z (str1 Z r))) => ribsLength_any v _ W (str_lens h1 hrb) hv)
  have hq := Lib.hid (fun k (hk : k < Z.length) => str1_bd h1 hrb hk)
  have hst := Lib.hid (fun k (hk : k < Z.length) => show r * Z[k].len / lenS Z Z.length = str1 Z r k by unfold str1; rw [rib_getD_at' hk])
  have hmem := Lib.hid (fun k (hk : k < Z.length) => ribs_mem h1 (List.getElem_mem hk))
  have hS : Hid (lenS (ribsF Z (str1 Z r)) Z.length = r - leftV Z r) := Lib.hid (by unfold leftV; omega)
  obtain ⟨T, hT⟩ : ∃ T, T = leftV Z r := ⟨_, rfl⟩
  obtain ⟨LL, hLL⟩ : ∃ LL, LL = lenS Z Z.length := ⟨_, rfl⟩
  rw [← hT] at hlb hS
  rw [← hLL] at hLb cL hst
  simp only [ribsF_len] at cS
  rw [hS.out] at cS
  have hsr := Lib.hid (ribs_src hc)
  have hT' := Lib.hid hT
  have htm : ((T.toNat : Nat) : Int) = T := by omega
  clear hids hc h1 hLL hT hv0
  go_enter Try.func26, Try.ntmps26
  go_wp2_with (first
      | (go_at_call 13; (with_reducible refine cV.out.mono ?_); rintro e w1 ⟨rfl, b1⟩)
      | (go_at_call 46; refine (isRound_any _ _).mono ?_; rintro e w' ⟨rfl, rfl⟩)
      | (go_at_call 41; (with_reducible refine (cL.out _ b1).mono ?_); rintro e w2 ⟨rfl, b2⟩)
      | (at_make; refine wpList_make_full _ rfl _ _ 25 rfl w2.heap.size 50 i0 _ 3 Try.underlying25 hi hz0 hz1 .i64 .i64 _ _ Z.length rfl rfl rfl rfl ?b1 ?b2 ?b3 ?_))
  case b1 => rw [hz2]; omega
  case b2 => unfold maxLen; omega
  case b3 => exact Nat.le_refl _
  intro w3 hown hgr
  have b12 := below2 b1 b2
  have hth : w3.there w2.heap.size 0 (Z.length * 3) := there_own hown
  have hb3 : Below w.heap.size w w3 := b12.grown hgr b12.size (fun k hk => by cases hk)
  have hlt3 : w2.heap.size < w3.heap.size := (hown.lt w2.heap.size rfl).2
  have hg3 : w.heap.size ≤ w2.heap.size := b12.size
  clear hgr hown b12 b1 b2 cV
  generalize w2.heap.size = g at hth hlt3 hg3 ⊢
  go_wp2_with (refine wpList_copy_wide rfl _ _ 25 25 rfl 50 Try.underlying25 3 sizeRib g _ _ ⟨g0, o, none⟩ _ _ rfl rfl (rib_flat Z) ?c1 ?c2 ?c3 (ribs_oneC Z) ?_)
  case c1 => rw [rib_flat_len]; simp
  case c2 => intro j v hv; rw [add_plainR]; exact (hb3.cell (p := ⟨g0, _, none⟩) hg0).trans (hsr.out j v hv)
  case c3 => rw [rib_flat_len]; exact hth
  have hR0 := rowR_of (w := w) (wr := w3.setCells g 0 (rib_flat Z)) hg3 (by rw [size_sets]; exact hlt3) (World.rangeAt_setCells_same _ _ _ _ (by rw [rib_flat_len]; exact hth)) (World.there_setCells hth g 0 (rib_flat Z)) (below_sets hg3 (rib_flat Z) 0 _ hb3)
  generalize w3.setCells g 0 (rib_flat Z) = W2 at hR0 ⊢
  have hR1 := Lib.hid (hR0.congr (f' := f1 Z r 0) (fun i _ => by unfold f1; rw [if_neg (by omega)]))
  clear hth hb3 hlt3 hg3 hsr hi hz0 hz1 hz2 hR0
  go_loopw [33] (fun i wr => ∃ k : Nat, k ≤ Z.length ∧ i = .int .i64 k ∧ Hid (RowR Z (f1 Z r k) g w wr)) (fun i _ => Z.length - (intOf i).toNat)
  case atStart => exact ⟨0, by omega, rfl, hR1⟩
  case round =>
    obtain ⟨k, hk, rfl, hR⟩ := hrel
    by_cases hlt : k < Z.length
    · have hltI : (k : Int) < (Z.length : Int) := by omega
      have hx0 := hmem.out k hlt
      have hqk := hq.out k hlt
      have hstk := hst.out k hlt
      have hp := str_prod hrb hx0.1
      have hr := range_below (hc'.out k hlt) hg0 hR.out.2.2.2.2
      obtain ⟨x, hx⟩ : ∃ x, x = Z[k] := ⟨_, rfl⟩
      rw [← hx] at hr hx0 hstk hp
      obtain ⟨s, a, b⟩ := x
      simp only at hx0 hstk hp
      rw [← hstk] at hqk
      have hstk' := Lib.hid hstk
      have hr1 : wr.rangeAt g0 (o + k * 3) [.string s, .int .i64 a, .int .i64 b] := hr
      have hRA := Lib.hid (hR.out.below (w2 := wr.alloc (.cells #[.string s, .int .i64 a, .int .i64 b] 50)) ((Below.refl _ _).alloc (Nat.le_refl _) _))
      have hco := (hRA.out.at hlt).1
      have hfo := (hRA.out.at hlt).2
      have hgl := hR.out.2.1
      have hco2 := (hR.out.at hlt).1
      have hfo2 := (hR.out.at hlt).2
      have hR2 := Lib.hid (((hR.out.set hlt (r * a / LL)).below (w2 := (wr.setCell ⟨g, k * 3 + 1, none⟩ (.int .i64 (r * a / LL))).alloc (.cells #[.string s, .int .i64 a, .int .i64 b] 50)) ((Below.refl _ _).alloc (Nat.le_refl _) _)).congr (f' := f1 Z r (k + 1)) (fun i _ => f1_step Z r k _ hstk'.out i))
      clear hr hx hstk
      go_wp2_with (first
        | (refine wpList_load_mid rfl _ _ rfl g0 (o + k * 3) rfl _ _ hr1 Try.underlying50 rfl rfl ?_))
      go_roundw
      case rel => exact ⟨k + 1, by omega, by go_num, hR2⟩
      case measure => simp [intOf]; omega
    · have hkl : k = Z.length := by omega
      have hR3 := Lib.hid (hR.out.congr (f' := str1 Z r) (fun i hi => by unfold f1; rw [if_pos (by omega)]))
      have hRo := Lib.hid (hR3.out.own (cap := Z.length) (Nat.le_refl _) hids'.out).1
      clear hkl hR
      go_wp2_with (go_at_call 41; (with_reducible refine (cS.out _ _ hRo.out).mono ?_); rintro e w4 ⟨rfl, b4⟩)
      have hR4 := Lib.hid ((hR3.out.below b4).congr (f' := f2 Z r 0) (fun i _ => by unfold f2; rw [if_neg (by omega)]))
      clear b4 hRo hR3
      go_loopw [53] (fun i wr => ∃ k : Nat, (k : Int) ≤ T ∧ i = .int .i64 k ∧ Hid (RowR Z (f2 Z r k) g w wr)) (fun i _ => T.toNat - (intOf i).toNat)
      case atStart => exact ⟨0, by omega, rfl, hR4⟩
      case round =>
        obtain ⟨k, hk2, rfl, hR⟩ := hrel
        by_cases hlt2 : (k : Int) < T
        · have hlt : k < Z.length := by omega
          have hltI : (k : Int) < (Z.length : Int) := by omega
          have hqk := hq.out k hlt
          have e2 : f2 Z r k k = str1 Z r k := by unfold f2; rw [if_neg (by omega)]
          have hco := (hR.out.at hlt).1
          have hfo := (hR.out.at hlt).2
          rw [e2] at hco
          have hR2 := (hR.out.set hlt (str1 Z r k + 1)).congr (f' := f2 Z r (k + 1)) (fun i _ => f2_step Z r k i)
          obtain ⟨z, hz⟩ : ∃ z, z = str1 Z r k := ⟨_, rfl⟩
          rw [← hz] at hco hR2 hqk
          have hR5 := Lib.hid hR2
          clear hR2 hz e2 hR
          go_wp2
          go_roundw
          case rel => exact ⟨k + 1, by omega, by go_num, hR5⟩
          case measure => simp [intOf]; omega
        · have hkl : (k : Int) = T := by omega
          have hR5 := Lib.hid (hR.out.congr (f' := strF Z r) (fun i hi => by
            unfold f2 strF
            by_cases hik : i < k
            · rw [if_pos hik, if_pos (by rw [← hT'.out]; omega)]
            · rw [if_neg hik, if_neg (by rw [← hT'.out]; omega)]))
          have hOw := Lib.hid (hR5.out.own (cap := Z.length) (Nat.le_refl _) hids'.out)
          have cF := Lib.hid (implValidRibs_any _ _ wr (by rw [ribsF_len]; omega) hOw.out.1)
          have hbw := Lib.hid hR5.out.2.2.2.2
          cases hf : ribsB (strL Z r)
          · have hr := Lib.hid (str_bad (show strC Z r = 6 by rw [hC.out, hf]; rfl) (by decide))
            rw [show ribsB (ribsF Z (strF Z r)) = false from hf] at cF
            clear hkl hR hR5
            go_wp2_with (go_at_call 13; (with_reducible refine cF.out.mono ?_); rintro e w5 ⟨rfl, b5⟩)
            go_ret2
            exact rib_rowNil hr.out.1 hr.out.2 (below2 hbw.out b5)
          · have hr := Lib.hid (str_good (show strC Z r = 0 by rw [hC.out, hf]; rfl))
            rw [show ribsB (ribsF Z (strF Z r)) = true from hf] at cF
            clear hkl hR hR5
            go_wp2_with (go_at_call 13; (with_reducible refine cF.out.mono ?_); rintro e w5 ⟨rfl, b5⟩)
            go_ret2
            exact rib_rowMk hr.out.1 hr.out.2 (Nat.le_refl _) (hOw.out.below b5) (below2 hbw.out b5)
end Go.Proofs.Ytgbjdjkmmmgnnaa
