/-
  The pits: the model.
-/
import Derived.Test.YtcfmchkomboliaaAro
namespace Go.Proofs.Ytcfmchkomboliaa
open Go.ChangeShapes Go.WideShapes Go.ChangeAt Go.RowKit Go.Deep
set_option linter.unusedVariables false
set_option linter.unusedSimpArgs false
def pitS (R C : Nat) (h : Nat → Nat → Int) (i k : Nat) : Bool := decide (0 < (aroL R C h i k).length) && (aroL R C h i k).all fun z => decide (h i k < z)
theorem pit_same (R C : Nat) (h : Nat → Nat → Int) (i k : Nat) : pitB R C h (i, k) = pitS R C h i k := by
  rw [Bool.eq_iff_iff]
  unfold pitB pitS
  simp only [Bool.and_eq_true, decide_eq_true_eq, List.all_eq_true]
  constructor
  · rintro ⟨a, b⟩
    obtain ⟨q, hq⟩ := List.exists_mem_of_length_pos a
    refine ⟨List.length_pos_of_mem ((aro_mem _).2 ⟨q, hq, rfl⟩), fun z hz => ?_⟩
    obtain ⟨r, hr, rfl⟩ := (aro_mem z).1 hz
    exact b r hr
  · rintro ⟨a, b⟩
    obtain ⟨z, hz⟩ := List.exists_mem_of_length_pos a
    obtain ⟨r, hr, _⟩ := (aro_mem z).1 hz
    refine ⟨List.length_pos_of_mem hr, fun q hq => ?_⟩
    exact b _ ((aro_mem _).2 ⟨q, hq, rfl⟩)
theorem aro_in {R C : Nat} {h : Nat → Nat → Int} (h0 : ∀ i k, i < R → k < C → 0 ≤ h i k) (h1 : ∀ i k, i < R → k < C → h i k ≤ 1000) {i k : Nat} (hi : i < R) (hk : k < C) : ∀ z ∈ aroL R C h i k, 0 ≤ z ∧ z ≤ 1000 := by
  intro z hz
  obtain ⟨q, hq, rfl⟩ := (aro_mem z).1 hz
  obtain ⟨a, b⟩ := nb_in hi hk q hq
  exact ⟨h0 _ _ a b, h1 _ _ a b⟩
set_option maxHeartbeats 12800000 in
theorem specPitsOf_any (v : Value) (G : List (List Int)) (w : World) (hn : G.length + totL G ≤ 1048576) (hv : GridAt w v G) : Calls Try.prog 27 #[v] w (GridRet (ptV G) (code (okG G) 1) w) := by
  obtain ⟨i0, hi, hz0, hz1, hz2⟩ := info_parts infoG
  have cV := Lib.hid (l07Ok_any v G w hn hv)
  cases hok : okG G
  · have e1 := Lib.hid (show ptV G = [] by unfold ptV; rw [hok]; rfl)
    rw [hok] at cV
    obtain ⟨a, cap, rfl, _⟩ := hv
    clear hok hn
    go_enter Try.func27, Try.ntmps27
    go_wp2_with (go_at_call 42; refine cV.out.mono ?_; rintro e w2 ⟨rfl, hd⟩)
    go_ret2
    exact gridRet_nil e1.out rfl hd.below
  have e1 := Lib.hid (show ptV G = ptF G.length (colsG G) (hG G) (plAll G.length (colsG G)) by unfold ptV; rw [hok]; rfl)
  have e2 : Hid (code true 1 = 0) := Lib.hid rfl
  obtain ⟨g, o, cap, rg, ro, rc, rfl, hGR⟩ := grid_GR hv hok
  rw [hok] at cV
  obtain ⟨PV, hPV⟩ : ∃ x, x = ptV G := ⟨_, rfl⟩
  rw [← hPV] at e1 ⊢
  obtain ⟨R, hR⟩ : ∃ R, R = G.length := ⟨_, rfl⟩
  obtain ⟨C, hC⟩ : ∃ C, C = colsG G := ⟨_, rfl⟩
  obtain ⟨h, hh⟩ : ∃ h, h = hG G := ⟨_, rfl⟩
  rw [← hR] at cV
  rw [← hR, ← hC, ← hh] at hGR e1
  rw [← hR]
  have hx := Lib.hid hGR
  have r1 := hGR.R1
  have r2 := hGR.R10
  have c1 := hGR.C1
  have c2 := hGR.C10
  clear hok hn hv hGR hPV hR hC hh
  go_enter Try.func27, Try.ntmps27
  go_wp2_with (go_at_call 42; refine cV.out.mono ?_; rintro e w5 ⟨rfl, hd⟩)
  have hst := Lib.hid (OwnG.empty w5)
  have hB5 : Below w.heap.size w (w5.alloc (.cells #[] 39)) := hd.below.alloc hd.below.size _
  obtain ⟨LO, hLO⟩ : ∃ LO, LO = w5.heap.size := ⟨_, rfl⟩
  have hLw : w.heap.size ≤ LO := by rw [hLO]; exact hd.below.size
  have hLs : LO ≤ (w5.alloc (.cells #[] 39)).heap.size := by rw [hLO]; simp
  rw [← hLO] at hst ⊢
  clear hLO hd cV
  generalize w5.alloc (.cells #[] 39) = w6 at hst hB5 hLs ⊢
  go_loopw [4, 5] (fun x i wr => ∃ (k : Nat) (pa : Option Addr) (LN pc : Nat) (vs : List Value), k ≤ R ∧ i = .int .i64 k ∧ x = .slice pa LN pc ∧ Hid (OwnG LO wr.heap.size wr (.slice pa LN pc) (ptF R C h (plTo C k 0)) vs) ∧ Hid (LN = (ptF R C h (plTo C k 0)).length) ∧ Below w.heap.size w wr ∧ LO ≤ wr.heap.size) (fun _ i _ => R - (intOf i).toNat)
  case atStart => exact ⟨0, _, 0, 0, [], by omega, rfl, rfl, hst, Lib.hid rfl, hB5, hLs⟩
  case round =>
    obtain ⟨k, pa, LN, pc, vs, hk, rfl, rfl, hO, hLN, hB, hLs⟩ := hrel
    by_cases hlt : k < R
    · have hkI : (k : Int) < (R : Int) := by omega
      go_wp2
      go_loopw [4, 6] (fun x i wr => ∃ (m : Nat) (pa : Option Addr) (LN pc : Nat) (vs : List Value), m ≤ C ∧ i = .int .i64 m ∧ x = .slice pa LN pc ∧ Hid (OwnG LO wr.heap.size wr (.slice pa LN pc) (ptF R C h (plTo C k m)) vs) ∧ Hid (LN = (ptF R C h (plTo C k m)).length) ∧ Below w.heap.size w wr ∧ LO ≤ wr.heap.size) (fun _ i _ => C - (intOf i).toNat)
      case atStart => exact ⟨0, pa, LN, pc, vs, by omega, rfl, rfl, hO, hLN, hB, hLs⟩
      case round =>
        obtain ⟨m, pa, LN, pc, vs, hm, rfl, rfl, hO, hLN, hB, hLs⟩ := hrel
        have hz := Lib.hid (hx.out.below hB)
        have t1 := hz.out.top k hlt
        by_cases hlm : m < C
        · have hnext := ptF_next R C h (plTo C k m) (k, m)
          rw [← plTo_next, pit_same] at hnext
          have hll := ptF_len R C h (plTo C k m)
          have hpl : (plTo C k m).length ≤ 100 := Nat.le_trans (plTo_pre (R := R) (by omega) (by omega) (by omega)).length_le (plAll_len r2 c2)
          obtain ⟨LL, hLL⟩ : ∃ L, L = ptF R C h (plTo C k m) := ⟨_, rfl⟩
          have hLN1 := hLN.out
          rw [← hLL] at hO hnext hll hLN1
          have hLN100 : LN ≤ 100 := by omega
          have hLN2 := Lib.hid hLN1
          have hnx := Lib.hid hnext
          have hps : Hid (pitS R C h k m = (decide (0 < (aroL R C h k m).length) && (aroL R C h k m).all fun z => decide (h k m < z))) := Lib.hid rfl
          have cA := Lib.hid (l07Around_any g o cap R C rg ro rc h wr hz.out k m hlt hlm)
          have hain := Lib.hid (aro_in hz.out.h0 hz.out.h1 hlt hlm)
          obtain ⟨AL, hAL⟩ : ∃ A, A = aroL R C h k m := ⟨_, rfl⟩
          have hal : AL.length ≤ 4 := by rw [hAL]; exact aroT_len R C h k m 4
          rw [← hAL] at hps cA hain
          have hmI : (m : Int) < (C : Int) := by omega
          clear hLL hll hpl hLN1 hLN hnext hAL
          go_wp2_with (go_at_call 57; refine cA.out.mono ?_; rintro e w7 ⟨qa, QN, qc, rfl, own7, hQN, b7⟩)
          subst hQN
          have hI7 := Lib.hid (ints_own own7 (fun n hn => by have := hain.out n hn; simp [inI]; omega))
          have O7 := Lib.hid (hO.out.kept b7)
          have B7 := Lib.hid (below2 hB b7)
          have s7 := b7.size
          have hLs7 := Lib.hid hLs
          clear own7 hO cA t1
          clear hB hLs
          go_loopw [8, 9] (fun x i wr => ∃ (t : Nat) (b : Bool), t ≤ AL.length ∧ i = .int .i64 t ∧ x = .bool b ∧ Hid (b = (decide (0 < AL.length) && (AL.take t).all fun z => decide (h k m < z))) ∧ Hid (Below w7.heap.size w7 wr)) (fun _ i _ => AL.length - (intOf i).toNat)
          case atStart => exact ⟨0, _, by omega, rfl, rfl, Lib.hid (by simp), Lib.hid (Below.refl _ _)⟩
          case round =>
            obtain ⟨t, b, ht, rfl, rfl, hb, hbel⟩ := hrel
            have Bw := Lib.hid (below2 B7.out hbel.out)
            by_cases htl : t < AL.length
            · have htI : (t : Int) < (AL.length : Int) := by omega
              obtain ⟨a', cap', hve, _, _, hcel⟩ := hI7.out.below hbel.out
              rcases hcel with hcel | ⟨g9, o9, hae, hg9, hc⟩
              · rw [hcel] at htl; simp at htl
              have q1 := hc t htl
              have hqe : qa = some ⟨g9, o9, none⟩ := by injection hve with h1 _ _; rw [h1]; exact hae
              subst hqe
              have hz := Lib.hid (hx.out.below Bw.out)
              have t1 := hz.out.top k hlt
              have t2 := hz.out.cel k hlt m hlm
              have htk : Hid (∀ f : Int → Bool, (AL.take (t + 1)).all f = ((AL.take t).all f && f AL[t])) := Lib.hid (fun f => by rw [List.take_succ_eq_append_getElem htl, List.all_append]; simp)
              obtain ⟨z, hze⟩ : ∃ z, z = AL[t] := ⟨_, rfl⟩
              rw [← hze] at q1 htk
              obtain ⟨y, hye⟩ : ∃ y, y = h k m := ⟨_, rfl⟩
              have hnb : Hid ((decide (0 < AL.length) && (AL.take (t + 1)).all fun z => decide (h k m < z)) = (b && decide (y < z))) := Lib.hid (by rw [htk.out, hb.out, hye, Bool.and_assoc])
              rw [← hye] at t2
              clear hve hae hc hze hye htk hb
              cases b
              · have hr := Lib.hid (show (decide (0 < AL.length) && (AL.take (t + 1)).all fun z => decide (h k m < z)) = false by rw [hnb.out]; rfl)
                clear hnb
                go_wp2
                go_quiet (fail)
                go_wp2
                go_roundw
                case rel => exact ⟨t + 1, _, by omega, by go_num, rfl, Lib.hid hr.out.symm, Lib.hid (belowN hbel.out _)⟩
                case measure => simp [intOf]; omega
              · by_cases hyz : y < z
                · have hr := Lib.hid (show (decide (0 < AL.length) && (AL.take (t + 1)).all fun z => decide (h k m < z)) = true by rw [hnb.out]; simp [hyz])
                  clear hnb
                  go_wp2
                  go_quiet (fail)
                  go_wp2
                  go_roundw
                  case rel => exact ⟨t + 1, _, by omega, by go_num, rfl, Lib.hid hr.out.symm, Lib.hid (belowN hbel.out _)⟩
                  case measure => simp [intOf]; omega
                · have hr := Lib.hid (show (decide (0 < AL.length) && (AL.take (t + 1)).all fun z => decide (h k m < z)) = false by rw [hnb.out]; simp [hyz])
                  clear hnb
                  go_wp2
                  go_quiet (fail)
                  go_wp2
                  go_roundw
                  case rel => exact ⟨t + 1, false, by omega, by go_num, by simp [hyz], Lib.hid hr.out.symm, Lib.hid (belowN hbel.out _)⟩
                  case measure => simp [intOf]; omega
            · have htL : t = AL.length := by omega
              have hbb : Hid (b = pitS R C h k m) := Lib.hid (by rw [hps.out, hb.out, htL, List.take_length])
              have O5 := Lib.hid (O7.out.kept hbel.out)
              have hLOw : LO ≤ wr.heap.size := Nat.le_trans (Nat.le_trans hLs7.out s7) hbel.out.size
              have hLw5 := Lib.hid (Nat.le_trans s7 hbel.out.size)
              clear htL hb O7 B7 hI7 hps
              cases b
              · have hr : Hid (ptF R C h (plTo C k (m + 1)) = LL) := Lib.hid (by rw [hnx.out, ← hbb.out]; rfl)
                clear hbb hnx
                go_wp2
                go_roundw
                case rel => exact ⟨m + 1, pa, LN, pc, vs, by omega, by go_num, rfl, Lib.hid (by rw [hr.out]; exact O5.out.wide hLw5.out (Nat.le_refl _)), Lib.hid (by rw [hr.out]; exact hLN2.out), Bw.out, hLOw⟩
                case measure => simp [intOf]; omega
              · have hr : Hid (ptF R C h (plTo C k (m + 1)) = LL ++ [plR (k, m)]) := Lib.hid (by rw [hnx.out, ← hbb.out]; rfl)
                have O5' := Lib.hid (O5.out.wide hLw5.out (Nat.le_refl _))
                clear hbb hnx O5 hbel hLw5
                generalize wr = w8 at O5' Bw hLOw ⊢
                go_wp2_with (at_builtin; refine wpList_append_own _ rfl _ _ 22 rfl LO 39 i0 (.slice none 0 0) 1 24 Try.underlying22 hi hz0 hz1 hz2 rfl (by decide) _ LN vs rfl (((O5'.out.top' hLN2.out).alloc _).alloc _) ⟨w8.heap.size + 1, 0, none⟩ 1 1 [.slice (some ⟨w8.heap.size, 0, none⟩) 2 2] rfl rfl ?c1 ?c2 ?c3 ?c4 ?c5 ?_)
                case c1 =>
                  have hb := heap_alloc_new (w8.alloc (.cells #[.int .i64 (k : Int), .int .i64 (m : Int)] 2)) (.cells #[.slice (some ⟨w8.heap.size, 0, none⟩) 2 2] 39)
                  rw [World.size_alloc] at hb
                  exact World.news_of_block hb
                case c2 => intro u hu; simp at hu; subst hu; rfl
                case c3 => unfold maxLen; omega
                case c4 => omega
                case c5 => simp; omega
                intro v9 w9 hown9 hgrow9 _
                have b5 : Below w8.heap.size w8 ((w8.alloc (.cells #[.int .i64 (k : Int), .int .i64 (m : Int)] 2)).alloc (.cells #[.slice (some ⟨w8.heap.size, 0, none⟩) 2 2] 39)) := ((Below.refl _ _).alloc (Nat.le_refl _) _).alloc (by simp) _
                have own2 : ((w8.alloc (.cells #[.int .i64 (k : Int), .int .i64 (m : Int)] 2)).alloc (.cells #[.slice (some ⟨w8.heap.size, 0, none⟩) 2 2] 39)).ownsRow w8.heap.size 2 1 (.slice (some ⟨w8.heap.size, 0, none⟩) 2 2) (plR (k, m)).length ((plR (k, m)).map encI) := by
                  refine World.ownsRow.alloc ?_ _
                  exact ⟨rfl, Or.inr ⟨_, _, _, rfl, Nat.le_refl _, heap_alloc_new _ _, by simp [plR], by unfold maxLen; omega, rfl, rfl⟩⟩
                have hbl : ∀ j, (Value.slice pa LN pc).ownBlock = some j → LO ≤ j := fun j hj => (O5'.out.top.lt j hj).1
                have O9 := Lib.hid (O5'.out.snoc (Z := plR (k, m)) b5 own2 (plR_in (by show k ≤ 1000; omega) (by show m ≤ 1000; omega)) hgrow9 (by rw [← hLN2.out]; exact hown9) hLOw (by decide))
                have B9 := Lib.hid ((Bw.out.trans (b5.mono Bw.out.size)).grown hgrow9 (Nat.le_trans Bw.out.size b5.size) (fun j hj => by have := hbl j hj; omega))
                have hL9 : LO ≤ w9.heap.size := Nat.le_trans hLOw (Nat.le_trans b5.size hgrow9.size)
                obtain ⟨pa9, pc9, rfl⟩ := own_shape hown9
                clear hown9 hgrow9 b5 own2 hbl
                go_wp2
                go_roundw
                case rel => exact ⟨m + 1, pa9, LN + 1, pc9, _, by omega, by go_num, rfl, Lib.hid (by rw [hr.out]; exact O9.out), Lib.hid (by rw [hr.out, List.length_append, hLN2.out]; rfl), B9.out, hL9⟩
                case measure => simp [intOf]; omega
        · have hmC : m = C := by omega
          have hr : Hid (OwnG LO wr.heap.size wr (.slice pa LN pc) (ptF R C h (plTo C (k + 1) 0)) vs) := Lib.hid (by have := hO.out; rw [hmC, plTo_row] at this; exact this)
          have hr2 : Hid (LN = (ptF R C h (plTo C (k + 1) 0)).length) := Lib.hid (by have := hLN.out; rw [hmC, plTo_row] at this; exact this)
          clear hmC hO hLN
          go_wp2
          go_roundw
          case rel => exact ⟨k + 1, pa, LN, pc, vs, by omega, by go_num, rfl, hr, hr2, hB, hLs⟩
          case measure => simp [intOf]; omega
    · have hkR : k = R := by omega
      have hr : Hid (OwnG LO wr.heap.size wr (.slice pa LN pc) (ptF R C h (plAll R C)) vs) := Lib.hid (by have := hO.out; rw [hkR] at this; exact this)
      clear hkR hO hLN
      go_wp2
      go_ret2
      exact gridRet_mk e1.out e2.out hr.out hLw hB
end Go.Proofs.Ytcfmchkomboliaa
