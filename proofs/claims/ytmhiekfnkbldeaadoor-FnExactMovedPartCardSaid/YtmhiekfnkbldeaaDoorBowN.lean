/-
  Bows: MovedPart on both sides.
-/
import Derived.Test.YtmhiekfnkbldeaaDoorBowM
namespace Go.Proofs.YtmhiekfnkbldeaaDoor
open Go.ChangeShapes Go.WideShapes Go.ChangeAt Go.RowKit Go.Deep
set_option linter.unusedVariables false
set_option linter.unusedSimpArgs false
set_option maxRecDepth 1000000
set_option maxHeartbeats 1600000 in
theorem implMovedPart_any (v : Value) (Z : List Prt) (u : ByteArray) (bal : Int) (w : World) (hn : Z.length ≤ 1048576) (hv : PrtsAt w v Z) (p mm hh x : Addr) (hE : BowErrX w 3 p mm hh x) : Calls Tryd.prog 12 #[v, .string u, .int .i64 bal] w fun e w' => e = .returned (.tuple #[.int .i64 (pick (bowB Z && inB bal 0 8000) (mvV Z u (sumF (masF Z) Z.length) (sumF (momF Z) Z.length) bal)), .int .i64 (cd3 (bowB Z) (inB bal 0 8000) (mvC Z u (sumF (masF Z) Z.length) (sumF (momF Z) Z.length) bal))]) ∧ Below w.heap.size w w' := by
  have cPb := fun W => isOnStick_any bal W
  cases h3 : inB bal 0 8000 <;> rw [h3] at cPb <;> replace cPb := Lib.hid cPb
  ·
    have cC := codeOfParts_any false v Z w hn hv
    cases h1 : bowB Z <;> rw [h1] at cC <;> replace cC := Lib.hid cC
    all_goals
      go_enter Tryd.func12, Tryd.ntmps12
      go_wp2_with (first
        | (go_at_call 25; (with_reducible refine (cPb.out _).mono ?_); rintro e w' ⟨rfl, rfl⟩)
        | (go_at_call 24; (with_reducible refine cC.out.mono ?_); rintro e w1 ⟨rfl, b1⟩))
      go_ret2
      exact ⟨ret_int2 rfl rfl, b1⟩
  have cC := codeOfParts_any true v Z w hn hv
  cases h1 : bowB Z <;> rw [h1] at cC <;> replace cC := Lib.hid cC
  · go_enter Tryd.func12, Tryd.ntmps12
    go_wp2_with (first
      | (go_at_call 25; (with_reducible refine (cPb.out _).mono ?_); rintro e w' ⟨rfl, rfl⟩)
      | (go_at_call 24; (with_reducible refine cC.out.mono ?_); rintro e w1 ⟨rfl, b1⟩))
    go_ret2
    exact ⟨ret_int2 rfl rfl, b1⟩
  have hp3 := inB_iff.1 h3
  have cC2 := cC.out
  rw [show cd3 true true 0 = 0 from rfl] at cC2
  replace cC := Lib.hid cC2
  clear cC2 h3
  have hlo := Lib.hid (bow_ok h1)
  have hmb := masS_bd hlo.out (Nat.le_refl Z.length)
  have hqb := momS_bd hlo.out (Nat.le_refl Z.length)
  have h12 := (bow_0 h1).2.1
  have h00 := (bow_0 h1).1
  have hv' := Lib.hid hv
  obtain ⟨m, hm0⟩ : ∃ m, m = sumF (masF Z) Z.length := ⟨_, rfl⟩
  obtain ⟨q, hq0⟩ : ∃ q, q = sumF (momF Z) Z.length := ⟨_, rfl⟩
  rw [← hm0] at hmb
  rw [← hq0] at hqb
  have hm := Lib.hid hm0
  have hq := Lib.hid hq0
  have hmb0 : 1 ≤ m ∧ m ≤ 1200000 := by omega
  have hqb0 : 0 ≤ q ∧ q ≤ 9600000000 := by omega
  obtain ⟨p9, cap9, rfl, hcap9, hids9, hread9⟩ := hv
  clear hm0 hq0 h1 hmb hqb hcap9 hids9 hread9
  have hE' := Lib.hid hE
  rw [← hm.out, ← hq.out]
  clear hE
  by_cases hf : fdN (idP Z u) Z.length < Z.length
  rotate_left
  · have cA0 := fun W (hW : Below w.heap.size w W) (hvW : PrtsAt W (.slice p9 Z.length cap9) Z) => moved_no m q bal p9 cap9 Z u p mm hh x hmb0 hqb0 hp3 hlo.out W hvW (hE'.out.below hW) hf
    have cA := Lib.hid cA0
    clear cA0
    have cO : Hid (∀ W, Below w.heap.size w W → Calls Tryd.prog 28 #[.iface 99 (.pointer (some p))] W fun e w' => e = .returned (.int .i64 3) ∧ w' = W) := Lib.hid (fun W hW => codeOf_p p mm hh W ((hE'.out.below hW).1))
    rw [show mvV Z u m q bal = 0 by unfold mvV; rw [if_neg hf], show mvC Z u m q bal = 3 by unfold mvC; rw [if_neg hf]]
    go_enter Tryd.func12, Tryd.ntmps12
    go_wp2_with (first
      | (go_at_call 25; (with_reducible refine (cPb.out _).mono ?_); rintro e w' ⟨rfl, rfl⟩)
      | (go_at_call 24; (with_reducible refine cC.out.mono ?_); rintro e w1 ⟨rfl, b1⟩)
      | (go_at_call 26; (with_reducible refine (bowOf_num _ Z m q _ hlo.out (hv'.out.below b1) hm.out hq.out).mono ?_); rintro e w2 ⟨rfl, b2⟩; have b12 := below2 b1 b2)
      | (go_at_call 31; (with_reducible refine (cA.out _ b12 (hv'.out.below b12)).mono ?_); rintro e w3 ⟨rfl, b3⟩; have b13 := below2 b12 b3)
      | (go_at_call 28; (with_reducible refine (cO.out _ b13).mono ?_); rintro e w' ⟨rfl, rfl⟩))
    go_ret2
    exact ⟨ret_int2 rfl rfl, b13⟩
  by_cases hl : ltV (Z.getD (fdN (idP Z u) Z.length) prt0).mas (gmV Z m q bal (fdN (idP Z u) Z.length)) ≤ 8000
  · have cA0 := fun W (hW : Below w.heap.size w W) (hvW : PrtsAt W (.slice p9 Z.length cap9) Z) => moved_yes m q bal p9 cap9 Z u p mm hh x hmb0 hqb0 hp3 hlo.out W hvW (hE'.out.below hW) hf hl
    obtain ⟨nn, hnn⟩ : ∃ nn, nn = ltV (Z.getD (fdN (idP Z u) Z.length) prt0).mas (gmV Z m q bal (fdN (idP Z u) Z.length)) := ⟨_, rfl⟩
    rw [← hnn] at cA0
    have cA := Lib.hid cA0
    clear cA0
    have cO : Hid (∀ W, Below w.heap.size w W → Calls Tryd.prog 28 #[.nilIface] W fun e w' => e = .returned (.int .i64 0) ∧ w' = W) := Lib.hid (fun W hW => codeOf_nil W)
    rw [show mvV Z u m q bal = ltV (Z.getD (fdN (idP Z u) Z.length) prt0).mas (gmV Z m q bal (fdN (idP Z u) Z.length)) by unfold mvV; rw [if_pos hf, if_pos hl], show mvC Z u m q bal = 0 by unfold mvC; rw [if_pos hf, if_pos hl]]
    rw [← hnn]
    clear hnn
    go_enter Tryd.func12, Tryd.ntmps12
    go_wp2_with (first
      | (go_at_call 25; (with_reducible refine (cPb.out _).mono ?_); rintro e w' ⟨rfl, rfl⟩)
      | (go_at_call 24; (with_reducible refine cC.out.mono ?_); rintro e w1 ⟨rfl, b1⟩)
      | (go_at_call 26; (with_reducible refine (bowOf_num _ Z m q _ hlo.out (hv'.out.below b1) hm.out hq.out).mono ?_); rintro e w2 ⟨rfl, b2⟩; have b12 := below2 b1 b2)
      | (go_at_call 31; (with_reducible refine (cA.out _ b12 (hv'.out.below b12)).mono ?_); rintro e w3 ⟨rfl, b3⟩; have b13 := below2 b12 b3)
      | (go_at_call 28; (with_reducible refine (cO.out _ b13).mono ?_); rintro e w' ⟨rfl, rfl⟩))
    go_ret2
    exact ⟨ret_int2 rfl rfl, b13⟩
  have cA0 := fun W (hW : Below w.heap.size w W) (hvW : PrtsAt W (.slice p9 Z.length cap9) Z) => moved_far m q bal p9 cap9 Z u p mm hh x hmb0 hqb0 hp3 hlo.out W hvW (hE'.out.below hW) hf hl
  have cA := Lib.hid cA0
  clear cA0
  have cO : Hid (∀ W, Below w.heap.size w W → Calls Tryd.prog 28 #[.iface 99 (.pointer (some x))] W fun e w' => e = .returned (.int .i64 6) ∧ w' = W) := Lib.hid (fun W hW => codeOf_x p mm hh W _ x (hE'.out.below hW))
  rw [show mvV Z u m q bal = 0 by unfold mvV; rw [if_pos hf, if_neg hl], show mvC Z u m q bal = 6 by unfold mvC; rw [if_pos hf, if_neg hl]]
  go_enter Tryd.func12, Tryd.ntmps12
  go_wp2_with (first
    | (go_at_call 25; (with_reducible refine (cPb.out _).mono ?_); rintro e w' ⟨rfl, rfl⟩)
    | (go_at_call 24; (with_reducible refine cC.out.mono ?_); rintro e w1 ⟨rfl, b1⟩)
    | (go_at_call 26; (with_reducible refine (bowOf_num _ Z m q _ hlo.out (hv'.out.below b1) hm.out hq.out).mono ?_); rintro e w2 ⟨rfl, b2⟩; have b12 := below2 b1 b2)
    | (go_at_call 31; (with_reducible refine (cA.out _ b12 (hv'.out.below b12)).mono ?_); rintro e w3 ⟨rfl, b3⟩; have b13 := below2 b12 b3)
    | (go_at_call 28; (with_reducible refine (cO.out _ b13).mono ?_); rintro e w' ⟨rfl, rfl⟩))
  go_ret2
  exact ⟨ret_int2 rfl rfl, b13⟩
set_option maxHeartbeats 1600000 in
theorem specMovedPart_any (v : Value) (Z : List Prt) (u : ByteArray) (bal : Int) (w : World) (hn : Z.length ≤ 1048576) (hv : PrtsAt w v Z) : Calls Tryd.prog 11 #[v, .string u, .int .i64 bal] w fun e w' => e = .returned (.tuple #[.int .i64 (pick (bowB Z && inB bal 0 8000) (mvV Z u (sumF (masF Z) Z.length) (sumF (momF Z) Z.length) bal)), .int .i64 (cd3 (bowB Z) (inB bal 0 8000) (mvC Z u (sumF (masF Z) Z.length) (sumF (momF Z) Z.length) bal))]) ∧ Below w.heap.size w w' := by
  have cPb := fun W => l11At_any bal W
  have cV := l11Ok_any v Z w hn hv
  cases h1 : bowB Z <;> rw [h1] at cV <;> replace cV := Lib.hid cV
  · go_enter Tryd.func11, Tryd.ntmps11
    go_wp2_with (go_at_call 18; (with_reducible refine cV.out.mono ?_); rintro e w1 ⟨rfl, b1⟩)
    go_ret2
    exact ⟨ret_int2 rfl rfl, b1.below⟩
  cases h3 : inB bal 0 8000 <;> rw [h3] at cPb <;> replace cPb := Lib.hid cPb
  · go_enter Tryd.func11, Tryd.ntmps11
    go_wp2_with (first
      | (go_at_call 18; (with_reducible refine cV.out.mono ?_); rintro e w1 ⟨rfl, b1⟩)
      | (go_at_call 19; (with_reducible refine (cPb.out _).mono ?_); rintro e w' ⟨rfl, rfl⟩))
    go_ret2
    exact ⟨ret_int2 rfl rfl, b1.below⟩
  have hp3 := inB_iff.1 h3
  have hlo := Lib.hid (bow_ok h1)
  have hmb := masS_bd hlo.out (Nat.le_refl Z.length)
  have hqb := momS_bd hlo.out (Nat.le_refl Z.length)
  have h12 := (bow_0 h1).2.1
  have h00 := (bow_0 h1).1
  have hv' := Lib.hid hv
  obtain ⟨m, hm0⟩ : ∃ m, m = sumF (masF Z) Z.length := ⟨_, rfl⟩
  obtain ⟨q, hq0⟩ : ∃ q, q = sumF (momF Z) Z.length := ⟨_, rfl⟩
  rw [← hm0] at hmb
  rw [← hq0] at hqb
  have hm := Lib.hid hm0
  have hq := Lib.hid hq0
  have hmb0 : 1 ≤ m ∧ m ≤ 1200000 := by omega
  have hqb0 : 0 ≤ q ∧ q ≤ 9600000000 := by omega
  obtain ⟨p9, cap9, rfl, hcap9, hids9, hread9⟩ := hv
  clear hm0 hq0 h1 hmb hqb hcap9 hids9 hread9
  have cF0 := fun W (hd : DrewOf w W) => l11Find_any _ Z u W hn (hv'.out.below hd.below)
  by_cases hf : fdN (idP Z u) Z.length < Z.length
  rotate_left
  · rw [show fdI Z u = -1 from if_neg hf] at cF0
    have cF := Lib.hid cF0
    rw [show mvV Z u _ _ bal = 0 by unfold mvV; rw [if_neg hf], show mvC Z u _ _ bal = 3 by unfold mvC; rw [if_neg hf]]
    clear hf cF0
    go_enter Tryd.func11, Tryd.ntmps11
    go_wp2_with (first
      | (go_at_call 18; (with_reducible refine cV.out.mono ?_); rintro e w1 ⟨rfl, b1⟩)
      | (go_at_call 19; (with_reducible refine (cPb.out _).mono ?_); rintro e w' ⟨rfl, rfl⟩)
      | (go_at_call 30; (with_reducible refine (cF.out _ b1).mono ?_); rintro e w2 ⟨rfl, b2⟩))
    go_ret2
    exact ⟨ret_int2 rfl rfl, (b1.trans b2).below⟩
  rw [show fdI Z u = ((fdN (idP Z u) Z.length : Nat) : Int) from if_pos hf] at cF0
  rw [← hm.out, ← hq.out]
  have hVV : mvV Z u m q bal = if ltV (Z.getD (fdN (idP Z u) Z.length) prt0).mas (gmV Z m q bal (fdN (idP Z u) Z.length)) ≤ 8000 then ltV (Z.getD (fdN (idP Z u) Z.length) prt0).mas (gmV Z m q bal (fdN (idP Z u) Z.length)) else 0 := by unfold mvV; rw [if_pos hf]
  have hCC : mvC Z u m q bal = if ltV (Z.getD (fdN (idP Z u) Z.length) prt0).mas (gmV Z m q bal (fdN (idP Z u) Z.length)) ≤ 8000 then 0 else 6 := by unfold mvC; rw [if_pos hf]
  rw [hVV, hCC]
  clear hVV hCC
  obtain ⟨k, hk⟩ : ∃ k, k = fdN (idP Z u) Z.length := ⟨_, rfl⟩
  rw [← hk] at cF0 hf ⊢
  have cF := Lib.hid cF0
  have hab := bowOk_at hlo.out hf
  unfold gmV
  rw [prt_getD_at' hf]
  have hcel0 : ∃ g o, p9 = some ⟨g, o, none⟩ ∧ ∀ W, DrewOf w W → W.cell? ⟨g, o + k * 3 + 1, none⟩ = some (.int .i64 Z[k].plc) ∧ W.cell? ⟨g, o + k * 3 + 2, none⟩ = some (.int .i64 Z[k].mas) := by
    obtain ⟨a1, c1', e1, _, _, hread⟩ := hv'.out
    injection e1 with e1 _ _
    subst e1
    rcases hread with h | ⟨g, o, e2, hg, hc⟩
    · subst h; simp at hf
    · exact ⟨g, o, e2, fun W hW => prt_at hW (hc k hf)⟩
  obtain ⟨g, o, rfl, hcel1⟩ := hcel0
  have hkI : (k : Int) < (Z.length : Int) := by omega
  obtain ⟨a, ha⟩ : ∃ a, a = Z[k].plc := ⟨_, rfl⟩
  obtain ⟨b, hb⟩ : ∃ b, b = Z[k].mas := ⟨_, rfl⟩
  rw [← ha, ← hb] at hab hcel1
  rw [← ha, ← hb]
  have hcel := Lib.hid hcel1
  have hmm := mom_bd hab.1 hab.2
  have hmb := ms_bd hmb0 hqb0 hp3
  have hls := ltV_spec (e := b) (g := msV m q bal + b * a) (by omega)
  have hmv : Hid (∀ t, msV m (q - b * a + b * t) bal = msV m q bal + b * a - b * t) := Lib.hid (fun t => by unfold msV; omega)
  have cQ0 := fun W (hd : DrewOf w W) n => (l11Moment_any _ Z (W.drewN n) hlo.out (hv'.out.below (hd.more n).below)).mono (R' := fun e w' => e = .returned (.int .i64 (sumF (momF Z) Z.length)) ∧ ∃ j, w' = W.drewN j) (by rintro e w' ⟨rfl, j, rfl⟩; exact ⟨rfl, n + j, by rw [World.drewN_drewN]⟩)
  have cM0 := fun W (hd : DrewOf w W) n => (l11Mass_any _ Z (W.drewN n) hlo.out (hv'.out.below (hd.more n).below)).mono (R' := fun e w' => e = .returned (.int .i64 (sumF (masF Z) Z.length)) ∧ ∃ j, w' = W.drewN j) (by rintro e w' ⟨rfl, j, rfl⟩; exact ⟨rfl, n + j, by rw [World.drewN_drewN]⟩)
  rw [← hq.out] at cQ0
  rw [← hm.out] at cM0
  have cQ := Lib.hid cQ0
  have cM := Lib.hid cM0
  have e1 : IntKind.i64.wrap (b * a) = b * a := IntWalk.i64_in _ (by omega)
  have e2 : IntKind.i64.wrap (q - b * a) = q - b * a := IntWalk.i64_in _ (by omega)
  obtain ⟨RV, hRV0⟩ : ∃ RV : Int, RV = (if ltV b (msV m q bal + b * a) ≤ 8000 then ltV b (msV m q bal + b * a) else 0) := ⟨_, rfl⟩
  obtain ⟨RC, hRC0⟩ : ∃ RC : Int, RC = (if ltV b (msV m q bal + b * a) ≤ 8000 then 0 else 6) := ⟨_, rfl⟩
  rw [← hRV0, ← hRC0]
  have hRV := Lib.hid hRV0
  have hRC := Lib.hid hRC0
  clear cF0 hcel1 cQ0 cM0 ha hb hk h3 hRV0 hRC0
  go_enter Tryd.func11, Tryd.ntmps11
  go_wp2_with (first
    | (go_at_call 18; (with_reducible refine cV.out.mono ?_); rintro e w1 ⟨rfl, b1⟩)
    | (go_at_call 19; (with_reducible refine (cPb.out _).mono ?_); rintro e w' ⟨rfl, rfl⟩)
    | (go_at_call 30; (with_reducible refine (cF.out _ b1).mono ?_); rintro e w2 ⟨rfl, b2⟩))
  obtain ⟨k1, k2⟩ := hcel.out _ (b1.trans b2)
  have b12 := b1.trans b2
  clear b1 b2
  go_quiet ((go_at_call 20; (with_reducible exact cQ.out _ b12 _)))
  have b13 : DrewOf w (w2.drewN nq) := b12.more nq
  generalize w2.drewN nq = W3 at b13 ⊢
  clear k1 k2 b12
  obtain ⟨T, hT⟩ : ∃ T, T = ltV b (msV m q bal + b * a) := ⟨_, rfl⟩
  rw [← hT] at hls
  have hg1 := Lib.hid hls
  have hT' := Lib.hid hT
  clear hls hT
  go_wp2
  go_loopw [10] (fun i wr => ∃ t : Nat, t ≤ 8001 ∧ i = .int .i64 t ∧ (t : Int) ≤ T ∧ DrewOf w wr) (fun i _ => 8001 - (intOf i).toNat)
  case atStart => exact ⟨0, by omega, rfl, by have := hg1.out.1; omega, b13⟩
  case round =>
    obtain ⟨t, ht, rfl, htT, hd⟩ := hrel
    by_cases hlt : t ≤ 8000
    · have htI : (t : Int) ≤ 8000 := by omega
      have hbt := mulP_bd (a := b) (b := (t : Int)) (A := 100000) (B := 8000) (by omega) (by omega)
      have e3 : IntKind.i64.wrap (b * (t : Int)) = b * (t : Int) := IntWalk.i64_in _ (by omega)
      have e4 : IntKind.i64.wrap (q - b * a + b * (t : Int)) = q - b * a + b * (t : Int) := IntWalk.i64_in _ (by omega)
      obtain ⟨k1, k2⟩ := hcel.out wr hd
      have cR0 := fun W => reaches_any (q - b * a + b * (t : Int)) m bal hmb0 hp3 W
      rw [hmv.out] at cR0
      by_cases hg : msV m q bal + b * a - b * (t : Int) ≤ 0
      · rw [decide_eq_true hg] at cR0
        have cR := Lib.hid cR0
        have hTt : T = (t : Int) := by
          have := hg1.out.2.2 (t : Int) (by omega) (by omega)
          omega
        have hres : Hid ((t : Int) = RV ∧ (0 : Int) = RC) := Lib.hid (by rw [hRV.out, hRC.out, ← hT'.out, if_pos (by omega), if_pos (by omega)]; exact ⟨hTt.symm, rfl⟩)
        clear cR0 hg hTt hmm hmb hbt
        go_wp2
        go_quiet ((first | (go_at_call 21; (with_reducible exact cM.out _ hd _)) | (go_at_call 22; (with_reducible exact Qs (cR.out _)))))
        go_wp2
        go_ret2
        exact ⟨ret_int2 hres.out.1 hres.out.2, (hd.more _).below⟩
      · rw [decide_eq_false hg] at cR0
        have cR := Lib.hid cR0
        have htT2 : ((t + 1 : Nat) : Int) ≤ T := by
          have h1 := hg1.out.2.1
          rcases Int.lt_or_le (t : Int) T with h2 | h2
          · omega
          · have h3 := Int.mul_le_mul_of_nonneg_left h2 (show (0 : Int) ≤ b by omega)
            omega
        clear cR0 hg hmm hmb hbt
        go_wp2
        go_quiet ((first | (go_at_call 21; (with_reducible exact cM.out _ hd _)) | (go_at_call 22; (with_reducible exact Qs (cR.out _)))))
        go_wp2
        go_roundw
        case rel => exact ⟨t + 1, by omega, by go_num, htT2, hd.more _⟩
        case measure => simp [intOf]; omega
    · obtain rfl : t = 8001 := by omega
      have hres : Hid ((0 : Int) = RV ∧ (6 : Int) = RC) := Lib.hid (by rw [hRV.out, hRC.out, ← hT'.out, if_neg (by omega), if_neg (by omega)]; exact ⟨rfl, rfl⟩)
      go_wp2
      go_ret2
      exact ⟨ret_int2 hres.out.1 hres.out.2, hd.below⟩
end Go.Proofs.YtmhiekfnkbldeaaDoor
