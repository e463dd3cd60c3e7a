/-
  The gap of two plates, on both sides.
-/
import Derived.Test.YtndnliaahdmbmaaGap
import Derived.Test.YtndnliaahdmbmaaPlt
namespace Go.Proofs.Ytndnliaahdmbmaa
open Go.ChangeShapes Go.WideShapes Go.ChangeAt Go.RowKit Go.Deep
set_option linter.unusedVariables false
set_option linter.unusedSimpArgs false
def pgB (G G' : List (List Int)) : Bool := decide (G.length = G'.length) && decide (colsG G = colsG G')
def pgC (G G' : List (List Int)) : Int := if okP G && okP G' then (if pgB G G' then 0 else 7) else 1
def pgV (G G' : List (List Int)) : Int := if pgC G G' = 0 then gaF (hG G) (hG G') (plAll G.length (colsG G)) else 0
theorem pg_bad {G G' : List (List Int)} {c : Int} (e : pgC G G' = c) (hc : c ≠ 0) : (0 : Int) = pgV G G' ∧ c = pgC G G' := by unfold pgV; rw [e, if_neg hc]; exact ⟨rfl, rfl⟩
theorem pg_good {G G' : List (List Int)} (e : pgC G G' = 0) : gaF (hG G) (hG G') (plAll G.length (colsG G)) = pgV G G' ∧ (0 : Int) = pgC G G' := by unfold pgV; rw [e, if_pos rfl]; exact ⟨rfl, rfl⟩
theorem GR.drew9 {w w' : World} {g o cap R C : Nat} {rg ro rc : Nat → Nat} {h : Nat → Nat → Int} (x : GR w g o cap R C rg ro rc h) (hd : DrewOf w w') : GR w' g o cap R C rg ro rc h := x.below hd.below
theorem l08Abs_any (n : Int) (h0 : -1000000 ≤ n) (h1 : n ≤ 1000000) (w : World) : Calls Try.prog 72 #[.int .i64 n] w fun e w' => e = .returned (.int .i64 (absG n 0)) ∧ w = w' := by
  have hr : Hid (maxG n (-n) = absG n 0) := Lib.hid (by unfold absG maxG; split <;> split <;> omega)
  have ew : IntKind.i64.wrap (-n) = -n := IntWalk.i64_in _ (by omega)
  go_enter Try.func72, Try.ntmps72
  go_wp2_with (go_at_call 87; refine (l00MaxG _ _ _).mono ?_; rintro e w' ⟨rfl, rfl⟩)
  go_ret
  exact ⟨ret_int hr.out, rfl⟩
theorem absG_sub (a b : Int) : absG (a - b) 0 = absG a b := by unfold absG; split <;> split <;> omega
set_option maxRecDepth 100000 in
set_option maxHeartbeats 3200000 in
theorem implPlateGap_any (v v' : Value) (G G' : List (List Int)) (w : World) (hn : G.length + totL G ≤ 1048576) (hn' : G'.length + totL G' ≤ 1048576) (hv : GridAt w v G) (hv' : GridAt w v' G') : Calls Try.prog 44 #[v, v'] w fun e w' => e = .returned (.tuple #[.int .i64 (pgV G G'), .int .i64 (pgC G G')]) ∧ Below w.heap.size w w' := by
  have cV := Lib.hid (implValidPlate_any v G w hn hv)
  have cV' := Lib.hid (fun W (hb : DrewOf w W) => implValidPlate_any v' G' W hn' (hv'.below hb.below))
  cases hok1 : okP G
  · have hr := Lib.hid (pg_bad (show pgC G G' = 1 by unfold pgC; rw [hok1]; rfl) (by decide))
    rw [hok1] at cV
    obtain ⟨a, cap, rfl, _⟩ := hv
    obtain ⟨a', cap', rfl, _⟩ := hv'
    clear hok1 hn hn' cV'
    go_enter Try.func44, Try.ntmps44
    go_wp2_with (go_at_call 18; refine cV.out.mono ?_; rintro e w2 ⟨rfl, hd⟩)
    go_ret2
    exact ⟨ret_int2 hr.out.1 hr.out.2, hd.below⟩
  rw [hok1] at cV
  cases hok2 : okP G'
  · have hr := Lib.hid (pg_bad (show pgC G G' = 1 by unfold pgC; rw [hok1, hok2]; rfl) (by decide))
    rw [hok2] at cV'
    obtain ⟨a, cap, rfl, _⟩ := hv
    obtain ⟨a', cap', rfl, _⟩ := hv'
    clear hok1 hok2 hn hn'
    go_enter Try.func44, Try.ntmps44
    go_wp2_with fail
    refine cV.out.mono ?_
    rintro e w2 ⟨rfl, hd⟩
    go_wp2_with fail
    refine (cV'.out _ hd).mono ?_
    rintro e w3 ⟨rfl, hd3⟩
    go_wp2
    go_ret2
    exact ⟨ret_int2 hr.out.1 hr.out.2, (hd.trans hd3).below⟩
  rw [hok2] at cV'
  obtain ⟨g, o, cap, rg, ro, rc, rfl, hGR⟩ := grid_GR hv (okP_okG hok1)
  obtain ⟨g', o', cap', rg', ro', rc', rfl, hGR'⟩ := grid_GR hv' (okP_okG hok2)
  have hC : Hid (pgC G G' = if pgB G G' then 0 else 7) := Lib.hid (by unfold pgC; rw [hok1, hok2]; rfl)
  have hB : Hid (pgB G G' = (decide (G.length = G'.length) && decide (colsG G = colsG G'))) := Lib.hid rfl
  have hbad : Hid (pgC G G' = 7 → (0 : Int) = pgV G G' ∧ (7 : Int) = pgC G G') := Lib.hid (fun e => pg_bad e (by decide))
  have hgood : Hid (pgC G G' = 0 → gaF (hG G) (hG G') (plAll G.length (colsG G)) = pgV G G' ∧ (0 : Int) = pgC G G') := Lib.hid pg_good
  obtain ⟨h, hh⟩ : ∃ h, h = hG G := ⟨_, rfl⟩
  obtain ⟨h', hh'⟩ : ∃ h', h' = hG G' := ⟨_, rfl⟩
  obtain ⟨R, hR⟩ : ∃ R, R = G.length := ⟨_, rfl⟩
  obtain ⟨C, hCe⟩ : ∃ C, C = colsG G := ⟨_, rfl⟩
  obtain ⟨R', hR'⟩ : ∃ R', R' = G'.length := ⟨_, rfl⟩
  obtain ⟨C', hCe'⟩ : ∃ C', C' = colsG G' := ⟨_, rfl⟩
  obtain ⟨PV, hPV⟩ : ∃ x, x = pgV G G' := ⟨_, rfl⟩
  obtain ⟨PC, hPC⟩ : ∃ x, x = pgC G G' := ⟨_, rfl⟩
  rw [← hPC] at hC hbad hgood
  rw [← hPV] at hbad hgood
  rw [hB.out] at hC
  rw [← hR, ← hR', ← hCe, ← hCe'] at hC
  rw [← hR, ← hCe, ← hh, ← hh'] at hgood
  rw [← hPV, ← hPC, ← hR, ← hR']
  rw [← hR] at cV
  rw [← hR'] at cV'
  rw [← hR, ← hCe, ← hh] at hGR
  rw [← hR', ← hCe', ← hh'] at hGR'
  have hx := Lib.hid hGR
  have hx' := Lib.hid hGR'
  have r1 := hGR.R1
  have r2 := hGR.R10
  have q1 := hGR.C1
  have q2 := hGR.C10
  have r1' := hGR'.R1
  have r2' := hGR'.R10
  have q1' := hGR'.C1
  have q2' := hGR'.C10
  clear hok1 hok2 hn hn' hv hv' hGR hGR' hh hh' hR hCe hR' hCe' hPV hPC hB
  have cZ := Lib.hid (fun W (hb : Below w.heap.size w W) => size_any g o cap R C (rc 0) (some ⟨rg 0, ro 0, none⟩) r1 (by omega) (by omega) W (by simpa using (hx.out.below hb).top 0 (by omega)))
  have cZ' := Lib.hid (fun W (hb : Below w.heap.size w W) => size_any g' o' cap' R' C' (rc' 0) (some ⟨rg' 0, ro' 0, none⟩) r1' (by omega) (by omega) W (by simpa using (hx'.out.below hb).top 0 (by omega)))
  by_cases hsame : R = R' ∧ C = C'
  · obtain ⟨rfl, rfl⟩ := hsame
    have hr := Lib.hid (hgood.out (by rw [hC.out]; simp))
    have cG := Lib.hid (fun W (hb : Below w.heap.size w W) => gap_grid g o cap R C rg ro rc h g' o' cap' rg' ro' rc' h' W (hx.out.below hb) (hx'.out.below hb))
    obtain ⟨V, hV⟩ : ∃ V, V = gaF h h' (plAll R C) := ⟨_, rfl⟩
    rw [← hV] at cG hr
    clear hC hbad hgood hV
    go_enter Try.func44, Try.ntmps44
    go_wp2_with fail
    refine cV.out.mono ?_
    rintro e w2 ⟨rfl, hd⟩
    go_wp2_with fail
    refine (cV'.out _ hd).mono ?_
    rintro e w3 ⟨rfl, hd3⟩
    have b3 := (hd.trans hd3).below
    go_wp2_with fail
    refine (cZ.out _ b3).mono ?_
    rintro e w4 ⟨rfl, b4⟩
    have B4 := below2 b3 b4
    go_wp2_with fail
    refine (cZ'.out _ B4).mono ?_
    rintro e w5 ⟨rfl, b5⟩
    have B5 := below2 B4 b5
    go_wp2_with fail
    refine (cG.out _ B5).mono ?_
    rintro e w6 ⟨rfl, b6⟩
    go_wp2
    go_ret2
    exact ⟨ret_int2 hr.out.1 hr.out.2, below2 B5 b6⟩
  · have hr := Lib.hid (hbad.out (by rw [hC.out, if_neg]; simp only [Bool.and_eq_true, decide_eq_true_eq]; exact hsame))
    have hne : Hid ((R : Int) = (R' : Int) → (C : Int) = (C' : Int) → False) := Lib.hid (fun e1 e2 => hsame ⟨by omega, by omega⟩)
    clear hC hbad hgood hsame
    go_enter Try.func44, Try.ntmps44
    go_wp2_with fail
    refine cV.out.mono ?_
    rintro e w2 ⟨rfl, hd⟩
    go_wp2_with fail
    refine (cV'.out _ hd).mono ?_
    rintro e w3 ⟨rfl, hd3⟩
    have b3 := (hd.trans hd3).below
    go_wp2_with fail
    refine (cZ.out _ b3).mono ?_
    rintro e w4 ⟨rfl, b4⟩
    have B4 := below2 b3 b4
    go_wp2_with fail
    refine (cZ'.out _ B4).mono ?_
    rintro e w5 ⟨rfl, b5⟩
    have B5 := below2 B4 b5
    go_wp2
    all_goals (first
      | (go_ret2; exact ⟨ret_int2 hr.out.1 hr.out.2, B5⟩)
      | (exfalso; exact hne.out (by first | rfl | assumption | omega) (by first | rfl | assumption | omega)))
set_option maxRecDepth 100000 in
set_option maxHeartbeats 3200000 in
theorem specPlateGap_any (v v' : Value) (G G' : List (List Int)) (w : World) (hn : G.length + totL G ≤ 1048576) (hn' : G'.length + totL G' ≤ 1048576) (hv : GridAt w v G) (hv' : GridAt w v' G') : Calls Try.prog 43 #[v, v'] w fun e w' => e = .returned (.tuple #[.int .i64 (pgV G G'), .int .i64 (pgC G G')]) ∧ Below w.heap.size w w' := by
  have cV := Lib.hid (l08Ok_any v G w hn hv)
  have cV' := Lib.hid (fun W (hb : DrewOf w W) => l08Ok_any v' G' W hn' (hv'.below hb.below))
  cases hok1 : okP G
  · have hr := Lib.hid (pg_bad (show pgC G G' = 1 by unfold pgC; rw [hok1]; rfl) (by decide))
    rw [hok1] at cV
    obtain ⟨a, cap, rfl, _⟩ := hv
    obtain ⟨a', cap', rfl, _⟩ := hv'
    clear hok1 hn hn' cV'
    go_enter Try.func43, Try.ntmps43
    go_wp2_with (go_at_call 48; refine cV.out.mono ?_; rintro e w2 ⟨rfl, hd⟩)
    go_ret2
    exact ⟨ret_int2 hr.out.1 hr.out.2, hd.below⟩
  rw [hok1] at cV
  cases hok2 : okP G'
  · have hr := Lib.hid (pg_bad (show pgC G G' = 1 by unfold pgC; rw [hok1, hok2]; rfl) (by decide))
    rw [hok2] at cV'
    obtain ⟨a, cap, rfl, _⟩ := hv
    obtain ⟨a', cap', rfl, _⟩ := hv'
    clear hok1 hok2 hn hn'
    go_enter Try.func43, Try.ntmps43
    go_wp2_with fail
    refine cV.out.mono ?_
    rintro e w2 ⟨rfl, hd⟩
    go_wp2_with fail
    refine (cV'.out _ hd).mono ?_
    rintro e w3 ⟨rfl, hd3⟩
    go_wp2
    go_ret2
    exact ⟨ret_int2 hr.out.1 hr.out.2, (hd.trans hd3).below⟩
  rw [hok2] at cV'
  obtain ⟨g, o, cap, rg, ro, rc, rfl, hGR⟩ := grid_GR hv (okP_okG hok1)
  obtain ⟨g', o', cap', rg', ro', rc', rfl, hGR'⟩ := grid_GR hv' (okP_okG hok2)
  have hC : Hid (pgC G G' = if pgB G G' then 0 else 7) := Lib.hid (by unfold pgC; rw [hok1, hok2]; rfl)
  have hB : Hid (pgB G G' = (decide (G.length = G'.length) && decide (colsG G = colsG G'))) := Lib.hid rfl
  have hbad : Hid (pgC G G' = 7 → (0 : Int) = pgV G G' ∧ (7 : Int) = pgC G G') := Lib.hid (fun e => pg_bad e (by decide))
  have hgood : Hid (pgC G G' = 0 → gaF (hG G) (hG G') (plAll G.length (colsG G)) = pgV G G' ∧ (0 : Int) = pgC G G') := Lib.hid pg_good
  obtain ⟨h, hh⟩ : ∃ h, h = hG G := ⟨_, rfl⟩
  obtain ⟨h', hh'⟩ : ∃ h', h' = hG G' := ⟨_, rfl⟩
  obtain ⟨R, hR⟩ : ∃ R, R = G.length := ⟨_, rfl⟩
  obtain ⟨C, hCe⟩ : ∃ C, C = colsG G := ⟨_, rfl⟩
  obtain ⟨R', hR'⟩ : ∃ R', R' = G'.length := ⟨_, rfl⟩
  obtain ⟨C', hCe'⟩ : ∃ C', C' = colsG G' := ⟨_, rfl⟩
  obtain ⟨PV, hPV⟩ : ∃ x, x = pgV G G' := ⟨_, rfl⟩
  obtain ⟨PC, hPC⟩ : ∃ x, x = pgC G G' := ⟨_, rfl⟩
  rw [← hPC] at hC hbad hgood
  rw [← hPV] at hbad hgood
  rw [hB.out] at hC
  rw [← hR, ← hR', ← hCe, ← hCe'] at hC
  rw [← hR, ← hCe, ← hh, ← hh'] at hgood
  rw [← hPV, ← hPC, ← hR, ← hR']
  rw [← hR] at cV
  rw [← hR'] at cV'
  rw [← hR, ← hCe, ← hh] at hGR
  rw [← hR', ← hCe', ← hh'] at hGR'
  have hx := Lib.hid hGR
  have hx' := Lib.hid hGR'
  have r1 := hGR.R1
  have r2 := hGR.R10
  have q1 := hGR.C1
  have q2 := hGR.C10
  have r1' := hGR'.R1
  have r2' := hGR'.R10
  have q1' := hGR'.C1
  have q2' := hGR'.C10
  clear hok1 hok2 hn hn' hv hv' hGR hGR' hh hh' hR hCe hR' hCe' hPV hPC hB
  have r1I : (0 : Int) < (R : Int) := by omega
  have r1I' : (0 : Int) < (R' : Int) := by omega
  by_cases hRR : R = R'
  rotate_left
  · have b1 : ((R : Int) == (R' : Int)) = false := by simpa using (show ¬ (R : Int) = (R' : Int) by omega)
    have b2 : ((R : Int) != (R' : Int)) = true := by simp [bne, b1]
    have hr := Lib.hid (hbad.out (by rw [hC.out]; simp [hRR]))
    clear hRR hC hbad hgood
    go_enter Try.func43, Try.ntmps43
    go_wp2_with fail
    refine cV.out.mono ?_
    rintro e w2 ⟨rfl, hd⟩
    go_wp2_with fail
    refine (cV'.out _ hd).mono ?_
    rintro e w3 ⟨rfl, hd3⟩
    have hD := hd.trans hd3
    have t0 := (hx.out.drew9 hD).top 0 (by omega)
    have t0' := (hx'.out.drew9 hD).top 0 (by omega)
    rw [Nat.add_zero] at t0 t0'
    clear hd hd3
    go_wp2
    go_quiet (fail)
    go_wp2
    go_ret2
    exact ⟨ret_int2 hr.out.1 hr.out.2, (hD.more _).below⟩
  have b1 : ((R : Int) == (R' : Int)) = true := by simp [hRR]
  have b2 : ((R : Int) != (R' : Int)) = false := by simp [bne, b1]
  by_cases hCC : C = C'
  rotate_left
  · have b3 : ((C : Int) == (C' : Int)) = false := by simpa using (show ¬ (C : Int) = (C' : Int) by omega)
    have b4 : ((C : Int) != (C' : Int)) = true := by simp [bne, b3]
    have hr := Lib.hid (hbad.out (by rw [hC.out]; simp [hCC]))
    clear hRR hCC hC hbad hgood
    go_enter Try.func43, Try.ntmps43
    go_wp2_with fail
    refine cV.out.mono ?_
    rintro e w2 ⟨rfl, hd⟩
    go_wp2_with fail
    refine (cV'.out _ hd).mono ?_
    rintro e w3 ⟨rfl, hd3⟩
    have hD := hd.trans hd3
    have t0 := (hx.out.drew9 hD).top 0 (by omega)
    have t0' := (hx'.out.drew9 hD).top 0 (by omega)
    rw [Nat.add_zero] at t0 t0'
    clear hd hd3
    go_wp2
    go_quiet (fail)
    go_wp2
    go_ret2
    exact ⟨ret_int2 hr.out.1 hr.out.2, (hD.more _).below⟩
  have b3 : ((C : Int) == (C' : Int)) = true := by simp [hCC]
  have b4 : ((C : Int) != (C' : Int)) = false := by simp [bne, b3]
  have hr := Lib.hid (hgood.out (by rw [hC.out]; simp [hRR, hCC]))
  have hRR' := Lib.hid hRR
  have hCC' := Lib.hid hCC
  clear hRR hCC hC hbad hgood
  go_enter Try.func43, Try.ntmps43
  go_wp2_with fail
  refine cV.out.mono ?_
  rintro e w2 ⟨rfl, hd⟩
  go_wp2_with fail
  refine (cV'.out _ hd).mono ?_
  rintro e w3 ⟨rfl, hd3⟩
  have hD := hd.trans hd3
  have t0 := (hx.out.drew9 hD).top 0 (by omega)
  have t0' := (hx'.out.drew9 hD).top 0 (by omega)
  rw [Nat.add_zero] at t0 t0'
  clear hd hd3
  go_wp2
  go_quiet (fail)
  go_wp2
  have hD2 := hD.more nq
  clear t0 t0' hD
  generalize w3.drewN nq = W3 at hD2 ⊢
  go_loopw [6, 7] (fun x i wr => ∃ (k : Nat) (s : Int), k ≤ R ∧ i = .int .i64 k ∧ x = .int .i64 s ∧ Hid (s = gaF h h' (plTo C k 0)) ∧ DrewOf w wr) (fun _ i _ => R - (intOf i).toNat)
  case atStart => exact ⟨0, 0, by omega, rfl, rfl, Lib.hid rfl, hD2⟩
  case round =>
    obtain ⟨k, s, hk, rfl, rfl, hs, hd⟩ := hrel
    by_cases hlt : k < R
    · have hkI : (k : Int) < (R : Int) := by omega
      have c1 := (hx.out.drew9 hd).top k hlt
      go_wp2
      clear c1
      go_loopw [6, 8] (fun x i wr => ∃ (m : Nat) (s : Int), m ≤ C ∧ i = .int .i64 m ∧ x = .int .i64 s ∧ Hid (s = gaF h h' (plTo C k m)) ∧ DrewOf w wr) (fun _ i _ => C - (intOf i).toNat)
      case atStart => exact ⟨0, s, by omega, rfl, rfl, hs, hd⟩
      case round =>
        obtain ⟨m, s, hm, rfl, rfl, hs, hd⟩ := hrel
        have c1 := (hx.out.drew9 hd).top k hlt
        by_cases hlm : m < C
        · have hz := Lib.hid (hx.out.drew9 hd)
          have hz' := Lib.hid (hx'.out.drew9 hd)
          have hlt' : k < R' := by have := hRR'.out; omega
          have hlm' : m < C' := by have := hCC'.out; omega
          have c2 := hz.out.cel k hlt m hlm
          have c3 := hz'.out.top k hlt'
          have c4 := hz'.out.cel k hlt' m hlm'
          have z1a := hz.out.h0 k m hlt hlm
          have z1b := hz.out.h1 k m hlt hlm
          have z2a := hz'.out.h0 k m hlt' hlm'
          have z2b := hz'.out.h1 k m hlt' hlm'
          have hnext := gaF_next h h' (plTo C k m) (k, m)
          rw [← hs.out, ← plTo_next] at hnext
          dsimp only at hnext
          obtain ⟨z1, hz1⟩ : ∃ z, z = h k m := ⟨_, rfl⟩
          obtain ⟨z2, hz2⟩ : ∃ z, z = h' k m := ⟨_, rfl⟩
          rw [← hz1] at c2 hnext z1a z1b
          rw [← hz2] at c4 hnext z2a z2b
          have hmI : (m : Int) < (C : Int) := by omega
          have hmI' : (m : Int) < (C' : Int) := by omega
          have hkI' : (k : Int) < (R' : Int) := by omega
          have ew : IntKind.i64.wrap (z1 - z2) = z1 - z2 := IntWalk.i64_in _ (by omega)
          have cD0 := fun W => l08Abs_any (z1 - z2) (by omega) (by omega) W
          rw [absG_sub] at cD0
          have cD := Lib.hid cD0
          have cM := Lib.hid (fun W => l00MaxG s (absG z1 z2) W)
          obtain ⟨dd, hdd⟩ : ∃ d, d = absG z1 z2 := ⟨_, rfl⟩
          rw [← hdd] at cD hnext cM
          obtain ⟨s2, hs2⟩ : ∃ d, d = maxG s dd := ⟨_, rfl⟩
          rw [← hs2] at hnext cM
          have hr : Hid (s2 = gaF h h' (plTo C k (m + 1))) := Lib.hid hnext.symm
          clear hz1 hz2 hdd hs2 hnext z1a z1b z2a z2b hs cD0
          go_wp2
          go_quiet ((first | (go_at_call 72; exact Qs (cD.out _)) | (go_at_call 87; exact Qs (cM.out _))))
          go_wp2
          go_roundw
          case rel => exact ⟨m + 1, s2, by omega, by go_num, rfl, hr, hd.more _⟩
          case measure => simp [intOf]; omega
        · have hmC : m = C := by omega
          have hr : Hid (s = gaF h h' (plTo C (k + 1) 0)) := Lib.hid (by have := hs.out; rw [hmC, plTo_row] at this; exact this)
          clear hmC hs
          go_wp2
          go_roundw
          case rel => exact ⟨k + 1, s, by omega, by go_num, rfl, hr, hd⟩
          case measure => simp [intOf]; omega
    · have hkR : k = R := by omega
      have hr2 : Hid (s = gaF h h' (plAll R C)) := Lib.hid (by have := hs.out; rw [hkR] at this; exact this)
      clear hkR hs
      go_wp2
      go_ret2
      exact ⟨ret_int2 (by rw [hr2.out]; exact hr.out.1) hr.out.2, hd.below⟩
end Go.Proofs.Ytndnliaahdmbmaa
