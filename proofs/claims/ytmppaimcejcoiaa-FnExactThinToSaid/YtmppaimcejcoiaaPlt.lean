/-
  Plates: validity on both sides.
-/
import Derived.Test.YtmppaimcejcoiaaArchI
namespace Go.Proofs.Ytmppaimcejcoiaa
open Go.ChangeShapes Go.WideShapes Go.ChangeAt Go.RowKit Go.Deep
set_option linter.unusedVariables false
set_option linter.unusedSimpArgs false
/-- a valid row of so many heights -/
def rowOkP (c : Nat) (Z : List Int) : Bool := decide (Z.length = c) && (decide (Z.length ≠ 0) && (decide (Z.length ≤ 10) && Z.all fun n => inB n 1 200))
/-- a valid grid -/
def okP (G : List (List Int)) : Bool := G.all (rowOkP (colsG G)) && (decide (0 < G.length) && decide (G.length ≤ 10))
theorem okP_okG {G : List (List Int)} (h : okP G = true) : okG G = true := by
  simp only [okP, rowOkP, okG, rowOk, Bool.and_eq_true, decide_eq_true_eq, List.all_eq_true] at h ⊢
  obtain ⟨h1, h2, h3⟩ := h
  refine ⟨fun Z hZ => ?_, h2, h3⟩
  obtain ⟨a, b, c, d⟩ := h1 Z hZ
  refine ⟨a, b, c, fun n hn => ?_⟩
  have := inB_iff.1 (d n hn)
  exact inB_iff.2 (by omega)
/-- the heights of a valid plate -/
theorem okP_bd {G : List (List Int)} (h : okP G = true) : ∀ i k, i < G.length → k < colsG G → 1 ≤ hG G i k ∧ hG G i k ≤ 200 := by
  intro i k hi hk
  have hl := ((okG_rows (okP_okG h)).2.2.2.2 _ (List.getElem_mem hi)).1
  rw [hG_get hi (by omega)]
  simp only [okP, rowOkP, Bool.and_eq_true, decide_eq_true_eq, List.all_eq_true] at h
  exact inB_iff.1 ((h.1 _ (List.getElem_mem hi)).2.2.2 _ (List.getElem_mem _))
theorem isPlateThick_any (n : Int) (w : World) : Calls Try.prog 30 #[.int .i64 n] w fun e w' => e = .returned (.bool (inB n 1 200)) ∧ w = w' := by
  go_enter Try.func30, Try.ntmps30
  go_wp2_with (go_at_call 29; refine (within64_any _ _ _ _).mono ?_; rintro e w' ⟨rfl, rfl⟩)
  go_ret
  exact ⟨rfl, rfl⟩
theorem l08Thick_any (n : Int) (w : World) : Calls Try.prog 24 #[.int .i64 n] w fun e w' => e = .returned (.bool (inB n 1 200)) ∧ w = w' := by
  go_enter Try.func24, Try.ntmps24
  go_wp2_with (go_at_call 23; refine (l00In_any _ _ _ _).mono ?_; rintro e w' ⟨rfl, rfl⟩)
  go_ret
  exact ⟨rfl, rfl⟩
theorem okP_no {G : List (List Int)} (h : G.all (rowOkP (colsG G)) = false) : okP G = false := by unfold okP; rw [h]; rfl
theorem rowOkP_len {c : Nat} {Z : List Int} (h : Z.length ≠ c) : rowOkP c Z = false := by unfold rowOkP; simp [h]
theorem rowOkP_zero {c : Nat} {Z : List Int} (h : Z.length = 0) : rowOkP c Z = false := by unfold rowOkP; simp [h]
theorem rowOkP_long {c : Nat} {Z : List Int} (h : ¬ Z.length ≤ 10) : rowOkP c Z = false := by unfold rowOkP; simp [h]
theorem rowOkP_num {c : Nat} {Z : List Int} (h : Z.all (fun n => inB n 1 200) = false) : rowOkP c Z = false := by unfold rowOkP; simp [h]
theorem rowOkP_yes {c : Nat} {Z : List Int} (h1 : Z.length = c) (h2 : Z.length ≠ 0) (h3 : Z.length ≤ 10) (h : Z.all (fun n => inB n 1 200) = true) : rowOkP c Z = true := by unfold rowOkP; rw [h]; simp [h1 ▸ h2, h1 ▸ h3, h1]
set_option maxHeartbeats 3200000 in
theorem l08Ok_any (v : Value) (G : List (List Int)) (w : World) (hn : G.length + totL G ≤ 1048576) (hv : GridAt w v G) : Calls Try.prog 21 #[v] w fun e w' => e = .returned (.bool (okP G)) ∧ DrewOf w w' := by
  obtain ⟨a, cap, rfl, hcap, hread⟩ := hv
  have hread' := Lib.hid hread
  have hn' := Lib.hid hn
  have hn2 : G.length ≤ 1048576 := by omega
  have hx : Hid (okP G = (G.all (rowOkP (colsG G)) && (decide (0 < G.length) && decide (G.length ≤ 10)))) := Lib.hid rfl
  clear hread hn
  go_enter Try.func21, Try.ntmps21
  go_wp2
  go_loopw [3] (fun i wr => ∃ k : Nat, k ≤ G.length ∧ i = .int .i64 k ∧ Hid ((G.take k).all (rowOkP (colsG G)) = true) ∧ DrewOf w wr) (fun i _ => G.length - (intOf i).toNat)
  case atStart => exact ⟨0, by omega, rfl, Lib.hid (by simp), DrewOf.refl _⟩
  case round =>
    obtain ⟨k, hk, rfl, hall, hd⟩ := hrel
    by_cases hlt : k < G.length
    · rcases hread'.out with h | ⟨g, o, rfl, hg, hc⟩
      · subst h; simp at hlt
      obtain ⟨u0, hu0, hz0⟩ := hc 0 (by omega)
      obtain ⟨u, hu, hz⟩ := hc k hlt
      have hl0 : G[0].length ≤ 1048576 := by have := totL_ge (List.getElem_mem (show 0 < G.length by omega)); have := hn'.out; omega
      have hlk : G[k].length ≤ 1048576 := by have := totL_ge (List.getElem_mem hlt); have := hn'.out; omega
      have hcol := colsG_get (show 0 < G.length by omega)
      rw [← hcol] at hl0
      obtain ⟨a0, cap0, rfl⟩ := ints_len hz0
      rw [← hcol] at hu0
      have e0 : wr.cell? ⟨g, o, none⟩ = some (.slice a0 (colsG G) cap0) := by rw [hd.cell]; simpa using hu0
      have e1 : wr.cell? ⟨g, o + k, none⟩ = some u := by rw [hd.cell]; exact hu
      have hno : Hid (rowOkP (colsG G) G[k] = false → okP G = false) := Lib.hid (fun h => okP_no (all_not hlt h))
      have hyes : Hid (rowOkP (colsG G) G[k] = true → (G.take (k + 1)).all (rowOkP (colsG G)) = true) := Lib.hid (fun h => all_takeG hlt hall.out h)
      obtain ⟨Z, hZ⟩ : ∃ Z, Z = G[k] := ⟨_, rfl⟩
      rw [← hZ] at hz hlk hno hyes
      obtain ⟨c, hcc⟩ : ∃ c, c = colsG G := ⟨_, rfl⟩
      rw [← hcc] at hl0 e0 hno hyes
      obtain ⟨az, capz, rfl, hcapz, hin, hcz⟩ := hz
      have hcz' := Lib.hid hcz
      have hcc' := Lib.hid hcc
      clear hZ hcc hcol hc hcz hu hu0 hz0 hin
      have h0I : (0 : Int) < (G.length : Int) := by omega
      have q0 : Hid (okP G = false → Hid True) := Lib.hid (fun _ => Lib.hid trivial)
      by_cases hB : Z.length = 0
      · have hr := Lib.hid (hno.out (rowOkP_zero hB))
        have d1 : decide ((Z.length : Int) < 1) = true := decide_eq_true (by omega)
        clear hno hyes hB
        go_wp2
        go_quiet (fail)
        go_wp2
        go_ret
        exact ⟨ret_bool hr.out.symm, hd.more _⟩
      have d1 : decide ((Z.length : Int) < 1) = false := decide_eq_false (by omega)
      by_cases hC : Z.length ≤ 10
      rotate_left
      · have hr := Lib.hid (hno.out (rowOkP_long hC))
        have d2 : decide (10 < (Z.length : Int)) = true := decide_eq_true (by omega)
        clear hno hyes hB hC
        go_wp2
        go_quiet (fail)
        go_wp2
        go_ret
        exact ⟨ret_bool hr.out.symm, hd.more _⟩
      have d2 : decide (10 < (Z.length : Int)) = false := decide_eq_false (by omega)
      by_cases hA : Z.length = c
      rotate_left
      · have hr := Lib.hid (hno.out (rowOkP_len hA))
        have b1 : ((Z.length : Int) == (c : Int)) = false := by simpa using (show ¬ (Z.length : Int) = (c : Int) by omega)
        have b2 : ((Z.length : Int) != (c : Int)) = true := by simp [bne, b1]
        clear hno hyes hB hC
        go_wp2
        go_quiet (fail)
        go_wp2
        go_ret
        exact ⟨ret_bool hr.out.symm, hd.more _⟩
      have b1 : ((Z.length : Int) == (c : Int)) = true := by simp [hA]
      have b2 : ((Z.length : Int) != (c : Int)) = false := by simp [bne, b1]
      have hA' := Lib.hid hA
      have hB' := Lib.hid hB
      have hC' := Lib.hid hC
      clear hA hB hC
      have hno2 : Hid (Z.all (fun n => inB n 1 200) = false → okP G = false) := Lib.hid (fun h => hno.out (rowOkP_num h))
      have hyes2 : Hid (Z.all (fun n => inB n 1 200) = true → (G.take (k + 1)).all (rowOkP c) = true) := Lib.hid (fun h => hyes.out (rowOkP_yes hA'.out hB'.out hC'.out h))
      have hd' := Lib.hid hd
      clear hno hyes
      go_wp2
      go_quiet (fail)
      go_wp2
      have hd2 : DrewOf w (wr.drewN nq) := hd'.out.more _
      generalize wr.drewN nq = wq at hd2 ⊢
      go_loopw [4] (fun i wi => ∃ j : Nat, j ≤ Z.length ∧ i = .int .i64 j ∧ Hid ((Z.take j).all (fun n => inB n 1 200) = true) ∧ DrewOf w wi) (fun i _ => Z.length - (intOf i).toNat)
      case atStart => exact ⟨0, by omega, rfl, Lib.hid (by simp), hd2⟩
      case round =>
        obtain ⟨j, hj, rfl, hrow, hdi⟩ := hrel
        have e2 : wr.cell? ⟨g, o + k, none⟩ = some (.slice az Z.length capz) := by rw [hdi.cell, ← hd'.out.cell]; exact e1
        by_cases hlj : j < Z.length
        · rcases hcz'.out with h | ⟨gz, oz, rfl, hgz, hcj⟩
          · subst h; simp at hlj
          have e3 : wr.cell? ⟨gz, oz + j, none⟩ = some (.int .i64 Z[j]) := by rw [hdi.cell]; exact hcj j hlj
          have hyj : Hid (inB Z[j] 1 200 = true → (Z.take (j + 1)).all (fun n => inB n 1 200) = true) := Lib.hid (fun h => all_takeG hlj hrow.out h)
          have hnj : Hid (inB Z[j] 1 200 = false → okP G = false) := Lib.hid (fun h => hno2.out (all_not hlj h))
          obtain ⟨z, hz⟩ : ∃ z, z = Z[j] := ⟨_, rfl⟩
          rw [← hz] at e3 hyj hnj
          clear hz hcj e1 e0
          cases hb : inB z 1 200
          · have hr := Lib.hid (hnj.out hb)
            have cH := Lib.hid (fun W => l08Thick_any z W)
            rw [hb] at cH
            clear hb hnj hyj
            go_wp2_with (go_at_call 24; refine (cH.out _).mono ?_; rintro e w2 ⟨rfl, rfl⟩)
            go_ret
            exact ⟨ret_bool hr.out.symm, hdi⟩
          · have hr := Lib.hid (hyj.out hb)
            have cH := Lib.hid (fun W => l08Thick_any z W)
            rw [hb] at cH
            clear hb hnj hyj
            go_wp2_with (go_at_call 24; refine (cH.out _).mono ?_; rintro e w2 ⟨rfl, rfl⟩)
            go_roundw
            case rel => exact ⟨j + 1, by omega, by go_num, hr, hdi⟩
            case measure => simp [intOf]; omega
        · have hjl : j = Z.length := by omega
          have hr : Hid ((G.take (k + 1)).all (rowOkP (colsG G)) = true) := Lib.hid (by have := hrow.out; rw [hjl, List.take_length] at this; rw [← hcc'.out]; exact hyes2.out this)
          clear hjl hrow e0
          go_wp2
          go_roundw
          case rel => exact ⟨k + 1, by omega, by go_num, hr, hdi⟩
          case measure => simp [intOf]; omega
    · have hkl : k = G.length := by omega
      have hr : Hid (okP G = (decide (0 < G.length) && decide (G.length ≤ 10))) := Lib.hid (by have := hall.out; rw [hkl, List.take_length] at this; rw [hx.out, this]; rfl)
      clear hkl hall
      by_cases h1 : 0 < G.length
      · by_cases h2 : G.length ≤ 10
        · have h1I : (0 : Int) < (G.length : Int) := by omega
          have h2I : (G.length : Int) ≤ 10 := by omega
          go_wp2
          go_ret
          exact ⟨ret_bool (by rw [hr.out]; simp [h1, h2] <;> omega), hd⟩
        · have h1I : (0 : Int) < (G.length : Int) := by omega
          go_wp2
          go_ret
          exact ⟨ret_bool (by rw [hr.out]; simp [h1, h2] <;> omega), hd⟩
      · go_wp2
        go_ret
        exact ⟨ret_bool (by rw [hr.out]; simp [h1]), hd⟩
set_option linter.unusedVariables false
set_option linter.unusedSimpArgs false
theorem okP_rows0 {G : List (List Int)} (h : inB (G.length : Int) 1 10 = false) : okP G = false := by
  unfold okP
  have : (decide (0 < G.length) && decide (G.length ≤ 10)) = false := by
    simp only [inB, Bool.and_eq_false_iff, decide_eq_false_iff_not] at h ⊢
    omega
  rw [this, Bool.and_false]
theorem okP_cols0 {G : List (List Int)} (hG : 0 < G.length) (h : inB (colsG G : Int) 1 10 = false) : okP G = false := by
  refine okP_no (all_not hG ?_)
  have hc := colsG_get hG
  unfold rowOkP
  rw [← hc]
  simp only [inB, Bool.and_eq_false_iff, decide_eq_false_iff_not] at h ⊢
  right
  omega
set_option maxHeartbeats 3200000 in
theorem isGridP_any (v : Value) (G : List (List Int)) (w : World) (hn : G.length + totL G ≤ 1048576) (hv : GridAt w v G) : Calls Try.prog 58 #[v, .int .i64 10, .func (.func 30) #[] #[]] w fun e w' => e = .returned (.bool (okP G)) ∧ DrewOf w w' := by
  obtain ⟨a, cap, rfl, hcap, hread⟩ := hv
  have hn2 : G.length ≤ 1048576 := by omega
  have cW := Lib.hid (fun W => withinG (G.length : Int) 1 10 W)
  cases hR : inB (G.length : Int) 1 10
  · have hr := Lib.hid (okP_rows0 hR)
    rw [hR] at cW
    clear hread hn hR
    go_enter Try.func58, Try.ntmps58
    go_wp2_with (go_at_call 64; refine (cW.out _).mono ?_; rintro e w2 ⟨rfl, rfl⟩)
    go_ret
    exact ⟨ret_bool hr.out.symm, DrewOf.refl _⟩
  have hRR : 1 ≤ G.length ∧ G.length ≤ 10 := by simp only [inB, Bool.and_eq_true, decide_eq_true_eq] at hR; omega
  rw [hR] at cW
  clear hR
  rcases hread with h | ⟨g, o, rfl, hg, hc⟩
  · subst h; simp at hRR
  obtain ⟨u0, hu0, hz0⟩ := hc 0 (by omega)
  have hl0 : G[0].length ≤ 1048576 := by have := totL_ge (List.getElem_mem (show 0 < G.length by omega)); omega
  have hcol := colsG_get (show 0 < G.length by omega)
  rw [← hcol] at hl0
  obtain ⟨a0, cap0, rfl⟩ := ints_len hz0
  rw [← hcol] at hu0
  have e0 : w.cell? ⟨g, o, none⟩ = some (.slice a0 (colsG G) cap0) := by simpa using hu0
  have cC := Lib.hid (fun (W : World) (h : W.cell? ⟨g, o, none⟩ = some (.slice a0 (colsG G) cap0)) => columns_at g o G.length cap (colsG G) cap0 a0 hRR.1 (by omega) hl0 W h)
  have cV := Lib.hid (fun W => withinG (colsG G : Int) 1 10 W)
  cases hC : inB (colsG G : Int) 1 10
  · have hr := Lib.hid (okP_cols0 (show 0 < G.length by omega) hC)
    rw [hC] at cV
    obtain ⟨c, hcc⟩ : ∃ c, c = colsG G := ⟨_, rfl⟩
    rw [← hcc] at cV cC e0
    have e0' := Lib.hid e0
    clear hn hC hcc hcol hc hu0 hz0 hl0 e0
    go_enter Try.func58, Try.ntmps58
    go_wp2_with (first
      | (go_at_call 64; first | (with_reducible refine (cW.out _).mono ?_; rintro e w2 ⟨rfl, rfl⟩) | (with_reducible refine (cV.out _).mono ?_; rintro e w2 ⟨rfl, rfl⟩))
      | (go_at_call 62; refine (cC.out _ e0'.out).mono ?_; rintro e w2 ⟨rfl, rfl⟩))
    go_ret
    exact ⟨ret_bool hr.out.symm, DrewOf.refl _⟩
  have hCC : 1 ≤ colsG G ∧ colsG G ≤ 10 := by simp only [inB, Bool.and_eq_true, decide_eq_true_eq] at hC; omega
  rw [hC] at cV
  have hfin : Hid (G.all (rowOkP (colsG G)) = true → okP G = true) := Lib.hid (fun h => by unfold okP; rw [h]; simp; omega)
  have hno0 : Hid (∀ k (h : k < G.length), rowOkP (colsG G) G[k] = false → okP G = false) := Lib.hid (fun k h hh => okP_no (all_not h hh))
  have hyes0 : Hid (∀ k (h : k < G.length), (G.take k).all (rowOkP (colsG G)) = true → rowOkP (colsG G) G[k] = true → (G.take (k + 1)).all (rowOkP (colsG G)) = true) := Lib.hid (fun k h h1 h2 => all_takeG h h1 h2)
  obtain ⟨c, hcc⟩ : ∃ c, c = colsG G := ⟨_, rfl⟩
  rw [← hcc] at cV cC e0 hfin hno0 hyes0 hCC hl0
  have e0' := Lib.hid e0
  have hc' := Lib.hid hc
  have hn' := Lib.hid hn
  clear hn hC hcc hcol hc hu0 hz0 e0
  go_enter Try.func58, Try.ntmps58
  go_wp2_with (first
      | (go_at_call 64; first | (with_reducible refine (cW.out _).mono ?_; rintro e w2 ⟨rfl, rfl⟩) | (with_reducible refine (cV.out _).mono ?_; rintro e w2 ⟨rfl, rfl⟩))
      | (go_at_call 62; refine (cC.out _ e0'.out).mono ?_; rintro e w2 ⟨rfl, rfl⟩))
  go_loopw [25] (fun i wr => ∃ k : Nat, k ≤ G.length ∧ i = .int .i64 k ∧ Hid ((G.take k).all (rowOkP c) = true) ∧ wr = w) (fun i _ => G.length - (intOf i).toNat)
  case atStart => exact ⟨0, by omega, rfl, Lib.hid (by simp), rfl⟩
  case round =>
    obtain ⟨k, hk, rfl, hall, rfl⟩ := hrel
    by_cases hlt : k < G.length
    · obtain ⟨u, hu, hz⟩ := hc'.out k hlt
      have hlk : G[k].length ≤ 1048576 := by have := totL_ge (List.getElem_mem hlt); have := hn'.out; omega
      have hno : Hid (rowOkP c G[k] = false → okP G = false) := Lib.hid (hno0.out k hlt)
      have hyes : Hid (rowOkP c G[k] = true → (G.take (k + 1)).all (rowOkP c) = true) := Lib.hid (hyes0.out k hlt hall.out)
      obtain ⟨Z, hZ⟩ : ∃ Z, Z = G[k] := ⟨_, rfl⟩
      rw [← hZ] at hz hlk hno hyes
      obtain ⟨az, capz, rfl, hcapz, hin, hcz⟩ := hz
      have hcz' := Lib.hid hcz
      clear hZ hcz hin
      by_cases hA : Z.length = c
      rotate_left
      · have hr := Lib.hid (hno.out (rowOkP_len hA))
        have b1 : ((Z.length : Int) == (c : Int)) = false := by simpa using (show ¬ (Z.length : Int) = (c : Int) by omega)
        have b2 : ((Z.length : Int) != (c : Int)) = true := by simp [bne, b1]
        clear hno hyes hA
        go_wp2_with (go_at_call 62; refine (cC.out _ e0'.out).mono ?_; rintro e w2 ⟨rfl, rfl⟩)
        go_ret
        exact ⟨ret_bool hr.out.symm, DrewOf.refl _⟩
      have b1 : ((Z.length : Int) == (c : Int)) = true := by simp [hA]
      have b2 : ((Z.length : Int) != (c : Int)) = false := by simp [bne, b1]
      have hno2 : Hid (Z.all (fun n => inB n 1 200) = false → okP G = false) := Lib.hid (fun h => hno.out (rowOkP_num h))
      have hyes2 : Hid (Z.all (fun n => inB n 1 200) = true → (G.take (k + 1)).all (rowOkP c) = true) := Lib.hid (fun h => hyes.out (rowOkP_yes hA (by omega) (by omega) h))
      clear hno hyes hA
      go_wp2_with (go_at_call 62; refine (cC.out _ e0'.out).mono ?_; rintro e w2 ⟨rfl, rfl⟩)
      go_loopw [36] (fun i wi => ∃ j : Nat, j ≤ Z.length ∧ i = .int .i64 j ∧ Hid ((Z.take j).all (fun n => inB n 1 200) = true) ∧ wi = wr) (fun i _ => Z.length - (intOf i).toNat)
      case atStart => exact ⟨0, by omega, rfl, Lib.hid (by simp), rfl⟩
      case round =>
        obtain ⟨j, hj, rfl, hrow, rfl⟩ := hrel
        by_cases hlj : j < Z.length
        · rcases hcz'.out with h | ⟨gz, oz, rfl, hgz, hcj⟩
          · subst h; simp at hlj
          have e3 := hcj j hlj
          have hyj : Hid (inB Z[j] 1 200 = true → (Z.take (j + 1)).all (fun n => inB n 1 200) = true) := Lib.hid (fun h => all_takeG hlj hrow.out h)
          have hnj : Hid (inB Z[j] 1 200 = false → okP G = false) := Lib.hid (fun h => hno2.out (all_not hlj h))
          obtain ⟨z, hz⟩ : ∃ z, z = Z[j] := ⟨_, rfl⟩
          rw [← hz] at e3 hyj hnj
          clear hz hcj
          cases hb : inB z 1 200
          · have hr := Lib.hid (hnj.out hb)
            have cH := Lib.hid (fun W => isPlateThick_any z W)
            rw [hb] at cH
            clear hb hnj hyj
            go_wp2_with (go_at_call 30; refine (cH.out _).mono ?_; rintro e w2 ⟨rfl, rfl⟩)
            go_ret
            exact ⟨ret_bool hr.out.symm, DrewOf.refl _⟩
          · have hr := Lib.hid (hyj.out hb)
            have cH := Lib.hid (fun W => isPlateThick_any z W)
            rw [hb] at cH
            clear hb hnj hyj
            go_wp2_with (go_at_call 30; refine (cH.out _).mono ?_; rintro e w2 ⟨rfl, rfl⟩)
            go_roundw
            case rel => exact ⟨j + 1, by omega, by go_num, hr, by trivial⟩
            case measure => simp [intOf]; omega
        · have hjl : j = Z.length := by omega
          have hr : Hid ((G.take (k + 1)).all (rowOkP c) = true) := Lib.hid (by have := hrow.out; rw [hjl, List.take_length] at this; exact hyes2.out this)
          clear hjl hrow
          go_wp2
          go_roundw
          case rel => exact ⟨k + 1, by omega, by go_num, hr, by trivial⟩
          case measure => simp [intOf]; omega
    · have hkl : k = G.length := by omega
      have hr : Hid (okP G = true) := Lib.hid (hfin.out (by have := hall.out; rw [hkl, List.take_length] at this; exact this))
      clear hkl hall
      go_wp2
      go_ret
      exact ⟨ret_bool hr.out.symm, DrewOf.refl _⟩
theorem implValidPlate_any (v : Value) (G : List (List Int)) (w : World) (hn : G.length + totL G ≤ 1048576) (hv : GridAt w v G) : Calls Try.prog 46 #[v] w fun e w' => e = .returned (.bool (okP G)) ∧ DrewOf w w' := by
  have cI := Lib.hid (isGridP_any v G w hn hv)
  obtain ⟨a, cap, rfl, _⟩ := hv
  go_enter Try.func46, Try.ntmps46
  go_wp2_with (go_at_call 58; refine cI.out.mono ?_; rintro e w2 ⟨rfl, hd⟩)
  go_ret
  exact ⟨rfl, hd⟩
end Go.Proofs.Ytmppaimcejcoiaa
