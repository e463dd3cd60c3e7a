/-
  Grids: the program's validity.
-/
import Derived.Test.YtagjpldfafablaaArch
import Derived.FnLit
namespace Go.Proofs.Ytagjpldfafablaa
open Go.ChangeShapes Go.WideShapes Go.ChangeAt Go.RowKit Go.Deep
set_option linter.unusedVariables false
set_option linter.unusedSimpArgs false
theorem okG_rows0 {G : List (List Int)} (h : inB (G.length : Int) 1 10 = false) : okG G = false := by
  unfold okG
  have : (decide (0 < G.length) && decide (G.length ≤ 10)) = false := by
    simp only [inB, Bool.and_eq_false_iff, decide_eq_false_iff_not] at h ⊢
    omega
  rw [this, Bool.and_false]
theorem okG_cols0 {G : List (List Int)} (hG : 0 < G.length) (h : inB (colsG G : Int) 1 10 = false) : okG G = false := by
  refine okG_no (all_not hG ?_)
  have hc := colsG_get hG
  unfold rowOk
  rw [← hc]
  simp only [inB, Bool.and_eq_false_iff, decide_eq_false_iff_not] at h ⊢
  right
  omega
set_option maxHeartbeats 3200000 in
theorem isGrid_any (v : Value) (G : List (List Int)) (w : World) (hn : G.length + totL G ≤ 1048576) (hv : GridAt w v G) : Calls Try.prog 52 #[v, .int .i64 10, .func (.func 53) #[] #[]] w fun e w' => e = .returned (.bool (okG G)) ∧ DrewOf w w' := by
  obtain ⟨a, cap, rfl, hcap, hread⟩ := hv
  have hn2 : G.length ≤ 1048576 := by omega
  have cW := Lib.hid (fun W => withinG (G.length : Int) 1 10 W)
  cases hR : inB (G.length : Int) 1 10
  · have hr := Lib.hid (okG_rows0 hR)
    rw [hR] at cW
    clear hread hn hR
    go_enter Try.func52, Try.ntmps52
    go_wp2_with (go_at_call 81; refine (cW.out _).mono ?_; rintro e w2 ⟨rfl, rfl⟩)
    go_ret
    exact ⟨ret_bool hr.out.symm, DrewOf.refl _⟩
  have hRR : 1 ≤ G.length ∧ G.length ≤ 10 := by simp only [inB, Bool.and_eq_true, decide_eq_true_eq] at hR; omega
  rw [hR] at cW
  clear hR
  rcases hread with h | ⟨g, o, rfl, hg, hc⟩
  · subst h; simp at hRR
  obtain ⟨u0, hu0, hz0⟩ := hc 0 (by omega)
  have hl0 : G[0].length ≤ 1048576 := by have := totL_ge (List.getElem_mem (show 0 < G.length by omega)); omega
  have hcol := colsG_get (show 0 < G.length by omega)
  rw [← hcol] at hl0
  obtain ⟨a0, cap0, rfl⟩ := ints_len hz0
  rw [← hcol] at hu0
  have e0 : w.cell? ⟨g, o, none⟩ = some (.slice a0 (colsG G) cap0) := by simpa using hu0
  have cC := Lib.hid (fun (W : World) (h : W.cell? ⟨g, o, none⟩ = some (.slice a0 (colsG G) cap0)) => columns_at g o G.length cap (colsG G) cap0 a0 hRR.1 (by omega) hl0 W h)
  have cV := Lib.hid (fun W => withinG (colsG G : Int) 1 10 W)
  cases hC : inB (colsG G : Int) 1 10
  · have hr := Lib.hid (okG_cols0 (show 0 < G.length by omega) hC)
    rw [hC] at cV
    obtain ⟨c, hcc⟩ : ∃ c, c = colsG G := ⟨_, rfl⟩
    rw [← hcc] at cV cC e0
    have e0' := Lib.hid e0
    clear hn hC hcc hcol hc hu0 hz0 hl0 e0
    go_enter Try.func52, Try.ntmps52
    go_wp2_with (first
      | (go_at_call 81; first | (with_reducible refine (cW.out _).mono ?_; rintro e w2 ⟨rfl, rfl⟩) | (with_reducible refine (cV.out _).mono ?_; rintro e w2 ⟨rfl, rfl⟩))
      | (go_at_call 55; refine (cC.out _ e0'.out).mono ?_; rintro e w2 ⟨rfl, rfl⟩))
    go_ret
    exact ⟨ret_bool hr.out.symm, DrewOf.refl _⟩
  have hCC : 1 ≤ colsG G ∧ colsG G ≤ 10 := by simp only [inB, Bool.and_eq_true, decide_eq_true_eq] at hC; omega
  rw [hC] at cV
  have hfin : Hid (G.all (rowOk (colsG G)) = true → okG G = true) := Lib.hid (fun h => by unfold okG; rw [h]; simp; omega)
  have hno0 : Hid (∀ k (h : k < G.length), rowOk (colsG G) G[k] = false → okG G = false) := Lib.hid (fun k h hh => okG_no (all_not h hh))
  have hyes0 : Hid (∀ k (h : k < G.length), (G.take k).all (rowOk (colsG G)) = true → rowOk (colsG G) G[k] = true → (G.take (k + 1)).all (rowOk (colsG G)) = true) := Lib.hid (fun k h h1 h2 => all_takeG h h1 h2)
  obtain ⟨c, hcc⟩ : ∃ c, c = colsG G := ⟨_, rfl⟩
  rw [← hcc] at cV cC e0 hfin hno0 hyes0 hCC hl0
  have e0' := Lib.hid e0
  have hc' := Lib.hid hc
  have hn' := Lib.hid hn
  clear hn hC hcc hcol hc hu0 hz0 e0
  go_enter Try.func52, Try.ntmps52
  go_wp2_with (first
      | (go_at_call 81; first | (with_reducible refine (cW.out _).mono ?_; rintro e w2 ⟨rfl, rfl⟩) | (with_reducible refine (cV.out _).mono ?_; rintro e w2 ⟨rfl, rfl⟩))
      | (go_at_call 55; refine (cC.out _ e0'.out).mono ?_; rintro e w2 ⟨rfl, rfl⟩))
  go_loopw [25] (fun i wr => ∃ k : Nat, k ≤ G.length ∧ i = .int .i64 k ∧ Hid ((G.take k).all (rowOk c) = true) ∧ wr = w) (fun i _ => G.length - (intOf i).toNat)
  case atStart => exact ⟨0, by omega, rfl, Lib.hid (by simp), rfl⟩
  case round =>
    obtain ⟨k, hk, rfl, hall, rfl⟩ := hrel
    by_cases hlt : k < G.length
    · obtain ⟨u, hu, hz⟩ := hc'.out k hlt
      have hlk : G[k].length ≤ 1048576 := by have := totL_ge (List.getElem_mem hlt); have := hn'.out; omega
      have hno : Hid (rowOk c G[k] = false → okG G = false) := Lib.hid (hno0.out k hlt)
      have hyes : Hid (rowOk c G[k] = true → (G.take (k + 1)).all (rowOk c) = true) := Lib.hid (hyes0.out k hlt hall.out)
      obtain ⟨Z, hZ⟩ : ∃ Z, Z = G[k] := ⟨_, rfl⟩
      rw [← hZ] at hz hlk hno hyes
      obtain ⟨az, capz, rfl, hcapz, hin, hcz⟩ := hz
      have hcz' := Lib.hid hcz
      clear hZ hcz hin
      by_cases hA : Z.length = c
      rotate_left
      · have hr := Lib.hid (hno.out (rowOk_len hA))
        have b1 : ((Z.length : Int) == (c : Int)) = false := by simpa using (show ¬ (Z.length : Int) = (c : Int) by omega)
        have b2 : ((Z.length : Int) != (c : Int)) = true := by simp [bne, b1]
        clear hno hyes hA
        go_wp2_with (go_at_call 55; refine (cC.out _ e0'.out).mono ?_; rintro e w2 ⟨rfl, rfl⟩)
        go_ret
        exact ⟨ret_bool hr.out.symm, DrewOf.refl _⟩
      have b1 : ((Z.length : Int) == (c : Int)) = true := by simp [hA]
      have b2 : ((Z.length : Int) != (c : Int)) = false := by simp [bne, b1]
      have hno2 : Hid (Z.all (fun n => inB n 0 1000) = false → okG G = false) := Lib.hid (fun h => hno.out (rowOk_num h))
      have hyes2 : Hid (Z.all (fun n => inB n 0 1000) = true → (G.take (k + 1)).all (rowOk c) = true) := Lib.hid (fun h => hyes.out (rowOk_yes hA (by omega) (by omega) h))
      clear hno hyes hA
      go_wp2_with (go_at_call 55; refine (cC.out _ e0'.out).mono ?_; rintro e w2 ⟨rfl, rfl⟩)
      go_loopw [36] (fun i wi => ∃ j : Nat, j ≤ Z.length ∧ i = .int .i64 j ∧ Hid ((Z.take j).all (fun n => inB n 0 1000) = true) ∧ wi = wr) (fun i _ => Z.length - (intOf i).toNat)
      case atStart => exact ⟨0, by omega, rfl, Lib.hid (by simp), rfl⟩
      case round =>
        obtain ⟨j, hj, rfl, hrow, rfl⟩ := hrel
        by_cases hlj : j < Z.length
        · rcases hcz'.out with h | ⟨gz, oz, rfl, hgz, hcj⟩
          · subst h; simp at hlj
          have e3 := hcj j hlj
          have hyj : Hid (inB Z[j] 0 1000 = true → (Z.take (j + 1)).all (fun n => inB n 0 1000) = true) := Lib.hid (fun h => all_takeG hlj hrow.out h)
          have hnj : Hid (inB Z[j] 0 1000 = false → okG G = false) := Lib.hid (fun h => hno2.out (all_not hlj h))
          obtain ⟨z, hz⟩ : ∃ z, z = Z[j] := ⟨_, rfl⟩
          rw [← hz] at e3 hyj hnj
          clear hz hcj
          cases hb : inB z 0 1000
          · have hr := Lib.hid (hnj.out hb)
            have cH := Lib.hid (fun W => isRise_any z W)
            rw [hb] at cH
            clear hb hnj hyj
            go_wp2_with (go_at_call 53; refine (cH.out _).mono ?_; rintro e w2 ⟨rfl, rfl⟩)
            go_ret
            exact ⟨ret_bool hr.out.symm, DrewOf.refl _⟩
          · have hr := Lib.hid (hyj.out hb)
            have cH := Lib.hid (fun W => isRise_any z W)
            rw [hb] at cH
            clear hb hnj hyj
            go_wp2_with (go_at_call 53; refine (cH.out _).mono ?_; rintro e w2 ⟨rfl, rfl⟩)
            go_roundw
            case rel => exact ⟨j + 1, by omega, by go_num, hr, by trivial⟩
            case measure => simp [intOf]; omega
        · have hjl : j = Z.length := by omega
          have hr : Hid ((G.take (k + 1)).all (rowOk c) = true) := Lib.hid (by have := hrow.out; rw [hjl, List.take_length] at this; exact hyes2.out this)
          clear hjl hrow
          go_wp2
          go_roundw
          case rel => exact ⟨k + 1, by omega, by go_num, hr, by trivial⟩
          case measure => simp [intOf]; omega
    · have hkl : k = G.length := by omega
      have hr : Hid (okG G = true) := Lib.hid (hfin.out (by have := hall.out; rw [hkl, List.take_length] at this; exact this))
      clear hkl hall
      go_wp2
      go_ret
      exact ⟨ret_bool hr.out.symm, DrewOf.refl _⟩
theorem implValidArch_any (v : Value) (G : List (List Int)) (w : World) (hn : G.length + totL G ≤ 1048576) (hv : GridAt w v G) : Calls Try.prog 31 #[v] w fun e w' => e = .returned (.bool (okG G)) ∧ DrewOf w w' := by
  have cI := Lib.hid (isGrid_any v G w hn hv)
  obtain ⟨a, cap, rfl, _⟩ := hv
  go_enter Try.func31, Try.ntmps31
  go_wp2_with (go_at_call 52; refine cI.out.mono ?_; rintro e w2 ⟨rfl, hd⟩)
  go_ret
  exact ⟨rfl, hd⟩
end Go.Proofs.Ytagjpldfafablaa
