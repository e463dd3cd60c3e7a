/-
  Plates out of texts, by the model.
-/
import Derived.Test.YtgffgaeingaihaaDoorPlrM
import Derived.Test.YtgffgaeingaihaaDoorSplit
import Derived.Test.YtgffgaeingaihaaDoorReadList
namespace Go.Proofs.YtgffgaeingaihaaDoor
open Go.ChangeShapes Go.WideShapes Go.ChangeAt Go.RowKit Go.Deep
set_option linter.unusedVariables false
set_option linter.unusedSimpArgs false
set_option maxRecDepth 1000000
set_option maxHeartbeats 3200000 in
theorem l08OkW_any (v : Value) (G : List (List Int)) (w : World) (hn : G.length + totL G ≤ 100000000) (hv : GridAt w v G) : Calls Tryd.prog 32 #[v] w fun e w' => e = .returned (.bool (okP G)) ∧ DrewOf w w' := by
  obtain ⟨a, cap, rfl, hcap, hread⟩ := hv
  have hread' := Lib.hid hread
  have hn' := Lib.hid hn
  have hn2 : G.length ≤ 100000000 := by omega
  have hx : Hid (okP G = (G.all (rowOkP (colsG G)) && (decide (0 < G.length) && decide (G.length ≤ 10)))) := Lib.hid rfl
  clear hread hn
  go_enter Tryd.func32, Tryd.ntmps32
  go_wp2
  go_loopw [3] (fun i wr => ∃ k : Nat, k ≤ G.length ∧ i = .int .i64 k ∧ Hid ((G.take k).all (rowOkP (colsG G)) = true) ∧ DrewOf w wr) (fun i _ => G.length - (intOf i).toNat)
  case atStart => exact ⟨0, by omega, rfl, Lib.hid (by simp), DrewOf.refl _⟩
  case round =>
    obtain ⟨k, hk, rfl, hall, hd⟩ := hrel
    by_cases hlt : k < G.length
    · rcases hread'.out with h | ⟨g, o, rfl, hg, hc⟩
      · subst h; simp at hlt
      obtain ⟨u0, hu0, hz0⟩ := hc 0 (by omega)
      obtain ⟨u, hu, hz⟩ := hc k hlt
      have hl0 : G[0].length ≤ 100000000 := by have := totL_ge (List.getElem_mem (show 0 < G.length by omega)); have := hn'.out; omega
      have hlk : G[k].length ≤ 100000000 := by have := totL_ge (List.getElem_mem hlt); have := hn'.out; omega
      have hcol := colsG_get (show 0 < G.length by omega)
      rw [← hcol] at hl0
      obtain ⟨a0, cap0, rfl⟩ := ints_len hz0
      rw [← hcol] at hu0
      have e0 : wr.cell? ⟨g, o, none⟩ = some (.slice a0 (colsG G) cap0) := by rw [hd.cell]; simpa using hu0
      have e1 : wr.cell? ⟨g, o + k, none⟩ = some u := by rw [hd.cell]; exact hu
      have hno : Hid (rowOkP (colsG G) G[k] = false → okP G = false) := Lib.hid (fun h => okP_no (all_not hlt h))
      have hyes : Hid (rowOkP (colsG G) G[k] = true → (G.take (k + 1)).all (rowOkP (colsG G)) = true) := Lib.hid (fun h => all_takeG hlt hall.out h)
      obtain ⟨Z, hZ⟩ : ∃ Z, Z = G[k] := ⟨_, rfl⟩
      rw [← hZ] at hz hlk hno hyes
      obtain ⟨c, hcc⟩ : ∃ c, c = colsG G := ⟨_, rfl⟩
      rw [← hcc] at hl0 e0 hno hyes
      obtain ⟨az, capz, rfl, hcapz, hin, hcz⟩ := hz
      have hcz' := Lib.hid hcz
      have hcc' := Lib.hid hcc
      clear hZ hcc hcol hc hcz hu hu0 hz0 hin
      have h0I : (0 : Int) < (G.length : Int) := by omega
      have q0 : Hid (okP G = false → Hid True) := Lib.hid (fun _ => Lib.hid trivial)
      by_cases hB : Z.length = 0
      · have hr := Lib.hid (hno.out (rowOkP_zero hB))
        have d1 : decide ((Z.length : Int) < 1) = true := decide_eq_true (by omega)
        clear hno hyes hB
        go_wp2
        go_quiet (fail)
        go_wp2
        go_ret
        exact ⟨ret_bool hr.out.symm, hd.more _⟩
      have d1 : decide ((Z.length : Int) < 1) = false := decide_eq_false (by omega)
      by_cases hC : Z.length ≤ 10
      rotate_left
      · have hr := Lib.hid (hno.out (rowOkP_long hC))
        have d2 : decide (10 < (Z.length : Int)) = true := decide_eq_true (by omega)
        clear hno hyes hB hC
        go_wp2
        go_quiet (fail)
        go_wp2
        go_ret
        exact ⟨ret_bool hr.out.symm, hd.more _⟩
      have d2 : decide (10 < (Z.length : Int)) = false := decide_eq_false (by omega)
      by_cases hA : Z.length = c
      rotate_left
      · have hr := Lib.hid (hno.out (rowOkP_len hA))
        have b1 : ((Z.length : Int) == (c : Int)) = false := by simpa using (show ¬ (Z.length : Int) = (c : Int) by omega)
        have b2 : ((Z.length : Int) != (c : Int)) = true := by simp [bne, b1]
        clear hno hyes hB hC
        go_wp2
        go_quiet (fail)
        go_wp2
        go_ret
        exact ⟨ret_bool hr.out.symm, hd.more _⟩
      have b1 : ((Z.length : Int) == (c : Int)) = true := by simp [hA]
      have b2 : ((Z.length : Int) != (c : Int)) = false := by simp [bne, b1]
      have hA' := Lib.hid hA
      have hB' := Lib.hid hB
      have hC' := Lib.hid hC
      clear hA hB hC
      have hno2 : Hid (Z.all (fun n => inB n 1 200) = false → okP G = false) := Lib.hid (fun h => hno.out (rowOkP_num h))
      have hyes2 : Hid (Z.all (fun n => inB n 1 200) = true → (G.take (k + 1)).all (rowOkP c) = true) := Lib.hid (fun h => hyes.out (rowOkP_yes hA'.out hB'.out hC'.out h))
      have hd' := Lib.hid hd
      clear hno hyes
      go_wp2
      go_quiet (fail)
      go_wp2
      have hd2 : DrewOf w (wr.drewN nq) := hd'.out.more _
      generalize wr.drewN nq = wq at hd2 ⊢
      go_loopw [4] (fun i wi => ∃ j : Nat, j ≤ Z.length ∧ i = .int .i64 j ∧ Hid ((Z.take j).all (fun n => inB n 1 200) = true) ∧ DrewOf w wi) (fun i _ => Z.length - (intOf i).toNat)
      case atStart => exact ⟨0, by omega, rfl, Lib.hid (by simp), hd2⟩
      case round =>
        obtain ⟨j, hj, rfl, hrow, hdi⟩ := hrel
        have e2 : wr.cell? ⟨g, o + k, none⟩ = some (.slice az Z.length capz) := by rw [hdi.cell, ← hd'.out.cell]; exact e1
        by_cases hlj : j < Z.length
        · rcases hcz'.out with h | ⟨gz, oz, rfl, hgz, hcj⟩
          · subst h; simp at hlj
          have e3 : wr.cell? ⟨gz, oz + j, none⟩ = some (.int .i64 Z[j]) := by rw [hdi.cell]; exact hcj j hlj
          have hyj : Hid (inB Z[j] 1 200 = true → (Z.take (j + 1)).all (fun n => inB n 1 200) = true) := Lib.hid (fun h => all_takeG hlj hrow.out h)
          have hnj : Hid (inB Z[j] 1 200 = false → okP G = false) := Lib.hid (fun h => hno2.out (all_not hlj h))
          obtain ⟨z, hz⟩ : ∃ z, z = Z[j] := ⟨_, rfl⟩
          rw [← hz] at e3 hyj hnj
          clear hz hcj e1 e0
          cases hb : inB z 1 200
          · have hr := Lib.hid (hnj.out hb)
            have cH := Lib.hid (fun W => l08Thick_any z W)
            rw [hb] at cH
            clear hb hnj hyj
            go_wp2_with (go_at_call 46; refine (cH.out _).mono ?_; rintro e w2 ⟨rfl, rfl⟩)
            go_ret
            exact ⟨ret_bool hr.out.symm, hdi⟩
          · have hr := Lib.hid (hyj.out hb)
            have cH := Lib.hid (fun W => l08Thick_any z W)
            rw [hb] at cH
            clear hb hnj hyj
            go_wp2_with (go_at_call 46; refine (cH.out _).mono ?_; rintro e w2 ⟨rfl, rfl⟩)
            go_roundw
            case rel => exact ⟨j + 1, by omega, by go_num, hr, hdi⟩
            case measure => simp [intOf]; omega
        · have hjl : j = Z.length := by omega
          have hr : Hid ((G.take (k + 1)).all (rowOkP (colsG G)) = true) := Lib.hid (by have := hrow.out; rw [hjl, List.take_length] at this; rw [← hcc'.out]; exact hyes2.out this)
          clear hjl hrow e0
          go_wp2
          go_roundw
          case rel => exact ⟨k + 1, by omega, by go_num, hr, hdi⟩
          case measure => simp [intOf]; omega
    · have hkl : k = G.length := by omega
      have hr : Hid (okP G = (decide (0 < G.length) && decide (G.length ≤ 10))) := Lib.hid (by have := hall.out; rw [hkl, List.take_length] at this; rw [hx.out, this]; rfl)
      clear hkl hall
      by_cases h1 : 0 < G.length
      · by_cases h2 : G.length ≤ 10
        · have h1I : (0 : Int) < (G.length : Int) := by omega
          have h2I : (G.length : Int) ≤ 10 := by omega
          go_wp2
          go_ret
          exact ⟨ret_bool (by rw [hr.out]; simp [h1, h2] <;> omega), hd⟩
        · have h1I : (0 : Int) < (G.length : Int) := by omega
          go_wp2
          go_ret
          exact ⟨ret_bool (by rw [hr.out]; simp [h1, h2] <;> omega), hd⟩
      · go_wp2
        go_ret
        exact ⟨ret_bool (by rw [hr.out]; simp [h1]), hd⟩
set_option linter.unusedVariables false
set_option linter.unusedSimpArgs false
theorem OwnG.emptyR (w : World) : OwnG w.heap.size (w.alloc (.cells #[] 39)).heap.size (w.alloc (.cells #[] 39)) (.slice (some ⟨w.heap.size, 0, none⟩) 0 0) [] [] := by
  refine ⟨Nat.le_refl _, rfl, ⟨rfl, Or.inr ⟨w.heap.size, 0, #[], rfl, Nat.le_refl _, heap_alloc_new _ _, Nat.le_refl 0, by unfold maxLen; omega, rfl, rfl⟩⟩, fun i u Z h => by simp at h, fun i j u u' _ h => by simp at h, fun Z h => by simp at h, fun b h => ?_, fun i u h => by simp at h⟩
  simp only [Value.ownBlock, Option.some.injEq] at h
  simp; omega
theorem OwnG.topR {lo hi n : Nat} {A : World} {v : Value} {G : List (List Int)} {vs : List Value} (h : OwnG lo hi A v G vs) (e : n = G.length) : A.ownsRow lo 39 1 v n vs := by subst e; exact h.top
set_option maxHeartbeats 6400000 in
theorem l08Read_any (s : ByteArray) (w : World) (hs : s.size ≤ 1048576) : Calls Tryd.prog 17 #[.string s] w (PlRet (plateO s.data.toList) w) := by
  obtain ⟨i0, hi, hz0, hz1, hz2⟩ := info_parts infoG
  have hc0 := l01Split_any s 47 w hs
  have hpn := splitL_len 47 s.data.toList
  have hpl : Hid (∀ p ∈ splitL 47 s.data.toList, p.length ≤ 1048576) := Lib.hid (fun p hp => by
    have := part_len 47 _ s.data.toList (Nat.le_refl _) p hp
    rw [len_data] at this; omega)
  rw [len_data] at hpn
  have hO : Hid (plateO s.data.toList = platP (splitL 47 s.data.toList)) := Lib.hid rfl
  obtain ⟨P, hP⟩ : ∃ P, P = splitL 47 s.data.toList := ⟨_, rfl⟩
  rw [← hP] at hc0 hpn hpl hO
  have hPl : P.length ≤ 1048577 := by omega
  have hc : Hid (Calls Tryd.prog 30 #[.string s, .int .u8 47] w fun e w' => ∃ a cap, e = .returned (.slice a P.length cap) ∧ w'.ownsRow w.heap.size 9 1 (.slice a P.length cap) P.length (P.map encS) ∧ Below w.heap.size w w') := Lib.hid (hc0.mono fun e w' ⟨v, he, ho, hb⟩ => by
    obtain ⟨a, cap, rfl⟩ := own_shape ho
    exact ⟨a, cap, he, ho, hb⟩)
  clear hP hpn hc0
  go_enter Tryd.func17, Tryd.ntmps17
  go_wp2_with (go_at_call 30; refine hc.out.mono ?_; rintro e w1 ⟨ap, capp, rfl, hoP, hb1⟩)
  have hst := Lib.hid (OwnG.emptyR w1)
  have hB5 : Hid (Below w1.heap.size w1 (w1.alloc (.cells #[] 39))) := Lib.hid ((Below.refl _ _).alloc (Nat.le_refl _) _)
  obtain ⟨LO, hLO⟩ : ∃ LO, LO = w1.heap.size := ⟨_, rfl⟩
  have hLw : w1.heap.size ≤ LO := by omega
  have hLs : LO ≤ (w1.alloc (.cells #[] 39)).heap.size := by rw [hLO]; simp
  have hwL : Hid (w.heap.size ≤ LO) := Lib.hid (by rw [hLO]; exact hb1.size)
  rw [← hLO] at hst ⊢
  have hoP' := Lib.hid hoP
  have hb1' := Lib.hid hb1
  clear hLO hoP hb1
  go_loopw [5, 6] (fun q i wr => ∃ (k : Nat) (Y : List (List Int)) (pa : Option Addr) (pc : Nat) (vs : List Value), k ≤ P.length ∧ i = .int .i64 k ∧ q = .slice pa k pc ∧ Hid (OwnG LO wr.heap.size wr (.slice pa k pc) Y vs) ∧ Hid (Below w1.heap.size w1 wr) ∧ LO ≤ wr.heap.size ∧ Hid (Y.length = k) ∧ Hid (rowsP (P.take k) = some Y)) (fun _ i _ => P.length - (intOf i).toNat)
  case atStart => exact ⟨0, [], _, 0, [], by omega, rfl, rfl, hst, hB5, hLs, Lib.hid rfl, Lib.hid rfl⟩
  case round =>
    obtain ⟨k, Y, pa, pc, vs, hk, rfl, rfl, ho, hbel, hLr, hYk, hrp⟩ := hrel
    by_cases hlt : k < P.length
    · have hltI : (k : Int) < (P.length : Int) := by omega
      obtain ⟨p, hp⟩ : ∃ p, p = P[k] := ⟨_, rfl⟩
      obtain ⟨S, hS⟩ : ∃ S : ByteArray, S = ⟨p.toArray⟩ := ⟨_, rfl⟩
      have hrow := own_kept hoP'.out hbel.out
      obtain ⟨gp, op, rfl, hcp⟩ : ∃ gp op, ap = some ⟨gp, op, none⟩ ∧ ∀ j (hj : j < P.length), wr.cell? ⟨gp, op + j, none⟩ = some (encS P[j]) := by
        rcases hrow.2 with ⟨h1, h2⟩ | ⟨g, cap, cur, hv, hg, hb, hn, hcap, _, _⟩
        · omega
        · injection hv with h1 h2 h3
          refine ⟨g, 0, h1, fun j hj => ?_⟩
          have h0 := hrow
          rw [h1] at h0
          rw [Nat.zero_add, h0.cellAt j (by omega), List.getElem?_map, List.getElem?_eq_getElem hj]
          rfl
      have hcx : wr.cell? ⟨gp, op + k, none⟩ = some (.string S) := by rw [hcp k hlt, hS, hp]; rfl
      have hSl : S.data.toList = p := by rw [hS]
      have hSs : S.size ≤ 1048576 := by
        rw [← len_data, hSl]; exact hpl.out p (by rw [hp]; exact List.getElem_mem _)
      have hcn := specReadList_any S wr hSs
      rw [hSl] at hcn
      have hpm : Hid (p ∈ P) := Lib.hid (by rw [hp]; exact List.getElem_mem _)
      have hp' := Lib.hid hp
      have hBw' : Hid (Below w.heap.size w wr) := Lib.hid (hb1'.out.trans (hbel.out.mono hb1'.out.size))
      clear hp hS hSl hSs hrow hcp
      cases hv : readL p with
      | none =>
        have hbad : Hid (plateO s.data.toList = none) := Lib.hid (by rw [hO.out]; exact platP_no (rowsP_bad hpm.out hv))
        rw [hv] at hcn
        have hcn' := Lib.hid hcn
        clear hv hcn
        go_wp2_with (go_at_call 31; refine hcn'.out.mono ?_; rintro e w3 ⟨rfl, hb3⟩)
        go_ret2
        exact plRet_no hbad.out (hBw'.out.trans (hb3.mono hBw'.out.size))
      | some Z =>
        have hst2 := Lib.hid (rowsP_take hlt hrp.out (by rw [← hp'.out]; exact hv))
        have hY2 : Hid ((Y ++ [Z]).length = k + 1) := Lib.hid (by rw [List.length_append, hYk.out]; rfl)
        have hzin := Lib.hid (readL_in hv).1
        rw [hv] at hcn
        have hcn' : Hid (Calls Tryd.prog 31 #[.string S] wr fun e w' => ∃ a2 c2, e = .returned (.tuple #[.slice a2 Z.length c2, .bool true]) ∧ w'.ownsRow wr.heap.size 2 1 (.slice a2 Z.length c2) Z.length (Z.map encI) ∧ Below wr.heap.size wr w') := Lib.hid (hcn.mono fun e w' h => by
          obtain ⟨v, he, hown, hb⟩ := h
          obtain ⟨a2, c2, rfl⟩ := own_shape hown
          exact ⟨a2, c2, he, hown, hb⟩)
        clear hv hcn
        go_wp2_with (first
          | (go_at_call 31; refine hcn'.out.mono ?_; rintro e w3 ⟨a2, c2, rfl, o2, b2⟩; have hbw : Below wr.heap.size wr (w3.alloc (.cells #[.slice a2 Z.length c2] 39)) := b2.alloc b2.size _; have htop := (ho.out.kept b2).topR (n := k) hYk.out.symm; have hrow := o2.alloc (.cells #[.slice a2 Z.length c2] 39); have hb2s := b2.size; have c1R : Hid (∀ (j : Nat) (u : Value), [Value.slice a2 Z.length c2][j]? = some u → (w3.alloc (.cells #[.slice a2 Z.length c2] 39)).cell? (Addr.add ⟨w3.heap.size, 0, none⟩ j) = some u) := Lib.hid (fun j u hj => (by match j, hj with | 0, hj => (simp at hj; subst hj; simp [Addr.add]))); clear o2 b2)
          | (at_builtin; refine wpList_append_own _ rfl _ _ 22 rfl LO 39 i0 (.slice none 0 0) 1 24 Tryd.underlying22 hi hz0 hz1 hz2 rfl (by decide) _ k vs rfl (htop.alloc _) ⟨w3.heap.size, 0, none⟩ 1 1 [.slice a2 Z.length c2] rfl rfl c1R.out ?c2R ?c3R ?c4R ?c5R ?_))
        case c2R => first | rfl | (intro u hu; simp at hu; subst hu; rfl)
        case c3R => unfold maxLen; omega
        case c4R => omega
        case c5R => first | omega | (simp; omega)
        intro v9 w9 hown9 hgrow9 _
        have hbl : ∀ j, (Value.slice pa k pc).ownBlock = some j → LO ≤ j := fun j hj => (ho.out.top.lt j hj).1
        have O9 := Lib.hid (ho.out.snoc (Z := Z) hbw hrow hzin.out hgrow9 (by rw [hYk.out]; exact hown9) hLr (by decide))
        have B9 := Lib.hid ((hbel.out.trans (hbw.mono hbel.out.size)).grown hgrow9 (Nat.le_trans hbel.out.size hbw.size) (fun j hj => by have := hbl j hj; omega))
        have hL9 : LO ≤ w9.heap.size := Nat.le_trans hLr (Nat.le_trans hbw.size hgrow9.size)
        obtain ⟨pa9, pc9, rfl⟩ := own_shape hown9
        clear hown9 hgrow9 hbl hbw htop hrow
        go_wp2
        go_roundw
        case rel => exact ⟨k + 1, Y ++ [Z], pa9, pc9, _, by omega, by go_num, rfl, O9, B9, hL9, hY2, hst2⟩
        case measure => simp [intOf]; omega
    · have hks : k = P.length := by omega
      have hrow : Hid (rowsP P = some Y) := Lib.hid (by have := hrp.out; rw [hks, List.take_length] at this; exact this)
      have hYt := rowsP_tot hrow.out
      have hYk2 := hYk.out
      have cV := Lib.hid (l08OkW_any _ Y wr (by omega) ho.out.at)
      have hBw := Lib.hid (hb1'.out.trans (hbel.out.mono hb1'.out.size))
      clear hks hYt hYk2
      cases hok : okP Y
      · have hbad : Hid (plateO s.data.toList = none) := Lib.hid (by rw [hO.out]; exact platP_bad hrow.out hok)
        rw [hok] at cV
        clear hok
        go_wp2_with (go_at_call 32; refine cV.out.mono ?_; rintro e w3 ⟨rfl, hd3⟩)
        go_ret2
        exact plRet_no hbad.out (below2 hBw.out hd3.below)
      · have hgood : Hid (plateO s.data.toList = some Y) := Lib.hid (by rw [hO.out]; exact platP_yes hrow.out hok)
        rw [hok] at cV
        clear hok
        go_wp2_with (go_at_call 32; refine cV.out.mono ?_; rintro e w3 ⟨rfl, hd3⟩)
        go_ret2
        exact plRet_yes hgood.out ((ho.out.kept hd3.below).low hwL.out |>.wide (hd3.below.size) (Nat.le_refl _)) (below2 hBw.out hd3.below)
theorem specReadPlate_any (s : ByteArray) (w : World) (hs : s.size ≤ 1048576) : Calls Tryd.prog 6 #[.string s] w (PlRet (plateO s.data.toList) w) := by
  have c := Lib.hid (l08Read_any s w hs)
  obtain ⟨G, hG⟩ : ∃ G, G = (plateO s.data.toList).getD [] := ⟨_, rfl⟩
  obtain ⟨b, hb⟩ : ∃ b, b = (plateO s.data.toList).isSome := ⟨_, rfl⟩
  unfold PlRet at c ⊢
  rw [← hG, ← hb] at c ⊢
  clear hG hb
  go_enter Tryd.func6, Tryd.ntmps6
  go_wp2_with (go_at_call 17; refine c.out.mono ?_; rintro e w3 ⟨v, vs, rfl, o3, b3⟩; obtain ⟨pa9, pc9, rfl⟩ := own_shape o3.top)
  go_ret2
  exact ⟨_, vs, rfl, o3, b3⟩
end Go.Proofs.YtgffgaeingaihaaDoor
