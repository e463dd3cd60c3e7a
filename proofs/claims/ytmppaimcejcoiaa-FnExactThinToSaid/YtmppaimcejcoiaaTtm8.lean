/-
  ThinTo of the model.
-/
import Derived.Test.YtmppaimcejcoiaaTto8
namespace Go.Proofs.Ytmppaimcejcoiaa
open Go.ChangeShapes Go.WideShapes Go.ChangeAt Go.RowKit Go.Deep
set_option linter.unusedVariables false
set_option linter.unusedSimpArgs false
set_option maxRecDepth 1000000
set_option maxHeartbeats 6400000 in
theorem specThinTo_any (v : Value) (G : List (List Int)) (c d m l : Int) (w : World) (hn : G.length + totL G ≤ 1048576) (hv : GridAt w v G) : Calls Try.prog 8 #[v, .int .i64 c, .int .i64 d, .int .i64 m, .int .i64 l] w fun e w' => e = .returned (.tuple #[.int .i64 (toV G c d m l), .int .i64 (toC G c d m l)]) ∧ Below w.heap.size w w' := by
  have cV := Lib.hid (l08Ok_any v G w hn hv)
  have cW := Lib.hid (fun W => l08Density_any c d W)
  have cI := Lib.hid (fun W => l00In_any m 0 1000000000 W)
  have cK := Lib.hid (fun W => l08Thick_any l W)
  have hV0 : toV G c d m l = if okP G && toB c d m l then (if toN G c d m l = 201 then 0 else (toN G c d m l : Int)) else 0 := rfl
  have hC0 : toC G c d m l = if okP G = true then (if toB c d m l = true then (if toN G c d m l = 201 then 3 else 0) else 2) else 1 := rfl
  have hS0 : toB c d m l = (woodB c d && (inB m 0 1000000000 && inB l 1 200)) := rfl
  cases hok : okP G
  · have hV : Hid (toV G c d m l = 0) := Lib.hid (by rw [hV0, hok]; rfl)
    have hC : Hid (toC G c d m l = 1) := Lib.hid (by rw [hC0, hok]; rfl)
    rw [hok] at cV
    obtain ⟨a, cap, rfl, _⟩ := hv
    clear hV0 hC0 hok hS0
    go_enter Try.func8, Try.ntmps8
    go_wp2_with (first | (go_at_call 21; refine cV.out.mono ?_; rintro e w2 ⟨rfl, hd0⟩) | (go_at_call 22; refine (cW.out _).mono ?_; rintro e w' ⟨rfl, rfl⟩) | (go_at_call 23; refine (cI.out _).mono ?_; rintro e w' ⟨rfl, rfl⟩) | (go_at_call 24; refine (cK.out _).mono ?_; rintro e w' ⟨rfl, rfl⟩))
    go_ret2
    exact ⟨ret_int2 hV.out.symm hC.out.symm, hd0.below⟩
  cases hwd : woodB c d <;> rw [hwd] at cW hS0
  · rw [Bool.false_and] at hS0
    clear hwd
    have hV : Hid (toV G c d m l = 0) := Lib.hid (by rw [hV0, hok, hS0]; rfl)
    have hC : Hid (toC G c d m l = 2) := Lib.hid (by rw [hC0, hok, hS0]; rfl)
    rw [hok] at cV
    obtain ⟨a, cap, rfl, _⟩ := hv
    clear hV0 hC0 hok hS0
    go_enter Try.func8, Try.ntmps8
    go_wp2_with (first | (go_at_call 21; refine cV.out.mono ?_; rintro e w2 ⟨rfl, hd0⟩) | (go_at_call 22; refine (cW.out _).mono ?_; rintro e w' ⟨rfl, rfl⟩) | (go_at_call 23; refine (cI.out _).mono ?_; rintro e w' ⟨rfl, rfl⟩) | (go_at_call 24; refine (cK.out _).mono ?_; rintro e w' ⟨rfl, rfl⟩))
    go_ret2
    exact ⟨ret_int2 hV.out.symm hC.out.symm, hd0.below⟩
  rw [Bool.true_and] at hS0
  cases hin : inB m 0 1000000000 <;> rw [hin] at cI hS0
  · rw [Bool.false_and] at hS0
    clear hwd hin
    have hV : Hid (toV G c d m l = 0) := Lib.hid (by rw [hV0, hok, hS0]; rfl)
    have hC : Hid (toC G c d m l = 2) := Lib.hid (by rw [hC0, hok, hS0]; rfl)
    rw [hok] at cV
    obtain ⟨a, cap, rfl, _⟩ := hv
    clear hV0 hC0 hok hS0
    go_enter Try.func8, Try.ntmps8
    go_wp2_with (first | (go_at_call 21; refine cV.out.mono ?_; rintro e w2 ⟨rfl, hd0⟩) | (go_at_call 22; refine (cW.out _).mono ?_; rintro e w' ⟨rfl, rfl⟩) | (go_at_call 23; refine (cI.out _).mono ?_; rintro e w' ⟨rfl, rfl⟩) | (go_at_call 24; refine (cK.out _).mono ?_; rintro e w' ⟨rfl, rfl⟩))
    go_ret2
    exact ⟨ret_int2 hV.out.symm hC.out.symm, hd0.below⟩
  rw [Bool.true_and] at hS0
  cases hth : inB l 1 200 <;> rw [hth] at cK hS0
  · clear hwd hin hth
    have hV : Hid (toV G c d m l = 0) := Lib.hid (by rw [hV0, hok, hS0]; rfl)
    have hC : Hid (toC G c d m l = 2) := Lib.hid (by rw [hC0, hok, hS0]; rfl)
    rw [hok] at cV
    obtain ⟨a, cap, rfl, _⟩ := hv
    clear hV0 hC0 hok hS0
    go_enter Try.func8, Try.ntmps8
    go_wp2_with (first | (go_at_call 21; refine cV.out.mono ?_; rintro e w2 ⟨rfl, hd0⟩) | (go_at_call 22; refine (cW.out _).mono ?_; rintro e w' ⟨rfl, rfl⟩) | (go_at_call 23; refine (cI.out _).mono ?_; rintro e w' ⟨rfl, rfl⟩) | (go_at_call 24; refine (cK.out _).mono ?_; rintro e w' ⟨rfl, rfl⟩))
    go_ret2
    exact ⟨ret_int2 hV.out.symm hC.out.symm, hd0.below⟩
  have hVN : Hid (toV G c d m l = if toN G c d m l = 201 then 0 else (toN G c d m l : Int)) := Lib.hid (by rw [hV0, hok, hS0]; rfl)
  have hCN : Hid (toC G c d m l = if toN G c d m l = 201 then 3 else 0) := Lib.hid (by rw [hC0, hok, hS0]; rfl)
  obtain ⟨g, o, cap, rg, ro, rc, rfl, x⟩ := grid_GR hv (okP_okG hok)
  obtain ⟨hc, hd⟩ := wood_bd hwd
  have hl := inB_iff.1 hth
  rw [hok] at cV
  have cA := Lib.hid (fun (i : Nat) (hi : i ≤ 200) W (hb : Below w.heap.size w W) => l08All_any (i : Int) l ⟨by omega, by omega⟩ hl g o cap G.length (colsG G) rg ro rc (hG G) W (x.below hb))
  have cM0 := fun (i : Nat) (hi : i ≤ 200) W V (hS : GridAt W V (thnG (i : Int) l G.length (colsG G) (hG G))) => l08MassThin_any c d (i : Int) l hc hd ⟨by omega, by omega⟩ hl G.length (colsG G) (hG G) x.R1 x.R10 x.C1 x.C10 x.h0 x.h1 V W hS
  obtain ⟨T, hT⟩ : ∃ T : Nat → List (List Int), T = fun (i : Nat) => thnG (i : Int) l G.length (colsG G) (hG G) := ⟨_, rfl⟩
  have hTi : ∀ i : Nat, thnG (i : Int) l G.length (colsG G) (hG G) = T i := fun i => by rw [hT]
  obtain ⟨MM, hM⟩ : ∃ MM : Nat → Int, MM = fun (i : Nat) => thM c d (i : Int) l G.length (colsG G) (hG G) := ⟨_, rfl⟩
  have hMi : ∀ i : Nat, thM c d (i : Int) l G.length (colsG G) (hG G) = MM i := fun i => by rw [hM]
  simp only [hTi] at cA cM0
  simp only [hMi] at cM0
  have cM := Lib.hid cM0
  have hmo : Hid (∀ i j : Nat, i ≤ j → MM j ≤ MM i) := Lib.hid (fun i j hij => by rw [hM]; exact thM_mono (by omega) (by omega) (by omega))
  have hN : Hid (toN G c d m l = lstN (fun (i : Nat) => decide (MM i ≤ m)) 201) := Lib.hid (by rw [hM]; rfl)
  clear hV0 hC0 hok hwd hin hth hS0 x hv hM hT hTi hMi cM0 hc hd hn
  go_enter Try.func8, Try.ntmps8
  go_wp2_with (first | (go_at_call 21; refine cV.out.mono ?_; rintro e w2 ⟨rfl, hd0⟩) | (go_at_call 22; refine (cW.out _).mono ?_; rintro e w' ⟨rfl, rfl⟩) | (go_at_call 23; refine (cI.out _).mono ?_; rintro e w' ⟨rfl, rfl⟩) | (go_at_call 24; refine (cK.out _).mono ?_; rintro e w' ⟨rfl, rfl⟩))
  have hB0 := Lib.hid hd0.below
  clear cV cW cI cK hd0
  go_wp2
  go_loopw [12] (fun i wr => ∃ k : Nat, k ≤ 201 ∧ i = .int .i64 k ∧ Hid (∀ t, t < k → m < MM t) ∧ Hid (Below w.heap.size w wr)) (fun i _ => 201 - (intOf i).toNat)
  case atStart => exact ⟨0, by omega, rfl, Lib.hid (fun t ht => by omega), hB0⟩
  case round =>
    obtain ⟨k, hk, rfl, hno, hB⟩ := hrel
    by_cases hlt : k ≤ 200
    · have hkI : (k : Int) ≤ 200 := by omega
      have ca := Lib.hid (cA.out k hlt wr hB.out)
      have cm := Lib.hid (cM.out k hlt)
      obtain ⟨Mk, hMk⟩ : ∃ Mk, Mk = MM k := ⟨_, rfl⟩
      rw [← hMk] at cm
      have hMk' := Lib.hid hMk
      clear cA cM hMk
      go_wp2_with fail
      refine ca.out.mono ?_
      rintro e w4 ⟨v4, vs4, rfl, o4, b4⟩
      have cm4 := Lib.hid (cm.out w4 v4 o4.at)
      have hB4 := Lib.hid (below2 hB.out b4)
      clear ca cm o4 b4 hB
      go_wp2_with fail
      refine cm4.out.mono ?_
      rintro e w5 ⟨rfl, d5⟩
      have hB5 := Lib.hid (below2 hB4.out d5.below)
      clear cm4 hB4 d5
      by_cases hle : Mk ≤ m
      · have hL : Hid (lstN (fun (i : Nat) => decide (MM i ≤ m)) 201 = k) := Lib.hid (least_lst ⟨hk, fun t ht => by
          have := hno.out t ht
          simp only [decide_eq_false_iff_not]; omega, fun t h1 h2 => by
          have := hmo.out k t h1
          have h3 := hMk'.out
          simp only [decide_eq_true_eq]; omega⟩)
        have hV : Hid (toV G c d m l = k) := Lib.hid (by rw [hVN.out, hN.out, hL.out, if_neg (by omega)])
        have hC : Hid (toC G c d m l = 0) := Lib.hid (by rw [hCN.out, hN.out, hL.out, if_neg (by omega)])
        clear hL hno hmo hN hVN hCN
        go_wp2
        go_ret2
        exact ⟨ret_int2 hV.out.symm hC.out.symm, hB5.out⟩
      · have hno' : Hid (∀ t, t < k + 1 → m < MM t) := Lib.hid (fun t ht => by
          rcases Nat.lt_or_ge t k with h | h
          · exact hno.out t h
          · obtain rfl : t = k := by omega
            rw [← hMk'.out]; omega)
        clear hno
        go_wp2
        go_roundw
        case rel => exact ⟨k + 1, by omega, by go_num, hno', hB5⟩
        case measure => simp [intOf]; omega
    · have hkI : ¬ (k : Int) ≤ 200 := by omega
      have hL : Hid (lstN (fun (i : Nat) => decide (MM i ≤ m)) 201 = 201) := Lib.hid (least_lst ⟨by omega, fun t ht => by
        have := hno.out t (by omega)
        simp only [decide_eq_false_iff_not]; omega, fun t h1 h2 => by omega⟩)
      have hV : Hid (toV G c d m l = 0) := Lib.hid (by rw [hVN.out, hN.out, hL.out]; rfl)
      have hC : Hid (toC G c d m l = 3) := Lib.hid (by rw [hCN.out, hN.out, hL.out]; rfl)
      clear hL hno hmo hN hVN hCN
      go_wp2
      go_ret2
      exact ⟨ret_int2 hV.out.symm hC.out.symm, hB.out⟩
end Go.Proofs.Ytmppaimcejcoiaa
