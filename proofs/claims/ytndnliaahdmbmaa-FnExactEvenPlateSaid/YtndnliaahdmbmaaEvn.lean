/-
  Even plates, on both sides.
-/
import Derived.Test.YtndnliaahdmbmaaStp
import Derived.Test.YtndnliaahdmbmaaPgp
import Derived.Test.YtndnliaahdmbmaaMas
namespace Go.Proofs.Ytndnliaahdmbmaa
open Go.ChangeShapes Go.WideShapes Go.ChangeAt Go.RowKit Go.Deep
set_option linter.unusedVariables false
set_option linter.unusedSimpArgs false
set_option maxRecDepth 1000000
theorem mxF_le {L : List Int} (h0 : ∀ x ∈ L, 0 ≤ x) {n : Int} (hn : 0 ≤ n) : mxF L ≤ n ↔ ∀ x ∈ L, x ≤ n := by
  obtain ⟨a, b, c⟩ := mxF_is L h0
  constructor
  · intro h x hx
    have := c x hx
    omega
  · intro h
    rcases a with a | a
    · omega
    · exact h _ a
theorem dS_nn (h : Nat → Nat → Int) (L : List (Nat × Nat)) : ∀ x ∈ dS h L, 0 ≤ x := by
  have key : ∀ a b : Int, 0 ≤ absG a b := fun a b => by unfold absG; split <;> omega
  intro x hx
  unfold dS at hx
  obtain ⟨p, _, hm⟩ := List.mem_flatMap.1 hx
  rcases List.mem_append.1 hm with hm | hm
  · unfold dU at hm; split at hm
    · simp at hm; subst hm; exact key _ _
    · cases hm
  · unfold dW at hm; split at hm
    · simp at hm; subst hm; exact key _ _
    · cases hm
def evV (G : List (List Int)) (n : Int) : Bool := okP G && inB n 0 200 && decide (mxF (dS (hG G) (plAll G.length (colsG G))) ≤ n)
def evC (G : List (List Int)) (n : Int) : Int := cod8 (okP G) (inB n 0 200)
theorem ret_bi {a b : Bool} {c d : Int} (h1 : a = b) (h2 : c = d) : Ending.returned (.tuple #[.bool a, .int .i64 c]) = .returned (.tuple #[.bool b, .int .i64 d]) := by rw [h1, h2]
set_option maxHeartbeats 3200000 in
theorem implEvenPlate_any (v : Value) (G : List (List Int)) (n : Int) (w : World) (hn : G.length + totL G ≤ 1048576) (hv : GridAt w v G) : Calls Try.prog 38 #[v, .int .i64 n] w fun e w' => e = .returned (.tuple #[.bool (evV G n), .int .i64 (evC G n)]) ∧ Below w.heap.size w w' := by
  have cC := fun b => codeOfPlate_any v G b w hn hv
  have cI := fun W => within64_any n 0 200 W
  have hT : evV G n = (okP G && inB n 0 200 && decide (mxF (dS (hG G) (plAll G.length (colsG G))) ≤ n)) := rfl
  have hTC : evC G n = cod8 (okP G) (inB n 0 200) := rfl
  cases hok : okP G
  · have e1 : Hid (evV G n = false) := Lib.hid (by rw [hT, hok]; rfl)
    have e2 : Hid (evC G n = 1) := Lib.hid (by rw [hTC, hok]; rfl)
    have cC' := Lib.hid (cC (inB n 0 200))
    rw [hok] at cC'
    obtain ⟨a, cap, rfl, _⟩ := hv
    obtain ⟨q, hq⟩ : ∃ q, q = inB n 0 200 := ⟨_, rfl⟩
    rw [← hq] at cC' cI
    rw [show cod8 false q = 1 from rfl] at cC'
    clear hT hTC hok hq cC
    go_enter Try.func38, Try.ntmps38
    go_wp2_with (first
      | (go_at_call 65; (with_reducible refine (cI _).mono ?_); rintro e w2 ⟨rfl, rfl⟩)
      | (go_at_call 54; (with_reducible refine cC'.out.mono ?_); rintro e w2 ⟨rfl, hd⟩))
    go_ret2
    exact ⟨ret_bi e1.out.symm e2.out.symm, hd.below⟩
  cases hb : inB n 0 200
  · have e1 : Hid (evV G n = false) := Lib.hid (by rw [hT, hok, hb]; rfl)
    have e2 : Hid (evC G n = 2) := Lib.hid (by rw [hTC, hok, hb]; rfl)
    have cC' := Lib.hid (cC false)
    rw [hok, show cod8 true false = 2 from rfl] at cC'
    rw [hb] at cI
    obtain ⟨a, cap, rfl, _⟩ := hv
    clear hT hTC hok hb cC
    go_enter Try.func38, Try.ntmps38
    go_wp2_with (first
      | (go_at_call 65; (with_reducible refine (cI _).mono ?_); rintro e w2 ⟨rfl, rfl⟩)
      | (go_at_call 54; (with_reducible refine cC'.out.mono ?_); rintro e w2 ⟨rfl, hd⟩))
    go_ret2
    exact ⟨ret_bi e1.out.symm e2.out.symm, hd.below⟩
  obtain ⟨g, o, cap, rg, ro, rc, rfl, hGR⟩ := grid_GR hv (okP_okG hok)
  have e1 : Hid (evV G n = decide (mxF (dS (hG G) (plAll G.length (colsG G))) ≤ n)) := Lib.hid (by rw [hT, hok, hb]; simp)
  have e2 : Hid (evC G n = 0) := Lib.hid (by rw [hTC, hok, hb]; rfl)
  have cC' := Lib.hid (cC true)
  rw [hok, show cod8 true true = 0 from rfl] at cC'
  rw [hb] at cI
  have cL := Lib.hid (fun W (hb : DrewOf w W) => steepestStep_any g o cap G.length (colsG G) rg ro rc (hG G) W (hGR.below hb.below))
  obtain ⟨M, hM⟩ : ∃ L, L = mxF (dS (hG G) (plAll G.length (colsG G))) := ⟨_, rfl⟩
  rw [← hM] at cL e1
  clear hT hTC hok hb hM cC hGR hv
  go_enter Try.func38, Try.ntmps38
  go_wp2_with (first
    | (go_at_call 65; (with_reducible refine (cI _).mono ?_); rintro e w2 ⟨rfl, rfl⟩)
    | (go_at_call 54; (with_reducible refine cC'.out.mono ?_); rintro e w2 ⟨rfl, hd⟩)
    | (go_at_call 73; (with_reducible refine (cL.out _ hd).mono ?_); rintro e w3 ⟨rfl, b3⟩))
  go_ret2
  exact ⟨ret_bi e1.out.symm e2.out.symm, below2 hd.below b3⟩
set_option maxHeartbeats 6400000 in
theorem specEvenPlate_any (v : Value) (G : List (List Int)) (n : Int) (w : World) (hn : G.length + totL G ≤ 1048576) (hv : GridAt w v G) : Calls Try.prog 37 #[v, .int .i64 n] w fun e w' => e = .returned (.tuple #[.bool (evV G n), .int .i64 (evC G n)]) ∧ Below w.heap.size w w' := by
  have cV := Lib.hid (l08Ok_any v G w hn hv)
  have cI := fun W => l00In_any n 0 200 W
  have hT : evV G n = (okP G && inB n 0 200 && decide (mxF (dS (hG G) (plAll G.length (colsG G))) ≤ n)) := rfl
  have hTC : evC G n = cod8 (okP G) (inB n 0 200) := rfl
  cases hok : okP G
  · have e1 : Hid (evV G n = false) := Lib.hid (by rw [hT, hok]; rfl)
    have e2 : Hid (evC G n = 1) := Lib.hid (by rw [hTC, hok]; rfl)
    rw [hok] at cV
    obtain ⟨a, cap, rfl, _⟩ := hv
    clear hT hTC hok
    go_enter Try.func37, Try.ntmps37
    go_wp2_with (go_at_call 48; refine cV.out.mono ?_; rintro e w2 ⟨rfl, hd⟩)
    go_ret2
    exact ⟨ret_bi e1.out.symm e2.out.symm, hd.below⟩
  rw [hok] at cV
  cases hb : inB n 0 200
  · have e1 : Hid (evV G n = false) := Lib.hid (by rw [hT, hok, hb]; rfl)
    have e2 : Hid (evC G n = 2) := Lib.hid (by rw [hTC, hok, hb]; rfl)
    rw [hb] at cI
    obtain ⟨a, cap, rfl, _⟩ := hv
    clear hT hTC hok hb
    go_enter Try.func37, Try.ntmps37
    go_wp2_with (first
      | (go_at_call 48; refine cV.out.mono ?_; rintro e w2 ⟨rfl, hd⟩)
      | (go_at_call 63; (with_reducible refine (cI _).mono ?_); rintro e w3 ⟨rfl, rfl⟩))
    go_ret2
    exact ⟨ret_bi e1.out.symm e2.out.symm, hd.below⟩
  obtain ⟨g, o, cap, rg, ro, rc, rfl, hGR⟩ := grid_GR hv (okP_okG hok)
  have hn0 := inB_iff.1 hb
  have e1 : Hid (evV G n = decide (mxF (dS (hG G) (plAll G.length (colsG G))) ≤ n)) := Lib.hid (by rw [hT, hok, hb]; simp)
  have e2 : Hid (evC G n = 0) := Lib.hid (by rw [hTC, hok, hb]; rfl)
  have hbad : Hid ((∃ x, x ∈ dS (hG G) (plAll G.length (colsG G)) ∧ n < x) → false = evV G n) := Lib.hid (fun ⟨x, hx, hl⟩ => by
    rw [e1.out, decide_eq_false]
    intro h
    have := (mxF_le (dS_nn _ _) hn0.1).1 h x hx
    omega)
  have hgood : Hid ((∀ x ∈ dS (hG G) (plAll G.length (colsG G)), x ≤ n) → true = evV G n) := Lib.hid (fun h => by
    rw [e1.out, decide_eq_true]
    exact (mxF_le (dS_nn _ _) hn0.1).2 h)
  rw [hb] at cI
  obtain ⟨h, hh⟩ : ∃ h, h = hG G := ⟨_, rfl⟩
  obtain ⟨R, hR⟩ : ∃ R, R = G.length := ⟨_, rfl⟩
  obtain ⟨C, hC⟩ : ∃ C, C = colsG G := ⟨_, rfl⟩
  rw [← hR, ← hC, ← hh] at hbad hgood hGR
  rw [← hR] at cV ⊢
  have hx := Lib.hid hGR
  have r2 := hGR.R10
  have q2 := hGR.C10
  clear hT hTC hok hb hn hv hGR hh hR hC e1
  go_enter Try.func37, Try.ntmps37
  go_wp2_with (first
    | (go_at_call 48; refine cV.out.mono ?_; rintro e w2 ⟨rfl, hd⟩)
    | (go_at_call 63; (with_reducible refine (cI _).mono ?_); rintro e w3 ⟨rfl, rfl⟩))
  go_loopw [6] (fun i wr => ∃ k : Nat, k ≤ R ∧ i = .int .i64 k ∧ Hid (∀ x ∈ dS h (plTo C k 0), x ≤ n) ∧ DrewOf w wr) (fun i _ => R - (intOf i).toNat)
  case atStart => exact ⟨0, by omega, rfl, Lib.hid (fun x hx => by simp [dS, plTo] at hx), hd⟩
  case round =>
    obtain ⟨k, hk, rfl, hs, hd⟩ := hrel
    by_cases hlt : k < R
    · have hkI : (k : Int) < (R : Int) := by omega
      have c1 := (hx.out.drew9 hd).top k hlt
      go_wp2
      clear c1
      go_loopw [7] (fun i wr => ∃ m : Nat, m ≤ C ∧ i = .int .i64 m ∧ Hid (∀ x ∈ dS h (plTo C k m), x ≤ n) ∧ DrewOf w wr) (fun i _ => C - (intOf i).toNat)
      case atStart => exact ⟨0, by omega, rfl, hs, hd⟩
      case round =>
        obtain ⟨m, hm, rfl, hs, hd⟩ := hrel
        have c1 := (hx.out.drew9 hd).top k hlt
        by_cases hlm : m < C
        · have hz := Lib.hid (hx.out.drew9 hd)
          have hyes : Hid ((∀ x ∈ dU h (k, m), x ≤ n) → (∀ x ∈ dW h (k, m), x ≤ n) → ∀ x ∈ dS h (plTo C k (m + 1)), x ≤ n) := Lib.hid (fun h1 h2 x hx => by
            rw [plTo_next, dS_app] at hx
            rcases List.mem_append.1 hx with hx | hx
            · exact hs.out x hx
            · rcases List.mem_append.1 hx with hx | hx
              · exact h1 x hx
              · exact h2 x hx)
          have hno : Hid ((∃ x, (x ∈ dU h (k, m) ∨ x ∈ dW h (k, m)) ∧ n < x) → false = evV G n) := Lib.hid (fun ⟨x, hx, hlt'⟩ => hbad.out ⟨x, by
            unfold dS
            exact List.mem_flatMap.2 ⟨(k, m), mem_plAll.2 ⟨hlt, hlm⟩, List.mem_append.2 hx⟩, hlt'⟩)
          have c2 := hz.out.cel k hlt m hlm
          have z1a := hz.out.h0 k m hlt hlm
          have z1b := hz.out.h1 k m hlt hlm
          obtain ⟨z1, hz1⟩ : ∃ z, z = h k m := ⟨_, rfl⟩
          rw [← hz1] at c2 z1a z1b
          have hmI : (m : Int) < (C : Int) := by omega
          by_cases hm0 : 0 < m
          · have z2a := hz.out.h0 k (m - 1) hlt (by omega)
            have z2b := hz.out.h1 k (m - 1) hlt (by omega)
            have c3 := hz.out.cel k hlt (m - 1) (by omega)
            have hw1 : IntKind.i64.wrap ((m : Int) - 1) = ((m - 1 : Nat) : Int) := by rw [show ((m - 1 : Nat) : Int) = (m : Int) - 1 by omega]; exact IntWalk.i64_in _ (by omega)
            have hm1 : ((m - 1 : Nat) : Int) < (C : Int) := by omega
            obtain ⟨zW, hzW⟩ : ∃ z, z = h k (m - 1) := ⟨_, rfl⟩
            have dWe : dW h (k, m) = [absG z1 zW] := by unfold dW; rw [if_pos hm0, hz1, hzW]
            rw [← hzW] at z2a z2b c3
            obtain ⟨mm, hmm⟩ : ∃ mm, mm = m - 1 := ⟨_, rfl⟩
            rw [← hmm] at c3 hw1 hm1
            have ew1 : IntKind.i64.wrap (z1 - zW) = z1 - zW := IntWalk.i64_in _ (by omega)
            have cW0 := fun W => l08Abs_any (z1 - zW) (by omega) (by omega) W
            rw [absG_sub] at cW0
            obtain ⟨dw, hdw⟩ : ∃ d, d = absG z1 zW := ⟨_, rfl⟩
            rw [← hdw] at cW0 dWe
            have cW := Lib.hid cW0
            clear hzW hdw cW0 z2a z2b hmm
            have dWe' := Lib.hid dWe
            clear dWe
            by_cases hdw : n < dw
            · have m0 : decide ((0 : Int) < (m : Int)) = true := decide_eq_true (by omega)
              have d1 : decide (n < dw) = true := decide_eq_true hdw
              have cU : Hid (∀ W : World, Calls Try.prog 72 #[.int .i64 0] W fun e w' => e = .returned (.int .i64 0) ∧ W = w') := Lib.hid (fun W => l08Abs_any 0 (by omega) (by omega) W)
              have hr : Hid (false = evV G n) := Lib.hid (hno.out (⟨dw, Or.inr (by rw [dWe'.out]; simp), hdw⟩))
              clear hyes hno hz1
              go_wp2
              go_quiet ((go_at_call 72; first | (with_reducible exact Qs (cW.out _)) | (with_reducible exact Qs (cU.out _))))
              go_wp2
              go_ret2
              exact ⟨ret_bi hr.out e2.out.symm, (hd.more _).below⟩
            have dWe := dWe'
            clear dWe'
            have m0 : decide ((0 : Int) < (m : Int)) = true := decide_eq_true (by omega)
            have d1 : decide (n < dw) = false := decide_eq_false hdw
            by_cases hk0 : 0 < k
            · have z3a := hz.out.h0 (k - 1) m (by omega) hlm
              have z3b := hz.out.h1 (k - 1) m (by omega) hlm
              have c4 := hz.out.cel (k - 1) (by omega) m hlm
              have c5 := hz.out.top (k - 1) (by omega)
              have hw2 : IntKind.i64.wrap ((k : Int) - 1) = ((k - 1 : Nat) : Int) := by rw [show ((k - 1 : Nat) : Int) = (k : Int) - 1 by omega]; exact IntWalk.i64_in _ (by omega)
              have hk1 : ((k - 1 : Nat) : Int) < (R : Int) := by omega
              obtain ⟨zU, hzU⟩ : ∃ z, z = h (k - 1) m := ⟨_, rfl⟩
              have dUe : dU h (k, m) = [absG z1 zU] := by unfold dU; rw [if_pos hk0, hz1, hzU]
              rw [← hzU] at z3a z3b c4
              obtain ⟨kk, hkk⟩ : ∃ kk, kk = k - 1 := ⟨_, rfl⟩
              rw [← hkk] at c4 c5 hw2 hk1
              have ew2 : IntKind.i64.wrap (z1 - zU) = z1 - zU := IntWalk.i64_in _ (by omega)
              have cU0 := fun W => l08Abs_any (z1 - zU) (by omega) (by omega) W
              rw [absG_sub] at cU0
              obtain ⟨du, hdu⟩ : ∃ d, d = absG z1 zU := ⟨_, rfl⟩
              rw [← hdu] at cU0 dUe
              have cU := Lib.hid cU0
              clear hzU hdu cU0 z3a z3b hkk
              have dUe' := Lib.hid dUe
              clear dUe hz1
              by_cases hdu : n < du
              · have k0 : decide ((0 : Int) < (k : Int)) = true := decide_eq_true (by omega)
                have d2 : decide (n < du) = true := decide_eq_true hdu
                have hr : Hid (false = evV G n) := Lib.hid (hno.out (⟨du, Or.inl (by rw [dUe'.out]; simp), hdu⟩))
                clear hyes hno
                go_wp2
                go_quiet ((go_at_call 72; first | (with_reducible exact Qs (cW.out _)) | (with_reducible exact Qs (cU.out _))))
                go_wp2
                go_ret2
                exact ⟨ret_bi hr.out e2.out.symm, (hd.more _).below⟩
              · have k0 : decide ((0 : Int) < (k : Int)) = true := decide_eq_true (by omega)
                have d2 : decide (n < du) = false := decide_eq_false hdu
                have hr : Hid (∀ x ∈ dS h (plTo C k (m + 1)), x ≤ n) := Lib.hid (hyes.out (by rw [dUe'.out]; intro x hx; simp at hx; subst hx; omega) (by rw [dWe.out]; intro x hx; simp at hx; subst hx; omega))
                clear hyes hno
                go_wp2
                go_quiet ((go_at_call 72; first | (with_reducible exact Qs (cW.out _)) | (with_reducible exact Qs (cU.out _))))
                go_wp2
                go_roundw
                case rel => exact ⟨m + 1, by omega, by go_num, hr, hd.more _⟩
                case measure => simp [intOf]; omega
            · have dUe : dU h (k, m) = [] := by unfold dU; rw [if_neg hk0]
              have cU : Hid (∀ W : World, Calls Try.prog 72 #[.int .i64 0] W fun e w' => e = .returned (.int .i64 0) ∧ W = w') := Lib.hid (fun W => l08Abs_any 0 (by omega) (by omega) W)
              have dUe' := Lib.hid dUe
              clear dUe hz1
              have k0 : decide ((0 : Int) < (k : Int)) = false := decide_eq_false (by omega)
              have hr : Hid (∀ x ∈ dS h (plTo C k (m + 1)), x ≤ n) := Lib.hid (hyes.out (by rw [dUe'.out]; intro x hx; cases hx) (by rw [dWe.out]; intro x hx; simp at hx; subst hx; omega))
              clear hyes hno
              go_wp2
              go_quiet ((go_at_call 72; first | (with_reducible exact Qs (cW.out _)) | (with_reducible exact Qs (cU.out _))))
              go_wp2
              go_roundw
              case rel => exact ⟨m + 1, by omega, by go_num, hr, hd.more _⟩
              case measure => simp [intOf]; omega
          · have dWe : dW h (k, m) = [] := by unfold dW; rw [if_neg hm0]
            have cW : Hid (∀ W : World, Calls Try.prog 72 #[.int .i64 0] W fun e w' => e = .returned (.int .i64 0) ∧ W = w') := Lib.hid (fun W => l08Abs_any 0 (by omega) (by omega) W)
            have dWe' := Lib.hid dWe
            clear dWe
            have dWe := dWe'
            clear dWe'
            have m0 : decide ((0 : Int) < (m : Int)) = false := decide_eq_false (by omega)
            by_cases hk0 : 0 < k
            · have z3a := hz.out.h0 (k - 1) m (by omega) hlm
              have z3b := hz.out.h1 (k - 1) m (by omega) hlm
              have c4 := hz.out.cel (k - 1) (by omega) m hlm
              have c5 := hz.out.top (k - 1) (by omega)
              have hw2 : IntKind.i64.wrap ((k : Int) - 1) = ((k - 1 : Nat) : Int) := by rw [show ((k - 1 : Nat) : Int) = (k : Int) - 1 by omega]; exact IntWalk.i64_in _ (by omega)
              have hk1 : ((k - 1 : Nat) : Int) < (R : Int) := by omega
              obtain ⟨zU, hzU⟩ : ∃ z, z = h (k - 1) m := ⟨_, rfl⟩
              have dUe : dU h (k, m) = [absG z1 zU] := by unfold dU; rw [if_pos hk0, hz1, hzU]
              rw [← hzU] at z3a z3b c4
              obtain ⟨kk, hkk⟩ : ∃ kk, kk = k - 1 := ⟨_, rfl⟩
              rw [← hkk] at c4 c5 hw2 hk1
              have ew2 : IntKind.i64.wrap (z1 - zU) = z1 - zU := IntWalk.i64_in _ (by omega)
              have cU0 := fun W => l08Abs_any (z1 - zU) (by omega) (by omega) W
              rw [absG_sub] at cU0
              obtain ⟨du, hdu⟩ : ∃ d, d = absG z1 zU := ⟨_, rfl⟩
              rw [← hdu] at cU0 dUe
              have cU := Lib.hid cU0
              clear hzU hdu cU0 z3a z3b hkk
              have dUe' := Lib.hid dUe
              clear dUe hz1
              by_cases hdu : n < du
              · have k0 : decide ((0 : Int) < (k : Int)) = true := decide_eq_true (by omega)
                have d2 : decide (n < du) = true := decide_eq_true hdu
                have hr : Hid (false = evV G n) := Lib.hid (hno.out (⟨du, Or.inl (by rw [dUe'.out]; simp), hdu⟩))
                clear hyes hno
                go_wp2
                go_quiet ((go_at_call 72; first | (with_reducible exact Qs (cW.out _)) | (with_reducible exact Qs (cU.out _))))
                go_wp2
                go_ret2
                exact ⟨ret_bi hr.out e2.out.symm, (hd.more _).below⟩
              · have k0 : decide ((0 : Int) < (k : Int)) = true := decide_eq_true (by omega)
                have d2 : decide (n < du) = false := decide_eq_false hdu
                have hr : Hid (∀ x ∈ dS h (plTo C k (m + 1)), x ≤ n) := Lib.hid (hyes.out (by rw [dUe'.out]; intro x hx; simp at hx; subst hx; omega) (by rw [dWe.out]; intro x hx; cases hx))
                clear hyes hno
                go_wp2
                go_quiet ((go_at_call 72; first | (with_reducible exact Qs (cW.out _)) | (with_reducible exact Qs (cU.out _))))
                go_wp2
                go_roundw
                case rel => exact ⟨m + 1, by omega, by go_num, hr, hd.more _⟩
                case measure => simp [intOf]; omega
            · have dUe : dU h (k, m) = [] := by unfold dU; rw [if_neg hk0]
              have cU : Hid (∀ W : World, Calls Try.prog 72 #[.int .i64 0] W fun e w' => e = .returned (.int .i64 0) ∧ W = w') := Lib.hid (fun W => l08Abs_any 0 (by omega) (by omega) W)
              have dUe' := Lib.hid dUe
              clear dUe hz1
              have k0 : decide ((0 : Int) < (k : Int)) = false := decide_eq_false (by omega)
              have hr : Hid (∀ x ∈ dS h (plTo C k (m + 1)), x ≤ n) := Lib.hid (hyes.out (by rw [dUe'.out]; intro x hx; cases hx) (by rw [dWe.out]; intro x hx; cases hx))
              clear hyes hno
              go_wp2
              go_quiet ((go_at_call 72; first | (with_reducible exact Qs (cW.out _)) | (with_reducible exact Qs (cU.out _))))
              go_wp2
              go_roundw
              case rel => exact ⟨m + 1, by omega, by go_num, hr, hd.more _⟩
              case measure => simp [intOf]; omega
        · have hmC : m = C := by omega
          have hr : Hid (∀ x ∈ dS h (plTo C (k + 1) 0), x ≤ n) := Lib.hid (by have := hs.out; rw [hmC, plTo_row] at this; exact this)
          clear hmC hs
          go_wp2
          go_roundw
          case rel => exact ⟨k + 1, by omega, by go_num, hr, hd⟩
          case measure => simp [intOf]; omega
    · have hkR : k = R := by omega
      have hr : Hid (true = evV G n) := Lib.hid (hgood.out (by have := hs.out; rw [hkR] at this; exact this))
      clear hkR hs
      go_wp2
      go_ret2
      exact ⟨ret_bi hr.out e2.out.symm, hd.below⟩
end Go.Proofs.Ytndnliaahdmbmaa
