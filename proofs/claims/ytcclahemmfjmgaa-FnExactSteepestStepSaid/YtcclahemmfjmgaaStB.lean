/-
  The steepest step: the model.
-/
import Derived.Test.YtcclahemmfjmgaaStA
namespace Go.Proofs.Ytcclahemmfjmgaa
open Go.ChangeShapes Go.WideShapes Go.ChangeAt Go.RowKit Go.Deep
set_option linter.unusedVariables false
set_option linter.unusedSimpArgs false
theorem dS_bd {R C : Nat} {h : Nat → Nat → Int} (h0 : ∀ i k, i < R → k < C → 0 ≤ h i k) (h1 : ∀ i k, i < R → k < C → h i k ≤ 1000) {L : List (Nat × Nat)} (hL : L <+: plAll R C) : ∀ x ∈ dS h L, 0 ≤ x ∧ x ≤ 1000 := by
  intro x hx
  unfold dS at hx
  obtain ⟨p, hp, hm⟩ := List.mem_flatMap.1 hx
  obtain ⟨a, b⟩ := mem_plAll.1 (hL.subset hp)
  rcases List.mem_append.1 hm with hm | hm
  · unfold dU at hm; split at hm
    · simp at hm; subst hm; exact absG_bd (h0 _ _ a b) (h1 _ _ a b) (h0 _ _ (by omega) b) (h1 _ _ (by omega) b)
    · cases hm
  · unfold dW at hm; split at hm
    · simp at hm; subst hm; exact absG_bd (h0 _ _ a b) (h1 _ _ a b) (h0 _ _ a (by omega)) (h1 _ _ a (by omega))
    · cases hm
set_option maxHeartbeats 3200000 in
theorem specSteepestStep_any (v : Value) (G : List (List Int)) (w : World) (hn : G.length + totL G ≤ 1048576) (hv : GridAt w v G) : Calls Try.prog 21 #[v] w fun e w' => e = .returned (.tuple #[.int .i64 (steV G), .int .i64 (code (okG G) 1)]) ∧ Below w.heap.size w w' := by
  have cV := Lib.hid (l07Ok_any v G w hn hv)
  have hV : Hid (steV G = if okG G then mxF (dS (hG G) (plAll G.length (colsG G))) else 0) := Lib.hid rfl
  cases hok : okG G
  · rw [hok] at cV hV
    obtain ⟨a, cap, rfl, _⟩ := hv
    clear hok hn
    go_enter Try.func21, Try.ntmps21
    go_wp2_with (go_at_call 42; refine cV.out.mono ?_; rintro e w2 ⟨rfl, hd⟩)
    go_ret2
    exact ⟨by rw [hV.out]; rfl, hd.below⟩
  obtain ⟨g, o, cap, rg, ro, rc, rfl, hGR⟩ := grid_GR hv hok
  rw [hok] at cV hV
  rw [show steV G = mxF (dS (hG G) (plAll G.length (colsG G))) from hV.out]
  obtain ⟨R, hR⟩ : ∃ R, R = G.length := ⟨_, rfl⟩
  obtain ⟨C, hC⟩ : ∃ C, C = colsG G := ⟨_, rfl⟩
  obtain ⟨h, hh⟩ : ∃ h, h = hG G := ⟨_, rfl⟩
  rw [← hR] at cV
  rw [← hR, ← hC, ← hh] at hGR ⊢
  have hx := Lib.hid hGR
  have hR2 := hGR.R10
  have hC2 := hGR.C10
  clear hok hn hv hGR hV hR hC hh
  go_enter Try.func21, Try.ntmps21
  go_wp2_with (go_at_call 42; refine cV.out.mono ?_; rintro e w2 ⟨rfl, hd⟩)
  go_loopw [4, 5] (fun x i wr => ∃ (k : Nat) (s : Int), k ≤ R ∧ i = .int .i64 k ∧ x = .int .i64 s ∧ Hid (s = mxF (dS h (plTo C k 0))) ∧ DrewOf w wr) (fun _ i _ => R - (intOf i).toNat)
  case atStart => exact ⟨0, 0, by omega, rfl, rfl, Lib.hid rfl, hd⟩
  case round =>
    obtain ⟨k, s, hk, rfl, rfl, hs, hd⟩ := hrel
    by_cases hlt : k < R
    · have hkI : (k : Int) < (R : Int) := by omega
      go_wp2
      go_loopw [4, 6] (fun x i wr => ∃ (m : Nat) (s : Int), m ≤ C ∧ i = .int .i64 m ∧ x = .int .i64 s ∧ Hid (s = mxF (dS h (plTo C k m))) ∧ DrewOf w wr) (fun _ i _ => C - (intOf i).toNat)
      case atStart => exact ⟨0, s, by omega, rfl, rfl, hs, hd⟩
      case round =>
        obtain ⟨m, s, hm, rfl, rfl, hs, hd⟩ := hrel
        have hz := Lib.hid (hx.out.drew hd)
        have c1 := hz.out.top k hlt
        by_cases hlm : m < C
        · have c2 := hz.out.cel k hlt m hlm
          have hmI : (m : Int) < (C : Int) := by omega
          have z1a := hz.out.h0 k m hlt hlm
          have z1b := hz.out.h1 k m hlt hlm
          have hnext := dS_app h (plTo C k m) (k, m)
          rw [← plTo_next] at hnext
          obtain ⟨z1, hz1⟩ : ∃ z, z = h k m := ⟨_, rfl⟩
          rw [← hz1] at c2 z1a z1b
          have hz1' := Lib.hid hz1
          have hnext' := Lib.hid hnext
          clear hz1 hnext
          by_cases hk0 : 0 < k
          · have d1 := hz.out.top (k - 1) (by omega)
            have d2 := hz.out.cel (k - 1) (by omega) m hlm
            have z2a := hz.out.h0 (k - 1) m (by omega) hlm
            have z2b := hz.out.h1 (k - 1) m (by omega) hlm
            obtain ⟨z2, hz2⟩ : ∃ z, z = h (k - 1) m := ⟨_, rfl⟩
            rw [← hz2] at d2 z2a z2b
            have hU : Hid (dU h (k, m) = [absG z1 z2]) := Lib.hid (by unfold dU; rw [if_pos (by show 0 < k; exact hk0), hz1'.out, hz2])
            have hwk : IntKind.i64.wrap ((k : Int) - 1) = ((k - 1 : Nat) : Int) := by rw [show ((k - 1 : Nat) : Int) = (k : Int) - 1 by omega]; exact IntWalk.i64_in _ (by omega)
            have hk1I : ((k - 1 : Nat) : Int) < (R : Int) := by omega
            have hk0I : (0 : Int) < (k : Int) := by omega
            have cD1 := Lib.hid (fun W => l03AbsG z1 z2 (by omega) (by omega) (by omega) (by omega) W)
            have cM1 := Lib.hid (fun W => l00MaxG s (absG z1 z2) W)
            obtain ⟨k9, hk9⟩ : ∃ k9, k9 = k - 1 := ⟨_, rfl⟩
            rw [← hk9] at d1 d2 hwk hk1I
            have hkR9 : k9 < R := by omega
            have hMa : Hid (maxG s (absG z1 z2) = mxF (dS h (plTo C k m) ++ dU h (k, m))) := Lib.hid (by rw [hU.out, mxF_app, ← hs.out])
            obtain ⟨s2, hs2⟩ : ∃ x, x = maxG s (absG z1 z2) := ⟨_, rfl⟩
            obtain ⟨dd, hdd⟩ : ∃ x, x = absG z1 z2 := ⟨_, rfl⟩
            rw [← hs2] at cM1 hMa
            rw [← hdd] at cD1 cM1
            clear hz2 hs2 hdd hk9 hU z2a z2b hk0
            by_cases hm0 : 0 < m
            · have f2 := hz.out.cel k hlt (m - 1) (by omega)
              have y2a := hz.out.h0 k (m - 1) hlt (by omega)
              have y2b := hz.out.h1 k (m - 1) hlt (by omega)
              obtain ⟨y2, hy2⟩ : ∃ z, z = h k (m - 1) := ⟨_, rfl⟩
              rw [← hy2] at f2 y2a y2b
              have hWW : Hid (dW h (k, m) = [absG z1 y2]) := Lib.hid (by unfold dW; rw [if_pos (by show 0 < m; exact hm0), hz1'.out, hy2])
              have hwm : IntKind.i64.wrap ((m : Int) - 1) = ((m - 1 : Nat) : Int) := by rw [show ((m - 1 : Nat) : Int) = (m : Int) - 1 by omega]; exact IntWalk.i64_in _ (by omega)
              have hm1I : ((m - 1 : Nat) : Int) < (C : Int) := by omega
              have hm0I : (0 : Int) < (m : Int) := by omega
              have cD2 := Lib.hid (fun W => l03AbsG z1 y2 (by omega) (by omega) (by omega) (by omega) W)
              have cM2 := Lib.hid (fun W => l00MaxG s2 (absG z1 y2) W)
              obtain ⟨m9, hm9⟩ : ∃ m9, m9 = m - 1 := ⟨_, rfl⟩
              rw [← hm9] at f2 hwm hm1I
              have hr : Hid (maxG s2 (absG z1 y2) = mxF (dS h (plTo C k (m + 1)))) := Lib.hid (by rw [hnext'.out, ← List.append_assoc, hWW.out, mxF_app, ← hMa.out])
              obtain ⟨s3, hs3⟩ : ∃ x, x = maxG s2 (absG z1 y2) := ⟨_, rfl⟩
              obtain ⟨de, hde⟩ : ∃ x, x = absG z1 y2 := ⟨_, rfl⟩
              rw [← hs3] at cM2 hr
              rw [← hde] at cD2 cM2
              clear hy2 hs3 hde hm9 hWW y2a y2b hm0 hs
              go_wp2
              go_quiet ((first | (go_at_call 50; first | (with_reducible exact Qs (cD1.out _)) | (with_reducible exact Qs (cD2.out _))) | (go_at_call 49; first | (with_reducible exact Qs (cM1.out _)) | (with_reducible exact Qs (cM2.out _)))))
              have hd7 := hd.more nq
              have e1 : (wr.drewN nq).cell? ⟨g, o + k, none⟩ = some (.slice (some ⟨rg k, ro k, none⟩) C (rc k)) := c1
              have e2 : (wr.drewN nq).cell? ⟨rg k, ro k + m, none⟩ = some (.int .i64 z1) := c2
              have e3 : (wr.drewN nq).cell? ⟨rg k, ro k + m9, none⟩ = some (.int .i64 y2) := f2
              clear c1 c2 f2 d1 d2
              generalize wr.drewN nq = w7 at hd7 e1 e2 e3 ⊢
              go_wp2
              go_quiet ((first | (go_at_call 50; first | (with_reducible exact Qs (cD1.out _)) | (with_reducible exact Qs (cD2.out _))) | (go_at_call 49; first | (with_reducible exact Qs (cM1.out _)) | (with_reducible exact Qs (cM2.out _)))))
              go_wp2
              go_roundw
              case rel => exact ⟨m + 1, s3, by omega, by go_num, rfl, hr, (hd7.more _)⟩
              case measure => simp [intOf]; omega
            · have hm0I : ¬ (0 : Int) < (m : Int) := by omega
              have hr : Hid (s2 = mxF (dS h (plTo C k (m + 1)))) := Lib.hid (by
                have : dW h (k, m) = [] := by unfold dW; rw [if_neg (by show ¬ 0 < m; exact hm0)]
                rw [hnext'.out, this, List.append_nil, hMa.out])
              have hm00 : m = 0 := by omega
              have cD2 := Lib.hid trivial
              have cM2 := Lib.hid trivial
              clear hm0 hs hm00
              go_wp2
              go_quiet ((first | (go_at_call 50; exact Qs (cD1.out _)) | (go_at_call 49; exact Qs (cM1.out _))))
              go_wp2
              go_roundw
              case rel => exact ⟨m + 1, s2, by omega, by go_num, rfl, hr, (hd.more _)⟩
              case measure => simp [intOf]; omega
          · have hk0I : ¬ (0 : Int) < (k : Int) := by omega
            have hU : Hid (dU h (k, m) = []) := Lib.hid (by unfold dU; rw [if_neg (by show ¬ 0 < k; exact hk0)])
            by_cases hm0 : 0 < m
            · have f2 := hz.out.cel k hlt (m - 1) (by omega)
              have y2a := hz.out.h0 k (m - 1) hlt (by omega)
              have y2b := hz.out.h1 k (m - 1) hlt (by omega)
              obtain ⟨y2, hy2⟩ : ∃ z, z = h k (m - 1) := ⟨_, rfl⟩
              rw [← hy2] at f2 y2a y2b
              have hWW : Hid (dW h (k, m) = [absG z1 y2]) := Lib.hid (by unfold dW; rw [if_pos (by show 0 < m; exact hm0), hz1'.out, hy2])
              have hwm : IntKind.i64.wrap ((m : Int) - 1) = ((m - 1 : Nat) : Int) := by rw [show ((m - 1 : Nat) : Int) = (m : Int) - 1 by omega]; exact IntWalk.i64_in _ (by omega)
              have hm1I : ((m - 1 : Nat) : Int) < (C : Int) := by omega
              have hm0I : (0 : Int) < (m : Int) := by omega
              have cD2 := Lib.hid (fun W => l03AbsG z1 y2 (by omega) (by omega) (by omega) (by omega) W)
              have cM2 := Lib.hid (fun W => l00MaxG s (absG z1 y2) W)
              obtain ⟨m9, hm9⟩ : ∃ m9, m9 = m - 1 := ⟨_, rfl⟩
              rw [← hm9] at f2 hwm hm1I
              have hr : Hid (maxG s (absG z1 y2) = mxF (dS h (plTo C k (m + 1)))) := Lib.hid (by rw [hnext'.out, hU.out, List.nil_append, hWW.out, mxF_app, ← hs.out])
              obtain ⟨s3, hs3⟩ : ∃ x, x = maxG s (absG z1 y2) := ⟨_, rfl⟩
              obtain ⟨de, hde⟩ : ∃ x, x = absG z1 y2 := ⟨_, rfl⟩
              rw [← hs3] at cM2 hr
              rw [← hde] at cD2 cM2
              clear hy2 hs3 hde hm9 hWW y2a y2b hm0 hs hk0
              go_wp2
              go_quiet ((first | (go_at_call 50; exact Qs (cD2.out _)) | (go_at_call 49; exact Qs (cM2.out _))))
              go_wp2
              go_roundw
              case rel => exact ⟨m + 1, s3, by omega, by go_num, rfl, hr, (hd.more _)⟩
              case measure => simp [intOf]; omega
            · have hm0I : ¬ (0 : Int) < (m : Int) := by omega
              have hr : Hid (s = mxF (dS h (plTo C k (m + 1)))) := Lib.hid (by
                have : dW h (k, m) = [] := by unfold dW; rw [if_neg (by show ¬ 0 < m; exact hm0)]
                rw [hnext'.out, this, hU.out, List.append_nil, List.append_nil, hs.out])
              clear hm0 hs hk0
              go_wp2
              go_roundw
              case rel => exact ⟨m + 1, s, by omega, by go_num, rfl, hr, hd⟩
              case measure => simp [intOf]; omega
        · have hmC : m = C := by omega
          have hr : Hid (s = mxF (dS h (plTo C (k + 1) 0))) := Lib.hid (by have := hs.out; rw [hmC, plTo_row] at this; exact this)
          clear hmC hs
          go_wp2
          go_roundw
          case rel => exact ⟨k + 1, s, by omega, by go_num, rfl, hr, hd⟩
          case measure => simp [intOf]; omega
    · have hkR : k = R := by omega
      have hr : Hid (s = mxF (dS h (plAll R C))) := Lib.hid (by have := hs.out; rw [hkR] at this; exact this)
      clear hkR hs
      go_wp2
      go_ret2
      exact ⟨by rw [hr.out]; rfl, hd.below⟩
end Go.Proofs.Ytcclahemmfjmgaa
