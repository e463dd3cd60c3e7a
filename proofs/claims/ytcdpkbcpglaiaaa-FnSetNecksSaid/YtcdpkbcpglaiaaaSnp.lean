/-
  What the law of set necks asks of each part, over opaque values.
-/
import Derived.Test.YtcdpkbcpglaiaaaSnk
import Derived.Test.YtcdpkbcpglaiaaaNckV
import Derived.Test.YtcdpkbcpglaiaaaDryMath
import Derived.Deep.CutRange
import Derived.Deep.Cut
namespace Go.Proofs.Ytcdpkbcpglaiaaa
open Go.ChangeShapes Go.WideShapes Go.ChangeAt Go.RowKit Go.Deep
set_option linter.unusedVariables false
set_option maxRecDepth 1000000
set_option linter.unusedSimpArgs false
theorem absG_flip (x y : Int) : absG x y = babs (y - x) := by unfold babs absG; split <;> split <;> omega
theorem babs_bd {x B : Int} (h : -B ≤ x ∧ x ≤ B) : 0 ≤ babs x ∧ babs x ≤ B := by unfold babs; split <;> omega
theorem snA (Y : List Nck) (x1 x2 x3 x4 : Int) (hY : Y.length ≤ 1048576) : ∃ k far c : Int, Hid (∀ (v : Value) (W : World), NcksAt W v Y → Calls Try.prog 6 #[v, .agg #[.int .i64 x1, .int .i64 x2, .int .i64 x3, .int .i64 x4]] W fun e w' => e = .returned (.tuple #[.int .i64 k, .int .i64 far, .int .i64 c]) ∧ Below W.heap.size W w') ∧
    Hid (c ≠ 0 → k = 0 ∧ far = 0) ∧
    Hid (c = 0 → ∃ K : Nat, k = (K : Int) ∧ K < Y.length ∧ Y.length ≤ 64 ∧ (100 ≤ x1 ∧ x1 ≤ 10000) ∧ (100 ≤ x2 ∧ x2 ≤ 10000) ∧ (0 ≤ x3 ∧ x3 ≤ 500) ∧ (0 ≤ x4 ∧ x4 ≤ 300) ∧
      Hid (∀ (i : Nat) (hi : i < Y.length), ∃ s v1 v2 v3 v4 : Int, ((100 ≤ Y[i].stp ∧ Y[i].stp ≤ 10000) ∧ (100 ≤ Y[i].bod ∧ Y[i].bod ≤ 10000) ∧ (0 ≤ Y[i].ovr ∧ Y[i].ovr ≤ 500) ∧ (0 ≤ Y[i].ang ∧ Y[i].ang ≤ 300)) ∧
        Hid (∀ W, Calls Try.prog 7 #[.int .i64 (Y[i].stp - x1)] W fun e w' => e = .returned (.int .i64 v1) ∧ W = w') ∧ Hid (∀ W, Calls Try.prog 7 #[.int .i64 (Y[i].bod - x2)] W fun e w' => e = .returned (.int .i64 v2) ∧ W = w') ∧ Hid (∀ W, Calls Try.prog 7 #[.int .i64 (Y[i].ovr - x3)] W fun e w' => e = .returned (.int .i64 v3) ∧ W = w') ∧ Hid (∀ W, Calls Try.prog 7 #[.int .i64 (Y[i].ang - x4)] W fun e w' => e = .returned (.int .i64 v4) ∧ W = w') ∧
        (0 ≤ v1 ∧ v1 ≤ 20000) ∧ (0 ≤ v2 ∧ v2 ≤ 20000) ∧ (0 ≤ v3 ∧ v3 ≤ 20000) ∧ (0 ≤ v4 ∧ v4 ≤ 20000) ∧ s = v1 + v2 + v3 + v4 ∧ far ≤ s ∧ (i = K → s = far) ∧ (i < K → far < s))) := by
  refine ⟨_, _, _, Lib.hid (fun v W h => implNearestNeck_any v Y x1 x2 x3 x4 W hY h), Lib.hid (fun hc => ?_), Lib.hid (fun hc => ?_)⟩
  · obtain ⟨h1, h2, _⟩ := nn_bad rfl hc
    exact ⟨h1.symm, h2.symm⟩
  · obtain ⟨h1, h2, _⟩ := nn_good hc
    have hx : nckB ⟨x1, x2, x3, x4⟩ = true := by
      cases h : nckB ⟨x1, x2, x3, x4⟩
      · unfold nnC at hc; rw [h] at hc; exact absurd hc (by simp)
      · rfl
    have hk : nkC Y true = 0 := by
      unfold nnC at hc
      rw [hx, if_pos rfl] at hc
      by_cases h : nkC Y true = 0
      · exact h
      · rw [if_neg h] at hc; exact absurd hc h
    have hl : Y.length ≠ 0 := fun h => by
      unfold nnC at hc
      rw [hx, if_pos rfl, if_pos hk, if_pos h] at hc
      exact absurd hc (by decide)
    obtain ⟨hb, h64⟩ := nkC_ok hk
    have hxb := nck_bd hx
    have sp := nkN_spec (ngG Y ⟨x1, x2, x3, x4⟩) Y.length
    have hlt := nkN_lt (ngG Y ⟨x1, x2, x3, x4⟩) (n := Y.length) (by omega) Y.length (Nat.le_refl _)
    rw [← h1, ← h2]
    obtain ⟨K, hK⟩ : ∃ K, K = nkN (ngG Y ⟨x1, x2, x3, x4⟩) Y.length := ⟨_, rfl⟩
    rw [← hK] at sp hlt ⊢
    refine ⟨K, rfl, hlt, h64, hxb.1, hxb.2.1, hxb.2.2.1, hxb.2.2.2, Lib.hid (fun i hi => ?_)⟩
    have hyb : ((100 ≤ Y[i].stp ∧ Y[i].stp ≤ 10000) ∧ (100 ≤ Y[i].bod ∧ Y[i].bod ≤ 10000) ∧ (0 ≤ Y[i].ovr ∧ Y[i].ovr ≤ 500) ∧ (0 ≤ Y[i].ang ∧ Y[i].ang ≤ 300)) := nck_bd (ncks_one hb hi)
    have e : ngG Y ⟨x1, x2, x3, x4⟩ i = babs (Y[i].stp - x1) + babs (Y[i].bod - x2) + babs (Y[i].ovr - x3) + babs (Y[i].ang - x4) := by
      unfold ngG gapN
      rw [getD_of _ hi, absG_flip, absG_flip, absG_flip, absG_flip]
    have s1 := sp.1 i hi
    rw [e] at s1
    have s2 : i < K → _ := fun h => sp.2 i h
    rw [e] at s2
    refine ⟨_, _, _, _, _, hyb, Lib.hid (fun W => b10Abs_any _ (by omega) (by omega) W), Lib.hid (fun W => b10Abs_any _ (by omega) (by omega) W), Lib.hid (fun W => b10Abs_any _ (by omega) (by omega) W), Lib.hid (fun W => b10Abs_any _ (by omega) (by omega) W), babs_bd (by omega), babs_bd (by omega), babs_bd (by omega), babs_bd (by omega), rfl, s1, fun h => ?_, s2⟩
    rw [← e, h]
theorem snB (Y : List Nck) (h f : Int) (hY : Y.length ≤ 1048576) : ∃ (L : List Int) (c : Int), Hid (∀ (v : Value) (W : World), NcksAt W v Y → Calls Try.prog 9 #[v, .int .i64 h, .int .i64 f] W (RowC L c W)) ∧
    Hid (c ≠ 0 → L.length = 0) ∧
    Hid (c = 0 → Y.length ≤ 64 ∧ L.length ≤ 64 ∧ Hid (∀ x ∈ L, inI x) ∧ (0 ≤ h ∧ h ≤ 2000) ∧ (0 ≤ f ∧ f ≤ 1000) ∧
      Hid (∀ (v : Value) (W : World), IntsAt W v L → Calls Try.prog 10 #[v, .int .i64 (Y.length : Nat)] W fun e w' => e = .returned (.bool true) ∧ Below W.heap.size W w') ∧
      Hid (∀ (i : Nat) (hi : i < Y.length), ∃ (p a : Int) (b : Bool), Hid (∀ W, Calls Try.prog 11 #[.agg #[.int .i64 Y[i].stp, .int .i64 Y[i].bod, .int .i64 Y[i].ovr, .int .i64 Y[i].ang]] W fun e w' => e = .returned (.tuple #[.int .i64 p, .int .i64 0]) ∧ Below W.heap.size W w') ∧
        Hid (∀ (v : Value) (W : World), IntsAt W v L → Calls Try.prog 12 #[v, .int .i64 i] W fun e w' => e = .returned (.bool b) ∧ W = w') ∧ (0 ≤ p ∧ p ≤ 3500) ∧
        Hid (∀ W, Calls Try.prog 7 #[.int .i64 (p - h)] W fun e w' => e = .returned (.int .i64 a) ∧ W = w') ∧ (0 ≤ a ∧ a ≤ 10000) ∧ Hid (decide (a ≤ f) = b))) := by
  refine ⟨_, _, Lib.hid (fun v W hv => implSetNecks_any v Y h f W hY hv), Lib.hid (fun hc => ?_), Lib.hid (fun hc => ?_)⟩
  · rw [(set_bad rfl hc).1]; rfl
  · obtain ⟨hb, h64, ho⟩ := setC_ok hc
    rw [(set_good hc).1]
    unfold setOk at ho
    rw [Bool.and_eq_true, inB_iff, inB_iff] at ho
    have hlen := setL_len Y h f Y.length
    refine ⟨h64, by omega, Lib.hid (setL_in Y h f Y.length h64), ho.1, ho.2, Lib.hid (fun v W hv => b10Rises_any v _ Y.length W (by omega) (by omega) (fun x hx => ?_) (setL_rise Y h f _) hv), Lib.hid (fun i hi => ?_)⟩
    · obtain ⟨j, hj, e, _⟩ := (setL_mem Y h f x Y.length).1 hx
      omega
    · have h1 := ncks_one hb hi
      have hyb : ((100 ≤ Y[i].stp ∧ Y[i].stp ≤ 10000) ∧ (100 ≤ Y[i].bod ∧ Y[i].bod ≤ 10000) ∧ (0 ≤ Y[i].ovr ∧ Y[i].ovr ≤ 500) ∧ (0 ≤ Y[i].ang ∧ Y[i].ang ≤ 300)) := nck_bd h1
      have hp := prj_bd3 hyb.2.1 hyb.2.2.1 hyb.2.2.2
      have cP := fun W => specProjectionOf_any Y[i].stp Y[i].bod Y[i].ovr Y[i].ang W
      have h1' : nckB ⟨Y[i].stp, Y[i].bod, Y[i].ovr, Y[i].ang⟩ = true := h1
      rw [h1'] at cP
      refine ⟨prjV Y[i].bod Y[i].ovr Y[i].ang, _, _, Lib.hid cP, Lib.hid (fun v W hv => b10Has_any v _ i W (by omega) hv), hp, Lib.hid (fun W => b10Abs_any _ (by omega) (by omega) W), babs_bd (by omega), Lib.hid ?_⟩
      apply Bool.eq_iff_iff.2
      rw [decide_eq_true_iff, decide_eq_true_iff, setL_mem]
      have es : setB Y h f i = decide (babs (prjV Y[i].bod Y[i].ovr Y[i].ang - h) ≤ f) := by
        unfold setB
        rw [getD_of _ hi, babs_absG]
      constructor
      · intro hq; exact ⟨i, hi, rfl, by rw [es]; exact decide_eq_true hq⟩
      · rintro ⟨j, hj, e, hs⟩
        have : j = i := by omega
        subst this
        rw [es] at hs
        exact of_decide_eq_true hs
theorem snC (f t n : Int) : ∃ (L : List Int) (c : Int), Hid (∀ W : World, Calls Try.prog 14 #[.int .i64 f, .int .i64 t, .int .i64 n] W (RowC L c W)) ∧ Hid (c ≠ 0 → L.length = 0) ∧
    Hid (c = 0 → ∃ N : Nat, n = (N : Int) ∧ (1 ≤ N ∧ N ≤ 24) ∧ L.length = N + 1 ∧ Hid (∀ x ∈ L, inI x) ∧ (0 ≤ f ∧ f ≤ 2000) ∧ (0 ≤ t ∧ t ≤ 2000) ∧
      Hid (∀ (i : Nat) (hi : i < L.length), ∃ (p q d a : Int), (-1000000 ≤ L[i] ∧ L[i] ≤ 1000000) ∧ (i = 0 → L[i] = f) ∧ (i = N → L[i] = t) ∧ Hid (L[i] * (N : Int) = p) ∧ Hid (f * (N : Int) = q) ∧ Hid ((t - f) * (i : Int) = d) ∧ (-30000000 ≤ p ∧ p ≤ 30000000) ∧ (-30000000 ≤ q ∧ q ≤ 30000000) ∧ (-30000000 ≤ d ∧ d ≤ 30000000) ∧
        Hid (∀ W, Calls Try.prog 7 #[.int .i64 (p - q - d)] W fun e w' => e = .returned (.int .i64 a) ∧ W = w') ∧ (0 ≤ a ∧ a ≤ N))) := by
  refine ⟨_, _, Lib.hid (fun W => implHeightsAlong_any f t n W), Lib.hid (fun hc => ?_), Lib.hid (fun hc => ?_)⟩
  · cases h : halOk f t n
    · rw [(hal_bad h).1]; rfl
    · exact absurd (hal_good h).2 hc
  · cases h : halOk f t n
    · rw [(hal_bad h).2] at hc; exact absurd hc (by decide)
    · have hin := (halV_in (f := f) (t := t) (n := n)).1
      rw [(hal_good h).1] at hin ⊢
      unfold halOk at h
      rw [Bool.and_eq_true, Bool.and_eq_true, inB_iff, inB_iff, inB_iff] at h
      obtain ⟨N, hN⟩ : ∃ N : Nat, N = n.toNat := ⟨_, rfl⟩
      rw [← hN] at hin ⊢
      refine ⟨N, by omega, by omega, hbL_len _ _ _ _, Lib.hid hin, h.1.1, h.1.2, Lib.hid (fun i hi => ?_)⟩
      have hi' : i < N + 1 := by rw [hbL_len] at hi; exact hi
      rw [hbL_get f t N (N + 1) i hi']
      have hbd := line_hal (f := f) (t := t) (n := N) (k := i) (by omega) (by omega) (by omega) (by omega)
      have b1 := mul_bd (a := lineR 0 f (N : Int) t (i : Int)) (b := (N : Int)) (B := 1000000) (C := 25) (by omega) (by omega) (by omega) (by omega) (by omega)
      have b2 := mul_bd (a := f) (b := (N : Int)) (B := 1000000) (C := 25) (by omega) (by omega) (by omega) (by omega) (by omega)
      have b3 := mul_bd (a := t - f) (b := (i : Int)) (B := 1000000) (C := 25) (by omega) (by omega) (by omega) (by omega) (by omega)
      have hnear : -(N : Int) ≤ lineR 0 f (N : Int) t (i : Int) * (N : Int) - f * (N : Int) - (t - f) * (i : Int) ∧ lineR 0 f (N : Int) t (i : Int) * (N : Int) - f * (N : Int) - (t - f) * (i : Int) ≤ (N : Int) := by
        unfold lineR
        by_cases h0 : (i : Int) ≤ 0
        · have : i = 0 := by omega
          subst this
          rw [if_pos h0]; first | (simp; done) | (simp; omega)
        · rw [if_neg h0, if_neg (by omega)]
          by_cases h1 : (N : Int) ≤ (i : Int)
          · have : i = N := by omega
            subst this
            rw [if_pos h1, Int.sub_mul]; omega
          · rw [if_neg h1]
            have u := rnd_upper (a := (t - f) * ((i : Int) - 0)) (b := (N : Int) - 0) (by omega)
            have l := rnd_lower (a := (t - f) * ((i : Int) - 0)) (b := (N : Int) - 0) (by omega)
            simp only [Int.sub_zero] at u l ⊢
            rw [Int.add_mul, Int.mul_comm (rnd _ _)]
            omega
      refine ⟨_, _, _, _, hbd, fun e => ?_, fun e => ?_, Lib.hid rfl, Lib.hid rfl, Lib.hid rfl, by omega, by omega, by omega, Lib.hid (fun W => b10Abs_any _ (by omega) (by omega) W), babs_bd hnear⟩
      · subst e; unfold lineR; rw [if_pos (by simp)]
      · subst e; unfold lineR; rw [if_neg (by omega), if_neg (by omega), if_pos (by omega)]
end Go.Proofs.Ytcdpkbcpglaiaaa
