/-
  Smooth heights: the model's answer.
-/
import Derived.Test.YtcclahemmfjmgaaOwn78
namespace Go.Proofs.Ytcclahemmfjmgaa
open Go.ChangeShapes Go.WideShapes Go.ChangeAt Go.RowKit Go.Deep
set_option linter.unusedVariables false
set_option linter.unusedSimpArgs false
theorem aro_in {R C : Nat} {h : Nat → Nat → Int} (h0 : ∀ i k, i < R → k < C → 0 ≤ h i k) (h1 : ∀ i k, i < R → k < C → h i k ≤ 1000) {i k : Nat} (hi : i < R) (hk : k < C) : ∀ z ∈ aroL R C h i k, 0 ≤ z ∧ z ≤ 1000 := by
  intro z hz
  obtain ⟨q, hq, rfl⟩ := (aro_mem z).1 hz
  obtain ⟨a, b⟩ := nb_in hi hk q hq
  exact ⟨h0 _ _ a b, h1 _ _ a b⟩
set_option maxRecDepth 100000 in
set_option maxHeartbeats 12800000 in
theorem specSmoothArch_any (v : Value) (G : List (List Int)) (w : World) (hn : G.length + totL G ≤ 1048576) (hv : GridAt w v G) : Calls Try.prog 33 #[v] w (GridRet (smV G) (code (okG G) 1) w) := by
  have cV := Lib.hid (l07Ok_any v G w hn hv)
  cases hok : okG G
  · have e1 := Lib.hid (show smV G = [] by unfold smV; rw [hok]; rfl)
    rw [hok] at cV
    obtain ⟨a, cap, rfl, _⟩ := hv
    clear hok hn
    go_enter Try.func33, Try.ntmps33
    go_wp2_with (go_at_call 42; refine cV.out.mono ?_; rintro e w2 ⟨rfl, hd⟩)
    go_ret2
    exact gridRet_nil e1.out rfl hd.below
  have e1 := Lib.hid (show smV G = gridF G.length (colsG G) (smF G.length (colsG G) (hG G)) by unfold smV; rw [hok]; rfl)
  have e2 : Hid (code true 1 = 0) := Lib.hid rfl
  obtain ⟨g, o, cap, rg, ro, rc, rfl, hGR⟩ := grid_GR hv hok
  rw [hok] at cV
  obtain ⟨PV, hPV⟩ : ∃ x, x = smV G := ⟨_, rfl⟩
  rw [← hPV] at e1 ⊢
  obtain ⟨R, hR⟩ : ∃ R, R = G.length := ⟨_, rfl⟩
  obtain ⟨C, hC⟩ : ∃ C, C = colsG G := ⟨_, rfl⟩
  obtain ⟨h, hh⟩ : ∃ h, h = hG G := ⟨_, rfl⟩
  rw [← hR] at cV
  rw [← hR, ← hC, ← hh] at hGR e1
  rw [← hR]
  have hx := Lib.hid hGR
  have r2 := hGR.R10
  have c2 := hGR.C10
  have hsi := Lib.hid (smF_in hGR.h0 hGR.h1)
  clear hok hn hv hGR hPV hR hC hh
  go_enter Try.func33, Try.ntmps33
  go_wp2_with fail
  refine cV.out.mono ?_
  rintro e w3 ⟨rfl, hd⟩
  have cO := Lib.hid (l07Own_any g o cap R C rg ro rc h w3 (hx.out.drew hd))
  go_wp2_with fail
  refine cO.out.mono ?_
  rintro e w4 ⟨v4, vs, rfl, O4, b4⟩
  obtain ⟨a4, cap4, rfl⟩ := own_shape O4.top
  rw [gridF_len]
  rw [gridF_len] at O4
  have hB4 := Lib.hid (hd.below.trans (b4.mono hd.below.size))
  have hLw : w.heap.size ≤ w3.heap.size := hd.below.size
  obtain ⟨LO, hLO⟩ : ∃ n, n = w3.heap.size := ⟨_, rfl⟩
  obtain ⟨HI, hHI⟩ : ∃ n, n = w4.heap.size := ⟨_, rfl⟩
  rw [← hLO, ← hHI] at O4
  rw [← hLO] at hLw
  have hO4 := Lib.hid O4
  have hst : Hid (∀ a b, h a b = if (a, b) ∈ plTo C 0 0 then smF R C h a b else h a b) := Lib.hid (fun a b => by rw [show plTo C 0 0 = [] from rfl]; simp)
  clear cV cO hd b4 O4 hLO hHI
  go_wp2
  go_loopw [5] (fun i wr => ∃ (k : Nat) (φ : Nat → Nat → Int), k ≤ R ∧ i = .int .i64 k ∧ Hid (∀ a b, φ a b = if (a, b) ∈ plTo C k 0 then smF R C h a b else h a b) ∧ Hid (OwnG LO HI wr (.slice a4 R cap4) (gridF R C φ) vs) ∧ Hid (Below w.heap.size w wr)) (fun i _ => R - (intOf i).toNat)
  case atStart => exact ⟨0, h, by omega, rfl, hst, hO4, hB4⟩
  case round =>
    obtain ⟨k, φ, hk, rfl, hφ, hO, hB⟩ := hrel
    by_cases hlt : k < R
    · have hkI : (k : Int) < (R : Int) := by omega
      go_wp2
      go_loopw [6] (fun i wr => ∃ (m : Nat) (φ : Nat → Nat → Int), m ≤ C ∧ i = .int .i64 m ∧ Hid (∀ a b, φ a b = if (a, b) ∈ plTo C k m then smF R C h a b else h a b) ∧ Hid (OwnG LO HI wr (.slice a4 R cap4) (gridF R C φ) vs) ∧ Hid (Below w.heap.size w wr)) (fun i _ => C - (intOf i).toNat)
      case atStart => exact ⟨0, φ, by omega, rfl, hφ, hO, hB⟩
      case round =>
        obtain ⟨m, φ, hm, rfl, hφ, hO, hB⟩ := hrel
        have hz := Lib.hid (hx.out.below hB.out)
        have t1 := hz.out.top k hlt
        by_cases hlm : m < C
        · have hmI : (m : Int) < (C : Int) := by omega
          have hnext := Lib.hid (plTo_next (C := C) k m)
          have cE0 := l07Edge_any g o cap R C rg ro rc h wr hz.out k m hlt hlm
          have hsm : Hid (smF R C h k m = if edgeB R C k m then h k m else rnd (4 * h k m + smS h (nbL R C k m)) 8) := Lib.hid rfl
          cases hE : edgeB R C k m
          rotate_left
          · rw [hE] at cE0 hsm
            have cE := Lib.hid cE0
            have hφ' : Hid (∀ a b, φ a b = if (a, b) ∈ plTo C k (m + 1) then smF R C h a b else h a b) := Lib.hid (fun a b => by
              rw [hnext.out, hφ.out a b]
              by_cases e : (a, b) = (k, m)
              · injection e with ea eb
                subst ea eb
                have : smF R C h a b = h a b := hsm.out
                rw [this]; simp
              · simp [e])
            clear hE cE0 hφ
            go_wp2_with fail
            refine cE.out.mono ?_
            rintro e w5 ⟨rfl, d5⟩
            have O5 := Lib.hid (hO.out.kept d5.below)
            have B5 := Lib.hid (below2 hB.out d5.below)
            clear d5 t1
            go_wp2
            go_roundw
            case rel => exact ⟨m + 1, φ, by omega, by go_num, hφ', O5, B5⟩
            case measure => simp [intOf]; omega
          · rw [hE] at cE0 hsm
            have cE := Lib.hid cE0
            clear hE cE0
            go_wp2_with fail
            refine cE.out.mono ?_
            rintro e w5 ⟨rfl, d5⟩
            have B5 := Lib.hid (below2 hB.out d5.below)
            have O5 := Lib.hid (hO.out.kept d5.below)
            have cA := Lib.hid (l07Around_any g o cap R C rg ro rc h w5 (hx.out.below B5.out) k m hlt hlm)
            clear t1 d5 hO hB cE
            go_wp2_with fail
            refine cA.out.mono ?_
            rintro e w7 ⟨qa, QN, qc, rfl, own7, hQN, b7⟩
            have hain := Lib.hid (aro_in hz.out.h0 hz.out.h1 hlt hlm)
            have hsum := Lib.hid (smS_aro R C h k m)
            obtain ⟨AL, hAL⟩ : ∃ A, A = aroL R C h k m := ⟨_, rfl⟩
            have hal : AL.length ≤ 4 := by rw [hAL]; exact aroT_len R C h k m 4
            rw [← hAL] at own7 hQN hain hsum
            subst hQN
            have hI7 := Lib.hid (ints_own own7 (fun n hn => by have := hain.out n hn; exact ⟨by omega, by omega⟩))
            have O7 := Lib.hid (O5.out.kept b7)
            have B7 := Lib.hid (below2 B5.out b7)
            have hz7 := Lib.hid (hx.out.below B7.out)
            have t1 := hz7.out.top k hlt
            have t2 := hz7.out.cel k hlt m hlm
            have za := hz7.out.h0 k m hlt hlm
            have zb := hz7.out.h1 k m hlt hlm
            obtain ⟨z, hzz⟩ : ∃ z, z = h k m := ⟨_, rfl⟩
            rw [← hzz] at t2 za zb
            have hzz' := Lib.hid hzz
            have hwm : IntKind.i64.wrap (4 * z) = 4 * z := IntWalk.i64_in _ (by omega)
            clear own7 b7 hAL cA O5 B5 hzz
            go_wp2
            clear t1 t2
            go_loopw [8, 9] (fun s j wr => ∃ (t : Nat) (sm : Int), t ≤ AL.length ∧ j = .int .i64 t ∧ s = .int .i64 sm ∧ Hid (sm = 4 * z + sumL (AL.take t)) ∧ 0 ≤ sm ∧ sm ≤ 4000 + 1000 * t ∧ Hid (Below w7.heap.size w7 wr)) (fun _ j _ => AL.length - (intOf j).toNat)
            case atStart => exact ⟨0, _, by omega, rfl, rfl, Lib.hid (by simp [sumL]), by omega, by omega, Lib.hid (Below.refl _ _)⟩
            case round =>
              obtain ⟨t, sm, ht, rfl, rfl, hs, hs0, hs1, hbel⟩ := hrel
              by_cases htl : t < AL.length
              · have htI : (t : Int) < (AL.length : Int) := by omega
                obtain ⟨a', cap', hve, _, _, hcel⟩ := hI7.out.below hbel.out
                rcases hcel with hcel | ⟨g9, o9, hae, hg9, hc⟩
                · rw [hcel] at htl; simp at htl
                have q1 := hc t htl
                have hqe : qa = some ⟨g9, o9, none⟩ := by injection hve with h1 _ _; rw [h1]; exact hae
                subst hqe
                have hyb := hain.out _ (List.getElem_mem htl)
                have htk : Hid (4 * z + sumL (AL.take (t + 1)) = sm + AL[t]) := Lib.hid (by
                  rw [List.take_succ_eq_append_getElem htl, sumL_app, hs.out]; omega)
                obtain ⟨y, hy⟩ : ∃ y, y = AL[t] := ⟨_, rfl⟩
                rw [← hy] at q1 htk hyb
                have hwa : IntKind.i64.wrap (sm + y) = sm + y := IntWalk.i64_in _ (by omega)
                have hy0 := hyb.1
                have hy1 := hyb.2
                clear hve hae hc hy hs hyb
                go_wp2
                go_roundw
                case rel => exact ⟨t + 1, sm + y, by omega, by go_num, rfl, Lib.hid htk.out.symm, by omega, by omega, hbel⟩
                case measure => simp [intOf]; omega
              · have htL : t = AL.length := by omega
                obtain ⟨Z, hZ⟩ : ∃ Z, Z = rnd sm 8 := ⟨_, rfl⟩
                have hZs : Hid (smF R C h k m = Z) := Lib.hid (by
                  rw [hsm.out, hZ, hs.out, htL, List.take_length, hsum.out, hzz'.out]; rfl)
                have hZi : inI Z := by rw [← hZs.out]; exact hsi.out k m hlt hlm
                have cD0 := fun W => l01Div_any sm 8 (by omega) (by omega) (by omega) (by omega) (by omega) W
                rw [← hZ] at cD0
                have cD := Lib.hid cD0
                have Bw := Lib.hid (below2 B7.out hbel.out)
                have Ow := Lib.hid (O7.out.kept hbel.out)
                have hkG : k < (gridF R C φ).length := by rw [gridF_len]; exact hlt
                have hmG : m < ((gridF R C φ)[k]).length := by rw [gridF_row]; simpa using hlm
                obtain ⟨gt, capt, g9, n9, cap9, hv4, hn9, hlo, hhi, hpl0⟩ := Ow.out.place (z := Z) hkG hmG hZi
                rw [gridF_row] at hn9
                have hn9' : n9 = C := by rw [hn9]; simp
                have ha4 : a4 = some ⟨gt, 0, none⟩ := by injection hv4
                rw [gridF_set hkG] at hpl0
                generalize encI ((gridF R C φ)[k])[m] = yv at hpl0
                have hpl := Lib.hid hpl0
                have hφ' : Hid (∀ a b, (if a = k ∧ b = m then Z else φ a b) = if (a, b) ∈ plTo C k (m + 1) then smF R C h a b else h a b) := Lib.hid (fun a b => by
                  rw [hnext.out]
                  by_cases e : a = k ∧ b = m
                  · obtain ⟨rfl, rfl⟩ := e
                    simp [hZs.out]
                  · rw [if_neg e, hφ.out a b]
                    have : ((a, b) ∈ plTo C k m ++ [(k, m)]) ↔ (a, b) ∈ plTo C k m := by
                      rw [List.mem_append, List.mem_singleton]
                      constructor
                      · rintro (x | x)
                        · exact x
                        · injection x with xa xb; exact absurd ⟨xa, xb⟩ e
                      · exact Or.inl
                    simp only [this])
                subst hn9' ha4
                have hlo' := Lib.hid hlo
                clear htL hZ hs hZs hZi cD0 hkG hmG hv4 hn9 hlo hhi hpl0 hφ hnext hsm hsum hain hzz' hI7 O7 B7 hbel Ow hz7
                go_wp2_with fail
                refine wp_calm 8 (fun w' => Below wr.heap.size wr w') (by kernel_rfl) (by kernel_rfl) (by kernel_rfl) (by kernel_rfl) (belowN (Below.refl _ _) 1) ?_
                simp only [List.take_succ_cons, List.take_zero, List.drop_succ_cons, List.drop_zero]
                refine calm_take (v := ?vy33) (by rfl) ?ey33 ?ry33
                case ey33 => (intro w' hw'; have c0 := (hpl.out w' hw').1; go_simp; try with_reducible rfl)
                try simp only [Act.put, List.setIfInBounds_toArray, List.set_cons_zero, List.set_cons_succ]
                refine calm_take (v := ?vy34) (by rfl) ?ey34 ?ry34
                case ey34 => (intro w' hw'; have c0 := (hpl.out w' hw').1; go_simp; try with_reducible rfl)
                try simp only [Act.put, List.setIfInBounds_toArray, List.set_cons_zero, List.set_cons_succ]
                refine calm_take (v := ?vy35) (by rfl) ?ey35 ?ry35
                case ey35 => (intro w' hw'; have c0 := (hpl.out w' hw').1; go_simp; try with_reducible rfl)
                try simp only [Act.put, List.setIfInBounds_toArray, List.set_cons_zero, List.set_cons_succ]
                refine calm_take (v := ?vy36) (by rfl) ?ey36 ?ry36
                case ey36 => (intro w' hw'; have c0 := (hpl.out w' hw').1; go_simp; try with_reducible rfl)
                try simp only [Act.put, List.setIfInBounds_toArray, List.set_cons_zero, List.set_cons_succ]
                refine calm_take (v := ?vy37) (by rfl) ?ey37 ?ry37
                case ey37 => (intro w' hw'; have c0 := (hpl.out w' hw').1; go_simp; try with_reducible rfl)
                try simp only [Act.put, List.setIfInBounds_toArray, List.set_cons_zero, List.set_cons_succ]
                refine calm_take (v := ?vy38) (by rfl) ?ey38 ?ry38
                case ey38 => (intro w' hw'; have c0 := (hpl.out w' hw').1; go_simp; try with_reducible rfl)
                try simp only [Act.put, List.setIfInBounds_toArray, List.set_cons_zero, List.set_cons_succ]
                refine calm_call (v := .int .i64 Z) (f := ?fy39) (args := ?ay39) (by rfl) ?ey39 ?cy39 ?ry39
                case ey39 => (intro w' hw'; have c0 := (hpl.out w' hw').1; go_simp; first | (with_reducible rfl) | (refine ⟨?_, ?_⟩ <;> with_reducible rfl))
                case cy39 => (intro w' hw'; with_reducible exact calm_same hw' (cD.out w'))
                try simp only [Act.put, List.setIfInBounds_toArray, List.set_cons_zero, List.set_cons_succ]
                refine calm_take (v := ?vy40) (by rfl) ?ey40 ?ry40
                case ey40 => (intro w' hw'; have c0 := (hpl.out w' hw').1; go_simp; try with_reducible rfl)
                try simp only [Act.put, List.setIfInBounds_toArray, List.set_cons_zero, List.set_cons_succ]
                refine wpQuiet_nil (fun w' hw' => ?_)
                obtain ⟨q1, q2, q3, q4, q5⟩ := hpl.out w' hw'
                have B9 := Lib.hid ((below2 Bw.out hw').grown q5.out (by have := Bw.out.size; have := hw'.size; omega) (fun j hj => by injection hj with hj; have := hlo'.out; omega))
                clear hpl
                go_wp2
                go_roundw
                case rel => exact ⟨m + 1, _, by omega, by go_num, hφ', q4, B9⟩
                case measure => simp [intOf]; omega
        · have hmC : m = C := by omega
          have hφ' : Hid (∀ a b, φ a b = if (a, b) ∈ plTo C (k + 1) 0 then smF R C h a b else h a b) := Lib.hid (by have := hφ.out; rw [hmC, plTo_row] at this; exact this)
          clear hmC hφ
          go_wp2
          go_roundw
          case rel => exact ⟨k + 1, φ, by omega, by go_num, hφ', hO, hB⟩
          case measure => simp [intOf]; omega
    · have hkR : k = R := by omega
      have hfin : Hid (gridF R C φ = gridF R C (smF R C h)) := Lib.hid (gridF_congr (fun a b ha hb => by
        rw [hφ.out a b, if_pos]
        rw [hkR]
        exact mem_plAll.2 ⟨ha, hb⟩))
      clear hkR hφ
      go_wp2
      go_ret2
      exact gridRet_mk (by rw [e1.out, ← hfin.out]) e2.out (hO.out.wide hO.out.hiW (Nat.le_refl _)) hLw hB.out
end Go.Proofs.Ytcclahemmfjmgaa
