/-
  ScrapeRow of the model.
-/
import Derived.Test.YtndnliaahdmbmaaSrw
namespace Go.Proofs.Ytndnliaahdmbmaa
open Go.ChangeShapes Go.WideShapes Go.ChangeAt Go.RowKit Go.Deep
set_option linter.unusedVariables false
set_option linter.unusedSimpArgs false
set_option maxRecDepth 1000000
set_option maxHeartbeats 6400000 in
theorem specScrapeRow_any (v : Value) (G : List (List Int)) (r b l : Int) (w : World) (hn : G.length + totL G ≤ 1048576) (hv : GridAt w v G) : Calls Try.prog 35 #[v, .int .i64 r, .int .i64 b, .int .i64 l] w (GridRet (srV G r b l) (cod8 (okP G) (srB G r b l)) w) := by
  have cV := Lib.hid (l08Ok_any v G w hn hv)
  have cW := Lib.hid (fun W => l08By_any b l W)
  have hV0 : srV G r b l = if okP G && srB G r b l then srG r b l G.length (colsG G) (hG G) else [] := rfl
  have hS0 : srB G r b l = (byB b l && inB r 0 ((G.length : Int) - 1)) := rfl
  have hw1 : IntKind.i64.wrap ((G.length : Int) - 1) = (G.length : Int) - 1 := IntWalk.i64_in _ (by omega)
  have cI := Lib.hid (fun W => l00In_any r 0 ((G.length : Int) - 1) W)
  cases hok : okP G
  · have e1 : Hid (srV G r b l = []) := Lib.hid (by rw [hV0, hok]; rfl)
    rw [hok] at cV
    obtain ⟨a, cap, rfl, _⟩ := hv
    clear hV0 hok hS0
    obtain ⟨q, hq⟩ : ∃ q, q = srB G r b l := ⟨_, rfl⟩
    rw [← hq]
    clear hq
    rw [show cod8 false q = 1 from rfl]
    go_enter Try.func35, Try.ntmps35
    go_wp2_with (go_at_call 48; refine cV.out.mono ?_; rintro e w2 ⟨rfl, hd⟩)
    go_ret2
    exact gridRet_nil e1.out rfl hd.below
  cases hin : inB r 0 ((G.length : Int) - 1) <;> rw [hin] at cI hS0
  · rw [Bool.and_false] at hS0
    have e1 : Hid (srV G r b l = []) := Lib.hid (by rw [hV0, hok, hS0]; rfl)
    rw [hok] at cV
    rw [hS0]
    obtain ⟨a, cap, rfl, _⟩ := hv
    clear hV0 hok hS0 hin
    rw [show cod8 true false = 2 from rfl]
    go_enter Try.func35, Try.ntmps35
    go_wp2_with (first | (go_at_call 48; refine cV.out.mono ?_; rintro e w2 ⟨rfl, hd⟩) | (go_at_call 63; refine (cI.out _).mono ?_; rintro e w' ⟨rfl, rfl⟩) | (go_at_call 59; refine (cW.out _).mono ?_; rintro e w' ⟨rfl, rfl⟩))
    go_ret2
    exact gridRet_nil e1.out rfl hd.below
  rw [Bool.and_true] at hS0
  cases hwd : byB b l <;> rw [hwd] at cW hS0
  · have e1 : Hid (srV G r b l = []) := Lib.hid (by rw [hV0, hok, hS0]; rfl)
    rw [hok] at cV
    rw [hS0]
    obtain ⟨a, cap, rfl, _⟩ := hv
    clear hV0 hok hS0 hin hwd
    rw [show cod8 true false = 2 from rfl]
    go_enter Try.func35, Try.ntmps35
    go_wp2_with (first | (go_at_call 48; refine cV.out.mono ?_; rintro e w2 ⟨rfl, hd⟩) | (go_at_call 63; refine (cI.out _).mono ?_; rintro e w' ⟨rfl, rfl⟩) | (go_at_call 59; refine (cW.out _).mono ?_; rintro e w' ⟨rfl, rfl⟩))
    go_ret2
    exact gridRet_nil e1.out rfl hd.below
  have e1 : Hid (srV G r b l = srG r b l G.length (colsG G) (hG G)) := Lib.hid (by rw [hV0, hok, hS0]; rfl)
  obtain ⟨g, o, cap, rg, ro, rc, rfl, hGR⟩ := grid_GR hv (okP_okG hok)
  obtain ⟨hb, hl⟩ := byB_bd hwd
  rw [inB_iff] at hin
  obtain ⟨k, hkr⟩ : ∃ k : Nat, r = k := ⟨r.toNat, by omega⟩
  subst hkr
  rw [hok] at cV
  rw [hS0]
  obtain ⟨h, hh⟩ : ∃ h, h = hG G := ⟨_, rfl⟩
  obtain ⟨R, hR⟩ : ∃ R, R = G.length := ⟨_, rfl⟩
  obtain ⟨C, hC⟩ : ∃ C, C = colsG G := ⟨_, rfl⟩
  rw [← hR, ← hC, ← hh] at e1 hGR
  rw [← hR] at cV cI hw1 hin ⊢
  have hx := Lib.hid hGR
  have r2 := hGR.R10
  have c2 := hGR.C10
  have hlt : k < R := by omega
  have hkI : (k : Int) < (R : Int) := by omega
  obtain ⟨MM, hM⟩ : ∃ M, M = srG k b l R C h := ⟨_, rfl⟩
  rw [← hM] at e1
  have hMM := Lib.hid (show MM = gridF R C (behF b l (rowB k) h) from hM)
  have cO := Lib.hid (fun W (hb : DrewOf w W) => l08Own_any g o cap R C rg ro rc h W (hGR.drew8 hb))
  clear hV0 hok hS0 hin hwd hn hv hGR hh hR hC hM
  rw [show cod8 true true = 0 from rfl]
  go_enter Try.func35, Try.ntmps35
  go_wp2_with (first | (go_at_call 48; refine cV.out.mono ?_; rintro e w2 ⟨rfl, hd⟩) | (go_at_call 63; refine (cI.out _).mono ?_; rintro e w' ⟨rfl, rfl⟩) | (go_at_call 59; refine (cW.out _).mono ?_; rintro e w' ⟨rfl, rfl⟩) | (go_at_call 68; refine (cO.out _ hd).mono ?_; rintro e w4 ⟨v4, vs, rfl, O4, b4⟩))
  obtain ⟨a4, cap4, rfl⟩ := own_shape O4.top
  rw [gridF_len]
  rw [gridF_len] at O4
  have hB4 := Lib.hid (below2 hd.below b4)
  have hLW : Hid (w.heap.size ≤ w2.heap.size) := Lib.hid hd.below.size
  obtain ⟨LO, hLO⟩ : ∃ n, n = w2.heap.size := ⟨_, rfl⟩
  obtain ⟨HI, hHI⟩ : ∃ n, n = w4.heap.size := ⟨_, rfl⟩
  rw [← hLO, ← hHI] at O4
  rw [← hLO] at hLW
  have hO4 := Lib.hid O4
  have hst : Hid (∀ a c, h a c = if a = k ∧ c < 0 then tnV b l (h a c) else h a c) := Lib.hid (fun a c => by simp)
  clear cV cW b4 O4 hLO hHI hd
  go_wp2
  go_loopw [11] (fun i wr => ∃ (m : Nat) (φ : Nat → Nat → Int), m ≤ C ∧ i = .int .i64 m ∧ Hid (∀ a c, φ a c = if a = k ∧ c < m then tnV b l (h a c) else h a c) ∧ Hid (OwnG LO HI wr (.slice a4 R cap4) (gridF R C φ) vs) ∧ Hid (Below w.heap.size w wr)) (fun i _ => C - (intOf i).toNat)
  case atStart => exact ⟨0, h, by omega, rfl, hst, hO4, hB4⟩
  case round =>
    obtain ⟨m, φ, hm, rfl, hφ, hO, hB⟩ := hrel
    have hkG0 : k < (gridF R C φ).length := by rw [gridF_len]; exact hlt
    have h0G : 0 < ((gridF R C φ)[k]).length := by rw [gridF_row, List.length_map, List.length_range]; exact hx.out.C1
    obtain ⟨gt, capt, gr, nr, capr, hv4, hnr, _, _, hp0⟩ := hO.out.place (z := (0 : Int)) hkG0 h0G (by unfold inI; omega)
    rw [gridF_row] at hnr
    have hnr' : C = nr := by rw [hnr]; simp
    have ha4 : a4 = some ⟨gt, 0, none⟩ := by injection hv4
    have hcell := (hp0 wr (Below.refl _ _)).1
    subst hnr' ha4
    clear hp0 hnr h0G hkG0 hv4
    by_cases hlm : m < C
    · have hmI : (m : Int) < (C : Int) := by omega
      have hφk : φ k m = h k m := by rw [hφ.out k m, if_neg (by omega)]
      have hkG : k < (gridF R C φ).length := by rw [gridF_len]; exact hlt
      have hmG : m < ((gridF R C φ)[k]).length := by rw [gridF_row]; simpa using hlm
      have hyv : ((gridF R C φ)[k])[m] = φ k m := by simp only [gridF_row]; simp
      have z0 := hx.out.h0 k m hlt hlm
      have z1 := hx.out.h1 k m hlt hlm
      have hYb := tnV_bd hb hl z0 z1
      have cT0 := fun W => l08Thin_any b l (h k m) hb hl z0 z1 W
      obtain ⟨Y, hY⟩ : ∃ Y, Y = tnV b l (h k m) := ⟨_, rfl⟩
      rw [← hY] at cT0 hYb
      have cT := Lib.hid cT0
      have hY' := Lib.hid hY
      obtain ⟨gt9, capt9, g9, n9, cap9, hv4, hn9, hlo, hhi, hpl0⟩ := hO.out.place (z := Y) hkG hmG (by unfold inI; omega)
      clear hn9
      injection hv4 with hv4 el ec
      clear el ec
      injection hv4 with hv4
      injection hv4 with hv4 eo es
      clear eo es
      subst hv4
      have hcc := hcell.symm.trans (hpl0 wr (Below.refl _ _)).1
      injection hcc with hcc
      injection hcc with ec1 ec2 ec3
      injection ec1 with ec1
      injection ec1 with ec1 eo es
      clear eo es
      subst ec1 ec2 ec3
      rw [gridF_set hkG, hyv, hφk] at hpl0
      have hpl1 := hpl0
      simp only [encI] at hpl1
      obtain ⟨zz, hzz⟩ : ∃ zz, zz = h k m := ⟨_, rfl⟩
      rw [← hzz] at hpl1 cT0
      have cT := Lib.hid cT0
      have hpl := Lib.hid hpl1
      have hlo' := Lib.hid hlo
      have hφ' : Hid (∀ a c, (if a = k ∧ c = m then Y else φ a c) = if a = k ∧ c < m + 1 then tnV b l (h a c) else h a c) := Lib.hid (fun a c => by
        by_cases e : a = k ∧ c = m
        · obtain ⟨rfl, rfl⟩ := e
          rw [if_pos ⟨rfl, rfl⟩, if_pos (by omega), hY'.out]
        · rw [if_neg e, hφ.out a c]
          by_cases e2 : a = k ∧ c < m
          · rw [if_pos e2, if_pos (by omega)]
          · rw [if_neg e2, if_neg (by omega)])
      clear hkG hmG hyv z0 z1 hYb cT0 hY hY' hlo hhi hpl0 hpl1 hφ hφk hzz hO
      go_wp2_with fail
      refine wp_calm 16 (fun w' => Below wr.heap.size wr w') (by kernel_rfl) (by kernel_rfl) (by kernel_rfl) (by kernel_rfl) (belowN (Below.refl _ _) 1) ?_
      simp only [List.take_succ_cons, List.take_zero, List.drop_succ_cons, List.drop_zero]
      refine calm_take (v := ?vy27) (by rfl) ?ey27 ?ry27
      case ey27 => (intro w' hw'; have c0 := (hpl.out w' hw').1; have c1 := (hpl.out w' hw').2.1; go_simp; try with_reducible rfl)
      try simp only [Act.put, List.setIfInBounds_toArray, List.set_cons_zero, List.set_cons_succ]
      refine calm_take (v := ?vy28) (by rfl) ?ey28 ?ry28
      case ey28 => (intro w' hw'; have c0 := (hpl.out w' hw').1; have c1 := (hpl.out w' hw').2.1; go_simp; try with_reducible rfl)
      try simp only [Act.put, List.setIfInBounds_toArray, List.set_cons_zero, List.set_cons_succ]
      refine calm_take (v := ?vy29) (by rfl) ?ey29 ?ry29
      case ey29 => (intro w' hw'; have c0 := (hpl.out w' hw').1; have c1 := (hpl.out w' hw').2.1; go_simp; try with_reducible rfl)
      try simp only [Act.put, List.setIfInBounds_toArray, List.set_cons_zero, List.set_cons_succ]
      refine calm_take (v := ?vy30) (by rfl) ?ey30 ?ry30
      case ey30 => (intro w' hw'; have c0 := (hpl.out w' hw').1; have c1 := (hpl.out w' hw').2.1; go_simp; try with_reducible rfl)
      try simp only [Act.put, List.setIfInBounds_toArray, List.set_cons_zero, List.set_cons_succ]
      refine calm_take (v := ?vy31) (by rfl) ?ey31 ?ry31
      case ey31 => (intro w' hw'; have c0 := (hpl.out w' hw').1; have c1 := (hpl.out w' hw').2.1; go_simp; try with_reducible rfl)
      try simp only [Act.put, List.setIfInBounds_toArray, List.set_cons_zero, List.set_cons_succ]
      refine calm_take (v := ?vy32) (by rfl) ?ey32 ?ry32
      case ey32 => (intro w' hw'; have c0 := (hpl.out w' hw').1; have c1 := (hpl.out w' hw').2.1; go_simp; try with_reducible rfl)
      try simp only [Act.put, List.setIfInBounds_toArray, List.set_cons_zero, List.set_cons_succ]
      refine calm_take (v := ?vy33) (by rfl) ?ey33 ?ry33
      case ey33 => (intro w' hw'; have c0 := (hpl.out w' hw').1; have c1 := (hpl.out w' hw').2.1; go_simp; try with_reducible rfl)
      try simp only [Act.put, List.setIfInBounds_toArray, List.set_cons_zero, List.set_cons_succ]
      refine calm_take (v := ?vy34) (by rfl) ?ey34 ?ry34
      case ey34 => (intro w' hw'; have c0 := (hpl.out w' hw').1; have c1 := (hpl.out w' hw').2.1; go_simp; try with_reducible rfl)
      try simp only [Act.put, List.setIfInBounds_toArray, List.set_cons_zero, List.set_cons_succ]
      refine calm_take (v := ?vy35) (by rfl) ?ey35 ?ry35
      case ey35 => (intro w' hw'; have c0 := (hpl.out w' hw').1; have c1 := (hpl.out w' hw').2.1; go_simp; try with_reducible rfl)
      try simp only [Act.put, List.setIfInBounds_toArray, List.set_cons_zero, List.set_cons_succ]
      refine calm_take (v := ?vy36) (by rfl) ?ey36 ?ry36
      case ey36 => (intro w' hw'; have c0 := (hpl.out w' hw').1; have c1 := (hpl.out w' hw').2.1; go_simp; try with_reducible rfl)
      try simp only [Act.put, List.setIfInBounds_toArray, List.set_cons_zero, List.set_cons_succ]
      refine calm_take (v := ?vy37) (by rfl) ?ey37 ?ry37
      case ey37 => (intro w' hw'; have c0 := (hpl.out w' hw').1; have c1 := (hpl.out w' hw').2.1; go_simp; try with_reducible rfl)
      try simp only [Act.put, List.setIfInBounds_toArray, List.set_cons_zero, List.set_cons_succ]
      refine calm_take (v := ?vy38) (by rfl) ?ey38 ?ry38
      case ey38 => (intro w' hw'; have c0 := (hpl.out w' hw').1; have c1 := (hpl.out w' hw').2.1; go_simp; try with_reducible rfl)
      try simp only [Act.put, List.setIfInBounds_toArray, List.set_cons_zero, List.set_cons_succ]
      refine calm_take (v := ?vy39) (by rfl) ?ey39 ?ry39
      case ey39 => (intro w' hw'; have c0 := (hpl.out w' hw').1; have c1 := (hpl.out w' hw').2.1; go_simp; try with_reducible rfl)
      try simp only [Act.put, List.setIfInBounds_toArray, List.set_cons_zero, List.set_cons_succ]
      refine calm_take (v := ?vy40) (by rfl) ?ey40 ?ry40
      case ey40 => (intro w' hw'; have c0 := (hpl.out w' hw').1; have c1 := (hpl.out w' hw').2.1; go_simp; try with_reducible rfl)
      try simp only [Act.put, List.setIfInBounds_toArray, List.set_cons_zero, List.set_cons_succ]
      refine calm_call (v := .int .i64 Y) (f := ?fy41) (args := ?ay41) (by rfl) ?ey41 ?cy41 ?ry41
      case ey41 => (intro w' hw'; have c0 := (hpl.out w' hw').1; have c1 := (hpl.out w' hw').2.1; go_simp; first | (with_reducible rfl) | (refine ⟨?_, ?_⟩ <;> with_reducible rfl))
      case cy41 => (intro w' hw'; with_reducible exact calm_same hw' (cT.out w'))
      try simp only [Act.put, List.setIfInBounds_toArray, List.set_cons_zero, List.set_cons_succ]
      refine calm_take (v := ?vy42) (by rfl) ?ey42 ?ry42
      case ey42 => (intro w' hw'; have c0 := (hpl.out w' hw').1; have c1 := (hpl.out w' hw').2.1; go_simp; try with_reducible rfl)
      try simp only [Act.put, List.setIfInBounds_toArray, List.set_cons_zero, List.set_cons_succ]
      refine wpQuiet_nil (fun w' hw' => ?_)
      obtain ⟨q1, q2, q3, q4, q5⟩ := hpl.out w' hw'
      have B9 := Lib.hid ((below2 hB.out hw').grown q5.out (by have := hB.out.size; have := hw'.size; omega) (fun j hj => by injection hj with hj; have := hlo'.out; have := hLW.out; omega))
      clear hpl
      go_wp2
      go_roundw
      case rel => exact ⟨m + 1, _, by omega, by go_num, hφ', q4, B9⟩
      case measure => simp [intOf]; omega
    · have hmC : m = C := by omega
      have hfin : Hid (gridF R C φ = MM) := Lib.hid (by
        rw [hMM.out]
        refine gridF_congr (fun a c ha hc => ?_)
        rw [hφ.out a c]
        unfold behF rowB
        by_cases e : a = k
        · rw [if_pos ⟨e, by omega⟩, if_pos (by simp [e])]
        · rw [if_neg (fun q => e q.1), if_neg (by simp; omega)])
      rw [hfin.out] at hO
      clear hmC hφ hfin
      go_wp2
      go_ret2
      exact gridRet_mk e1.out rfl hO.out hLW.out hB.out
end Go.Proofs.Ytndnliaahdmbmaa
