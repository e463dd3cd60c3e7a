/-
  Scraped plates: ThinAll and ScrapeRow on both sides.
-/
import Derived.Test.YtmppaimcejcoiaaScr
namespace Go.Proofs.Ytmppaimcejcoiaa
open Go.ChangeShapes Go.WideShapes Go.ChangeAt Go.RowKit Go.Deep
set_option linter.unusedVariables false
set_option linter.unusedSimpArgs false
set_option maxRecDepth 1000000
theorem l08Thin_any (b l z : Int) (hb : 0 ≤ b ∧ b ≤ 200) (hl : 1 ≤ l ∧ l ≤ 200) (h0 : 0 ≤ z) (h1 : z ≤ 1000) (w : World) : Calls Try.prog 39 #[.int .i64 z, .int .i64 b, .int .i64 l] w fun e w' => e = .returned (.int .i64 (tnV b l z)) ∧ w = w' := by
  have ew : IntKind.i64.wrap (z - b) = z - b := IntWalk.i64_in _ (by omega)
  have hV : Hid (tnV b l z = if z ≤ l then z else if z - b < l then l else z - b) := Lib.hid rfl
  by_cases hc : z ≤ l
  · have hr : Hid (tnV b l z = z) := Lib.hid (by rw [hV.out, if_pos hc])
    go_enter Try.func39, Try.ntmps39
    go_wp2
    go_ret
    exact ⟨ret_int (by rw [hr.out]), rfl⟩
  · have hr : Hid (maxG l (z - b) = tnV b l z) := Lib.hid (by rw [hV.out, if_neg hc]; rfl)
    go_enter Try.func39, Try.ntmps39
    go_wp2_with (go_at_call 54; refine (l00MaxG _ _ _).mono ?_; rintro e w' ⟨rfl, rfl⟩)
    go_ret
    exact ⟨ret_int hr.out, rfl⟩
theorem l08By_any (b l : Int) (w : World) : Calls Try.prog 37 #[.int .i64 b, .int .i64 l] w fun e w' => e = .returned (.bool (byB b l)) ∧ w = w' := by
  have hx : Hid (byB b l = (inB b 0 200 && inB l 1 200)) := Lib.hid rfl
  cases h1 : inB b 0 200 <;> cases h2 : inB l 1 200
  all_goals
    go_enter Try.func37, Try.ntmps37
    go_wp2_with (first
      | (go_at_call 23; refine (l00In_any _ _ _ _).mono ?_; rintro e w' ⟨rfl, rfl⟩)
      | (go_at_call 24; refine (l08Thick_any _ _).mono ?_; rintro e w' ⟨rfl, rfl⟩))
    go_ret
    exact ⟨ret_bool (by rw [hx.out, h1, h2]; rfl), rfl⟩
theorem all1_any (i k : Nat) (w : World) : Calls Try.prog 52 #[encP (i, k)] w fun e w' => e = .returned (.bool true) ∧ Below w.heap.size w w' := by
  unfold encP
  dsimp only
  go_enter Try.func52, Try.ntmps52
  go_wp2
  go_ret
  exact ⟨rfl, (Below.refl _ _).alloc (Nat.le_refl _) _⟩
/-- a plate that is made thinner -/
def thnG (b l : Int) (R C : Nat) (h : Nat → Nat → Int) : List (List Int) := gridF R C (fun i k => tnV b l (h i k))
theorem thinAll_any (b l : Int) (hb : 0 ≤ b ∧ b ≤ 200) (hl : 1 ≤ l ∧ l ≤ 200) (g o cap R C : Nat) (rg ro rc : Nat → Nat) (h : Nat → Nat → Int) (w : World) (x : GR w g o cap R C rg ro rc h) : Calls Try.prog 35 #[.agg #[.int .i64 b, .int .i64 l], .slice (some ⟨g, o, none⟩) R cap] w (RowsG (thnG b l R C h) w) := by
  have hB : Below w.heap.size w (w.alloc (.cells #[.int .i64 b, .int .i64 l] 51)) := (Below.refl _ _).alloc (Nat.le_refl _) _
  have cP := Lib.hid (plateBehind_any b l hb hl 52 #[] (fun _ _ => true) (enters_of Try.func52 (by kernel_rfl) rfl) g o cap R C rg ro rc h _ (x.below hB) (fun W _ i k _ _ => all1_any i k W))
  rw [show gridF R C (behF b l (fun _ _ => true) h) = thnG b l R C h from rfl] at cP
  have hB' := Lib.hid hB
  clear x hB
  go_enter Try.func35, Try.ntmps35
  go_wp2_with (go_at_call 41; (with_reducible refine cP.out.mono ?_); rintro e w2 ⟨v, vs, rfl, O2, b2⟩)
  go_ret
  exact ⟨v, vs, rfl, O2.low hB'.out.size, below2 hB'.out b2⟩
def taV (G : List (List Int)) (b l : Int) : List (List Int) := if okP G && byB b l then thnG b l G.length (colsG G) (hG G) else []
theorem gridF_le {R C : Nat} (hR : R ≤ 10) (hC : C ≤ 10) (f : Nat → Nat → Int) : (gridF R C f).length + totL (gridF R C f) ≤ 1048576 := by
  rw [gridF_len, gridF_tot]
  have : R * C ≤ 10 * 10 := Nat.mul_le_mul hR hC
  omega
theorem taV_len (G : List (List Int)) (b l : Int) : (taV G b l).length + totL (taV G b l) ≤ 1048576 := by
  unfold taV
  split
  · rename_i hb
    obtain ⟨_, h2, _, h4, _⟩ := okG_rows (okP_okG (Bool.and_eq_true_iff.1 hb).1)
    exact gridF_le h2 h4 _
  · simp [totL]
set_option maxHeartbeats 3200000 in
theorem implThinAll_any (v : Value) (G : List (List Int)) (b l : Int) (w : World) (hn : G.length + totL G ≤ 1048576) (hv : GridAt w v G) : Calls Try.prog 17 #[v, .int .i64 b, .int .i64 l] w (GridRet (taV G b l) (cod8 (okP G) (byB b l)) w) := by
  have cC := Lib.hid (fun W (hb : Below w.heap.size w W) => codeOfPlate_any v G (byB b l) W hn (hv.below hb))
  have cW := Lib.hid (fun W => isScrape_any b l W)
  have hV0 : taV G b l = if okP G && byB b l then thnG b l G.length (colsG G) (hG G) else [] := rfl
  cases hok : okP G
  · have e1 : Hid (taV G b l = []) := Lib.hid (by rw [hV0, hok]; rfl)
    rw [hok] at cC
    obtain ⟨a, cap, rfl, _⟩ := hv
    clear hV0 hok
    obtain ⟨q, hq⟩ : ∃ q, q = byB b l := ⟨_, rfl⟩
    rw [← hq] at cC cW ⊢
    clear hq
    rw [show cod8 false q = 1 from rfl] at cC ⊢
    go_enter Try.func17, Try.ntmps17
    go_wp2_with fail
    obtain ⟨q1, hB0, hsz⟩ := one_boxP w #[.int .i64 b, .int .i64 l] 51
    generalize (w.alloc (.cells #[.int .i64 b, .int .i64 l] 51)) = W0 at q1 hB0 hsz ⊢
    have c0 := q1 0 _ rfl
    have c1 := q1 1 _ rfl
    clear q1
    refine (cW.out _).mono ?_
    rintro e w1 ⟨rfl, b1⟩
    have B1 := below2 hB0 b1
    replace c0 := (b1.cell (p := ⟨w.heap.size, 0, none⟩) hsz).trans c0
    replace c1 := (b1.cell (p := ⟨w.heap.size, 1, none⟩) hsz).trans c1
    have cC1 := Lib.hid (cC.out w1 B1)
    clear b1
    go_wp2_with fail
    refine cC1.out.mono ?_
    rintro e w2 ⟨rfl, hd2⟩
    replace c0 := (hd2.cell _).trans c0
    replace c1 := (hd2.cell _).trans c1
    have B2 := below2 B1 hd2.below
    clear hd2 B1 hB0
    go_wp2
    go_ret2
    exact gridRet_nil e1.out rfl B2

  cases hwd : byB b l
  · have e1 : Hid (taV G b l = []) := Lib.hid (by rw [hV0, hok, hwd]; rfl)
    rw [hok, hwd] at cC
    rw [hwd] at cW
    obtain ⟨a, cap, rfl, _⟩ := hv
    clear hV0 hok hwd
    rw [show cod8 true false = 2 from rfl] at cC ⊢
    go_enter Try.func17, Try.ntmps17
    go_wp2_with fail
    obtain ⟨q1, hB0, hsz⟩ := one_boxP w #[.int .i64 b, .int .i64 l] 51
    generalize (w.alloc (.cells #[.int .i64 b, .int .i64 l] 51)) = W0 at q1 hB0 hsz ⊢
    have c0 := q1 0 _ rfl
    have c1 := q1 1 _ rfl
    clear q1
    refine (cW.out _).mono ?_
    rintro e w1 ⟨rfl, b1⟩
    have B1 := below2 hB0 b1
    replace c0 := (b1.cell (p := ⟨w.heap.size, 0, none⟩) hsz).trans c0
    replace c1 := (b1.cell (p := ⟨w.heap.size, 1, none⟩) hsz).trans c1
    have cC1 := Lib.hid (cC.out w1 B1)
    clear b1
    go_wp2_with fail
    refine cC1.out.mono ?_
    rintro e w2 ⟨rfl, hd2⟩
    replace c0 := (hd2.cell _).trans c0
    replace c1 := (hd2.cell _).trans c1
    have B2 := below2 B1 hd2.below
    clear hd2 B1 hB0
    go_wp2
    go_ret2
    exact gridRet_nil e1.out rfl B2

  have e1 : Hid (taV G b l = thnG b l G.length (colsG G) (hG G)) := Lib.hid (by rw [hV0, hok, hwd]; rfl)
  obtain ⟨g, o, cap, rg, ro, rc, rfl, hGR⟩ := grid_GR hv (okP_okG hok)
  obtain ⟨hbb, hll⟩ := byB_bd hwd
  rw [hok, hwd] at cC
  rw [hwd] at cW
  have cM := Lib.hid (fun W (hb : Below w.heap.size w W) => thinAll_any b l hbb hll g o cap G.length (colsG G) rg ro rc (hG G) W (hGR.below hb))
  obtain ⟨M, hM⟩ : ∃ M, M = thnG b l G.length (colsG G) (hG G) := ⟨_, rfl⟩
  rw [← hM] at cM e1
  clear hV0 hok hwd hM hbb hll hGR hv
  rw [show cod8 true true = 0 from rfl] at cC ⊢
  go_enter Try.func17, Try.ntmps17
  go_wp2_with fail
  obtain ⟨q1, hB0, hsz⟩ := one_boxP w #[.int .i64 b, .int .i64 l] 51
  generalize (w.alloc (.cells #[.int .i64 b, .int .i64 l] 51)) = W0 at q1 hB0 hsz ⊢
  have c0 := q1 0 _ rfl
  have c1 := q1 1 _ rfl
  clear q1
  refine (cW.out _).mono ?_
  rintro e w1 ⟨rfl, b1⟩
  have B1 := below2 hB0 b1
  replace c0 := (b1.cell (p := ⟨w.heap.size, 0, none⟩) hsz).trans c0
  replace c1 := (b1.cell (p := ⟨w.heap.size, 1, none⟩) hsz).trans c1
  have cC1 := Lib.hid (cC.out w1 B1)
  clear b1
  go_wp2_with fail
  refine cC1.out.mono ?_
  rintro e w2 ⟨rfl, hd2⟩
  replace c0 := (hd2.cell _).trans c0
  replace c1 := (hd2.cell _).trans c1
  have B2 := below2 B1 hd2.below
  clear hd2 B1 hB0
  go_wp2_with fail
  refine (cM.out _ B2).mono ?_
  rintro e w3 ⟨v3, vs3, rfl, o3, b3⟩
  go_wp2
  go_ret2
  exact gridRet_mk e1.out rfl o3 B2.size (below2 B2 b3)
set_option maxHeartbeats 6400000 in
theorem l08All_any (b l : Int) (hb : 0 ≤ b ∧ b ≤ 200) (hl : 1 ≤ l ∧ l ≤ 200) (g o cap R C : Nat) (rg ro rc : Nat → Nat) (h : Nat → Nat → Int) (w : World) (x : GR w g o cap R C rg ro rc h) : Calls Try.prog 26 #[.slice (some ⟨g, o, none⟩) R cap, .int .i64 b, .int .i64 l] w (RowsG (thnG b l R C h) w) := by
  have hx := Lib.hid x
  have r2 := x.R10
  have c2 := x.C10
  have cO := Lib.hid (l08Own_any g o cap R C rg ro rc h w x)
  clear x
  go_enter Try.func26, Try.ntmps26
  go_wp2_with fail
  refine cO.out.mono ?_
  rintro e w4 ⟨v4, vs, rfl, O4, b4⟩
  obtain ⟨a4, cap4, rfl⟩ := own_shape O4.top
  rw [gridF_len]
  rw [gridF_len] at O4
  have hB4 := Lib.hid b4
  obtain ⟨LO, hLO⟩ : ∃ n, n = w.heap.size := ⟨_, rfl⟩
  obtain ⟨HI, hHI⟩ : ∃ n, n = w4.heap.size := ⟨_, rfl⟩
  rw [← hLO, ← hHI] at O4
  have hLO' := Lib.hid hLO
  have hO4 := Lib.hid O4
  have hst : Hid (∀ a c, h a c = if (a, c) ∈ plTo C 0 0 then tnV b l (h a c) else h a c) := Lib.hid (fun a c => by rw [show plTo C 0 0 = [] from rfl]; simp)
  clear cO b4 O4 hLO hHI
  go_wp2
  go_loopw [8] (fun i wr => ∃ (k : Nat) (φ : Nat → Nat → Int), k ≤ R ∧ i = .int .i64 k ∧ Hid (∀ a c, φ a c = if (a, c) ∈ plTo C k 0 then tnV b l (h a c) else h a c) ∧ Hid (OwnG LO HI wr (.slice a4 R cap4) (gridF R C φ) vs) ∧ Hid (Below w.heap.size w wr)) (fun i _ => R - (intOf i).toNat)
  case atStart => exact ⟨0, h, by omega, rfl, hst, hO4, hB4⟩
  case round =>
    obtain ⟨k, φ, hk, rfl, hφ, hO, hB⟩ := hrel
    by_cases hlt : k < R
    · have hkI : (k : Int) < (R : Int) := by omega
      go_wp2
      go_loopw [9] (fun i wr => ∃ (m : Nat) (φ : Nat → Nat → Int), m ≤ C ∧ i = .int .i64 m ∧ Hid (∀ a c, φ a c = if (a, c) ∈ plTo C k m then tnV b l (h a c) else h a c) ∧ Hid (OwnG LO HI wr (.slice a4 R cap4) (gridF R C φ) vs) ∧ Hid (Below w.heap.size w wr)) (fun i _ => C - (intOf i).toNat)
      case atStart => exact ⟨0, φ, by omega, rfl, hφ, hO, hB⟩
      case round =>
        obtain ⟨m, φ, hm, rfl, hφ, hO, hB⟩ := hrel
        have hkG0 : k < (gridF R C φ).length := by rw [gridF_len]; exact hlt
        have h0G : 0 < ((gridF R C φ)[k]).length := by rw [gridF_row, List.length_map, List.length_range]; exact hx.out.C1
        obtain ⟨gt, capt, gr, nr, capr, hv4, hnr, _, _, hp0⟩ := hO.out.place (z := (0 : Int)) hkG0 h0G (by unfold inI; omega)
        rw [gridF_row] at hnr
        have hnr' : C = nr := by rw [hnr]; simp
        have ha4 : a4 = some ⟨gt, 0, none⟩ := by injection hv4
        have hcell := (hp0 wr (Below.refl _ _)).1
        subst hnr' ha4
        clear hp0 hnr h0G hkG0 hv4
        by_cases hlm : m < C
        · have hmI : (m : Int) < (C : Int) := by omega
          have hnext := Lib.hid (plTo_next (C := C) k m)
          have hφk : φ k m = h k m := by rw [hφ.out k m, if_neg]; rw [mem_plTo]; omega
          have hkG : k < (gridF R C φ).length := by rw [gridF_len]; exact hlt
          have hmG : m < ((gridF R C φ)[k]).length := by rw [gridF_row]; simpa using hlm
          have hyv : ((gridF R C φ)[k])[m] = φ k m := by simp only [gridF_row]; simp
          have z0 := hx.out.h0 k m hlt hlm
          have z1 := hx.out.h1 k m hlt hlm
          have hYb := tnV_bd hb hl z0 z1
          have cT0 := fun W => l08Thin_any b l (h k m) hb hl z0 z1 W
          obtain ⟨Y, hY⟩ : ∃ Y, Y = tnV b l (h k m) := ⟨_, rfl⟩
          rw [← hY] at cT0 hYb
          have cT := Lib.hid cT0
          have hY' := Lib.hid hY
          obtain ⟨gt9, capt9, g9, n9, cap9, hv4, hn9, hlo, hhi, hpl0⟩ := hO.out.place (z := Y) hkG hmG (by unfold inI; omega)
          clear hn9
          injection hv4 with hv4 el ec
          clear el ec
          injection hv4 with hv4
          injection hv4 with hv4 eo es
          clear eo es
          subst hv4
          have hcc := hcell.symm.trans (hpl0 wr (Below.refl _ _)).1
          injection hcc with hcc
          injection hcc with ec1 ec2 ec3
          injection ec1 with ec1
          injection ec1 with ec1 eo es
          clear eo es
          subst ec1 ec2 ec3
          rw [gridF_set hkG, hyv, hφk] at hpl0
          have hpl1 := hpl0
          simp only [encI] at hpl1
          obtain ⟨zz, hzz⟩ : ∃ zz, zz = h k m := ⟨_, rfl⟩
          rw [← hzz] at hpl1 cT0
          have cT := Lib.hid cT0
          have hpl := Lib.hid hpl1
          have hlo' := Lib.hid hlo
          have hφ' : Hid (∀ a c, (if a = k ∧ c = m then Y else φ a c) = if (a, c) ∈ plTo C k (m + 1) then tnV b l (h a c) else h a c) := Lib.hid (fun a c => by
            rw [hnext.out]
            by_cases e : a = k ∧ c = m
            · obtain ⟨rfl, rfl⟩ := e
              simp [hY'.out]
            · rw [if_neg e, hφ.out a c]
              have : ((a, c) ∈ plTo C k m ++ [(k, m)]) ↔ (a, c) ∈ plTo C k m := by
                rw [List.mem_append, List.mem_singleton]
                constructor
                · rintro (x | x)
                  · exact x
                  · injection x with xa xb; exact absurd ⟨xa, xb⟩ e
                · exact Or.inl
              simp only [this])
          clear hkG hmG hyv z0 z1 hYb cT0 hY hY' hlo hhi hpl0 hpl1 hφ hφk hnext hzz hO
          go_wp2_with fail
          refine wp_calm 16 (fun w' => Below wr.heap.size wr w') (by kernel_rfl) (by kernel_rfl) (by kernel_rfl) (by kernel_rfl) (belowN (Below.refl _ _) 1) ?_
          simp only [List.take_succ_cons, List.take_zero, List.drop_succ_cons, List.drop_zero]
          refine calm_take (v := ?vy11) (by rfl) ?ey11 ?ry11
          case ey11 => (intro w' hw'; have c0 := (hpl.out w' hw').1; have c1 := (hpl.out w' hw').2.1; go_simp; try with_reducible rfl)
          try simp only [Act.put, List.setIfInBounds_toArray, List.set_cons_zero, List.set_cons_succ]
          refine calm_take (v := ?vy12) (by rfl) ?ey12 ?ry12
          case ey12 => (intro w' hw'; have c0 := (hpl.out w' hw').1; have c1 := (hpl.out w' hw').2.1; go_simp; try with_reducible rfl)
          try simp only [Act.put, List.setIfInBounds_toArray, List.set_cons_zero, List.set_cons_succ]
          refine calm_take (v := ?vy13) (by rfl) ?ey13 ?ry13
          case ey13 => (intro w' hw'; have c0 := (hpl.out w' hw').1; have c1 := (hpl.out w' hw').2.1; go_simp; try with_reducible rfl)
          try simp only [Act.put, List.setIfInBounds_toArray, List.set_cons_zero, List.set_cons_succ]
          refine calm_take (v := ?vy14) (by rfl) ?ey14 ?ry14
          case ey14 => (intro w' hw'; have c0 := (hpl.out w' hw').1; have c1 := (hpl.out w' hw').2.1; go_simp; try with_reducible rfl)
          try simp only [Act.put, List.setIfInBounds_toArray, List.set_cons_zero, List.set_cons_succ]
          refine calm_take (v := ?vy15) (by rfl) ?ey15 ?ry15
          case ey15 => (intro w' hw'; have c0 := (hpl.out w' hw').1; have c1 := (hpl.out w' hw').2.1; go_simp; try with_reducible rfl)
          try simp only [Act.put, List.setIfInBounds_toArray, List.set_cons_zero, List.set_cons_succ]
          refine calm_take (v := ?vy16) (by rfl) ?ey16 ?ry16
          case ey16 => (intro w' hw'; have c0 := (hpl.out w' hw').1; have c1 := (hpl.out w' hw').2.1; go_simp; try with_reducible rfl)
          try simp only [Act.put, List.setIfInBounds_toArray, List.set_cons_zero, List.set_cons_succ]
          refine calm_take (v := ?vy17) (by rfl) ?ey17 ?ry17
          case ey17 => (intro w' hw'; have c0 := (hpl.out w' hw').1; have c1 := (hpl.out w' hw').2.1; go_simp; try with_reducible rfl)
          try simp only [Act.put, List.setIfInBounds_toArray, List.set_cons_zero, List.set_cons_succ]
          refine calm_take (v := ?vy18) (by rfl) ?ey18 ?ry18
          case ey18 => (intro w' hw'; have c0 := (hpl.out w' hw').1; have c1 := (hpl.out w' hw').2.1; go_simp; try with_reducible rfl)
          try simp only [Act.put, List.setIfInBounds_toArray, List.set_cons_zero, List.set_cons_succ]
          refine calm_take (v := ?vy19) (by rfl) ?ey19 ?ry19
          case ey19 => (intro w' hw'; have c0 := (hpl.out w' hw').1; have c1 := (hpl.out w' hw').2.1; go_simp; try with_reducible rfl)
          try simp only [Act.put, List.setIfInBounds_toArray, List.set_cons_zero, List.set_cons_succ]
          refine calm_take (v := ?vy20) (by rfl) ?ey20 ?ry20
          case ey20 => (intro w' hw'; have c0 := (hpl.out w' hw').1; have c1 := (hpl.out w' hw').2.1; go_simp; try with_reducible rfl)
          try simp only [Act.put, List.setIfInBounds_toArray, List.set_cons_zero, List.set_cons_succ]
          refine calm_take (v := ?vy21) (by rfl) ?ey21 ?ry21
          case ey21 => (intro w' hw'; have c0 := (hpl.out w' hw').1; have c1 := (hpl.out w' hw').2.1; go_simp; try with_reducible rfl)
          try simp only [Act.put, List.setIfInBounds_toArray, List.set_cons_zero, List.set_cons_succ]
          refine calm_take (v := ?vy22) (by rfl) ?ey22 ?ry22
          case ey22 => (intro w' hw'; have c0 := (hpl.out w' hw').1; have c1 := (hpl.out w' hw').2.1; go_simp; try with_reducible rfl)
          try simp only [Act.put, List.setIfInBounds_toArray, List.set_cons_zero, List.set_cons_succ]
          refine calm_take (v := ?vy23) (by rfl) ?ey23 ?ry23
          case ey23 => (intro w' hw'; have c0 := (hpl.out w' hw').1; have c1 := (hpl.out w' hw').2.1; go_simp; try with_reducible rfl)
          try simp only [Act.put, List.setIfInBounds_toArray, List.set_cons_zero, List.set_cons_succ]
          refine calm_take (v := ?vy24) (by rfl) ?ey24 ?ry24
          case ey24 => (intro w' hw'; have c0 := (hpl.out w' hw').1; have c1 := (hpl.out w' hw').2.1; go_simp; try with_reducible rfl)
          try simp only [Act.put, List.setIfInBounds_toArray, List.set_cons_zero, List.set_cons_succ]
          refine calm_call (v := .int .i64 Y) (f := ?fy25) (args := ?ay25) (by rfl) ?ey25 ?cy25 ?ry25
          case ey25 => (intro w' hw'; have c0 := (hpl.out w' hw').1; have c1 := (hpl.out w' hw').2.1; go_simp; first | (with_reducible rfl) | (refine ⟨?_, ?_⟩ <;> with_reducible rfl))
          case cy25 => (intro w' hw'; with_reducible exact calm_same hw' (cT.out w'))
          try simp only [Act.put, List.setIfInBounds_toArray, List.set_cons_zero, List.set_cons_succ]
          refine calm_take (v := ?vy26) (by rfl) ?ey26 ?ry26
          case ey26 => (intro w' hw'; have c0 := (hpl.out w' hw').1; have c1 := (hpl.out w' hw').2.1; go_simp; try with_reducible rfl)
          try simp only [Act.put, List.setIfInBounds_toArray, List.set_cons_zero, List.set_cons_succ]
          refine wpQuiet_nil (fun w' hw' => ?_)
          obtain ⟨q1, q2, q3, q4, q5⟩ := hpl.out w' hw'
          have B9 := Lib.hid ((below2 hB.out hw').grown q5.out (by have := hB.out.size; have := hw'.size; omega) (fun j hj => by injection hj with hj; have := hlo'.out; have := hLO'.out; omega))
          clear hpl
          go_wp2
          go_roundw
          case rel => exact ⟨m + 1, _, by omega, by go_num, hφ', q4, B9⟩
          case measure => simp [intOf]; omega
        · have hmC : m = C := by omega
          have hφ' : Hid (∀ a c, φ a c = if (a, c) ∈ plTo C (k + 1) 0 then tnV b l (h a c) else h a c) := Lib.hid (by have := hφ.out; rw [hmC, plTo_row] at this; exact this)
          clear hmC hφ
          go_wp2
          go_roundw
          case rel => exact ⟨k + 1, φ, by omega, by go_num, hφ', hO, hB⟩
          case measure => simp [intOf]; omega
    · have hkR : k = R := by omega
      have hfin : Hid (gridF R C φ = thnG b l R C h) := Lib.hid (gridF_congr (fun a c ha hc => by
        rw [hφ.out a c, if_pos]; rw [hkR]; exact mem_plAll.2 ⟨ha, hc⟩))
      have hO2 := hO
      rw [hfin.out] at hO2
      clear hkR hφ hO hfin
      go_wp2
      go_ret
      exact ⟨_, vs, rfl, (hO2.out.wide hO2.out.hiW (Nat.le_refl _)).low (by rw [hLO'.out]; exact Nat.le_refl _), hB.out⟩
end Go.Proofs.Ytmppaimcejcoiaa
