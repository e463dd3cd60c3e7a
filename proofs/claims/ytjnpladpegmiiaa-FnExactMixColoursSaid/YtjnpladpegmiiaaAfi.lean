/-
  The colour that coats give: the program's.
-/
import Derived.Test.YtjnpladpegmiiaaAft
import Derived.Deep.Cut
namespace Go.Proofs.Ytjnpladpegmiiaa
open Go.ChangeShapes Go.WideShapes Go.ChangeAt Go.RowKit Go.Deep
set_option linter.unusedVariables false
set_option linter.unusedSimpArgs false
set_option maxRecDepth 1000000
theorem setThree {W : World} {P : Nat} {x y z : Value} {T : TypeId} (h : W.heap[P]? = some (.cells #[x, y, z] T (0, 0))) (a b c : Value) : (W.setCells P 0 [a, b, c]).heap[P]? = some (.cells #[a, b, c] T (0, 0)) := by
  have h1 : (W.setCell ⟨P, 0, none⟩ a).heap[P]? = some (.cells #[a, y, z] T (0, 0)) := by rw [heap_setCell_same _ _ _ _ _ _ h]; rfl
  have h2 : ((W.setCell ⟨P, 0, none⟩ a).setCell ⟨P, 1, none⟩ b).heap[P]? = some (.cells #[a, b, z] T (0, 0)) := by rw [heap_setCell_same _ _ _ _ _ _ h1]; rfl
  show (((W.setCell ⟨P, 0, none⟩ a).setCell ⟨P, 1, none⟩ b).setCell ⟨P, 2, none⟩ c).heap[P]? = _
  rw [heap_setCell_same _ _ _ _ _ _ h2]; rfl
/-- a box of three numbers -/
def BoxC (P : Nat) (x y z : Int) (W : World) : Prop := W.heap[P]? = some (.cells #[.int .i64 x, .int .i64 y, .int .i64 z] 70 (0, 0))
theorem BoxC.there {P : Nat} {x y z : Int} {W : World} (h : BoxC P x y z W) : W.there P 0 3 := fun j hj => by
  rw [Nat.zero_add]
  refine ⟨?_, freeB h j⟩
  rw [cellB h j ((#[.int .i64 x, .int .i64 y, .int .i64 z] : Array Value)[j]'(by simpa using hj)) (Array.getElem?_eq_getElem _)]; rfl
theorem BoxC.below {P : Nat} {x y z : Int} {W W' : World} (h : BoxC P x y z W) (hb : Below W.heap.size W W') : BoxC P x y z W' := (hb.block _ (ltOf h)).trans h
theorem BoxC.row {P B : Nat} {x y z : Int} {W : World} (h : BoxC P x y z W) (hB : B ≤ P) : W.ownsRow B 70 1 (.slice (some ⟨P, 0, none⟩) 3 3) ([x, y, z] : List Int).length (([x, y, z] : List Int).map encI) :=
  ⟨rfl, Or.inr ⟨P, 3, _, rfl, hB, h, Nat.le_refl 3, by unfold maxLen; omega, rfl, rfl⟩⟩
set_option maxHeartbeats 3200000 in
theorem implColourAfter_any (v : Value) (Z : List Ct) (v' : Value) (O : List Int) (v2 : Value) (G : List Int) (w : World) (hz : Z.length ≤ 1048576) (hv : CtsAt w v Z) (ho : O.length ≤ 1048576) (hv' : IntsAt w v' O) (hg9 : G.length ≤ 1048576) (hv2 : IntsAt w v2 G) : Calls Try.prog 23 #[v, v', v2] w (RowCE 70 (aftV Z O G) (aftC Z O G) w) := by
  have cV := implValidCoats_any v Z w hz hv
  have hV : Hid (aftV Z O G = if (ctsB Z && colB G) = true then (if ordC Z.length O = true then aftK Z O G O.length else []) else []) := Lib.hid rfl
  have hC : Hid (aftC Z O G = if (ctsB Z && colB G) = true then code (ordC Z.length O) 7 else 1) := Lib.hid rfl
  have cG := fun W (hb : Below w.heap.size w W) => isColour_any v2 G W (by unfold maxLen; omega) (hv2.below hb)
  have cO := fun W (hb : Below w.heap.size w W) => isOrder_any v' O Z.length W hz ho (hv'.below hb)
  obtain ⟨p9, c9, hv9, _, _, hread9⟩ := hv
  subst hv9
  obtain ⟨p7, c7, hv7, _⟩ := id hv2
  obtain ⟨p8, c8, hv8, _, _, hread8⟩ := hv'
  subst hv8
  have hv2' := Lib.hid hv2
  clear hv2
  subst hv7
  cases q1 : ctsB Z
  · rw [q1] at cV hV hC
    replace cV := Lib.hid cV
    clear cO cG hread9 hread8
    go_enter Try.func23, Try.ntmps23
    go_wp2_with (first | (go_at_call 16; (with_reducible refine (cV.out).mono ?_); rintro e w1 ⟨rfl, b1⟩))
    go_ret2
    exact rowCE_nil hV.out hC.out b1
  cases q3 : colB G
  · rw [q1] at cV hV hC
    rw [q3] at cG hV hC
    replace cV := Lib.hid cV
    replace cG := Lib.hid cG
    clear cO hread9 hread8
    go_enter Try.func23, Try.ntmps23
    go_wp2_with (first | (go_at_call 16; (with_reducible refine (cV.out).mono ?_); rintro e w1 ⟨rfl, b1⟩) | (go_at_call 56; (with_reducible refine (cG.out _ b1).mono ?_); rintro e w2 ⟨rfl, b2⟩))
    go_ret2
    exact rowCE_nil hV.out hC.out (below2 b1 b2)
  cases q2 : ordC Z.length O
  · rw [q1] at cV hV hC
    rw [q3] at cG hV hC
    rw [q2] at cO hV hC
    replace cV := Lib.hid cV
    replace cG := Lib.hid cG
    replace cO := Lib.hid cO
    clear hread9 hread8
    go_enter Try.func23, Try.ntmps23
    go_wp2_with (first | (go_at_call 16; (with_reducible refine (cV.out).mono ?_); rintro e w1 ⟨rfl, b1⟩) | (go_at_call 56; (with_reducible refine (cG.out _ b1).mono ?_); rintro e w2 ⟨rfl, b2⟩) | (go_at_call 52; (with_reducible refine (cO.out _ (below2 b1 b2)).mono ?_); rintro e w3 ⟨rfl, b3⟩))
    go_ret2
    exact rowCE_nil hV.out hC.out (below2 (below2 b1 b2) b3)
  have hcol := Lib.hid (fun k hk => aft_col q1 q2 q3 k hk)
  have hoB := Lib.hid q2
  have hzB := Lib.hid q1
  have hl10 := ordC_len q2
  rw [q1] at cV hV hC
  rw [q3] at cG hV hC
  rw [q2] at cO hV hC
  obtain ⟨x0, y0, z0, hG0, _, _, _⟩ := col3_of q3
  replace cV := Lib.hid cV
  replace cG := Lib.hid cG
  replace cO := Lib.hid cO
  have hr9 := Lib.hid hread9
  have hr8 := Lib.hid hread8
  clear hread9 hread8 q1 q2 q3
  subst hG0
  obtain ⟨g7, o7, cx, hp7, hg7, k0, k1, k2⟩ := row3 hv2'.out
  injection hp7 with hp7a _ hp7c
  subst hp7a hp7c
  have hl3 : ([x0, y0, z0] : List Int).length = 3 := rfl
  have hk3 : Hid (∀ W, Below w.heap.size w W → W.cell? ⟨g7, o7, none⟩ = some (.int .i64 x0) ∧ W.cell? ⟨g7, o7 + 1, none⟩ = some (.int .i64 y0) ∧ W.cell? ⟨g7, o7 + 2, none⟩ = some (.int .i64 z0)) := Lib.hid (fun W hb => ⟨(bcell hb _ _ hg7).trans k0, (bcell hb _ _ hg7).trans k1, (bcell hb _ _ hg7).trans k2⟩)
  clear k0 k1 k2 hv2'
  rw [hl3] at cG ⊢
  clear hl3
  go_enter Try.func23, Try.ntmps23
  go_upto_region 6 with (first | (go_at_call 16; (with_reducible refine (cV.out).mono ?_); rintro e w1 ⟨rfl, b1⟩) | (go_at_call 56; (with_reducible refine (cG.out _ b1).mono ?_); rintro e w2 ⟨rfl, b2⟩) | (go_at_call 52; (with_reducible refine (cO.out _ (below2 b1 b2)).mono ?_); rintro e w3 ⟨rfl, b3⟩; obtain ⟨k0', k1', k2'⟩ := hk3.out _ (below2 (below2 b1 b2) b3)) | (rw [run_arrayAt3 (by decide)]; go_simp))
  have hP0 : BoxC w3.heap.size x0 y0 z0 (w3.alloc (.cells #[.int .i64 x0, .int .i64 y0, .int .i64 z0] 70)) := heap_alloc_new _ _
  have hb3 := below2 (below2 b1 b2) b3
  have hB0 : Below w.heap.size w (w3.alloc (.cells #[.int .i64 x0, .int .i64 y0, .int .i64 z0] 70)) := hb3.alloc hb3.size _
  have hwP : w.heap.size ≤ w3.heap.size := hb3.size
  generalize w3.alloc (.cells #[.int .i64 x0, .int .i64 y0, .int .i64 z0] 70) = W0 at hP0 hB0 ⊢
  generalize w3.heap.size = P at hP0 hwP ⊢
  have hP0' := Lib.hid hP0
  have hB0' := Lib.hid hB0
  have h00 : Hid (([x0, y0, z0] : List Int) = aftK Z O [x0, y0, z0] 0) := Lib.hid rfl
  clear hP0 hB0 b1 b2 b3 hb3 k0' k1' k2' cV cG cO hk3
  obtain ⟨G0, hG0⟩ : ∃ G0, G0 = ([x0, y0, z0] : List Int) := ⟨_, rfl⟩
  have h00' : Hid (([x0, y0, z0] : List Int) = aftK Z O G0 0) := Lib.hid (by rw [hG0]; exact h00.out)
  rw [← hG0] at hcol hV hC ⊢
  have hG0' := Lib.hid hG0
  clear hG0 h00
  go_wp2
  go_loopw [31] (fun i wr => ∃ (k : Nat) (x y z : Int), k ≤ O.length ∧ i = .int .i64 k ∧ Hid ([x, y, z] = aftK Z O G0 k) ∧ Hid (BoxC P x y z wr) ∧ Hid (Below w.heap.size w wr)) (fun i _ => O.length - (intOf i).toNat)
  case atStart => exact ⟨0, x0, y0, z0, by omega, rfl, h00', hP0', hB0'⟩
  case round =>
    obtain ⟨k, x, y, z, hk, rfl, hL, hbox, hb⟩ := hrel
    by_cases hlt : k < O.length
    · rcases hr8.out with h | ⟨g8, o8, rfl, hg8, hc8⟩
      · subst h; simp at hlt
      have c0 := rowcell hb.out hg8 hc8 hlt
      rcases hr9.out with h | ⟨g, o, rfl, hg, hc⟩
      · have := (ordC_at hoB.out hlt).2.1; rw [h] at this; simp at this
      obtain ⟨j, u, hj, hjl, hat, hgd⟩ := ordCell hb.out hg hc hoB.out hlt
      have hvx := ctB_bd (cts_one hzB.out hjl)
      rw [← cts_getD hjl] at hvx
      have hLn : ov3 (Z.getD j ct0).col (Z.getD j ct0).cover [x, y, z] = aftK Z O G0 (k + 1) := by conv => rhs; unfold aftK; rw [hgd, ← hL.out]
      rw [hj] at c0
      have hjI : (j : Int) < (Z.length : Int) := by omega
      have hcl := hcol.out k hk
      rw [← hL.out] at hcl
      obtain ⟨x9, y9, z9, hLe, bx, by9, bz⟩ := hcl
      injection hLe with hx9 hLe
      injection hLe with hy9 hLe
      injection hLe with hz9 _
      subst hx9 hy9 hz9
      obtain ⟨p, q, r, hpe, bp, bq, br⟩ := col3_of hvx.2.2
      obtain ⟨⟨s, a, b, cc⟩, hX⟩ : ∃ X, X = Z.getD j ct0 := ⟨_, rfl⟩
      rw [← hX] at hat hvx hLn hpe
      simp only at hpe hvx hLn
      subst hpe
      obtain ⟨ua, uc, hue⟩ := intsShape hat.2
      have hl3 : ([p, q, r] : List Int).length = 3 := rfl
      rw [hl3] at hue
      subst hue
      have hui := Lib.hid hat.2
      have hgw : g < wr.heap.size := Nat.lt_of_lt_of_le hg hb.out.size
      have cS := Lib.hid (fun W (hw : Below wr.heap.size wr W) => over_any s a b _ p q r x y z bx by9 bz bp bq br hvx.2.1 W (hui.out.below hw))
      obtain ⟨X, hX1⟩ : ∃ X, X = ovN x p b := ⟨_, rfl⟩
      obtain ⟨Y, hY1⟩ : ∃ Y, Y = ovN y q b := ⟨_, rfl⟩
      obtain ⟨Q, hZ1⟩ : ∃ Q, Q = ovN z r b := ⟨_, rfl⟩
      have hLn' : Hid ([X, Y, Q] = aftK Z O G0 (k + 1)) := Lib.hid (by rw [hX1, hY1, hZ1]; exact hLn)
      rw [← hX1, ← hY1, ← hZ1] at cS
      have open0 : Hid (∀ w', Below wr.heap.size wr w' → (w'.cell? ⟨g, o + j * 4, none⟩ = some (.string s) ∧ w'.cell? ⟨g, o + j * 4 + 1, none⟩ = some (.int .i64 a) ∧ w'.cell? ⟨g, o + j * 4 + 2, none⟩ = some (.int .i64 b) ∧ w'.cell? ⟨g, o + j * 4 + 3, none⟩ = some (.slice ua 3 uc)) ∧ w'.cell? ⟨P, 0, none⟩ = some (.int .i64 x) ∧ w'.cell? ⟨P, 1, none⟩ = some (.int .i64 y) ∧ w'.cell? ⟨P, 2, none⟩ = some (.int .i64 z)) := Lib.hid (fun w' hw' => ⟨(hat.below hgw hw').1, cellB (hbox.out.below hw') 0 _ rfl, cellB (hbox.out.below hw') 1 _ rfl, cellB (hbox.out.below hw') 2 _ rfl⟩)
      have key : Hid (∀ w', Below wr.heap.size wr w' → w'.there P 0 3 ∧ ∀ w5, w'.setCells P 0 [.int .i64 X, .int .i64 Y, .int .i64 Q] = w5 → Hid (BoxC P X Y Q w5) ∧ Hid (Below w.heap.size w w5)) := Lib.hid (fun w' hw' => ⟨(hbox.out.below hw').there, fun w5 h5 => by
        subst h5
        exact ⟨Lib.hid (setThree (hbox.out.below hw') _ _ _), Lib.hid (below_sets hwP _ _ _ (below2 hb.out hw'))⟩⟩)
      clear hX hat hvx hLn hj hgd hc hc8 hL hX1 hY1 hZ1 hbox
      go_wp2
      refine wp_calm 6 (fun w' => Below wr.heap.size wr w') (by kernel_rfl) (by kernel_rfl) (by kernel_rfl) (by kernel_rfl) (belowN (Below.refl _ _) 1) ?_
      simp only [List.take_succ_cons, List.take_zero, List.drop_succ_cons, List.drop_zero]
      refine calm_take (v := ?vy1) (by rfl) ?ey1 ?ry1
      case ey1 => (intro w' hw'; obtain ⟨⟨m0, m1, m2, m3⟩, m4, m5, m6⟩ := open0.out w' hw'; go_simp; try with_reducible rfl)
      try simp only [Act.put, List.setIfInBounds_toArray, List.set_cons_zero, List.set_cons_succ]
      refine calm_take (v := ?vy2) (by rfl) ?ey2 ?ry2
      case ey2 => (intro w' hw'; obtain ⟨⟨m0, m1, m2, m3⟩, m4, m5, m6⟩ := open0.out w' hw'; go_simp; try with_reducible rfl)
      try simp only [Act.put, List.setIfInBounds_toArray, List.set_cons_zero, List.set_cons_succ]
      refine calm_take (v := ?vy3) (by rfl) ?ey3 ?ry3
      case ey3 => (intro w' hw'; obtain ⟨⟨m0, m1, m2, m3⟩, m4, m5, m6⟩ := open0.out w' hw'; go_simp; try with_reducible rfl)
      try simp only [Act.put, List.setIfInBounds_toArray, List.set_cons_zero, List.set_cons_succ]
      refine calm_take (v := ?vy4) (by rfl) ?ey4 ?ry4
      case ey4 => (intro w' hw'; obtain ⟨⟨m0, m1, m2, m3⟩, m4, m5, m6⟩ := open0.out w' hw'; go_simp; try with_reducible rfl)
      try simp only [Act.put, List.setIfInBounds_toArray, List.set_cons_zero, List.set_cons_succ]
      refine calm_take (v := ?vy5) (by rfl) ?ey5 ?ry5
      case ey5 => (intro w' hw'; obtain ⟨⟨m0, m1, m2, m3⟩, m4, m5, m6⟩ := open0.out w' hw'; go_simp; try with_reducible rfl)
      try simp only [Act.put, List.setIfInBounds_toArray, List.set_cons_zero, List.set_cons_succ]
      refine calm_call (v := .agg #[.int .i64 X, .int .i64 Y, .int .i64 Q]) (f := ?fy6) (args := ?ay6) (by rfl) ?ey6 ?cy6 ?ry6
      case ey6 => (intro w' hw'; obtain ⟨⟨m0, m1, m2, m3⟩, m4, m5, m6⟩ := open0.out w' hw'; go_simp; first | (with_reducible rfl) | (refine ⟨?_, ?_⟩ <;> with_reducible rfl))
      case cy6 => (intro w' hw'; with_reducible exact calm_retC hw' (cS.out w' hw'))
      try simp only [Act.put, List.setIfInBounds_toArray, List.set_cons_zero, List.set_cons_succ]
      refine wpQuiet_nil (fun w' hw' => ?_)
      obtain ⟨th, key2⟩ := key.out w' hw'
      clear open0 key
      go_wp2_with (refine wpList_store_mid rfl _ _ _ rfl P 0 _ rfl rfl ?_ sizeCo (oneCo _ _ _) ?_; (exact th); generalize hW : World.setCells _ _ _ _ = w5; (have H := key2 w5 hW); clear hW; obtain ⟨hbox5, hb5⟩ := H)
      go_roundw
      case rel => exact ⟨k + 1, X, Y, Q, by omega, by go_num, hLn', hbox5, hb5⟩
      case measure => simp [intOf]; omega
    · obtain rfl : k = O.length := by omega
      have hfin : Hid (aftV Z O G0 = [x, y, z]) := Lib.hid (by rw [hV.out]; simp; exact hL.out.symm)
      have hrow := Lib.hid (hbox.out.row hwP)
      go_wp2
      go_ret2
      exact rowCE_mk (by rw [← hG0'.out]; exact hfin.out) (by rw [← hG0'.out]; exact hC.out) hrow.out hb.out
end Go.Proofs.Ytjnpladpegmiiaa
