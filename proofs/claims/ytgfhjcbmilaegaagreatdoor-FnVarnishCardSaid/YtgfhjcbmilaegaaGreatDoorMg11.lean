/-
  Texts that stand together: Afi, Mix, BowMath, Fg, Stc, Few.
-/
import Derived.Deep.Cut
import Derived.Laws.EntriesVeiled
import Derived.Shelf.RegionOpenPlain
import Derived.Test.YtgfhjcbmilaegaaGreatDoorMg1
import Derived.Test.YtgfhjcbmilaegaaGreatDoorMg2
import Derived.Test.YtgfhjcbmilaegaaGreatDoorMg3
import Derived.Test.YtgfhjcbmilaegaaGreatDoorMg5
import Derived.Test.YtgfhjcbmilaegaaGreatDoorMg6
import Derived.Test.YtgfhjcbmilaegaaGreatDoorMg10
namespace Go.Proofs.YtgfhjcbmilaegaaGreatDoor
open Go.ChangeShapes Go.WideShapes Go.ChangeAt Go.RowKit Go.Deep
set_option linter.unusedVariables false
set_option linter.unusedSimpArgs false
set_option maxRecDepth 1000000
theorem setThree {W : World} {P : Nat} {x y z : Value} {T : TypeId} (h : W.heap[P]? = some (.cells #[x, y, z] T (0, 0))) (a b c : Value) : (W.setCells P 0 [a, b, c]).heap[P]? = some (.cells #[a, b, c] T (0, 0)) := by
  have h1 : (W.setCell ⟨P, 0, none⟩ a).heap[P]? = some (.cells #[a, y, z] T (0, 0)) := by rw [heap_setCell_same _ _ _ _ _ _ h]; rfl
  have h2 : ((W.setCell ⟨P, 0, none⟩ a).setCell ⟨P, 1, none⟩ b).heap[P]? = some (.cells #[a, b, z] T (0, 0)) := by rw [heap_setCell_same _ _ _ _ _ _ h1]; rfl
  show (((W.setCell ⟨P, 0, none⟩ a).setCell ⟨P, 1, none⟩ b).setCell ⟨P, 2, none⟩ c).heap[P]? = _
  rw [heap_setCell_same _ _ _ _ _ _ h2]; rfl
/-- a box of three numbers -/
def BoxC (P : Nat) (x y z : Int) (W : World) : Prop := W.heap[P]? = some (.cells #[.int .i64 x, .int .i64 y, .int .i64 z] 52 (0, 0))
theorem BoxC.there {P : Nat} {x y z : Int} {W : World} (h : BoxC P x y z W) : W.there P 0 3 := fun j hj => by
  rw [Nat.zero_add]
  refine ⟨?_, freeB h j⟩
  rw [cellB h j ((#[.int .i64 x, .int .i64 y, .int .i64 z] : Array Value)[j]'(by simpa using hj)) (Array.getElem?_eq_getElem _)]; rfl
theorem BoxC.below {P : Nat} {x y z : Int} {W W' : World} (h : BoxC P x y z W) (hb : Below W.heap.size W W') : BoxC P x y z W' := (hb.block _ (ltOf h)).trans h
theorem BoxC.row {P B : Nat} {x y z : Int} {W : World} (h : BoxC P x y z W) (hB : B ≤ P) : W.ownsRow B 52 1 (.slice (some ⟨P, 0, none⟩) 3 3) ([x, y, z] : List Int).length (([x, y, z] : List Int).map encI) :=
  ⟨rfl, Or.inr ⟨P, 3, _, rfl, hB, h, Nat.le_refl 3, by unfold maxLen; omega, rfl, rfl⟩⟩
set_option maxHeartbeats 3200000 in
theorem implColourAfter_any (v : Value) (Z : List Ct) (v' : Value) (O : List Int) (v2 : Value) (G : List Int) (w : World) (hz : Z.length ≤ 1048576) (hv : CtsAt w v Z) (ho : O.length ≤ 1048576) (hv' : IntsAt w v' O) (hg9 : G.length ≤ 1048576) (hv2 : IntsAt w v2 G) : Calls Tryz.prog 8 #[v, v', v2] w (RowCE 52 (aftV Z O G) (aftC Z O G) w) := by
  have cV := implValidCoats_any v Z w hz hv
  have hV : Hid (aftV Z O G = if (ctsB Z && colB G) = true then (if ordC Z.length O = true then aftK Z O G O.length else []) else []) := Lib.hid rfl
  have hC : Hid (aftC Z O G = if (ctsB Z && colB G) = true then code (ordC Z.length O) 7 else 1) := Lib.hid rfl
  have cG := fun W (hb : Below w.heap.size w W) => isColour_any v2 G W (by unfold maxLen; omega) (hv2.below hb)
  have cO := fun W (hb : Below w.heap.size w W) => isOrder_any v' O Z.length W hz ho (hv'.below hb)
  obtain ⟨p9, c9, hv9, _, _, hread9⟩ := hv
  subst hv9
  obtain ⟨p7, c7, hv7, _⟩ := id hv2
  obtain ⟨p8, c8, hv8, _, _, hread8⟩ := hv'
  subst hv8
  have hv2' := Lib.hid hv2
  clear hv2
  subst hv7
  cases q1 : ctsB Z
  · rw [q1] at cV hV hC
    replace cV := Lib.hid cV
    clear cO cG hread9 hread8
    go_enter Tryz.func8, Tryz.ntmps8
    go_wp2_with (first | (go_at_call 11; (with_reducible refine (cV.out).mono ?_); rintro e w1 ⟨rfl, b1⟩))
    go_ret2
    exact rowCE_nil hV.out hC.out b1
  cases q3 : colB G
  · rw [q1] at cV hV hC
    rw [q3] at cG hV hC
    replace cV := Lib.hid cV
    replace cG := Lib.hid cG
    clear cO hread9 hread8
    go_enter Tryz.func8, Tryz.ntmps8
    go_wp2_with (first | (go_at_call 11; (with_reducible refine (cV.out).mono ?_); rintro e w1 ⟨rfl, b1⟩) | (go_at_call 24; (with_reducible refine (cG.out _ b1).mono ?_); rintro e w2 ⟨rfl, b2⟩))
    go_ret2
    exact rowCE_nil hV.out hC.out (below2 b1 b2)
  cases q2 : ordC Z.length O
  · rw [q1] at cV hV hC
    rw [q3] at cG hV hC
    rw [q2] at cO hV hC
    replace cV := Lib.hid cV
    replace cG := Lib.hid cG
    replace cO := Lib.hid cO
    clear hread9 hread8
    go_enter Tryz.func8, Tryz.ntmps8
    go_wp2_with (first | (go_at_call 11; (with_reducible refine (cV.out).mono ?_); rintro e w1 ⟨rfl, b1⟩) | (go_at_call 24; (with_reducible refine (cG.out _ b1).mono ?_); rintro e w2 ⟨rfl, b2⟩) | (go_at_call 25; (with_reducible refine (cO.out _ (below2 b1 b2)).mono ?_); rintro e w3 ⟨rfl, b3⟩))
    go_ret2
    exact rowCE_nil hV.out hC.out (below2 (below2 b1 b2) b3)
  have hcol := Lib.hid (fun k hk => aft_col q1 q2 q3 k hk)
  have hoB := Lib.hid q2
  have hzB := Lib.hid q1
  have hl10 := ordC_len q2
  rw [q1] at cV hV hC
  rw [q3] at cG hV hC
  rw [q2] at cO hV hC
  obtain ⟨x0, y0, z0, hG0, _, _, _⟩ := col3_of q3
  replace cV := Lib.hid cV
  replace cG := Lib.hid cG
  replace cO := Lib.hid cO
  have hr9 := Lib.hid hread9
  have hr8 := Lib.hid hread8
  clear hread9 hread8 q1 q2 q3
  subst hG0
  obtain ⟨g7, o7, cx, hp7, hg7, k0, k1, k2⟩ := row3 hv2'.out
  injection hp7 with hp7a _ hp7c
  subst hp7a hp7c
  have hl3 : ([x0, y0, z0] : List Int).length = 3 := rfl
  have hk3 : Hid (∀ W, Below w.heap.size w W → W.cell? ⟨g7, o7, none⟩ = some (.int .i64 x0) ∧ W.cell? ⟨g7, o7 + 1, none⟩ = some (.int .i64 y0) ∧ W.cell? ⟨g7, o7 + 2, none⟩ = some (.int .i64 z0)) := Lib.hid (fun W hb => ⟨(bcell hb _ _ hg7).trans k0, (bcell hb _ _ hg7).trans k1, (bcell hb _ _ hg7).trans k2⟩)
  clear k0 k1 k2 hv2'
  rw [hl3] at cG ⊢
  clear hl3
  go_enter Tryz.func8, Tryz.ntmps8
  go_upto_region 6 with (first | (go_at_call 11; (with_reducible refine (cV.out).mono ?_); rintro e w1 ⟨rfl, b1⟩) | (go_at_call 24; (with_reducible refine (cG.out _ b1).mono ?_); rintro e w2 ⟨rfl, b2⟩) | (go_at_call 25; (with_reducible refine (cO.out _ (below2 b1 b2)).mono ?_); rintro e w3 ⟨rfl, b3⟩; obtain ⟨k0', k1', k2'⟩ := hk3.out _ (below2 (below2 b1 b2) b3)) | (rw [run_arrayAt3 (by decide)]; go_simp))
  have hP0 : BoxC w3.heap.size x0 y0 z0 (w3.alloc (.cells #[.int .i64 x0, .int .i64 y0, .int .i64 z0] 52)) := heap_alloc_new _ _
  have hb3 := below2 (below2 b1 b2) b3
  have hB0 : Below w.heap.size w (w3.alloc (.cells #[.int .i64 x0, .int .i64 y0, .int .i64 z0] 52)) := hb3.alloc hb3.size _
  have hwP : w.heap.size ≤ w3.heap.size := hb3.size
  generalize w3.alloc (.cells #[.int .i64 x0, .int .i64 y0, .int .i64 z0] 52) = W0 at hP0 hB0 ⊢
  generalize w3.heap.size = P at hP0 hwP ⊢
  have hP0' := Lib.hid hP0
  have hB0' := Lib.hid hB0
  have h00 : Hid (([x0, y0, z0] : List Int) = aftK Z O [x0, y0, z0] 0) := Lib.hid rfl
  clear hP0 hB0 b1 b2 b3 hb3 k0' k1' k2' cV cG cO hk3
  obtain ⟨G0, hG0⟩ : ∃ G0, G0 = ([x0, y0, z0] : List Int) := ⟨_, rfl⟩
  have h00' : Hid (([x0, y0, z0] : List Int) = aftK Z O G0 0) := Lib.hid (by rw [hG0]; exact h00.out)
  rw [← hG0] at hcol hV hC ⊢
  have hG0' := Lib.hid hG0
  clear hG0 h00
  go_wp2
  go_loopw [31] (fun i wr => ∃ (k : Nat) (x y z : Int), k ≤ O.length ∧ i = .int .i64 k ∧ Hid ([x, y, z] = aftK Z O G0 k) ∧ Hid (BoxC P x y z wr) ∧ Hid (Below w.heap.size w wr)) (fun i _ => O.length - (intOf i).toNat)
  case atStart => exact ⟨0, x0, y0, z0, by omega, rfl, h00', hP0', hB0'⟩
  case round =>
    obtain ⟨k, x, y, z, hk, rfl, hL, hbox, hb⟩ := hrel
    by_cases hlt : k < O.length
    · rcases hr8.out with h | ⟨g8, o8, rfl, hg8, hc8⟩
      · subst h; simp at hlt
      have c0 := rowcell hb.out hg8 hc8 hlt
      rcases hr9.out with h | ⟨g, o, rfl, hg, hc⟩
      · have := (ordC_at hoB.out hlt).2.1; rw [h] at this; simp at this
      obtain ⟨j, u, hj, hjl, hat, hgd⟩ := ordCell hb.out hg hc hoB.out hlt
      have hvx := ctB_bd (cts_one hzB.out hjl)
      rw [← cts_getD hjl] at hvx
      have hLn : ov3 (Z.getD j ct0).col (Z.getD j ct0).cover [x, y, z] = aftK Z O G0 (k + 1) := by conv => rhs; unfold aftK; rw [hgd, ← hL.out]
      rw [hj] at c0
      have hjI : (j : Int) < (Z.length : Int) := by omega
      have hcl := hcol.out k hk
      rw [← hL.out] at hcl
      obtain ⟨x9, y9, z9, hLe, bx, by9, bz⟩ := hcl
      injection hLe with hx9 hLe
      injection hLe with hy9 hLe
      injection hLe with hz9 _
      subst hx9 hy9 hz9
      obtain ⟨p, q, r, hpe, bp, bq, br⟩ := col3_of hvx.2.2
      obtain ⟨⟨s, a, b, cc⟩, hX⟩ : ∃ X, X = Z.getD j ct0 := ⟨_, rfl⟩
      rw [← hX] at hat hvx hLn hpe
      simp only at hpe hvx hLn
      subst hpe
      obtain ⟨ua, uc, hue⟩ := intsShape hat.2
      have hl3 : ([p, q, r] : List Int).length = 3 := rfl
      rw [hl3] at hue
      subst hue
      have hui := Lib.hid hat.2
      have hgw : g < wr.heap.size := Nat.lt_of_lt_of_le hg hb.out.size
      have cS := Lib.hid (fun W (hw : Below wr.heap.size wr W) => over_any s a b _ p q r x y z bx by9 bz bp bq br hvx.2.1 W (hui.out.below hw))
      obtain ⟨X, hX1⟩ : ∃ X, X = ovN x p b := ⟨_, rfl⟩
      obtain ⟨Y, hY1⟩ : ∃ Y, Y = ovN y q b := ⟨_, rfl⟩
      obtain ⟨Q, hZ1⟩ : ∃ Q, Q = ovN z r b := ⟨_, rfl⟩
      have hLn' : Hid ([X, Y, Q] = aftK Z O G0 (k + 1)) := Lib.hid (by rw [hX1, hY1, hZ1]; exact hLn)
      rw [← hX1, ← hY1, ← hZ1] at cS
      have open0 : Hid (∀ w', Below wr.heap.size wr w' → (w'.cell? ⟨g, o + j * 4, none⟩ = some (.string s) ∧ w'.cell? ⟨g, o + j * 4 + 1, none⟩ = some (.int .i64 a) ∧ w'.cell? ⟨g, o + j * 4 + 2, none⟩ = some (.int .i64 b) ∧ w'.cell? ⟨g, o + j * 4 + 3, none⟩ = some (.slice ua 3 uc)) ∧ w'.cell? ⟨P, 0, none⟩ = some (.int .i64 x) ∧ w'.cell? ⟨P, 1, none⟩ = some (.int .i64 y) ∧ w'.cell? ⟨P, 2, none⟩ = some (.int .i64 z)) := Lib.hid (fun w' hw' => ⟨(hat.below hgw hw').1, cellB (hbox.out.below hw') 0 _ rfl, cellB (hbox.out.below hw') 1 _ rfl, cellB (hbox.out.below hw') 2 _ rfl⟩)
      have key : Hid (∀ w', Below wr.heap.size wr w' → w'.there P 0 3 ∧ ∀ w5, w'.setCells P 0 [.int .i64 X, .int .i64 Y, .int .i64 Q] = w5 → Hid (BoxC P X Y Q w5) ∧ Hid (Below w.heap.size w w5)) := Lib.hid (fun w' hw' => ⟨(hbox.out.below hw').there, fun w5 h5 => by
        subst h5
        exact ⟨Lib.hid (setThree (hbox.out.below hw') _ _ _), Lib.hid (below_sets hwP _ _ _ (below2 hb.out hw'))⟩⟩)
      clear hX hat hvx hLn hj hgd hc hc8 hL hX1 hY1 hZ1 hbox
      go_wp2
      refine wp_calm 6 (fun w' => Below wr.heap.size wr w') (by kernel_rfl) (by kernel_rfl) (by kernel_rfl) (by kernel_rfl) (belowN (Below.refl _ _) 1) ?_
      simp only [List.take_succ_cons, List.take_zero, List.drop_succ_cons, List.drop_zero]
      refine calm_take (v := ?vy1) (by rfl) ?ey1 ?ry1
      case ey1 => (intro w' hw'; obtain ⟨⟨m0, m1, m2, m3⟩, m4, m5, m6⟩ := open0.out w' hw'; go_simp; try with_reducible rfl)
      try simp only [Act.put, List.setIfInBounds_toArray, List.set_cons_zero, List.set_cons_succ]
      refine calm_take (v := ?vy2) (by rfl) ?ey2 ?ry2
      case ey2 => (intro w' hw'; obtain ⟨⟨m0, m1, m2, m3⟩, m4, m5, m6⟩ := open0.out w' hw'; go_simp; try with_reducible rfl)
      try simp only [Act.put, List.setIfInBounds_toArray, List.set_cons_zero, List.set_cons_succ]
      refine calm_take (v := ?vy3) (by rfl) ?ey3 ?ry3
      case ey3 => (intro w' hw'; obtain ⟨⟨m0, m1, m2, m3⟩, m4, m5, m6⟩ := open0.out w' hw'; go_simp; try with_reducible rfl)
      try simp only [Act.put, List.setIfInBounds_toArray, List.set_cons_zero, List.set_cons_succ]
      refine calm_take (v := ?vy4) (by rfl) ?ey4 ?ry4
      case ey4 => (intro w' hw'; obtain ⟨⟨m0, m1, m2, m3⟩, m4, m5, m6⟩ := open0.out w' hw'; go_simp; try with_reducible rfl)
      try simp only [Act.put, List.setIfInBounds_toArray, List.set_cons_zero, List.set_cons_succ]
      refine calm_take (v := ?vy5) (by rfl) ?ey5 ?ry5
      case ey5 => (intro w' hw'; obtain ⟨⟨m0, m1, m2, m3⟩, m4, m5, m6⟩ := open0.out w' hw'; go_simp; try with_reducible rfl)
      try simp only [Act.put, List.setIfInBounds_toArray, List.set_cons_zero, List.set_cons_succ]
      refine calm_call (v := .agg #[.int .i64 X, .int .i64 Y, .int .i64 Q]) (f := ?fy6) (args := ?ay6) (by rfl) ?ey6 ?cy6 ?ry6
      case ey6 => (intro w' hw'; obtain ⟨⟨m0, m1, m2, m3⟩, m4, m5, m6⟩ := open0.out w' hw'; go_simp; first | (with_reducible rfl) | (refine ⟨?_, ?_⟩ <;> with_reducible rfl))
      case cy6 => (intro w' hw'; with_reducible exact calm_retC hw' (cS.out w' hw'))
      try simp only [Act.put, List.setIfInBounds_toArray, List.set_cons_zero, List.set_cons_succ]
      refine wpQuiet_nil (fun w' hw' => ?_)
      obtain ⟨th, key2⟩ := key.out w' hw'
      clear open0 key
      go_wp2_with (refine wpList_store_mid rfl _ _ _ rfl P 0 _ rfl rfl ?_ sizeCo (oneCo _ _ _) ?_; (exact th); generalize hW : World.setCells _ _ _ _ = w5; (have H := key2 w5 hW); clear hW; obtain ⟨hbox5, hb5⟩ := H)
      go_roundw
      case rel => exact ⟨k + 1, X, Y, Q, by omega, by go_num, hLn', hbox5, hb5⟩
      case measure => simp [intOf]; omega
    · obtain rfl : k = O.length := by omega
      have hfin : Hid (aftV Z O G0 = [x, y, z]) := Lib.hid (by rw [hV.out]; simp; exact hL.out.symm)
      have hrow := Lib.hid (hbox.out.row hwP)
      go_wp2
      go_ret2
      exact rowCE_mk (by rw [← hG0'.out]; exact hfin.out) (by rw [← hG0'.out]; exact hC.out) hrow.out hb.out
end Go.Proofs.YtgfhjcbmilaegaaGreatDoor
namespace Go.Proofs.YtgfhjcbmilaegaaGreatDoor
open Go.ChangeShapes Go.WideShapes Go.ChangeAt Go.RowKit Go.Deep
set_option linter.unusedVariables false
set_option linter.unusedSimpArgs false
set_option maxRecDepth 1000000
/-- parts of n coats -/
def parB (n : Nat) (P : List Int) : Bool := decide (P.length = n) && allI P 0 1000 && !allI P 0 0
/-- the sum of the parts, and of one of the three numbers -/
def psF (P : List Int) (i : Nat) : Int := P.getD i 0
def mxP (Z : List Ct) (P : List Int) (k i : Nat) : Int := (Z.getD i ct0).col.getD k 0 * P.getD i 0
def mix1 (Z : List Ct) (P : List Int) (k : Nat) : Int := rnd (sumK (mxP Z P k) P.length) (sumK (psF P) P.length)
def mix3 (Z : List Ct) (P : List Int) : List Int := [mix1 Z P 0, mix1 Z P 1, mix1 Z P 2]
def mixC (Z : List Ct) (P : List Int) : Int := if ctsB Z = true then code (parB Z.length P) 7 else 1
def mixV (Z : List Ct) (P : List Int) : List Int := if ctsB Z = true then (if parB Z.length P = true then mix3 Z P else []) else []
theorem sumK_bd {f : Nat → Int} {lo hi : Int} : ∀ n, (∀ i, i < n → lo ≤ f i ∧ f i ≤ hi) → lo * n ≤ sumK f n ∧ sumK f n ≤ hi * n
  | 0, _ => by unfold sumK; simp
  | n + 1, h => by
    have h1 := sumK_bd n (fun i hi => h i (by omega))
    have h2 := h n (by omega)
    have e1 : lo * ((n + 1 : Nat) : Int) = lo * n + lo := by rw [show ((n + 1 : Nat) : Int) = (n : Int) + 1 by omega, Int.mul_add, Int.mul_one]
    have e2 : hi * ((n + 1 : Nat) : Int) = hi * n + hi := by rw [show ((n + 1 : Nat) : Int) = (n : Int) + 1 by omega, Int.mul_add, Int.mul_one]
    rw [e1, e2]
    unfold sumK
    omega
theorem parB_facts {n : Nat} {P : List Int} (h : parB n P = true) : P.length = n ∧ (∀ i, i < P.length → 0 ≤ P.getD i 0 ∧ P.getD i 0 ≤ 1000) := by
  unfold parB at h
  obtain ⟨h1, _⟩ := Bool.and_eq_true_iff.1 h
  obtain ⟨h1, h2⟩ := Bool.and_eq_true_iff.1 h1
  exact ⟨of_decide_eq_true h1, fun i hi => allI_iff.1 h2 _ (by rw [getD_of _ hi]; exact List.getElem_mem hi)⟩
theorem ps_pos {P : List Int} (h1 : ∀ i, i < P.length → 0 ≤ P.getD i 0) : (sumK (psF P) P.length = 0) ↔ allI P 0 0 = true := by
  have key : ∀ n, n ≤ P.length → 0 ≤ sumK (psF P) n ∧ (sumK (psF P) n = 0 ↔ ∀ i, i < n → P.getD i 0 = 0) := by
    intro n
    induction n with
    | zero => intro _; exact ⟨Int.le_refl _, ⟨fun _ i hi => by omega, fun _ => rfl⟩⟩
    | succ n ih =>
      intro hn
      obtain ⟨a, b⟩ := ih (by omega)
      have c := h1 n (by omega)
      have e : sumK (psF P) (n + 1) = sumK (psF P) n + P.getD n 0 := rfl
      refine ⟨by omega, ⟨fun h i hi => ?_, fun h => ?_⟩⟩
      · by_cases hin : i = n
        · subst hin; omega
        · exact b.1 (by omega) i (by omega)
      · have := b.2 (fun i hi => h i (by omega))
        have := h n (by omega)
        omega
  rw [(key _ (Nat.le_refl _)).2, allI_iff]
  constructor
  · intro h n hn
    obtain ⟨i, hi, rfl⟩ := List.mem_iff_getElem.1 hn
    have := h i hi
    rw [getD_of _ hi] at this
    omega
  · intro h i hi
    have := h _ (List.getElem_mem hi)
    rw [getD_of _ hi]
    omega
theorem ps_bd {n : Nat} {P : List Int} (h : parB n P = true) : ∀ k, k ≤ P.length → 0 ≤ sumK (psF P) k ∧ sumK (psF P) k ≤ 1000 * k := fun k hk => by
  have := sumK_bd (f := psF P) (lo := 0) (hi := 1000) k (fun i hi => (parB_facts h).2 i (by omega))
  omega
theorem ps_tot {n : Nat} {P : List Int} (h : parB n P = true) : 1 ≤ sumK (psF P) P.length := by
  have h1 := (ps_bd h _ (Nat.le_refl _)).1
  have h2 := ps_pos (P := P) (fun i hi => ((parB_facts h).2 i hi).1)
  have h3 : allI P 0 0 = false := by
    unfold parB at h
    have := (Bool.and_eq_true_iff.1 h).2
    simpa using this
  by_cases h4 : sumK (psF P) P.length = 0
  · rw [h2.1 h4] at h3; cases h3
  · omega
theorem mx_one {Z : List Ct} {P : List Int} (hz : ctsB Z = true) (h : parB Z.length P = true) {k i : Nat} (hk : k < 3) (hi : i < P.length) : (0 ≤ (Z.getD i ct0).col.getD k 0 ∧ (Z.getD i ct0).col.getD k 0 ≤ 255) ∧ 0 ≤ mxP Z P k i ∧ mxP Z P k i ≤ 255000 := by
  have hp := (parB_facts h).2 i hi
  have hl := (parB_facts h).1
  have hc := cts_col hz (k := i) (by omega)
  rw [← cts_getD (by omega : i < Z.length)] at hc
  obtain ⟨a, b, c, e, ha, hb, hc9⟩ := col3_of hc
  unfold mxP
  rw [e]
  have key : ∀ y : Int, 0 ≤ y ∧ y ≤ 255 → (0 ≤ y ∧ y ≤ 255) ∧ 0 ≤ y * P.getD i 0 ∧ y * P.getD i 0 ≤ 255000 := fun y hy => by
    refine ⟨hy, Int.mul_nonneg hy.1 hp.1, ?_⟩
    have h1 : y * P.getD i 0 ≤ 255 * P.getD i 0 := Int.mul_le_mul_of_nonneg_right hy.2 hp.1
    omega
  match k, hk with
  | 0, _ => exact key a ha
  | 1, _ => exact key b hb
  | 2, _ => exact key c hc9
theorem mx_bd {Z : List Ct} {P : List Int} (hz : ctsB Z = true) (h : parB Z.length P = true) {k : Nat} (hk : k < 3) : ∀ n, n ≤ P.length → 0 ≤ sumK (mxP Z P k) n ∧ sumK (mxP Z P k) n ≤ 255000 * n := fun n hn => by
  have := sumK_bd (f := mxP Z P k) (lo := 0) (hi := 255000) n (fun i hi => (mx_one hz h hk (by omega)).2)
  omega
theorem rnd_small {a b : Int} (ha : 0 ≤ a ∧ a ≤ 100000000) (hb : 1 ≤ b ∧ b ≤ 100000000) : 0 ≤ rnd a b ∧ rnd a b ≤ 100000001 := by
  unfold rnd
  rw [if_neg (by omega), if_neg (by omega), rp_pos (by omega)]
  refine ⟨Int.ediv_nonneg (by omega) (by omega), ?_⟩
  have := Int.ediv_le_self (a := 2 * a + b) (2 * b) (by omega)
  have h2 : (2 * a + b) / (2 * b) ≤ a + 1 := by
    refine Int.ediv_le_of_le_mul (by omega) ?_
    have h3 : a * 1 ≤ a * b := Int.mul_le_mul_of_nonneg_left hb.1 ha.1
    have e : (a + 1) * (2 * b) = 2 * (a * b) + 2 * b := by rw [Int.add_mul, Int.one_mul, Int.mul_left_comm]
    rw [e]
    omega
  omega
theorem mix1_in {Z : List Ct} {P : List Int} (hz : ctsB Z = true) (h : parB Z.length P = true) {k : Nat} (hk : k < 3) : inI (mix1 Z P k) := by
  have h1 := mx_bd hz h hk _ (Nat.le_refl P.length)
  have h2 := ps_bd h _ (Nat.le_refl P.length)
  have h3 := ps_tot h
  have h4 := (parB_facts h).1
  have h5 := cts_len hz
  have := rnd_small (a := sumK (mxP Z P k) P.length) (b := sumK (psF P) P.length) (by omega) (by omega)
  unfold mix1 inI
  omega
theorem mix_in (Z : List Ct) (P : List Int) : (∀ n ∈ mixV Z P, inI n) ∧ (mixV Z P).length ≤ 1048576 := by
  unfold mixV
  by_cases h1 : ctsB Z = true
  · rw [if_pos h1]
    by_cases h2 : parB Z.length P = true
    · rw [if_pos h2]
      refine ⟨fun n hn => ?_, by simp [mix3]⟩
      simp [mix3] at hn
      rcases hn with rfl | rfl | rfl
      · exact mix1_in h1 h2 (by decide)
      · exact mix1_in h1 h2 (by decide)
      · exact mix1_in h1 h2 (by decide)
    · rw [if_neg h2]; exact ⟨fun n hn => (by cases hn), by simp⟩
  · rw [if_neg h1]; exact ⟨fun n hn => (by cases hn), by simp⟩
theorem areParts_any (v : Value) (P : List Int) (n : Nat) (w : World) (hP : P.length ≤ 1048576) (hn : n ≤ 1048576) (hv : IntsAt w v P) : Calls Tryz.prog 31 #[v, .int .i64 (n : Int)] w fun e w' => e = .returned (.bool (parB n P)) ∧ Below w.heap.size w w' := by
  have cA := allWithin_any v P 0 1000 w (by unfold maxLen; omega) hv
  have cB := fun W (hb : Below w.heap.size w W) => allWithin_any v P 0 0 W (by unfold maxLen; omega) (hv.below hb)
  have hx : Hid (parB n P = (decide (P.length = n) && allI P 0 1000 && !allI P 0 0)) := Lib.hid rfl
  obtain ⟨q, hq⟩ : ∃ q, q = allI P 0 1000 := ⟨_, rfl⟩
  obtain ⟨r, hr⟩ : ∃ r, r = allI P 0 0 := ⟨_, rfl⟩
  rw [← hq] at cA hx
  rw [← hr] at cB hx
  replace cA := Lib.hid cA
  replace cB := Lib.hid cB
  obtain ⟨a0, cap, rfl, _, _, _⟩ := hv
  clear hq hr
  by_cases h3 : P.length = n
  · rw [h3] at cA cB ⊢
    have hx2 : Hid (parB n P = (q && !r)) := Lib.hid (by rw [hx.out, h3]; simp)
    clear hx h3 hP
    have hee : ((n : Int) == (n : Int)) = true := beq_self_eq_true _
    cases q
    · go_enter Tryz.func31, Tryz.ntmps31
      go_wp2_with (go_at_call 49; (with_reducible refine cA.out.mono ?_); rintro e w1 ⟨rfl, b1⟩)
      go_ret
      exact ⟨ret_bool (by rw [hx2.out]; rfl), b1⟩
    · cases r
      all_goals
        go_enter Tryz.func31, Tryz.ntmps31
        go_wp2_with (first | (go_at_call 49; (with_reducible refine cA.out.mono ?_); rintro e w1 ⟨rfl, b1⟩) | (go_at_call 49; (with_reducible refine (cB.out _ b1).mono ?_); rintro e w2 ⟨rfl, b2⟩))
        go_ret
        exact ⟨ret_bool (by rw [hx2.out]; rfl), below2 b1 b2⟩
  · have hne : ((P.length : Int) == (n : Int)) = false := by (rw [beq_eq_false_iff_ne]; omega)
    go_enter Tryz.func31, Tryz.ntmps31
    go_wp2
    go_ret
    exact ⟨ret_bool (by rw [hx.out]; simp [h3]), Below.refl _ _⟩
end Go.Proofs.YtgfhjcbmilaegaaGreatDoor
namespace Go.Proofs.YtgfhjcbmilaegaaGreatDoor
set_option linter.unusedVariables false
set_option linter.unusedSimpArgs false
/-- the sum of the first k numbers -/
def sumF (f : Nat → Int) : Nat → Int
  | 0 => 0
  | k + 1 => sumF f k + f k
theorem sumF_bd {f : Nat → Int} {lo hi : Int} : ∀ n, (∀ i, i < n → lo ≤ f i ∧ f i ≤ hi) → lo * n ≤ sumF f n ∧ sumF f n ≤ hi * n
  | 0, _ => by simp [sumF]
  | n + 1, h => by
    have h1 := sumF_bd n (fun i hi => h i (by omega))
    have h2 := h n (by omega)
    unfold sumF
    rw [show ((n + 1 : Nat) : Int) = (n : Int) + 1 by omega, Int.mul_add, Int.mul_add, Int.mul_one, Int.mul_one]
    omega
/-- the place of the greatest of the first n numbers, the first one of several -/
def fgI (f : Nat → Int) : Nat → Nat
  | 0 => 0
  | k + 1 => if f (fgI f k) < f k then k else fgI f k
theorem fgI_lt {f : Nat → Int} : ∀ n, 0 < n → fgI f n < n
  | 1, _ => by unfold fgI fgI; split <;> omega
  | n + 2, _ => by
    have := fgI_lt (f := f) (n + 1) (by omega)
    unfold fgI
    split <;> omega
theorem fgI_ge {f : Nat → Int} : ∀ n i, i < n → f i ≤ f (fgI f n)
  | n + 1, i, hi => by
    rcases Nat.lt_or_ge i n with h | h
    · have := fgI_ge (f := f) n i h
      unfold fgI
      split <;> omega
    · obtain rfl : i = n := by omega
      unfold fgI
      split <;> omega
theorem fgI_one (f : Nat → Int) : fgI f 1 = 0 := by unfold fgI fgI; split <;> omega
theorem fgI_first {f : Nat → Int} : ∀ n i, i < fgI f n → f i < f (fgI f n)
  | 0, i, hi => by unfold fgI at hi; omega
  | n + 1, i, hi => by
    unfold fgI at hi ⊢
    by_cases h : f (fgI f n) < f n
    · rw [if_pos h] at hi ⊢
      have := fgI_ge (f := f) n i hi
      omega
    · rw [if_neg h] at hi ⊢
      exact fgI_first n i hi
theorem fgI_congr {f g : Nat → Int} : ∀ n, (∀ i, i < n → f i = g i) → fgI f n = fgI g n
  | 0, _ => rfl
  | n + 1, h => by
    have h1 := fgI_congr n (fun i hi => h i (by omega))
    unfold fgI
    rw [h1]
    rcases Nat.eq_zero_or_pos n with h0 | h0
    · subst h0
      rw [show fgI g 0 = 0 from rfl, h 0 (by omega)]
    · rw [h _ (by have := fgI_lt (f := g) n h0; omega), h n (by omega)]
/-- the greatest of the first n numbers and 0 -/
def mxF (f : Nat → Int) : Nat → Int
  | 0 => 0
  | k + 1 => max (mxF f k) (f k)
theorem mxF_fg {f : Nat → Int} : ∀ n, 0 < n → (∀ i, i < n → 0 ≤ f i) → mxF f n = f (fgI f n)
  | 1, _, h => by
    have := h 0 (by omega)
    rw [fgI_one]
    unfold mxF mxF
    omega
  | n + 2, _, h => by
    have h1 := mxF_fg (f := f) (n + 1) (by omega) (fun i hi => h i (by omega))
    show max (mxF f (n + 1)) (f (n + 1)) = f (fgI f (n + 2))
    rw [h1]
    show _ = f (if f (fgI f (n + 1)) < f (n + 1) then n + 1 else fgI f (n + 1))
    split <;> omega
theorem mxF_bd {f : Nat → Int} {M : Int} (hM : 0 ≤ M) : ∀ n, (∀ i, i < n → f i ≤ M) → 0 ≤ mxF f n ∧ mxF f n ≤ M
  | 0, _ => by unfold mxF; omega
  | n + 1, h => by
    have h1 := mxF_bd hM n (fun i hi => h i (by omega))
    have h2 := h n (by omega)
    unfold mxF
    omega
/-- how often a positive number must be taken to reach a goal -/
def ltV (e g : Int) : Int := (max 0 g + e - 1) / e
theorem ltV_spec {e g : Int} (he : 0 < e) : 0 ≤ ltV e g ∧ g ≤ e * ltV e g ∧ (∀ k : Int, 0 ≤ k → g ≤ e * k → ltV e g ≤ k) := by
  unfold ltV
  have h1 := Int.mul_ediv_add_emod (max 0 g + e - 1) e
  have h2 := Int.emod_nonneg (max 0 g + e - 1) (by omega : e ≠ 0)
  have h3 := Int.emod_lt_of_pos (max 0 g + e - 1) he
  refine ⟨Int.ediv_nonneg (by omega) (by omega), by omega, fun k hk hg => ?_⟩
  have hmax : max 0 g ≤ e * k := by
    have := Int.mul_nonneg (by omega : 0 ≤ e) hk
    omega
  have : max 0 g + e - 1 < (k + 1) * e := by
    rw [Int.add_mul, Int.one_mul, Int.mul_comm k e]; omega
  have := Int.ediv_lt_of_lt_mul he this
  omega
theorem ltV_bd {e g G : Int} (he : 0 < e) (hg : g ≤ G) (hG : 0 ≤ G) : 0 ≤ ltV e g ∧ ltV e g ≤ G := by
  have h := ltV_spec (g := g) he
  refine ⟨h.1, h.2.2 G hG ?_⟩
  have : 1 * G ≤ e * G := Int.mul_le_mul_of_nonneg_right (by omega) hG
  omega
end Go.Proofs.YtgfhjcbmilaegaaGreatDoor
namespace Go.Proofs.YtgfhjcbmilaegaaGreatDoor
open Go.ChangeShapes Go.WideShapes Go.ChangeAt Go.RowKit Go.Deep
set_option linter.unusedVariables false
set_option linter.unusedSimpArgs false
set_option maxRecDepth 1000000
set_option maxHeartbeats 3200000 in
theorem firstGreatest_any (g : Nat) (cb : Array Value) (n : Nat) (f : Nat → Int) (w : World) (eg : ∀ args w, (callFunc g args).run Tryz.prog w = .ok (.enter g args) w) (hn0 : 1 ≤ n) (hn : n ≤ 1000000)
    (hf : ∀ (W : World) (i : Nat), Below w.heap.size w W → i < n → Calls Tryz.prog g (#[.int .i64 (i : Int)] ++ cb) W fun e w' => e = .returned (.int .i64 (f i)) ∧ Below W.heap.size W w') :
    Calls Tryz.prog 33 #[.int .i64 n, .func (.func g) #[] cb] w fun e w' => e = .returned (.tuple #[.int .i64 (fgI f n : Nat), .int .i64 (f (fgI f n))]) ∧ Below w.heap.size w w' := by
  have hf' := Lib.hid hf
  have h0 := hf w 0 (Below.refl _ _) (by omega)
  have h0' : Calls Tryz.prog g (#[.int .i64 0] ++ cb) w fun e w' => e = .returned (.int .i64 (f 0)) ∧ Below w.heap.size w w' := h0
  have hc := Lib.hid h0'
  obtain ⟨z, hz⟩ : ∃ z, z = f 0 := ⟨_, rfl⟩
  rw [← hz] at hc
  have hz' : Hid (z = f (fgI f 0)) := Lib.hid hz
  clear hf h0 h0' hz
  go_enter Tryz.func33, Tryz.ntmps33
  go_wp2_with (go_at_fn g; refine hc.out.mono ?_; rintro e w1 ⟨rfl, b1⟩)
  go_loopw [6, 7, 13] (fun q r i wr => ∃ (k x : Nat) (y : Int), k ≤ n ∧ i = .int .i64 k ∧ q = .int .i64 x ∧ r = .int .i64 y ∧ Hid (x = fgI f k) ∧ Hid (y = f (fgI f k)) ∧ Hid (Below w.heap.size w wr)) (fun _ _ i _ => n - (intOf i).toNat)
  case atStart => exact ⟨0, 0, z, by omega, rfl, rfl, rfl, Lib.hid rfl, hz', Lib.hid b1⟩
  case round =>
    obtain ⟨k, x, y, hk, rfl, rfl, rfl, hx, hy, hbR⟩ := hrel
    by_cases hlt : k < n
    · have hltI : (k : Int) < (n : Int) := by omega
      have hC0 := hf'.out wr k hbR.out hlt
      obtain ⟨u, hu⟩ : ∃ u, u = f k := ⟨_, rfl⟩
      rw [← hu] at hC0
      have hC := Lib.hid hC0
      clear hC0
      by_cases hgt : y < u
      · have hn1 : Hid (fgI f (k + 1) = k) := Lib.hid (by show (if f (fgI f k) < f k then k else fgI f k) = k; rw [← hy.out, ← hu, if_pos hgt])
        have hu' : Hid (u = f (fgI f (k + 1))) := Lib.hid (by rw [hn1.out, hu])
        clear hu
        go_wp2_with (go_at_fn g; refine hC.out.mono ?_; rintro e w2 ⟨rfl, b2⟩)
        go_roundw
        case rel => exact ⟨k + 1, k, u, by omega, by go_num, rfl, rfl, Lib.hid hn1.out.symm, hu', Lib.hid (below2 hbR.out b2)⟩
        case measure => simp [intOf]; omega
      · have hn1 : Hid (fgI f (k + 1) = fgI f k) := Lib.hid (by show (if f (fgI f k) < f k then k else fgI f k) = fgI f k; rw [← hy.out, ← hu, if_neg hgt])
        clear hu
        go_wp2_with (go_at_fn g; refine hC.out.mono ?_; rintro e w2 ⟨rfl, b2⟩)
        go_roundw
        case rel => exact ⟨k + 1, x, y, by omega, by go_num, rfl, rfl, Lib.hid (by rw [hn1.out]; exact hx.out), Lib.hid (by rw [hn1.out]; exact hy.out), Lib.hid (below2 hbR.out b2)⟩
        case measure => simp [intOf]; omega
    · obtain rfl : k = n := by omega
      go_wp2
      go_ret2
      exact ⟨ret_int2 (by rw [hx.out]) hy.out, hbR.out⟩
set_option maxHeartbeats 3200000 in
theorem firstGreatestB_any (g : Nat) (r : Value) (n : Nat) (f : Nat → Int) (w : World) (eg : ∀ args w, (callFunc g args).run Tryz.prog w = .ok (.enter g args) w) (hn0 : 1 ≤ n) (hn : n ≤ 1000000)
    (hf : ∀ (W : World) (i : Nat), Below w.heap.size w W → i < n → Calls Tryz.prog g #[r, .int .i64 (i : Int)] W fun e w' => e = .returned (.int .i64 (f i)) ∧ Below W.heap.size W w') :
    Calls Tryz.prog 33 #[.int .i64 n, .func (.func g) #[r] #[]] w fun e w' => e = .returned (.tuple #[.int .i64 (fgI f n : Nat), .int .i64 (f (fgI f n))]) ∧ Below w.heap.size w w' := by
  have hf' := Lib.hid hf
  have h0 := hf w 0 (Below.refl _ _) (by omega)
  have h0' : Calls Tryz.prog g #[r, .int .i64 0] w fun e w' => e = .returned (.int .i64 (f 0)) ∧ Below w.heap.size w w' := h0
  have hc := Lib.hid h0'
  obtain ⟨z, hz⟩ : ∃ z, z = f 0 := ⟨_, rfl⟩
  rw [← hz] at hc
  have hz' : Hid (z = f (fgI f 0)) := Lib.hid hz
  clear hf h0 h0' hz
  go_enter Tryz.func33, Tryz.ntmps33
  go_wp2_with (go_at_fn g; refine hc.out.mono ?_; rintro e w1 ⟨rfl, b1⟩)
  go_loopw [6, 7, 13] (fun q r i wr => ∃ (k x : Nat) (y : Int), k ≤ n ∧ i = .int .i64 k ∧ q = .int .i64 x ∧ r = .int .i64 y ∧ Hid (x = fgI f k) ∧ Hid (y = f (fgI f k)) ∧ Hid (Below w.heap.size w wr)) (fun _ _ i _ => n - (intOf i).toNat)
  case atStart => exact ⟨0, 0, z, by omega, rfl, rfl, rfl, Lib.hid rfl, hz', Lib.hid b1⟩
  case round =>
    obtain ⟨k, x, y, hk, rfl, rfl, rfl, hx, hy, hbR⟩ := hrel
    by_cases hlt : k < n
    · have hltI : (k : Int) < (n : Int) := by omega
      have hC0 := hf'.out wr k hbR.out hlt
      obtain ⟨u, hu⟩ : ∃ u, u = f k := ⟨_, rfl⟩
      rw [← hu] at hC0
      have hC := Lib.hid hC0
      clear hC0
      by_cases hgt : y < u
      · have hn1 : Hid (fgI f (k + 1) = k) := Lib.hid (by show (if f (fgI f k) < f k then k else fgI f k) = k; rw [← hy.out, ← hu, if_pos hgt])
        have hu' : Hid (u = f (fgI f (k + 1))) := Lib.hid (by rw [hn1.out, hu])
        clear hu
        go_wp2_with (go_at_fn g; refine hC.out.mono ?_; rintro e w2 ⟨rfl, b2⟩)
        go_roundw
        case rel => exact ⟨k + 1, k, u, by omega, by go_num, rfl, rfl, Lib.hid hn1.out.symm, hu', Lib.hid (below2 hbR.out b2)⟩
        case measure => simp [intOf]; omega
      · have hn1 : Hid (fgI f (k + 1) = fgI f k) := Lib.hid (by show (if f (fgI f k) < f k then k else fgI f k) = fgI f k; rw [← hy.out, ← hu, if_neg hgt])
        clear hu
        go_wp2_with (go_at_fn g; refine hC.out.mono ?_; rintro e w2 ⟨rfl, b2⟩)
        go_roundw
        case rel => exact ⟨k + 1, x, y, by omega, by go_num, rfl, rfl, Lib.hid (by rw [hn1.out]; exact hx.out), Lib.hid (by rw [hn1.out]; exact hy.out), Lib.hid (below2 hbR.out b2)⟩
        case measure => simp [intOf]; omega
    · obtain rfl : k = n := by omega
      go_wp2
      go_ret2
      exact ⟨ret_int2 (by rw [hx.out]) hy.out, hbR.out⟩
end Go.Proofs.YtgfhjcbmilaegaaGreatDoor
namespace Go.Proofs.YtgfhjcbmilaegaaGreatDoor
open Go.ChangeShapes Go.WideShapes Go.ChangeAt Go.RowKit Go.Deep
set_option linter.unusedVariables false
set_option linter.unusedSimpArgs false
set_option maxRecDepth 1000000
def covF (Z : List Ct) (i : Nat) : Int := (Z.getD i ct0).cover
theorem covF_at {Z : List Ct} {k : Nat} (h : k < Z.length) : covF Z k = Z[k].cover := by unfold covF; rw [ct_getD_at' h]
def strV (Z : List Ct) : Int := if ctsB Z = true then (if Z.length = 0 then 0 else ((fgI (covF Z) Z.length : Nat) : Int)) else 0
def strC (Z : List Ct) : Int := if ctsB Z = true then (if Z.length = 0 then 3 else 0) else 1
theorem strongest1_any (bx : Nat) (v : Value) (Z : List Ct) (k : Nat) (w : World) (hk : k < Z.length) (h10 : Z.length ≤ 10) (hc : w.cell? ⟨bx, 0, none⟩ = some v) (hv : CtsAt w v Z) : Calls Tryz.prog 34 #[.int .i64 (k : Int), .pointer (some ⟨bx, 0, none⟩)] w fun e w' => e = .returned (.int .i64 (covF Z k)) ∧ Below w.heap.size w w' := by
  have hx := Lib.hid (covF_at hk)
  obtain ⟨a0, cap, rfl, hcap, hids, hread⟩ := hv
  rcases hread with h | ⟨g, o, rfl, hg, hr⟩
  · subst h; simp at hk
  have hkI : (k : Int) < (Z.length : Int) := by omega
  have c2 : w.cell? ⟨g, o + k * 4 + 2, none⟩ = some (.int .i64 Z[k].cover) := by obtain ⟨_, huk, _⟩ := hr k hk; exact huk 2 _ rfl
  obtain ⟨z, hz⟩ : ∃ z, z = Z[k].cover := ⟨_, rfl⟩
  rw [← hz] at c2 hx
  clear hr hids hz
  go_enter Tryz.func34, Tryz.ntmps34
  go_wp2
  go_ret
  exact ⟨ret_int hx.out.symm, Below.refl _ _⟩
set_option maxHeartbeats 1600000 in
theorem implStrongestCoat_any (v : Value) (Z : List Ct) (w : World) (hn : Z.length ≤ 1048576) (hv : CtsAt w v Z) : Calls Tryz.prog 15 #[v] w fun e w' => e = .returned (.tuple #[.int .i64 (strV Z), .int .i64 (strC Z)]) ∧ Below w.heap.size w w' := by
  have hv' := Lib.hid hv
  obtain ⟨a0, cap, rfl, hcap, hids, hread⟩ := hv
  clear hread hids
  have hB0 : Below w.heap.size w (w.alloc (.cells #[.slice a0 Z.length cap] 24)) := (Below.refl _ _).alloc (Nat.le_refl _) _
  have q1 : (w.alloc (.cells #[.slice a0 Z.length cap] 24)).cell? ⟨w.heap.size, 0, none⟩ = some (.slice a0 Z.length cap) := cellB (heap_alloc_new w (.cells #[.slice a0 Z.length cap] 24)) 0 _ rfl
  have hsz : w.heap.size < (w.alloc (.cells #[.slice a0 Z.length cap] 24)).heap.size := by simp
  have cV := implValidCoats_any (.slice a0 Z.length cap) Z (w.alloc (.cells #[.slice a0 Z.length cap] 24)) hn (hv'.out.below hB0)
  have hV : Hid (strV Z = if ctsB Z = true then (if Z.length = 0 then 0 else ((fgI (covF Z) Z.length : Nat) : Int)) else 0) := Lib.hid rfl
  have hC : Hid (strC Z = if ctsB Z = true then (if Z.length = 0 then 3 else 0) else 1) := Lib.hid rfl
  cases h1 : ctsB Z <;> rw [h1] at cV hV hC <;> replace cV := Lib.hid cV
  · go_enter Tryz.func15, Tryz.ntmps15
    go_wp2_with (go_at_call 11; (with_reducible refine cV.out.mono ?_); rintro e w1 ⟨rfl, b1⟩)
    go_ret2
    exact ⟨ret_int2 (by rw [hV.out]; simp) (by rw [hC.out]; simp), below2 hB0 b1⟩
  have h10 := cts_len h1
  by_cases hz0 : Z.length = 0
  · have hb9 := Lib.hid (And.intro hB0 hsz)
    rw [hz0] at cV q1 hV hC hb9 ⊢
    clear hv' hB0 hsz h1 h10
    go_enter Tryz.func15, Tryz.ntmps15
    go_wp2_with (go_at_call 11; (with_reducible refine cV.out.mono ?_); rintro e w1 ⟨rfl, b1⟩; have q2 := (b1.cell (p := ⟨w.heap.size, 0, none⟩) hb9.out.2).trans q1)
    go_ret2
    exact ⟨ret_int2 (by rw [hV.out]; simp) (by rw [hC.out]; simp), below2 hb9.out.1 b1⟩
  have h00 : 0 < Z.length := by omega
  have hzb : ((Z.length : Int) == 0) = false := by (rw [beq_eq_false_iff_ne]; omega)
  have cF := Lib.hid (fun W (hb : Below (w.alloc (.cells #[.slice a0 Z.length cap] 24)).heap.size (w.alloc (.cells #[.slice a0 Z.length cap] 24)) W) => firstGreatest_any 34 #[.pointer (some ⟨w.heap.size, 0, none⟩)] Z.length (covF Z) W (enters_of Tryz.func34 (by kernel_rfl) rfl) (by omega) (by omega) (fun W2 i hW hi =>
    strongest1_any w.heap.size (.slice a0 Z.length cap) Z i W2 hi h10 ((hW.cell (p := ⟨w.heap.size, 0, none⟩) (Nat.lt_of_lt_of_le hsz hb.size)).trans ((hb.cell (p := ⟨w.heap.size, 0, none⟩) hsz).trans q1)) (((hv'.out.below hB0).below hb).below hW)))
  go_enter Tryz.func15, Tryz.ntmps15
  go_wp2_with (first
    | (go_at_call 11; (with_reducible refine cV.out.mono ?_); rintro e w1 ⟨rfl, b1⟩; have q2 := (b1.cell (p := ⟨w.heap.size, 0, none⟩) hsz).trans q1)
    | (go_at_call 33; (with_reducible refine (cF.out _ b1).mono ?_); rintro e w2 ⟨rfl, b2⟩))
  go_ret2
  exact ⟨ret_int2 (by rw [hV.out]; simp [hz0]) (by rw [hC.out]; simp [hz0]), below2 hB0 (below2 b1 b2)⟩
end Go.Proofs.YtgfhjcbmilaegaaGreatDoor
namespace Go.Proofs.YtgfhjcbmilaegaaGreatDoor
open Go.ChangeShapes Go.WideShapes Go.ChangeAt Go.RowKit Go.Deep
set_option linter.unusedVariables false
set_option linter.unusedSimpArgs false
set_option maxRecDepth 1000000
/-- the colour after k coats of one kind -/
def itK (c : List Int) (v : Int) (G : List Int) : Nat → List Int
  | 0 => G
  | k + 1 => ov3 c v (itK c v G k)
theorem it_col {c : List Int} {v : Int} {G : List Int} (hc : col3 c) (hv : 0 ≤ v ∧ v ≤ 1000) (hG : col3 G) : ∀ k, col3 (itK c v G k)
  | 0 => hG
  | k + 1 => ov3_col hc hv (it_col hc hv hG k)
/-- the first from s on that p has, f of them are looked at -/
def fstK (p : Nat → Bool) : Nat → Nat → Nat
  | 0, s => s
  | f + 1, s => if p s = true then s else fstK p f (s + 1)
def fewP (b : Int) (L G H : List Int) (z : Int) (k : Nat) : Bool := decide (gapL (itK L b G k) H ≤ z)
def fewN (b : Int) (L G H : List Int) (z : Int) : Nat := fstK (fewP b L G H z) 11 0
def fewOk (s : ByteArray) (a b : Int) (L G H : List Int) : Bool := ctB ⟨s, a, b, L⟩ && colB G && colB H
def fewV (s : ByteArray) (a b : Int) (L G H : List Int) (z : Int) : Int := if fewOk s a b L G H = true then (if inB z 0 765 = true then (if fewN b L G H z < 11 then (fewN b L G H z : Int) else 0) else 0) else 0
def fewC (s : ByteArray) (a b : Int) (L G H : List Int) (z : Int) : Int := if fewOk s a b L G H = true then (if inB z 0 765 = true then (if fewN b L G H z < 11 then 0 else 3) else 2) else 1
end Go.Proofs.YtgfhjcbmilaegaaGreatDoor
