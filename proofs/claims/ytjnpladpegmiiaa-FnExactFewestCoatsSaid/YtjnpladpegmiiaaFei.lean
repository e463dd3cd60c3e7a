/-
  The fewest coats of one kind: the program's.
-/
import Derived.Test.YtjnpladpegmiiaaFew
namespace Go.Proofs.Ytjnpladpegmiiaa
open Go.ChangeShapes Go.WideShapes Go.ChangeAt Go.RowKit Go.Deep
set_option linter.unusedVariables false
set_option linter.unusedSimpArgs false
set_option maxRecDepth 1000000
set_option maxHeartbeats 3200000 in
theorem implFewestCoats_any (s : ByteArray) (a b : Int) (u : Value) (L : List Int) (v1 : Value) (G : List Int) (v2 : Value) (H : List Int) (z : Int) (w : World) (hs : s.size ≤ maxLen) (hL : L.length ≤ maxLen) (h0 : IntsAt w u L) (hG9 : G.length ≤ 1048576) (h1 : IntsAt w v1 G) (hH9 : H.length ≤ 1048576) (h2 : IntsAt w v2 H) : Calls Try.prog 32 #[.agg #[.string s, .int .i64 a, .int .i64 b, u], v1, v2, .int .i64 z] w fun e w' => e = .returned (.tuple #[.int .i64 (fewV s a b L G H z), .int .i64 (fewC s a b L G H z)]) ∧ Below w.heap.size w w' := by
  have hV : Hid (fewV s a b L G H z = if fewOk s a b L G H = true then (if inB z 0 765 = true then (if fewN b L G H z < 11 then (fewN b L G H z : Int) else 0) else 0) else 0) := Lib.hid rfl
  have hC : Hid (fewC s a b L G H z = if fewOk s a b L G H = true then (if inB z 0 765 = true then (if fewN b L G H z < 11 then 0 else 3) else 2) else 1) := Lib.hid rfl
  have hK : Hid (fewOk s a b L G H = (ctB ⟨s, a, b, L⟩ && colB G && colB H)) := Lib.hid rfl
  obtain ⟨q9, hB0, hsz⟩ := one_boxC w #[.string s, .int .i64 a, .int .i64 b, u] 45
  have x0 := q9 0 _ rfl
  have x1 := q9 1 _ rfl
  have x2 := q9 2 _ rfl
  have x3 := q9 3 _ rfl
  obtain ⟨W0, hW0⟩ : ∃ W0, W0 = (w.alloc (.cells #[.string s, .int .i64 a, .int .i64 b, u] 45)) := ⟨_, rfl⟩
  rw [← hW0] at x0 x1 x2 x3 hB0 hsz
  have hBx := heap_alloc_new w (.cells #[.string s, .int .i64 a, .int .i64 b, u] 45)
  rw [← hW0] at hBx
  have hat : CtAt W0 w.heap.size 0 ⟨s, a, b, L⟩ u := ⟨⟨x0, x1, x2, x3⟩, h0.below hB0⟩
  have cV := isValidCt_any s a b u L hs hL W0 (h0.below hB0)
  have cG := fun W (hb : Below W0.heap.size W0 W) => isColour_any v1 G W (by unfold maxLen; omega) ((h1.below hB0).below hb)
  have cH := fun W (hb : Below W0.heap.size W0 W) => isColour_any v2 H W (by unfold maxLen; omega) ((h2.below hB0).below hb)
  have cF := fun W => within64_any z 0 765 W
  have hrng : W0.rangeAt w.heap.size 0 [.string s, .int .i64 a, .int .i64 b, u] := fun j v hv => by rw [Nat.zero_add]; exact cellB hBx j v (by simpa using hv)
  have hat' := Lib.hid hat
  have hv1 := Lib.hid h1
  have hv2 := Lib.hid h2
  cases q0 : ctB ⟨s, a, b, L⟩
  · rw [q0] at cV hK
    replace cV := Lib.hid cV
    clear h0 h1 h2 hat cG cH cF
    go_enter Try.func32, Try.ntmps32
    go_upto_region 1 with fail
    rw [← hW0]
    clear hW0
    go_wp2_with (first | (refine wpList_load_mid rfl _ _ rfl w.heap.size 0 rfl _ _ hrng Try.underlying45 rfl rfl ?_) | (go_at_call 49; (with_reducible refine (cV.out).mono ?_); rintro e w1 ⟨rfl, b1⟩))
    go_ret2
    exact ⟨ret_int2 (by rw [hV.out, hK.out]; simp) (by rw [hC.out, hK.out]; simp), (below2 hB0 b1)⟩
  rw [q0] at cV hK
  cases q1 : colB G
  · rw [q1] at cG hK
    replace cV := Lib.hid cV
    replace cG := Lib.hid cG
    clear h0 h1 h2 hat cH cF
    go_enter Try.func32, Try.ntmps32
    go_upto_region 1 with fail
    rw [← hW0]
    clear hW0
    go_wp2_with (first | (refine wpList_load_mid rfl _ _ rfl w.heap.size 0 rfl _ _ hrng Try.underlying45 rfl rfl ?_) | (go_at_call 49; (with_reducible refine (cV.out).mono ?_); rintro e w1 ⟨rfl, b1⟩) | (go_at_call 56; (with_reducible refine (cG.out _ b1).mono ?_); rintro e w2 ⟨rfl, b2⟩))
    go_ret2
    exact ⟨ret_int2 (by rw [hV.out, hK.out]; simp) (by rw [hC.out, hK.out]; simp), (below2 hB0 (below2 b1 b2))⟩
  rw [q1] at cG hK
  cases q2 : colB H
  · rw [q2] at cH hK
    replace cV := Lib.hid cV
    replace cG := Lib.hid cG
    replace cH := Lib.hid cH
    clear h0 h1 h2 hat cF
    go_enter Try.func32, Try.ntmps32
    go_upto_region 1 with fail
    rw [← hW0]
    clear hW0
    go_wp2_with (first | (refine wpList_load_mid rfl _ _ rfl w.heap.size 0 rfl _ _ hrng Try.underlying45 rfl rfl ?_) | (go_at_call 49; (with_reducible refine (cV.out).mono ?_); rintro e w1 ⟨rfl, b1⟩) | (go_at_call 56; (with_reducible refine (cG.out _ b1).mono ?_); rintro e w2 ⟨rfl, b2⟩) | (go_at_call 56; (with_reducible refine (cH.out _ (below2 b1 b2)).mono ?_); rintro e w3 ⟨rfl, b3⟩))
    go_ret2
    exact ⟨ret_int2 (by rw [hV.out, hK.out]; simp) (by rw [hC.out, hK.out]; simp), (below2 hB0 (below2 (below2 b1 b2) b3))⟩
  rw [q2] at cH hK
  cases q3 : inB z 0 765
  · rw [q3] at cF hV hC
    replace cV := Lib.hid cV
    replace cG := Lib.hid cG
    replace cH := Lib.hid cH
    replace cF := Lib.hid cF
    clear h0 h1 h2 hat 
    go_enter Try.func32, Try.ntmps32
    go_upto_region 1 with fail
    rw [← hW0]
    clear hW0
    go_wp2_with (first | (refine wpList_load_mid rfl _ _ rfl w.heap.size 0 rfl _ _ hrng Try.underlying45 rfl rfl ?_) | (go_at_call 49; (with_reducible refine (cV.out).mono ?_); rintro e w1 ⟨rfl, b1⟩) | (go_at_call 56; (with_reducible refine (cG.out _ b1).mono ?_); rintro e w2 ⟨rfl, b2⟩) | (go_at_call 56; (with_reducible refine (cH.out _ (below2 b1 b2)).mono ?_); rintro e w3 ⟨rfl, b3⟩) | (go_at_call 64; (with_reducible refine (cF.out _).mono ?_); rintro e w4 ⟨rfl, rfl⟩))
    go_ret2
    exact ⟨ret_int2 (by rw [hV.out, hK.out]; simp) (by rw [hC.out, hK.out]; simp), (below2 hB0 (below2 (below2 b1 b2) b3))⟩
  rw [q3] at cF hV hC
  have hV2 : Hid (fewV s a b L G H z = if fewN b L G H z < 11 then (fewN b L G H z : Int) else 0) := Lib.hid (by rw [hV.out, hK.out]; simp)
  have hC2 : Hid (fewC s a b L G H z = if fewN b L G H z < 11 then 0 else 3) := Lib.hid (by rw [hC.out, hK.out]; simp)
  have hN : Hid (fewN b L G H z = fstK (fewP b L G H z) 11 0) := Lib.hid rfl
  have hbd := ct_bd q0
  have hcol := Lib.hid (it_col (col3_of hbd.2.2) hbd.2.1 (col3_of q1))
  have hbv := hbd.2.1
  obtain ⟨p, q, r, hLe, bp, bq, br⟩ := col3_of hbd.2.2
  obtain ⟨a', b', c', hHe, ba', bb', bc'⟩ := col3_of q2
  obtain ⟨e0', e1', e2', hGe, bx0, by0, bz0⟩ := col3_of q1
  have hGe' := Lib.hid hGe
  have hHe' := Lib.hid hHe
  have hLe' := Lib.hid hLe
  clear hV hC hK hbd q0 q1 q2 q3 hGe hHe hLe
  replace cV := Lib.hid cV
  replace cG := Lib.hid cG
  replace cH := Lib.hid cH
  replace cF := Lib.hid cF
  obtain ⟨g1, o1, u1c, hv1e, hg1, k0, k1, k2⟩ := row3 (w := w) (v := v1) (by have := hv1.out; rw [hGe'.out] at this; exact this)
  obtain ⟨g2, o2, u2c, hv2e, hg2, l0, l1, l2⟩ := row3 (w := w) (v := v2) (by have := hv2.out; rw [hHe'.out] at this; exact this)
  have hk1 : Hid (∀ W, Below W0.heap.size W0 W → W.cell? ⟨g1, o1, none⟩ = some (.int .i64 e0') ∧ W.cell? ⟨g1, o1 + 1, none⟩ = some (.int .i64 e1') ∧ W.cell? ⟨g1, o1 + 2, none⟩ = some (.int .i64 e2')) := Lib.hid (fun W hb => ⟨(bcell (below2 hB0 hb) _ _ hg1).trans k0, (bcell (below2 hB0 hb) _ _ hg1).trans k1, (bcell (below2 hB0 hb) _ _ hg1).trans k2⟩)
  have hk2 : Hid (∀ W, Below w.heap.size w W → W.cell? ⟨g2, o2, none⟩ = some (.int .i64 a') ∧ W.cell? ⟨g2, o2 + 1, none⟩ = some (.int .i64 b') ∧ W.cell? ⟨g2, o2 + 2, none⟩ = some (.int .i64 c')) := Lib.hid (fun W hb => ⟨(bcell hb _ _ hg2).trans l0, (bcell hb _ _ hg2).trans l1, (bcell hb _ _ hg2).trans l2⟩)
  subst hv1e
  subst hv2e
  obtain ⟨ua, uc, hue⟩ := intsShape h0
  subst hue
  have hrng' := Lib.hid hrng
  have h0' := Lib.hid h0
  clear h0 h1 h2 hat k0 k1 k2 l0 l1 l2
  go_enter Try.func32, Try.ntmps32
  go_upto_region 1 with fail
  rw [← hW0]
  clear hW0
  go_upto_region 6 with (first | (refine wpList_load_mid rfl _ _ rfl w.heap.size 0 rfl _ _ hrng Try.underlying45 rfl rfl ?_) | (go_at_call 49; (with_reducible refine (cV.out).mono ?_); rintro e w1 ⟨rfl, b1⟩) | (go_at_call 56; (with_reducible refine (cG.out _ b1).mono ?_); rintro e w2 ⟨rfl, b2⟩) | (go_at_call 56; (with_reducible refine (cH.out _ (below2 b1 b2)).mono ?_); rintro e w3 ⟨rfl, b3⟩) | (go_at_call 64; (with_reducible refine (cF.out _).mono ?_); rintro e w4 ⟨rfl, rfl⟩; obtain ⟨n0, n1, n2⟩ := hk1.out _ (below2 (below2 b1 b2) b3)) | (rw [run_arrayAt3 (by decide)]; go_simp))
  have b123 := below2 (below2 b1 b2) b3
  have hP0 : BoxC w3.heap.size e0' e1' e2' (w3.alloc (.cells #[.int .i64 e0', .int .i64 e1', .int .i64 e2'] 70)) := heap_alloc_new _ _
  have hB03 := below2 hB0 b123
  have hB4 : Below w.heap.size w (w3.alloc (.cells #[.int .i64 e0', .int .i64 e1', .int .i64 e2'] 70)) := hB03.alloc hB03.size _
  have hB04 : Below W0.heap.size W0 (w3.alloc (.cells #[.int .i64 e0', .int .i64 e1', .int .i64 e2'] 70)) := b123.alloc b123.size _
  have hwP : w.heap.size < w3.heap.size := Nat.lt_of_lt_of_le hsz b123.size
  generalize w3.alloc (.cells #[.int .i64 e0', .int .i64 e1', .int .i64 e2'] 70) = W4 at hP0 hB4 hB04 ⊢
  generalize w3.heap.size = P at hP0 hwP ⊢
  have hP0' := Lib.hid hP0
  have hB4' := Lib.hid hB4
  have hX0 := Lib.hid ((hB04.block _ hsz).trans hBx)
  have hL0 : Hid (([e0', e1', e2'] : List Int) = itK L b G 0) := Lib.hid hGe'.out.symm
  clear hP0 hB4 hB04 hB03 b123 b1 b2 b3 n0 n1 n2 cV cG cH cF hk1 hrng hrng' x0 x1 x2 x3 hBx q9 hat'
  go_wp2
  go_loopw [33] (fun i wr => ∃ (k : Nat) (x y z3 : Int), k ≤ 11 ∧ i = .int .i64 k ∧ Hid ([x, y, z3] = itK L b G k) ∧ Hid (fewN b L G H z = fstK (fewP b L G H z) (11 - k) k) ∧ Hid (BoxC P x y z3 wr) ∧ Hid (wr.heap[w.heap.size]? = some (.cells #[.string s, .int .i64 a, .int .i64 b, .slice ua L.length uc] 45 (0, 0))) ∧ Hid (Below w.heap.size w wr)) (fun i _ => 11 - (intOf i).toNat)
  case atStart => exact ⟨0, e0', e1', e2', by omega, rfl, hL0, hN, hP0', hX0, hB4'⟩
  case round =>
    obtain ⟨k, x, y, z3, hk, rfl, hCe, hNk, hbox, hX, hb⟩ := hrel
    by_cases hlt : k < 11
    · obtain ⟨x9, y9, z9, hCx, bx, by9, bz⟩ := hcol.out k
      have hpk : fewP b L G H z k = decide (gap3 x9 y9 z9 a' b' c' ≤ z) := by unfold fewP; rw [hCx, hHe'.out]; rfl
      rw [← hCe.out] at hCx
      injection hCx with hx9 hCx
      injection hCx with hy9 hCx
      injection hCx with hz9 _
      subst hx9 hy9 hz9
      obtain ⟨gg, hgg⟩ : ∃ gg, gg = gap3 x y z3 a' b' c' := ⟨_, rfl⟩
      have cP := fun W => gapTo_any x y z3 a' b' c' bx by9 bz ba' bb' bc' W
      rw [← hgg] at hpk
      rw [← hgg] at cP
      replace cP := Lib.hid cP
      have hkI : (k : Int) < 11 := by omega
      have hfs : Hid (fstK (fewP b L G H z) (11 - k) k = if fewP b L G H z k = true then k else fstK (fewP b L G H z) (11 - (k + 1)) (k + 1)) := Lib.hid (by rw [show 11 - k = (11 - (k + 1)) + 1 by omega]; rfl)
      have hlw := hb.out.size
      have hPl := ltOf hbox.out
      have keepH : Hid (∀ W1 W2, ((W1.cell? ⟨P, 0, none⟩ = some (.int .i64 x) ∧ W1.cell? ⟨P, 1, none⟩ = some (.int .i64 y) ∧ W1.cell? ⟨P, 2, none⟩ = some (.int .i64 z3)) ∧ (W1.cell? ⟨g2, o2, none⟩ = some (.int .i64 a') ∧ W1.cell? ⟨g2, o2 + 1, none⟩ = some (.int .i64 b') ∧ W1.cell? ⟨g2, o2 + 2, none⟩ = some (.int .i64 c')) ∧ Below wr.heap.size wr W1) → Below W1.heap.size W1 W2 → ((W2.cell? ⟨P, 0, none⟩ = some (.int .i64 x) ∧ W2.cell? ⟨P, 1, none⟩ = some (.int .i64 y) ∧ W2.cell? ⟨P, 2, none⟩ = some (.int .i64 z3)) ∧ (W2.cell? ⟨g2, o2, none⟩ = some (.int .i64 a') ∧ W2.cell? ⟨g2, o2 + 1, none⟩ = some (.int .i64 b') ∧ W2.cell? ⟨g2, o2 + 2, none⟩ = some (.int .i64 c')) ∧ Below wr.heap.size wr W2)) := Lib.hid (fun W1 W2 h1 h2 => by
        obtain ⟨⟨p0, p1, p2⟩, ⟨r0, r1, r2⟩, hb⟩ := h1
        have zz := hb.size
        exact ⟨⟨(bcell h2 _ _ (by omega)).trans p0, (bcell h2 _ _ (by omega)).trans p1, (bcell h2 _ _ (by omega)).trans p2⟩, ⟨(bcell h2 _ _ (by omega)).trans r0, (bcell h2 _ _ (by omega)).trans r1, (bcell h2 _ _ (by omega)).trans r2⟩, below2 hb h2⟩)
      have hS : ((wr.cell? ⟨P, 0, none⟩ = some (.int .i64 x) ∧ wr.cell? ⟨P, 1, none⟩ = some (.int .i64 y) ∧ wr.cell? ⟨P, 2, none⟩ = some (.int .i64 z3)) ∧ (wr.cell? ⟨g2, o2, none⟩ = some (.int .i64 a') ∧ wr.cell? ⟨g2, o2 + 1, none⟩ = some (.int .i64 b') ∧ wr.cell? ⟨g2, o2 + 2, none⟩ = some (.int .i64 c')) ∧ Below wr.heap.size wr wr) := ⟨⟨cellB hbox.out 0 _ rfl, cellB hbox.out 1 _ rfl, cellB hbox.out 2 _ rfl⟩, hk2.out wr hb.out, Below.refl _ _⟩
      have key : Hid (∀ w9, Below wr.heap.size wr w9 → w9.rangeAt w.heap.size 0 [.string s, .int .i64 a, .int .i64 b, .slice ua L.length uc] ∧ w9.rangeAt P 0 [.int .i64 x, .int .i64 y, .int .i64 z3] ∧
          Calls Try.prog 57 #[.agg #[.string s, .int .i64 a, .int .i64 b, .slice ua L.length uc], .agg #[.int .i64 x, .int .i64 y, .int .i64 z3]] w9 fun e w' => e = .returned (.agg #[.int .i64 (ovN x p b), .int .i64 (ovN y q b), .int .i64 (ovN z3 r b)]) ∧ Below w9.heap.size w9 w') := Lib.hid (fun w9 h9 => by
        have e1 := (h9.block _ (ltOf hX.out)).trans hX.out
        have e2 := hbox.out.below h9
        refine ⟨fun j v hv => by rw [Nat.zero_add]; exact cellB e1 j v (by simpa using hv), fun j v hv => by rw [Nat.zero_add]; exact cellB e2 j v (by simpa using hv), ?_⟩
        exact over_any s a b _ p q r x y z3 bx by9 bz bp bq br hbv w9 (by have := (h0'.out.below hb.out).below h9; rw [hLe'.out] at this ⊢; exact this))
      have key5 : Hid (∀ w9 w10, Below wr.heap.size wr w9 → Below w9.heap.size w9 w10 → w10.there P 0 3 ∧ ∀ w5 X Y Q, w10.setCells P 0 [.int .i64 X, .int .i64 Y, .int .i64 Q] = w5 → Hid (BoxC P X Y Q w5) ∧ Hid (w5.heap[w.heap.size]? = some (.cells #[.string s, .int .i64 a, .int .i64 b, .slice ua L.length uc] 45 (0, 0))) ∧ Hid (Below w.heap.size w w5)) := Lib.hid (fun w9 w10 h9 h10 => by
        have hbb := below2 h9 h10
        refine ⟨(hbox.out.below hbb).there, fun w5 X Y Q h5 => ?_⟩
        subst h5
        have gs := grownSets P [.int .i64 X, .int .i64 Y, .int .i64 Q] 0 w10
        have e1 := (hbb.block _ (ltOf hX.out)).trans hX.out
        exact ⟨Lib.hid (setThree (hbox.out.below hbb) _ _ _), Lib.hid ((gs.block _ (ltOf e1) (by simp; omega)).trans e1), Lib.hid (below_sets (by omega) _ _ _ (below2 hb.out hbb))⟩)
      clear hgg hX hbox hlw hPl
      by_cases hgz : gg ≤ z
      · have hfin : Hid (fewN b L G H z = k) := Lib.hid (by rw [hNk.out, hfs.out, hpk, decide_eq_true hgz]; rfl)
        clear hpk key key5
        go_upto_region 9 with fail
        go_region_held3 (fun w' => ((w'.cell? ⟨P, 0, none⟩ = some (.int .i64 x) ∧ w'.cell? ⟨P, 1, none⟩ = some (.int .i64 y) ∧ w'.cell? ⟨P, 2, none⟩ = some (.int .i64 z3)) ∧ (w'.cell? ⟨g2, o2, none⟩ = some (.int .i64 a') ∧ w'.cell? ⟨g2, o2 + 1, none⟩ = some (.int .i64 b') ∧ w'.cell? ⟨g2, o2 + 2, none⟩ = some (.int .i64 c')) ∧ Below wr.heap.size wr w'))
          (first | exact ⟨hS.1, hS.2.1, belowN hS.2.2 1⟩ | exact keepH.out _ _ (by assumption) (by assumption) | assumption)
          (first | (rw [run_arrayAt3 (by decide)]; go_simp) | (go_at_call 60; (with_reducible refine (cP.out _).mono ?_); rintro e w' ⟨rfl, hbel⟩))
        all_goals rename_i hHeld
        all_goals go_wp2
        all_goals go_ret2
        all_goals exact ⟨ret_int2 (by rw [hV2.out, hfin.out, if_pos hlt]) (by rw [hC2.out, hfin.out, if_pos hlt]), below2 hb.out hHeld.2.2⟩
      · have hNk2 : Hid (fewN b L G H z = fstK (fewP b L G H z) (11 - (k + 1)) (k + 1)) := Lib.hid (by rw [hNk.out, hfs.out, hpk, decide_eq_false hgz]; rfl)
        have hnx : Hid ([ovN x p b, ovN y q b, ovN z3 r b] = itK L b G (k + 1)) := Lib.hid (by show _ = ov3 L b (itK L b G k); rw [← hCe.out, hLe'.out]; rfl)
        obtain ⟨X, hX1⟩ : ∃ X, X = ovN x p b := ⟨_, rfl⟩
        obtain ⟨Y, hY1⟩ : ∃ Y, Y = ovN y q b := ⟨_, rfl⟩
        obtain ⟨Q, hZ1⟩ : ∃ Q, Q = ovN z3 r b := ⟨_, rfl⟩
        rw [← hX1, ← hY1, ← hZ1] at hnx key
        clear hpk hX1 hY1 hZ1
        go_upto_region 9 with fail
        go_region_held3 (fun w' => ((w'.cell? ⟨P, 0, none⟩ = some (.int .i64 x) ∧ w'.cell? ⟨P, 1, none⟩ = some (.int .i64 y) ∧ w'.cell? ⟨P, 2, none⟩ = some (.int .i64 z3)) ∧ (w'.cell? ⟨g2, o2, none⟩ = some (.int .i64 a') ∧ w'.cell? ⟨g2, o2 + 1, none⟩ = some (.int .i64 b') ∧ w'.cell? ⟨g2, o2 + 2, none⟩ = some (.int .i64 c')) ∧ Below wr.heap.size wr w'))
          (first | exact ⟨hS.1, hS.2.1, belowN hS.2.2 1⟩ | exact keepH.out _ _ (by assumption) (by assumption) | assumption)
          (first | (rw [run_arrayAt3 (by decide)]; go_simp) | (go_at_call 60; (with_reducible refine (cP.out _).mono ?_); rintro e w' ⟨rfl, hbel⟩))
        all_goals rename_i hHeld
        all_goals obtain ⟨hr45, hr70, cS⟩ := key.out _ hHeld.2.2
        all_goals have cS' := Lib.hid cS
        all_goals have key6 := Lib.hid (fun w10 h10 => key5.out _ w10 hHeld.2.2 h10)
        all_goals clear cS key key5 hS keepH
        all_goals go_wp2_with (first
          | (refine wpList_load_mid rfl _ _ rfl w.heap.size 0 rfl _ _ hr45 Try.underlying45 rfl rfl ?_)
          | (refine wpList_load_mid rfl _ _ rfl P 0 rfl _ _ hr70 Try.underlying70 rfl rfl ?_)
          | (go_at_call 57; (with_reducible refine cS'.out.mono ?_); rintro e w10 ⟨rfl, b10⟩; obtain ⟨th, key7⟩ := key6.out w10 b10; clear b10)
          | (refine wpList_store_mid rfl _ _ _ rfl P 0 _ rfl rfl ?_ sizeCo (oneCo _ _ _) ?_; (exact th); generalize hW : World.setCells _ _ _ _ = w5; (have Hk := key7 w5 _ _ _ hW); clear hW; obtain ⟨hbox5, hX5, hb5⟩ := Hk))
        all_goals go_roundw
        case rel => exact ⟨k + 1, X, Y, Q, by omega, by go_num, hnx, hNk2, hbox5, hX5, hb5⟩
        case measure => simp [intOf]; omega
    · obtain rfl : k = 11 := by omega
      have hfin : Hid (fewN b L G H z = 11) := Lib.hid (by rw [hNk.out]; rfl)
      go_wp2
      go_ret2
      exact ⟨ret_int2 (by rw [hV2.out, hfin.out]; rfl) (by rw [hC2.out, hfin.out]; rfl), hb.out⟩
end Go.Proofs.Ytjnpladpegmiiaa
