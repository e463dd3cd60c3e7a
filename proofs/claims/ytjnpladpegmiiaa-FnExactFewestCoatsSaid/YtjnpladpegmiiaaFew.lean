/-
  The fewest coats of one kind, on both sides.
-/
import Derived.Test.YtjnpladpegmiiaaAft
import Derived.Test.YtjnpladpegmiiaaAfi
import Derived.Deep.Cut
namespace Go.Proofs.Ytjnpladpegmiiaa
open Go.ChangeShapes Go.WideShapes Go.ChangeAt Go.RowKit Go.Deep
set_option linter.unusedVariables false
set_option linter.unusedSimpArgs false
set_option maxRecDepth 1000000
/-- the colour after k coats of one kind -/
def itK (c : List Int) (v : Int) (G : List Int) : Nat → List Int
  | 0 => G
  | k + 1 => ov3 c v (itK c v G k)
theorem it_col {c : List Int} {v : Int} {G : List Int} (hc : col3 c) (hv : 0 ≤ v ∧ v ≤ 1000) (hG : col3 G) : ∀ k, col3 (itK c v G k)
  | 0 => hG
  | k + 1 => ov3_col hc hv (it_col hc hv hG k)
/-- the first from s on that p has, f of them are looked at -/
def fstK (p : Nat → Bool) : Nat → Nat → Nat
  | 0, s => s
  | f + 1, s => if p s = true then s else fstK p f (s + 1)
def fewP (b : Int) (L G H : List Int) (z : Int) (k : Nat) : Bool := decide (gapL (itK L b G k) H ≤ z)
def fewN (b : Int) (L G H : List Int) (z : Int) : Nat := fstK (fewP b L G H z) 11 0
def fewOk (s : ByteArray) (a b : Int) (L G H : List Int) : Bool := ctB ⟨s, a, b, L⟩ && colB G && colB H
def fewV (s : ByteArray) (a b : Int) (L G H : List Int) (z : Int) : Int := if fewOk s a b L G H = true then (if inB z 0 765 = true then (if fewN b L G H z < 11 then (fewN b L G H z : Int) else 0) else 0) else 0
def fewC (s : ByteArray) (a b : Int) (L G H : List Int) (z : Int) : Int := if fewOk s a b L G H = true then (if inB z 0 765 = true then (if fewN b L G H z < 11 then 0 else 3) else 2) else 1
theorem l13Far_any (n : Int) (w : World) : Calls Try.prog 63 #[.int .i64 n] w fun e w' => e = .returned (.bool (inB n 0 765)) ∧ w = w' := by
  go_enter Try.func63, Try.ntmps63
  go_wp2_with (go_at_call 65; refine (l00In_any _ _ _ _).mono ?_; rintro e w' ⟨rfl, rfl⟩)
  go_ret
  exact ⟨rfl, rfl⟩
set_option maxHeartbeats 3200000 in
theorem specFewestCoats_any (s : ByteArray) (a b : Int) (u : Value) (L : List Int) (v1 : Value) (G : List Int) (v2 : Value) (H : List Int) (z : Int) (w : World) (hs : s.size ≤ maxLen) (hL : L.length ≤ maxLen) (h0 : IntsAt w u L) (hG9 : G.length ≤ 1048576) (h1 : IntsAt w v1 G) (hH9 : H.length ≤ 1048576) (h2 : IntsAt w v2 H) : Calls Try.prog 30 #[.agg #[.string s, .int .i64 a, .int .i64 b, u], v1, v2, .int .i64 z] w fun e w' => e = .returned (.tuple #[.int .i64 (fewV s a b L G H z), .int .i64 (fewC s a b L G H z)]) ∧ Below w.heap.size w w' := by
  have hV : Hid (fewV s a b L G H z = if fewOk s a b L G H = true then (if inB z 0 765 = true then (if fewN b L G H z < 11 then (fewN b L G H z : Int) else 0) else 0) else 0) := Lib.hid rfl
  have hC : Hid (fewC s a b L G H z = if fewOk s a b L G H = true then (if inB z 0 765 = true then (if fewN b L G H z < 11 then 0 else 3) else 2) else 1) := Lib.hid rfl
  have hK : Hid (fewOk s a b L G H = (ctB ⟨s, a, b, L⟩ && colB G && colB H)) := Lib.hid rfl
  obtain ⟨q9, hB0, hsz⟩ := one_boxC w #[.string s, .int .i64 a, .int .i64 b, u] 45
  have x0 := q9 0 _ rfl
  have x1 := q9 1 _ rfl
  have x2 := q9 2 _ rfl
  have x3 := q9 3 _ rfl
  obtain ⟨W0, hW0⟩ : ∃ W0, W0 = (w.alloc (.cells #[.string s, .int .i64 a, .int .i64 b, u] 45)) := ⟨_, rfl⟩
  rw [← hW0] at x0 x1 x2 x3 hB0 hsz
  have hBx := heap_alloc_new w (.cells #[.string s, .int .i64 a, .int .i64 b, u] 45)
  rw [← hW0] at hBx
  have hat : CtAt W0 w.heap.size 0 ⟨s, a, b, L⟩ u := ⟨⟨x0, x1, x2, x3⟩, h0.below hB0⟩
  have cV := l13One_any ⟨s, a, b, L⟩ u w.heap.size 0 hs hL W0 hat
  have cG := l13Colour_any v1 G W0 (by unfold maxLen; omega) (h1.below hB0)
  have cH := l13Colour_any v2 H W0 (by unfold maxLen; omega) (h2.below hB0)
  have cF := fun W => l13Far_any z W
  have hat' := Lib.hid hat
  have hv1 := Lib.hid h1
  have hv2 := Lib.hid h2
  cases q0 : ctB ⟨s, a, b, L⟩
  · rw [q0] at cV hK
    replace cV := Lib.hid cV
    clear h0 h1 h2 hat cG cH cF
    go_enter Try.func30, Try.ntmps30
    go_upto_region 1 with fail
    rw [← hW0]
    clear hW0
    go_wp2_with (first | (go_at_call 62; (with_reducible refine (cV.out).mono ?_); rintro e w1 ⟨rfl, rfl⟩))
    go_ret2
    exact ⟨ret_int2 (by rw [hV.out, hK.out]; simp) (by rw [hC.out, hK.out]; simp), hB0⟩
  rw [q0] at cV hK
  cases q1 : colB G
  · rw [q1] at cG hK
    replace cV := Lib.hid cV
    replace cG := Lib.hid cG
    clear h0 h1 h2 hat cH cF
    go_enter Try.func30, Try.ntmps30
    go_upto_region 1 with fail
    rw [← hW0]
    clear hW0
    go_wp2_with (first | (go_at_call 62; (with_reducible refine (cV.out).mono ?_); rintro e w1 ⟨rfl, rfl⟩) | (go_at_call 53; (with_reducible refine (cG.out).mono ?_); rintro e w2 ⟨rfl, rfl⟩))
    go_ret2
    exact ⟨ret_int2 (by rw [hV.out, hK.out]; simp) (by rw [hC.out, hK.out]; simp), hB0⟩
  rw [q1] at cG hK
  cases q2 : colB H
  · rw [q2] at cH hK
    replace cV := Lib.hid cV
    replace cG := Lib.hid cG
    replace cH := Lib.hid cH
    clear h0 h1 h2 hat cF
    go_enter Try.func30, Try.ntmps30
    go_upto_region 1 with fail
    rw [← hW0]
    clear hW0
    go_wp2_with (first | (go_at_call 62; (with_reducible refine (cV.out).mono ?_); rintro e w1 ⟨rfl, rfl⟩) | (go_at_call 53; (with_reducible refine (cG.out).mono ?_); rintro e w2 ⟨rfl, rfl⟩) | (go_at_call 53; (with_reducible refine (cH.out).mono ?_); rintro e w3 ⟨rfl, rfl⟩))
    go_ret2
    exact ⟨ret_int2 (by rw [hV.out, hK.out]; simp) (by rw [hC.out, hK.out]; simp), hB0⟩
  rw [q2] at cH hK
  cases q3 : inB z 0 765
  · rw [q3] at cF hV hC
    replace cV := Lib.hid cV
    replace cG := Lib.hid cG
    replace cH := Lib.hid cH
    replace cF := Lib.hid cF
    clear h0 h1 h2 hat 
    go_enter Try.func30, Try.ntmps30
    go_upto_region 1 with fail
    rw [← hW0]
    clear hW0
    go_wp2_with (first | (go_at_call 62; (with_reducible refine (cV.out).mono ?_); rintro e w1 ⟨rfl, rfl⟩) | (go_at_call 53; (with_reducible refine (cG.out).mono ?_); rintro e w2 ⟨rfl, rfl⟩) | (go_at_call 53; (with_reducible refine (cH.out).mono ?_); rintro e w3 ⟨rfl, rfl⟩) | (go_at_call 63; (with_reducible refine (cF.out _).mono ?_); rintro e w4 ⟨rfl, rfl⟩))
    go_ret2
    exact ⟨ret_int2 (by rw [hV.out, hK.out]; simp) (by rw [hC.out, hK.out]; simp), hB0⟩
  rw [q3] at cF hV hC
  have hV2 : Hid (fewV s a b L G H z = if fewN b L G H z < 11 then (fewN b L G H z : Int) else 0) := Lib.hid (by rw [hV.out, hK.out]; simp)
  have hC2 : Hid (fewC s a b L G H z = if fewN b L G H z < 11 then 0 else 3) := Lib.hid (by rw [hC.out, hK.out]; simp)
  have hN : Hid (fewN b L G H z = fstK (fewP b L G H z) 11 0) := Lib.hid rfl
  have hbd := ct_bd q0
  have hcol := Lib.hid (it_col (col3_of hbd.2.2) hbd.2.1 (col3_of q1))
  have hbv := hbd.2.1
  obtain ⟨p, q, r, hLe, bp, bq, br⟩ := col3_of hbd.2.2
  obtain ⟨a', b', c', hHe, ba', bb', bc'⟩ := col3_of q2
  obtain ⟨e0', e1', e2', hGe, bx0, by0, bz0⟩ := col3_of q1
  have hGe' := Lib.hid hGe
  have hHe' := Lib.hid hHe
  have hLe' := Lib.hid hLe
  clear hV hC hK hbd q0 q1 q2 q3 hGe hHe hLe
  replace cV := Lib.hid cV
  replace cG := Lib.hid cG
  replace cH := Lib.hid cH
  replace cF := Lib.hid cF
  have cN := Lib.hid (fun W (hb : Below w.heap.size w W) => own3_any v1 e0' e1' e2' W (by have := hv1.out.below hb; rw [hGe'.out] at this; exact this))
  clear h0 h1 h2 hat
  go_enter Try.func30, Try.ntmps30
  go_upto_region 1 with fail
  rw [← hW0]
  clear hW0
  go_wp2_with (first | (go_at_call 62; (with_reducible refine (cV.out).mono ?_); rintro e w1 ⟨rfl, rfl⟩) | (go_at_call 53; (with_reducible refine (cG.out).mono ?_); rintro e w2 ⟨rfl, rfl⟩) | (go_at_call 53; (with_reducible refine (cH.out).mono ?_); rintro e w3 ⟨rfl, rfl⟩) | (go_at_call 63; (with_reducible refine (cF.out _).mono ?_); rintro e w4 ⟨rfl, rfl⟩) | (go_at_call 54; (with_reducible refine (cN.out _ hB0).mono ?_); rintro e w5 ⟨v5, rfl, o5, b5⟩))
  have hB5 := Lib.hid (below2 hB0 b5)
  have o5' := Lib.hid (own_low o5 hB0.size)
  have hat5 := Lib.hid (hat'.out.below hsz b5)
  have hs5 : w.heap.size < w5.heap.size := Nat.lt_of_lt_of_le hsz b5.size
  have hL0 : Hid (([e0', e1', e2'] : List Int) = itK L b G 0) := Lib.hid hGe'.out.symm
  clear o5 b5 x0 x1 x2 x3 hBx q9 cV cG cH cF cN
  go_loopw [10, 11] (fun c i wr => ∃ (k : Nat) (C : List Int), k ≤ 11 ∧ i = .int .i64 k ∧ Hid (C = itK L b G k) ∧ Hid (fewN b L G H z = fstK (fewP b L G H z) (11 - k) k) ∧ Hid (wr.ownsRow w.heap.size 2 1 c C.length (C.map encI)) ∧ Hid (Below w5.heap.size w5 wr ∨ True) ∧ Hid (CtAt wr w.heap.size 0 ⟨s, a, b, L⟩ u) ∧ w.heap.size < wr.heap.size ∧ Hid (Below w.heap.size w wr)) (fun _ i _ => 11 - (intOf i).toNat)
  case atStart => exact ⟨0, [e0', e1', e2'], by omega, rfl, hL0, hN, o5', Lib.hid (Or.inr trivial), hat5, hs5, hB5⟩
  case round =>
    obtain ⟨k, C, hk, rfl, hCe, hNk, hown, _, hatr, hsr, hb⟩ := hrel
    by_cases hlt : k < 11
    · obtain ⟨x, y, z3, hCx, bx, by9, bz⟩ := hcol.out k
      have hpk : fewP b L G H z k = decide (gap3 x y z3 a' b' c' ≤ z) := by unfold fewP; rw [hCx, hHe'.out]; rfl
      rw [← hCe.out] at hCx
      subst hCx
      have hinn : ∀ n ∈ [x, y, z3], inI n := (col3_inn ⟨x, y, z3, rfl, bx, by9, bz⟩).1
      have r1 := ints_own hown.out hinn
      have r2 : IntsAt wr v2 [a', b', c'] := by have := hv2.out.below hb.out; rw [hHe'.out] at this; exact this
      obtain ⟨g1, hg1⟩ : ∃ g1, g1 = gap3 x y z3 a' b' c' := ⟨_, rfl⟩
      have cP := l13Gap_any _ v2 x y z3 a' b' c' bx by9 bz ba' bb' bc' wr r1 r2
      rw [← hg1] at cP hpk
      replace cP := Lib.hid cP
      obtain ⟨ua, uc, hue⟩ := ownShape hown.out
      subst hue
      have hkI : (k : Int) < 11 := by omega
      have hfs : Hid (fstK (fewP b L G H z) (11 - k) k = if fewP b L G H z k = true then k else fstK (fewP b L G H z) (11 - (k + 1)) (k + 1)) := Lib.hid (by rw [show 11 - k = (11 - (k + 1)) + 1 by omega]; rfl)
      by_cases hgz : g1 ≤ z
      · have hfin : Hid (fewN b L G H z = k) := Lib.hid (by rw [hNk.out, hfs.out, hpk, decide_eq_true hgz]; rfl)
        clear hpk hg1 hinn r1 r2
        have hlen3 : ([x, y, z3] : List Int).length = 3 := rfl
        rw [hlen3] at cP ⊢
        clear hlen3
        go_wp2_with (go_at_call 59; (with_reducible refine (cP.out).mono ?_); rintro e w9 ⟨rfl, b9⟩)
        go_ret2
        exact ⟨ret_int2 (by rw [hV2.out, hfin.out, if_pos hlt]) (by rw [hC2.out, hfin.out, if_pos hlt]), below2 hb.out b9.below⟩
      · have hNk2 : Hid (fewN b L G H z = fstK (fewP b L G H z) (11 - (k + 1)) (k + 1)) := Lib.hid (by rw [hNk.out, hfs.out, hpk, decide_eq_false hgz]; rfl)
        have hnx : Hid ([ovN x p b, ovN y q b, ovN z3 r b] = itK L b G (k + 1)) := Lib.hid (by show _ = ov3 L b (itK L b G k); rw [← hCe.out, hLe'.out]; rfl)
        have cS : Hid (∀ W, DrewOf wr W → Calls Try.prog 55 #[.pointer (some ⟨w.heap.size, 0, none⟩), .slice ua ([x, y, z3] : List Int).length uc] W (RowI [ovN x p b, ovN y q b, ovN z3 r b] W)) := Lib.hid (fun W hd => l13Over_any w.heap.size 0 _ s a b u p q r x y z3 bx by9 bz bp bq br hbv W (Nat.lt_of_lt_of_le hsr hd.below.size) (by have := hatr.out.below hsr hd.below; rw [hLe'.out] at this; exact this) (r1.below hd.below))
        obtain ⟨C9, hC9⟩ : ∃ C9, C9 = [ovN x p b, ovN y q b, ovN z3 r b] := ⟨_, rfl⟩
        rw [← hC9] at cS hnx
        clear hpk hg1 hinn r1 r2 hC9 hfs
        have hlen3 : ([x, y, z3] : List Int).length = 3 := rfl
        rw [hlen3] at cS cP ⊢
        clear hlen3
        go_wp2_with (first | (go_at_call 59; (with_reducible refine (cP.out).mono ?_); rintro e w9 ⟨rfl, b9⟩) | (go_at_call 55; (with_reducible refine (cS.out _ b9).mono ?_); rintro e w10 ⟨v10, rfl, o10, b10⟩))
        have bb := below2 b9.below b10
        have hb10 := Lib.hid (below2 hb.out bb)
        have o10' := Lib.hid (own_low o10 (Nat.le_trans hb.out.size b9.below.size))
        have hat10 := Lib.hid (hatr.out.below hsr bb)
        have hs10 := Nat.lt_of_lt_of_le hsr bb.size
        clear o10 b10 b9 bb
        go_roundw
        case rel => exact ⟨k + 1, C9, by omega, by go_num, hnx, hNk2, o10', Lib.hid (Or.inr trivial), hat10, hs10, hb10⟩
        case measure => simp [intOf]; omega
    · obtain rfl : k = 11 := by omega
      have hfin : Hid (fewN b L G H z = 11) := Lib.hid (by rw [hNk.out]; rfl)
      go_wp2
      go_ret2
      exact ⟨ret_int2 (by rw [hV2.out, hfin.out]; rfl) (by rw [hC2.out, hfin.out]; rfl), hb.out⟩
end Go.Proofs.Ytjnpladpegmiiaa
