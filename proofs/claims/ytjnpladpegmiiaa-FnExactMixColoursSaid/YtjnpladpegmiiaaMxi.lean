/-
  Mixtures of stains: the program's.
-/
import Derived.Test.YtjnpladpegmiiaaMxs
import Derived.Deep.Cut
namespace Go.Proofs.Ytjnpladpegmiiaa
open Go.ChangeShapes Go.WideShapes Go.ChangeAt Go.RowKit Go.Deep
set_option linter.unusedVariables false
set_option linter.unusedSimpArgs false
set_option maxRecDepth 1000000
theorem BoxC.one {P : Nat} {x y z : Int} {W : World} (h : BoxC P x y z W) (i : Nat) (hi : i < 3) (v : Int) : BoxC P (if i = 0 then v else x) (if i = 1 then v else y) (if i = 2 then v else z) (W.setCell ⟨P, i, none⟩ (.int .i64 v)) := by
  unfold BoxC
  rw [heap_setCell_same _ _ _ _ _ _ h]
  match i, hi with
  | 0, _ => rfl
  | 1, _ => rfl
  | 2, _ => rfl
theorem divR_small {a b : Int} (ha : 0 ≤ a ∧ a ≤ 100000000) (hb : 1 ≤ b ∧ b ≤ 100000000) : divR a b = rnd a b := by
  unfold divR
  rw [if_neg (by omega), if_neg (by rw [inB_iff.2 (by omega)]; decide), if_neg (by rw [inB_iff.2 (by omega)]; decide)]
set_option maxHeartbeats 6400000 in
theorem implMixColours_any (v : Value) (Z : List Ct) (v' : Value) (P : List Int) (w : World) (hz : Z.length ≤ 1048576) (hv : CtsAt w v Z) (ho : P.length ≤ 1048576) (hv' : IntsAt w v' P) : Calls Try.prog 35 #[v, v'] w (RowCE 70 (mixV Z P) (mixC Z P) w) := by
  have cV := implValidCoats_any v Z w hz hv
  have hV : Hid (mixV Z P = if ctsB Z = true then (if parB Z.length P = true then mix3 Z P else []) else []) := Lib.hid rfl
  have hC : Hid (mixC Z P = if ctsB Z = true then code (parB Z.length P) 7 else 1) := Lib.hid rfl
  have cO := fun W (hb : Below w.heap.size w W) => areParts_any v' P Z.length W ho hz (hv'.below hb)
  obtain ⟨p9, c9, hv9, _, _, hread9⟩ := hv
  subst hv9
  obtain ⟨p8, c8, hv8, _, _, hread8⟩ := hv'
  subst hv8
  cases q1 : ctsB Z
  · rw [q1] at cV hV hC
    replace cV := Lib.hid cV
    clear hread9 hread8 cO
    go_enter Try.func35, Try.ntmps35
    go_wp2_with (first | (go_at_call 16; (with_reducible refine (cV.out).mono ?_); rintro e w1 ⟨rfl, b1⟩))
    go_ret2
    exact rowCE_nil hV.out hC.out b1
  cases q2 : parB Z.length P
  · rw [q1] at cV hV hC
    rw [q2] at cO hV hC
    replace cV := Lib.hid cV
    replace cO := Lib.hid cO
    clear hread9 hread8
    go_enter Try.func35, Try.ntmps35
    go_wp2_with (first | (go_at_call 16; (with_reducible refine (cV.out).mono ?_); rintro e w1 ⟨rfl, b1⟩) | (go_at_call 67; (with_reducible refine (cO.out _ b1).mono ?_); rintro e w2 ⟨rfl, b2⟩))
    go_ret2
    exact rowCE_nil hV.out hC.out (below2 b1 b2)
  have hzB := Lib.hid q1
  have hl10 := cts_len q1
  have hmxb := Lib.hid (fun k (hk : k < 3) n (hn : n ≤ P.length) => mx_bd q1 q2 hk n hn)
  have hmx1 := Lib.hid (fun k (hk : k < 3) i (hi : i < P.length) => mx_one q1 q2 hk hi)
  have hpar := Lib.hid (fun i hi => (parB_facts q2).2 i hi)
  have hpsb := Lib.hid (fun k (hk : k ≤ P.length) => ps_bd q2 k hk)
  have hpt := Lib.hid (ps_tot q2)
  have hml := Lib.hid (parB_facts q2).1
  have hP10 : P.length ≤ 10 := by have := hml.out; omega
  rw [q1] at cV hV hC
  rw [q2] at cO hV hC
  replace cV := Lib.hid cV
  replace cO := Lib.hid cO
  have hr9 := Lib.hid hread9
  have hr8 := Lib.hid hread8
  clear hread9 hread8 q1 q2
  go_enter Try.func35, Try.ntmps35
  go_upto_region 6 with (first | (go_at_call 16; (with_reducible refine (cV.out).mono ?_); rintro e w1 ⟨rfl, b1⟩) | (go_at_call 67; (with_reducible refine (cO.out _ b1).mono ?_); rintro e w2 ⟨rfl, b2⟩))
  have hP0 : BoxC w2.heap.size 0 0 0 (w2.alloc (.cells #[.int .i64 0, .int .i64 0, .int .i64 0] 70)) := heap_alloc_new _ _
  have hb2 := below2 b1 b2
  have hB0 : Below w.heap.size w (w2.alloc (.cells #[.int .i64 0, .int .i64 0, .int .i64 0] 70)) := hb2.alloc hb2.size _
  have hwP : w.heap.size ≤ w2.heap.size := hb2.size
  generalize w2.alloc (.cells #[.int .i64 0, .int .i64 0, .int .i64 0] 70) = W0 at hP0 hB0 ⊢
  generalize w2.heap.size = Q at hP0 hwP ⊢
  have hP0' := Lib.hid hP0
  have hB0' := Lib.hid hB0
  clear hP0 hB0 b1 b2 hb2 cV cO
  go_wp2
  go_loopw [7, 26] (fun s i wr => ∃ (k : Nat) (m x y z : Int), k ≤ P.length ∧ i = .int .i64 k ∧ s = .int .i64 m ∧ Hid (m = sumK (psF P) k) ∧ Hid (x = sumK (mxP Z P 0) k ∧ y = sumK (mxP Z P 1) k ∧ z = sumK (mxP Z P 2) k) ∧ Hid (BoxC Q x y z wr) ∧ Hid (Below w.heap.size w wr)) (fun _ i _ => P.length - (intOf i).toNat)
  case atStart => exact ⟨0, 0, 0, 0, 0, by omega, rfl, rfl, Lib.hid rfl, Lib.hid ⟨rfl, rfl, rfl⟩, hP0', hB0'⟩
  case round =>
    obtain ⟨k, m, x, y, z, hk, rfl, rfl, hm, hxyz, hbox, hb⟩ := hrel
    by_cases hlt : k < P.length
    · rcases hr8.out with h | ⟨g8, o8, rfl, hg8, hc8⟩
      · subst h; simp at hlt
      rcases hr9.out with h | ⟨g, o, rfl, hg, hc⟩
      · have h9 := hml.out; rw [h] at h9; simp at h9; rw [h9] at hlt; simp at hlt
      have hkZ : k < Z.length := by rw [← hml.out]; exact hlt
      have hkI : (k : Int) < (Z.length : Int) := by omega
      have hkP : (k : Int) < (P.length : Int) := by omega
      have c8 := rowcell hb.out hg8 hc8 hlt
      obtain ⟨gc, oc, uc, hgc, x3, xk⟩ := mixCell hb.out hg hc hzB.out hkZ
      have hx0 := hmx1.out 0 (by decide) k hlt
      have hx1 := hmx1.out 1 (by decide) k hlt
      have hx2 := hmx1.out 2 (by decide) k hlt
      have hb0 := hmxb.out 0 (by decide) k hk
      have hb1 := hmxb.out 1 (by decide) k hk
      have hb2 := hmxb.out 2 (by decide) k hk
      rw [← hxyz.out.1] at hb0
      rw [← hxyz.out.2.1] at hb1
      rw [← hxyz.out.2.2] at hb2
      have s0 : x + mxP Z P 0 k = sumK (mxP Z P 0) (k + 1) := by unfold sumK; rw [← hxyz.out.1]
      have s1 : y + mxP Z P 1 k = sumK (mxP Z P 1) (k + 1) := by unfold sumK; rw [← hxyz.out.2.1]
      have s2 : z + mxP Z P 2 k = sumK (mxP Z P 2) (k + 1) := by unfold sumK; rw [← hxyz.out.2.2]
      have sm : m + P.getD k 0 = sumK (psF P) (k + 1) := by unfold sumK; rw [← hm.out]; rfl
      have hmb := hpsb.out k hk
      rw [← hm.out] at hmb
      have hpk := hpar.out k hlt
      have y0 := xk 0 (by decide)
      have y1 := xk 1 (by decide)
      have y2 := xk 2 (by decide)
      unfold mxP at s0 s1 s2 hx0 hx1 hx2
      obtain ⟨n0, hn0⟩ : ∃ n, n = (Z.getD k ct0).col.getD 0 0 := ⟨_, rfl⟩
      obtain ⟨n1, hn1⟩ : ∃ n, n = (Z.getD k ct0).col.getD 1 0 := ⟨_, rfl⟩
      obtain ⟨n2, hn2⟩ : ∃ n, n = (Z.getD k ct0).col.getD 2 0 := ⟨_, rfl⟩
      obtain ⟨p, hp⟩ : ∃ n, n = P.getD k 0 := ⟨_, rfl⟩
      rw [← hn0] at y0 s0 hx0
      rw [← hn1] at y1 s1 hx1
      rw [← hn2] at y2 s2 hx2
      rw [← hp] at c8 s0 s1 s2 sm hx0 hx1 hx2 hpk
      have f0 : IntKind.i64.wrap (n0 * p) = n0 * p := IntWalk.i64_in _ (by omega)
      have f1 : IntKind.i64.wrap (n1 * p) = n1 * p := IntWalk.i64_in _ (by omega)
      have f2 : IntKind.i64.wrap (n2 * p) = n2 * p := IntWalk.i64_in _ (by omega)
      have f3 : IntKind.i64.wrap (x + n0 * p) = x + n0 * p := IntWalk.i64_in _ (by omega)
      have f4 : IntKind.i64.wrap (y + n1 * p) = y + n1 * p := IntWalk.i64_in _ (by omega)
      have f5 : IntKind.i64.wrap (z + n2 * p) = z + n2 * p := IntWalk.i64_in _ (by omega)
      have f6 : IntKind.i64.wrap (m + p) = m + p := IntWalk.i64_in _ (by omega)
      have hS := Lib.hid (And.intro (And.intro s0 (And.intro s1 s2)) sm)
      have hY : Hid (∀ W, Below wr.heap.size wr W ∨ True → gc < wr.heap.size) := Lib.hid (fun _ _ => Nat.lt_of_lt_of_le hgc hb.out.size)
      have hY0 := Lib.hid (And.intro y0 (And.intro y1 y2))
      have hgcQ : gc < Q := Nat.lt_of_lt_of_le hgc hwP
      clear xk hn0 hn1 hn2 hp hc hc8 s0 s1 s2 sm y0 y1 y2 hx0 hx1 hx2 hb0 hb1 hb2 hmb hY
      obtain ⟨wo, hwo⟩ : ∃ wo, wo = wr := ⟨_, rfl⟩
      subst hwo
      go_upto_region 12 with fail
      have hkeep : Hid (∀ (W : World) (i : Nat) (v : Value), i < 3 → W.cell? ⟨gc, oc, none⟩ = some (.int .i64 n0) ∧ W.cell? ⟨gc, oc + 1, none⟩ = some (.int .i64 n1) ∧ W.cell? ⟨gc, oc + 2, none⟩ = some (.int .i64 n2) → ((W.setCell ⟨Q, i, none⟩ v).cell? ⟨gc, oc, none⟩ = some (.int .i64 n0) ∧ (W.setCell ⟨Q, i, none⟩ v).cell? ⟨gc, oc + 1, none⟩ = some (.int .i64 n1) ∧ (W.setCell ⟨Q, i, none⟩ v).cell? ⟨gc, oc + 2, none⟩ = some (.int .i64 n2))) := Lib.hid (fun W i v _ h => by
        have hc : ∀ j, (W.setCell ⟨Q, i, none⟩ v).cell? ⟨gc, j, none⟩ = W.cell? ⟨gc, j, none⟩ := fun j => World.cell?_of_block (w := W) (by rw [heap_setCell_other _ _ _ _ (by simp; omega)])
        exact ⟨(hc _).trans h.1, (hc _).trans h.2.1, (hc _).trans h.2.2⟩)
      go_loopw [40] (fun j wr => ∃ x' y' z' : Int, Hid (BoxC Q x' y' z' wr) ∧ Hid (Below w.heap.size w wr) ∧ Hid (wr.cell? ⟨gc, oc, none⟩ = some (.int .i64 n0) ∧ wr.cell? ⟨gc, oc + 1, none⟩ = some (.int .i64 n1) ∧ wr.cell? ⟨gc, oc + 2, none⟩ = some (.int .i64 n2)) ∧ ((j = .int .i64 0 ∧ x = x' ∧ y = y' ∧ z = z') ∨ (j = .int .i64 1 ∧ x' = x + n0 * p ∧ y = y' ∧ z = z') ∨ (j = .int .i64 2 ∧ x' = x + n0 * p ∧ y' = y + n1 * p ∧ z = z') ∨ (j = .int .i64 3 ∧ x' = x + n0 * p ∧ y' = y + n1 * p ∧ z' = z + n2 * p))) (fun j _ => 3 - (intOf j).toNat)
      case atStart => exact ⟨x, y, z, hbox, hb, hY0, Or.inl ⟨rfl, rfl, rfl, rfl⟩⟩
      case round =>
        obtain ⟨x', y', z', hbx, hbl, hcl, hcase⟩ := hrel
        rcases hcase with ⟨rfl, rfl, rfl, rfl⟩ | ⟨rfl, rfl, rfl, rfl⟩ | ⟨rfl, rfl, rfl, rfl⟩ | ⟨rfl, rfl, rfl, rfl⟩
        · have m0 : wr.cell? ⟨Q, 0, none⟩ = some (.int .i64 x) := cellB hbx.out 0 _ rfl
          have fr := freeB hbx.out 0
          have cn : wr.cell? ⟨gc, oc, none⟩ = some (.int .i64 n0) := hcl.out.1
          have hb5 : Hid (BoxC Q (x + n0 * p) y z (wr.setCell ⟨Q, 0, none⟩ (.int .i64 (x + n0 * p)))) := Lib.hid (hbx.out.one 0 (by decide) _)
          have hl5 : Hid (Below w.heap.size w (wr.setCell ⟨Q, 0, none⟩ (.int .i64 (x + n0 * p)))) := Lib.hid (hbl.out.setCell (by show w.heap.size ≤ Q; exact hwP) _)
          have hc5 := Lib.hid (hkeep.out wr 0 (.int .i64 (x + n0 * p)) (by decide) hcl.out)
          go_wp2
          go_roundw
          case rel => exact ⟨_, _, _, hb5, hl5, hc5, Or.inr (Or.inl ⟨rfl, rfl, rfl, rfl⟩)⟩
          case measure => simp [intOf]
        · have m0 : wr.cell? ⟨Q, 1, none⟩ = some (.int .i64 y) := cellB hbx.out 1 _ rfl
          have fr := freeB hbx.out 1
          have cn : wr.cell? ⟨gc, oc + 1, none⟩ = some (.int .i64 n1) := hcl.out.2.1
          have hb5 : Hid (BoxC Q (x + n0 * p) (y + n1 * p) z (wr.setCell ⟨Q, 1, none⟩ (.int .i64 (y + n1 * p)))) := Lib.hid (hbx.out.one 1 (by decide) _)
          have hl5 : Hid (Below w.heap.size w (wr.setCell ⟨Q, 1, none⟩ (.int .i64 (y + n1 * p)))) := Lib.hid (hbl.out.setCell (by show w.heap.size ≤ Q; exact hwP) _)
          have hc5 := Lib.hid (hkeep.out wr 1 (.int .i64 (y + n1 * p)) (by decide) hcl.out)
          go_wp2
          go_roundw
          case rel => exact ⟨_, _, _, hb5, hl5, hc5, Or.inr (Or.inr (Or.inl ⟨rfl, rfl, rfl, rfl⟩))⟩
          case measure => simp [intOf]
        · have m0 : wr.cell? ⟨Q, 2, none⟩ = some (.int .i64 z) := cellB hbx.out 2 _ rfl
          have fr := freeB hbx.out 2
          have cn : wr.cell? ⟨gc, oc + 2, none⟩ = some (.int .i64 n2) := hcl.out.2.2
          have hb5 : Hid (BoxC Q (x + n0 * p) (y + n1 * p) (z + n2 * p) (wr.setCell ⟨Q, 2, none⟩ (.int .i64 (z + n2 * p)))) := Lib.hid (hbx.out.one 2 (by decide) _)
          have hl5 : Hid (Below w.heap.size w (wr.setCell ⟨Q, 2, none⟩ (.int .i64 (z + n2 * p)))) := Lib.hid (hbl.out.setCell (by show w.heap.size ≤ Q; exact hwP) _)
          have hc5 := Lib.hid (hkeep.out wr 2 (.int .i64 (z + n2 * p)) (by decide) hcl.out)
          go_wp2
          go_roundw
          case rel => exact ⟨_, _, _, hb5, hl5, hc5, Or.inr (Or.inr (Or.inr ⟨rfl, rfl, rfl, rfl⟩))⟩
          case measure => simp [intOf]
        · have hsm := hS.out
          have h1 : Hid (x + n0 * p = sumK (mxP Z P 0) (k + 1) ∧ y + n1 * p = sumK (mxP Z P 1) (k + 1) ∧ z + n2 * p = sumK (mxP Z P 2) (k + 1)) := Lib.hid hsm.1
          have h2 : Hid (m + p = sumK (psF P) (k + 1)) := Lib.hid hsm.2
          clear hsm
          go_wp2
          go_roundw
          case rel => exact ⟨k + 1, m + p, _, _, _, by omega, by go_num, rfl, h2, h1, hbx, hbl⟩
          case measure => simp [intOf]; omega
    · obtain rfl : k = P.length := by omega
      have hmt := hpt.out
      have hmb := (hpsb.out _ (Nat.le_refl P.length)).2
      rw [← hm.out] at hmt hmb
      have hmm : 1 ≤ m ∧ m ≤ 10000 := by omega
      have hb0 := hmxb.out 0 (by decide) _ (Nat.le_refl P.length)
      have hb1 := hmxb.out 1 (by decide) _ (Nat.le_refl P.length)
      have hb2 := hmxb.out 2 (by decide) _ (Nat.le_refl P.length)
      rw [← hxyz.out.1] at hb0
      rw [← hxyz.out.2.1] at hb1
      rw [← hxyz.out.2.2] at hb2
      obtain ⟨X, hX⟩ : ∃ X, X = rnd x m := ⟨_, rfl⟩
      have cX : Hid (∀ W, Calls Try.prog 68 #[.int .i64 x, .int .i64 m] W fun e w' => e = .returned (.int .i64 X) ∧ Below W.heap.size W w') := Lib.hid (fun W => (implDivRound_any _ _ W).mono (by rintro e w' ⟨rfl, q, rfl⟩; exact ⟨ret_int (by rw [divR_small (by omega) (by omega), hX]), belowN (Below.refl _ _) q⟩))
      obtain ⟨Y, hY⟩ : ∃ Y, Y = rnd y m := ⟨_, rfl⟩
      have cY : Hid (∀ W, Calls Try.prog 68 #[.int .i64 y, .int .i64 m] W fun e w' => e = .returned (.int .i64 Y) ∧ Below W.heap.size W w') := Lib.hid (fun W => (implDivRound_any _ _ W).mono (by rintro e w' ⟨rfl, q, rfl⟩; exact ⟨ret_int (by rw [divR_small (by omega) (by omega), hY]), belowN (Below.refl _ _) q⟩))
      obtain ⟨U, hU⟩ : ∃ U, U = rnd z m := ⟨_, rfl⟩
      have cU : Hid (∀ W, Calls Try.prog 68 #[.int .i64 z, .int .i64 m] W fun e w' => e = .returned (.int .i64 U) ∧ Below W.heap.size W w') := Lib.hid (fun W => (implDivRound_any _ _ W).mono (by rintro e w' ⟨rfl, q, rfl⟩; exact ⟨ret_int (by rw [divR_small (by omega) (by omega), hU]), belowN (Below.refl _ _) q⟩))
      have hfin : Hid (mixV Z P = [X, Y, U]) := Lib.hid (by rw [hV.out, hX, hY, hU, hxyz.out.1, hxyz.out.2.1, hxyz.out.2.2, hm.out]; simp [mix3, mix1])
      have hr70 : wr.rangeAt Q 0 [.int .i64 x, .int .i64 y, .int .i64 z] := fun j v hv => by rw [Nat.zero_add]; exact cellB hbox.out j v (by simpa using hv)
      clear hX hY hU hb0 hb1 hb2 hmt hmb hm hxyz
      go_upto_region 18 with (refine wpList_load_mid rfl _ _ rfl Q 0 rfl _ _ hr70 Try.underlying70 rfl rfl ?_)
      clear hr70
      have i0 : ∀ w, (Instr.index 70 (.agg #[.int .i64 x, .int .i64 y, .int .i64 z]) (.int .i64 0)).run Try.prog w = .ok (.int .i64 x) w := fun _ => by kernel_rfl
      have i1 : ∀ w, (Instr.index 70 (.agg #[.int .i64 x, .int .i64 y, .int .i64 z]) (.int .i64 1)).run Try.prog w = .ok (.int .i64 y) w := fun _ => by kernel_rfl
      have i2 : ∀ w, (Instr.index 70 (.agg #[.int .i64 x, .int .i64 y, .int .i64 z]) (.int .i64 2)).run Try.prog w = .ok (.int .i64 z) w := fun _ => by kernel_rfl
      go_loopw [56] (fun j wr => ∃ x' y' z' : Int, Hid (BoxC Q x' y' z' wr) ∧ Hid (Below w.heap.size w wr) ∧ ((j = .int .i64 0 ∧ x = x' ∧ y = y' ∧ z = z') ∨ (j = .int .i64 1 ∧ X = x' ∧ y = y' ∧ z = z') ∨ (j = .int .i64 2 ∧ X = x' ∧ Y = y' ∧ z = z') ∨ (j = .int .i64 3 ∧ X = x' ∧ Y = y' ∧ U = z'))) (fun j _ => 3 - (intOf j).toNat)
      case atStart => exact ⟨x, y, z, hbox, hb, Or.inl ⟨rfl, rfl, rfl, rfl⟩⟩
      case round =>
        obtain ⟨x', y', z', hbx, hbl, hcase⟩ := hrel
        rcases hcase with ⟨rfl, rfl, rfl, rfl⟩ | ⟨rfl, rfl, rfl, rfl⟩ | ⟨rfl, rfl, rfl, rfl⟩ | ⟨rfl, rfl, rfl, rfl⟩
        · have key : Hid (∀ w', Below wr.heap.size wr w' → (∃ old, w'.cell? ⟨Q, 0, none⟩ = some old) ∧ w'.frozen? ⟨Q, 0, none⟩ = false ∧ Hid (BoxC Q X y z (w'.setCell ⟨Q, 0, none⟩ (.int .i64 X))) ∧ Hid (Below w.heap.size w (w'.setCell ⟨Q, 0, none⟩ (.int .i64 X)))) := Lib.hid (fun w' hw' => by
            have h1 := hbx.out.below hw'
            exact ⟨⟨_, cellB h1 0 _ rfl⟩, freeB h1 0, Lib.hid (h1.one 0 (by decide) X), Lib.hid ((below2 hbl.out hw').setCell (by show w.heap.size ≤ Q; exact hwP) _)⟩)
          go_wp2_with (go_at_call 68; (with_reducible refine (cX.out _).mono ?_); rintro e w3 ⟨rfl, b3⟩; obtain ⟨⟨old, m0⟩, f9, hb5, hl5⟩ := key.out w3 b3; clear b3)
          go_roundw
          case rel => exact ⟨_, _, _, hb5, hl5, Or.inr (Or.inl ⟨rfl, rfl, rfl, rfl⟩)⟩
          case measure => simp [intOf]
        · have key : Hid (∀ w', Below wr.heap.size wr w' → (∃ old, w'.cell? ⟨Q, 1, none⟩ = some old) ∧ w'.frozen? ⟨Q, 1, none⟩ = false ∧ Hid (BoxC Q X Y z (w'.setCell ⟨Q, 1, none⟩ (.int .i64 Y))) ∧ Hid (Below w.heap.size w (w'.setCell ⟨Q, 1, none⟩ (.int .i64 Y)))) := Lib.hid (fun w' hw' => by
            have h1 := hbx.out.below hw'
            exact ⟨⟨_, cellB h1 1 _ rfl⟩, freeB h1 1, Lib.hid (h1.one 1 (by decide) Y), Lib.hid ((below2 hbl.out hw').setCell (by show w.heap.size ≤ Q; exact hwP) _)⟩)
          go_wp2_with (go_at_call 68; (with_reducible refine (cY.out _).mono ?_); rintro e w3 ⟨rfl, b3⟩; obtain ⟨⟨old, m0⟩, f9, hb5, hl5⟩ := key.out w3 b3; clear b3)
          go_roundw
          case rel => exact ⟨_, _, _, hb5, hl5, Or.inr (Or.inr (Or.inl ⟨rfl, rfl, rfl, rfl⟩))⟩
          case measure => simp [intOf]
        · have key : Hid (∀ w', Below wr.heap.size wr w' → (∃ old, w'.cell? ⟨Q, 2, none⟩ = some old) ∧ w'.frozen? ⟨Q, 2, none⟩ = false ∧ Hid (BoxC Q X Y U (w'.setCell ⟨Q, 2, none⟩ (.int .i64 U))) ∧ Hid (Below w.heap.size w (w'.setCell ⟨Q, 2, none⟩ (.int .i64 U)))) := Lib.hid (fun w' hw' => by
            have h1 := hbx.out.below hw'
            exact ⟨⟨_, cellB h1 2 _ rfl⟩, freeB h1 2, Lib.hid (h1.one 2 (by decide) U), Lib.hid ((below2 hbl.out hw').setCell (by show w.heap.size ≤ Q; exact hwP) _)⟩)
          go_wp2_with (go_at_call 68; (with_reducible refine (cU.out _).mono ?_); rintro e w3 ⟨rfl, b3⟩; obtain ⟨⟨old, m0⟩, f9, hb5, hl5⟩ := key.out w3 b3; clear b3)
          go_roundw
          case rel => exact ⟨_, _, _, hb5, hl5, Or.inr (Or.inr (Or.inr ⟨rfl, rfl, rfl, rfl⟩))⟩
          case measure => simp [intOf]
        · have hrow := Lib.hid (hbx.out.row hwP)
          go_wp2
          go_ret2
          exact rowCE_mk hfin.out hC.out hrow.out hbl.out
end Go.Proofs.Ytjnpladpegmiiaa
