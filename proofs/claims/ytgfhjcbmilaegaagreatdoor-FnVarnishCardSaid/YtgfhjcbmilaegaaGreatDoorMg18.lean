/-
  Texts that stand together: Mxi, Fei.
-/
import Derived.Deep.Cut
import Derived.Test.YtgfhjcbmilaegaaGreatDoorMg11
import Derived.Test.YtgfhjcbmilaegaaGreatDoorMg17
namespace Go.Proofs.YtgfhjcbmilaegaaGreatDoor
open Go.ChangeShapes Go.WideShapes Go.ChangeAt Go.RowKit Go.Deep
set_option linter.unusedVariables false
set_option linter.unusedSimpArgs false
set_option maxRecDepth 1000000
theorem BoxC.one {P : Nat} {x y z : Int} {W : World} (h : BoxC P x y z W) (i : Nat) (hi : i < 3) (v : Int) : BoxC P (if i = 0 then v else x) (if i = 1 then v else y) (if i = 2 then v else z) (W.setCell ⟨P, i, none⟩ (.int .i64 v)) := by
  unfold BoxC
  rw [heap_setCell_same _ _ _ _ _ _ h]
  match i, hi with
  | 0, _ => rfl
  | 1, _ => rfl
  | 2, _ => rfl
theorem divR_small {a b : Int} (ha : 0 ≤ a ∧ a ≤ 100000000) (hb : 1 ≤ b ∧ b ≤ 100000000) : divR a b = rnd a b := by
  unfold divR
  rw [if_neg (by omega), if_neg (by rw [inB_iff.2 (by omega)]; decide), if_neg (by rw [inB_iff.2 (by omega)]; decide)]
set_option maxHeartbeats 6400000 in
theorem implMixColours_any (v : Value) (Z : List Ct) (v' : Value) (P : List Int) (w : World) (hz : Z.length ≤ 1048576) (hv : CtsAt w v Z) (ho : P.length ≤ 1048576) (hv' : IntsAt w v' P) : Calls Tryz.prog 14 #[v, v'] w (RowCE 52 (mixV Z P) (mixC Z P) w) := by
  have cV := implValidCoats_any v Z w hz hv
  have hV : Hid (mixV Z P = if ctsB Z = true then (if parB Z.length P = true then mix3 Z P else []) else []) := Lib.hid rfl
  have hC : Hid (mixC Z P = if ctsB Z = true then code (parB Z.length P) 7 else 1) := Lib.hid rfl
  have cO := fun W (hb : Below w.heap.size w W) => areParts_any v' P Z.length W ho hz (hv'.below hb)
  obtain ⟨p9, c9, hv9, _, _, hread9⟩ := hv
  subst hv9
  obtain ⟨p8, c8, hv8, _, _, hread8⟩ := hv'
  subst hv8
  cases q1 : ctsB Z
  · rw [q1] at cV hV hC
    replace cV := Lib.hid cV
    clear hread9 hread8 cO
    go_enter Tryz.func14, Tryz.ntmps14
    go_wp2_with (first | (go_at_call 11; (with_reducible refine (cV.out).mono ?_); rintro e w1 ⟨rfl, b1⟩))
    go_ret2
    exact rowCE_nil hV.out hC.out b1
  cases q2 : parB Z.length P
  · rw [q1] at cV hV hC
    rw [q2] at cO hV hC
    replace cV := Lib.hid cV
    replace cO := Lib.hid cO
    clear hread9 hread8
    go_enter Tryz.func14, Tryz.ntmps14
    go_wp2_with (first | (go_at_call 11; (with_reducible refine (cV.out).mono ?_); rintro e w1 ⟨rfl, b1⟩) | (go_at_call 31; (with_reducible refine (cO.out _ b1).mono ?_); rintro e w2 ⟨rfl, b2⟩))
    go_ret2
    exact rowCE_nil hV.out hC.out (below2 b1 b2)
  have hzB := Lib.hid q1
  have hl10 := cts_len q1
  have hmxb := Lib.hid (fun k (hk : k < 3) n (hn : n ≤ P.length) => mx_bd q1 q2 hk n hn)
  have hmx1 := Lib.hid (fun k (hk : k < 3) i (hi : i < P.length) => mx_one q1 q2 hk hi)
  have hpar := Lib.hid (fun i hi => (parB_facts q2).2 i hi)
  have hpsb := Lib.hid (fun k (hk : k ≤ P.length) => ps_bd q2 k hk)
  have hpt := Lib.hid (ps_tot q2)
  have hml := Lib.hid (parB_facts q2).1
  have hP10 : P.length ≤ 10 := by have := hml.out; omega
  rw [q1] at cV hV hC
  rw [q2] at cO hV hC
  replace cV := Lib.hid cV
  replace cO := Lib.hid cO
  have hr9 := Lib.hid hread9
  have hr8 := Lib.hid hread8
  clear hread9 hread8 q1 q2
  go_enter Tryz.func14, Tryz.ntmps14
  go_upto_region 6 with (first | (go_at_call 11; (with_reducible refine (cV.out).mono ?_); rintro e w1 ⟨rfl, b1⟩) | (go_at_call 31; (with_reducible refine (cO.out _ b1).mono ?_); rintro e w2 ⟨rfl, b2⟩))
  have hP0 : BoxC w2.heap.size 0 0 0 (w2.alloc (.cells #[.int .i64 0, .int .i64 0, .int .i64 0] 52)) := heap_alloc_new _ _
  have hb2 := below2 b1 b2
  have hB0 : Below w.heap.size w (w2.alloc (.cells #[.int .i64 0, .int .i64 0, .int .i64 0] 52)) := hb2.alloc hb2.size _
  have hwP : w.heap.size ≤ w2.heap.size := hb2.size
  generalize w2.alloc (.cells #[.int .i64 0, .int .i64 0, .int .i64 0] 52) = W0 at hP0 hB0 ⊢
  generalize w2.heap.size = Q at hP0 hwP ⊢
  have hP0' := Lib.hid hP0
  have hB0' := Lib.hid hB0
  clear hP0 hB0 b1 b2 hb2 cV cO
  go_wp2
  go_loopw [7, 26] (fun s i wr => ∃ (k : Nat) (m x y z : Int), k ≤ P.length ∧ i = .int .i64 k ∧ s = .int .i64 m ∧ Hid (m = sumK (psF P) k) ∧ Hid (x = sumK (mxP Z P 0) k ∧ y = sumK (mxP Z P 1) k ∧ z = sumK (mxP Z P 2) k) ∧ Hid (BoxC Q x y z wr) ∧ Hid (Below w.heap.size w wr)) (fun _ i _ => P.length - (intOf i).toNat)
  case atStart => exact ⟨0, 0, 0, 0, 0, by omega, rfl, rfl, Lib.hid rfl, Lib.hid ⟨rfl, rfl, rfl⟩, hP0', hB0'⟩
  case round =>
    obtain ⟨k, m, x, y, z, hk, rfl, rfl, hm, hxyz, hbox, hb⟩ := hrel
    by_cases hlt : k < P.length
    · rcases hr8.out with h | ⟨g8, o8, rfl, hg8, hc8⟩
      · subst h; simp at hlt
      rcases hr9.out with h | ⟨g, o, rfl, hg, hc⟩
      · have h9 := hml.out; rw [h] at h9; simp at h9; rw [h9] at hlt; simp at hlt
      have hkZ : k < Z.length := by rw [← hml.out]; exact hlt
      have hkI : (k : Int) < (Z.length : Int) := by omega
      have hkP : (k : Int) < (P.length : Int) := by omega
      have c8 := rowcell hb.out hg8 hc8 hlt
      obtain ⟨gc, oc, uc, hgc, x3, xk⟩ := mixCell hb.out hg hc hzB.out hkZ
      have hx0 := hmx1.out 0 (by decide) k hlt
      have hx1 := hmx1.out 1 (by decide) k hlt
      have hx2 := hmx1.out 2 (by decide) k hlt
      have hb0 := hmxb.out 0 (by decide) k hk
      have hb1 := hmxb.out 1 (by decide) k hk
      have hb2 := hmxb.out 2 (by decide) k hk
      rw [← hxyz.out.1] at hb0
      rw [← hxyz.out.2.1] at hb1
      rw [← hxyz.out.2.2] at hb2
      have s0 : x + mxP Z P 0 k = sumK (mxP Z P 0) (k + 1) := by unfold sumK; rw [← hxyz.out.1]
      have s1 : y + mxP Z P 1 k = sumK (mxP Z P 1) (k + 1) := by unfold sumK; rw [← hxyz.out.2.1]
      have s2 : z + mxP Z P 2 k = sumK (mxP Z P 2) (k + 1) := by unfold sumK; rw [← hxyz.out.2.2]
      have sm : m + P.getD k 0 = sumK (psF P) (k + 1) := by unfold sumK; rw [← hm.out]; rfl
      have hmb := hpsb.out k hk
      rw [← hm.out] at hmb
      have hpk := hpar.out k hlt
      have y0 := xk 0 (by decide)
      have y1 := xk 1 (by decide)
      have y2 := xk 2 (by decide)
      unfold mxP at s0 s1 s2 hx0 hx1 hx2
      obtain ⟨n0, hn0⟩ : ∃ n, n = (Z.getD k ct0).col.getD 0 0 := ⟨_, rfl⟩
      obtain ⟨n1, hn1⟩ : ∃ n, n = (Z.getD k ct0).col.getD 1 0 := ⟨_, rfl⟩
      obtain ⟨n2, hn2⟩ : ∃ n, n = (Z.getD k ct0).col.getD 2 0 := ⟨_, rfl⟩
      obtain ⟨p, hp⟩ : ∃ n, n = P.getD k 0 := ⟨_, rfl⟩
      rw [← hn0] at y0 s0 hx0
      rw [← hn1] at y1 s1 hx1
      rw [← hn2] at y2 s2 hx2
      rw [← hp] at c8 s0 s1 s2 sm hx0 hx1 hx2 hpk
      have f0 : IntKind.i64.wrap (n0 * p) = n0 * p := IntWalk.i64_in _ (by omega)
      have f1 : IntKind.i64.wrap (n1 * p) = n1 * p := IntWalk.i64_in _ (by omega)
      have f2 : IntKind.i64.wrap (n2 * p) = n2 * p := IntWalk.i64_in _ (by omega)
      have f3 : IntKind.i64.wrap (x + n0 * p) = x + n0 * p := IntWalk.i64_in _ (by omega)
      have f4 : IntKind.i64.wrap (y + n1 * p) = y + n1 * p := IntWalk.i64_in _ (by omega)
      have f5 : IntKind.i64.wrap (z + n2 * p) = z + n2 * p := IntWalk.i64_in _ (by omega)
      have f6 : IntKind.i64.wrap (m + p) = m + p := IntWalk.i64_in _ (by omega)
      have hS := Lib.hid (And.intro (And.intro s0 (And.intro s1 s2)) sm)
      have hY : Hid (∀ W, Below wr.heap.size wr W ∨ True → gc < wr.heap.size) := Lib.hid (fun _ _ => Nat.lt_of_lt_of_le hgc hb.out.size)
      have hY0 := Lib.hid (And.intro y0 (And.intro y1 y2))
      have hgcQ : gc < Q := Nat.lt_of_lt_of_le hgc hwP
      clear xk hn0 hn1 hn2 hp hc hc8 s0 s1 s2 sm y0 y1 y2 hx0 hx1 hx2 hb0 hb1 hb2 hmb hY
      obtain ⟨wo, hwo⟩ : ∃ wo, wo = wr := ⟨_, rfl⟩
      subst hwo
      go_upto_region 12 with fail
      have hkeep : Hid (∀ (W : World) (i : Nat) (v : Value), i < 3 → W.cell? ⟨gc, oc, none⟩ = some (.int .i64 n0) ∧ W.cell? ⟨gc, oc + 1, none⟩ = some (.int .i64 n1) ∧ W.cell? ⟨gc, oc + 2, none⟩ = some (.int .i64 n2) → ((W.setCell ⟨Q, i, none⟩ v).cell? ⟨gc, oc, none⟩ = some (.int .i64 n0) ∧ (W.setCell ⟨Q, i, none⟩ v).cell? ⟨gc, oc + 1, none⟩ = some (.int .i64 n1) ∧ (W.setCell ⟨Q, i, none⟩ v).cell? ⟨gc, oc + 2, none⟩ = some (.int .i64 n2))) := Lib.hid (fun W i v _ h => by
        have hc : ∀ j, (W.setCell ⟨Q, i, none⟩ v).cell? ⟨gc, j, none⟩ = W.cell? ⟨gc, j, none⟩ := fun j => World.cell?_of_block (w := W) (by rw [heap_setCell_other _ _ _ _ (by simp; omega)])
        exact ⟨(hc _).trans h.1, (hc _).trans h.2.1, (hc _).trans h.2.2⟩)
      go_loopw [40] (fun j wr => ∃ x' y' z' : Int, Hid (BoxC Q x' y' z' wr) ∧ Hid (Below w.heap.size w wr) ∧ Hid (wr.cell? ⟨gc, oc, none⟩ = some (.int .i64 n0) ∧ wr.cell? ⟨gc, oc + 1, none⟩ = some (.int .i64 n1) ∧ wr.cell? ⟨gc, oc + 2, none⟩ = some (.int .i64 n2)) ∧ ((j = .int .i64 0 ∧ x = x' ∧ y = y' ∧ z = z') ∨ (j = .int .i64 1 ∧ x' = x + n0 * p ∧ y = y' ∧ z = z') ∨ (j = .int .i64 2 ∧ x' = x + n0 * p ∧ y' = y + n1 * p ∧ z = z') ∨ (j = .int .i64 3 ∧ x' = x + n0 * p ∧ y' = y + n1 * p ∧ z' = z + n2 * p))) (fun j _ => 3 - (intOf j).toNat)
      case atStart => exact ⟨x, y, z, hbox, hb, hY0, Or.inl ⟨rfl, rfl, rfl, rfl⟩⟩
      case round =>
        obtain ⟨x', y', z', hbx, hbl, hcl, hcase⟩ := hrel
        rcases hcase with ⟨rfl, rfl, rfl, rfl⟩ | ⟨rfl, rfl, rfl, rfl⟩ | ⟨rfl, rfl, rfl, rfl⟩ | ⟨rfl, rfl, rfl, rfl⟩
        · have m0 : wr.cell? ⟨Q, 0, none⟩ = some (.int .i64 x) := cellB hbx.out 0 _ rfl
          have fr := freeB hbx.out 0
          have cn : wr.cell? ⟨gc, oc, none⟩ = some (.int .i64 n0) := hcl.out.1
          have hb5 : Hid (BoxC Q (x + n0 * p) y z (wr.setCell ⟨Q, 0, none⟩ (.int .i64 (x + n0 * p)))) := Lib.hid (hbx.out.one 0 (by decide) _)
          have hl5 : Hid (Below w.heap.size w (wr.setCell ⟨Q, 0, none⟩ (.int .i64 (x + n0 * p)))) := Lib.hid (hbl.out.setCell (by show w.heap.size ≤ Q; exact hwP) _)
          have hc5 := Lib.hid (hkeep.out wr 0 (.int .i64 (x + n0 * p)) (by decide) hcl.out)
          go_wp2
          go_roundw
          case rel => exact ⟨_, _, _, hb5, hl5, hc5, Or.inr (Or.inl ⟨rfl, rfl, rfl, rfl⟩)⟩
          case measure => simp [intOf]
        · have m0 : wr.cell? ⟨Q, 1, none⟩ = some (.int .i64 y) := cellB hbx.out 1 _ rfl
          have fr := freeB hbx.out 1
          have cn : wr.cell? ⟨gc, oc + 1, none⟩ = some (.int .i64 n1) := hcl.out.2.1
          have hb5 : Hid (BoxC Q (x + n0 * p) (y + n1 * p) z (wr.setCell ⟨Q, 1, none⟩ (.int .i64 (y + n1 * p)))) := Lib.hid (hbx.out.one 1 (by decide) _)
          have hl5 : Hid (Below w.heap.size w (wr.setCell ⟨Q, 1, none⟩ (.int .i64 (y + n1 * p)))) := Lib.hid (hbl.out.setCell (by show w.heap.size ≤ Q; exact hwP) _)
          have hc5 := Lib.hid (hkeep.out wr 1 (.int .i64 (y + n1 * p)) (by decide) hcl.out)
          go_wp2
          go_roundw
          case rel => exact ⟨_, _, _, hb5, hl5, hc5, Or.inr (Or.inr (Or.inl ⟨rfl, rfl, rfl, rfl⟩))⟩
          case measure => simp [intOf]
        · have m0 : wr.cell? ⟨Q, 2, none⟩ = some (.int .i64 z) := cellB hbx.out 2 _ rfl
          have fr := freeB hbx.out 2
          have cn : wr.cell? ⟨gc, oc + 2, none⟩ = some (.int .i64 n2) := hcl.out.2.2
          have hb5 : Hid (BoxC Q (x + n0 * p) (y + n1 * p) (z + n2 * p) (wr.setCell ⟨Q, 2, none⟩ (.int .i64 (z + n2 * p)))) := Lib.hid (hbx.out.one 2 (by decide) _)
          have hl5 : Hid (Below w.heap.size w (wr.setCell ⟨Q, 2, none⟩ (.int .i64 (z + n2 * p)))) := Lib.hid (hbl.out.setCell (by show w.heap.size ≤ Q; exact hwP) _)
          have hc5 := Lib.hid (hkeep.out wr 2 (.int .i64 (z + n2 * p)) (by decide) hcl.out)
          go_wp2
          go_roundw
          case rel => exact ⟨_, _, _, hb5, hl5, hc5, Or.inr (Or.inr (Or.inr ⟨rfl, rfl, rfl, rfl⟩))⟩
          case measure => simp [intOf]
        · have hsm := hS.out
          have h1 : Hid (x + n0 * p = sumK (mxP Z P 0) (k + 1) ∧ y + n1 * p = sumK (mxP Z P 1) (k + 1) ∧ z + n2 * p = sumK (mxP Z P 2) (k + 1)) := Lib.hid hsm.1
          have h2 : Hid (m + p = sumK (psF P) (k + 1)) := Lib.hid hsm.2
          clear hsm
          go_wp2
          go_roundw
          case rel => exact ⟨k + 1, m + p, _, _, _, by omega, by go_num, rfl, h2, h1, hbx, hbl⟩
          case measure => simp [intOf]; omega
    · obtain rfl : k = P.length := by omega
      have hmt := hpt.out
      have hmb := (hpsb.out _ (Nat.le_refl P.length)).2
      rw [← hm.out] at hmt hmb
      have hmm : 1 ≤ m ∧ m ≤ 10000 := by omega
      have hb0 := hmxb.out 0 (by decide) _ (Nat.le_refl P.length)
      have hb1 := hmxb.out 1 (by decide) _ (Nat.le_refl P.length)
      have hb2 := hmxb.out 2 (by decide) _ (Nat.le_refl P.length)
      rw [← hxyz.out.1] at hb0
      rw [← hxyz.out.2.1] at hb1
      rw [← hxyz.out.2.2] at hb2
      obtain ⟨X, hX⟩ : ∃ X, X = rnd x m := ⟨_, rfl⟩
      have cX : Hid (∀ W, Calls Tryz.prog 32 #[.int .i64 x, .int .i64 m] W fun e w' => e = .returned (.int .i64 X) ∧ Below W.heap.size W w') := Lib.hid (fun W => (implDivRound_any _ _ W).mono (by rintro e w' ⟨rfl, q, rfl⟩; exact ⟨ret_int (by rw [divR_small (by omega) (by omega), hX]), belowN (Below.refl _ _) q⟩))
      obtain ⟨Y, hY⟩ : ∃ Y, Y = rnd y m := ⟨_, rfl⟩
      have cY : Hid (∀ W, Calls Tryz.prog 32 #[.int .i64 y, .int .i64 m] W fun e w' => e = .returned (.int .i64 Y) ∧ Below W.heap.size W w') := Lib.hid (fun W => (implDivRound_any _ _ W).mono (by rintro e w' ⟨rfl, q, rfl⟩; exact ⟨ret_int (by rw [divR_small (by omega) (by omega), hY]), belowN (Below.refl _ _) q⟩))
      obtain ⟨U, hU⟩ : ∃ U, U = rnd z m := ⟨_, rfl⟩
      have cU : Hid (∀ W, Calls Tryz.prog 32 #[.int .i64 z, .int .i64 m] W fun e w' => e = .returned (.int .i64 U) ∧ Below W.heap.size W w') := Lib.hid (fun W => (implDivRound_any _ _ W).mono (by rintro e w' ⟨rfl, q, rfl⟩; exact ⟨ret_int (by rw [divR_small (by omega) (by omega), hU]), belowN (Below.refl _ _) q⟩))
      have hfin : Hid (mixV Z P = [X, Y, U]) := Lib.hid (by rw [hV.out, hX, hY, hU, hxyz.out.1, hxyz.out.2.1, hxyz.out.2.2, hm.out]; simp [mix3, mix1])
      have hr70 : wr.rangeAt Q 0 [.int .i64 x, .int .i64 y, .int .i64 z] := fun j v hv => by rw [Nat.zero_add]; exact cellB hbox.out j v (by simpa using hv)
      clear hX hY hU hb0 hb1 hb2 hmt hmb hm hxyz
      go_upto_region 18 with (refine wpList_load_mid rfl _ _ rfl Q 0 rfl _ _ hr70 Tryz.underlying52 rfl rfl ?_)
      clear hr70
      have i0 : ∀ w, (Instr.index 52 (.agg #[.int .i64 x, .int .i64 y, .int .i64 z]) (.int .i64 0)).run Tryz.prog w = .ok (.int .i64 x) w := fun _ => by kernel_rfl
      have i1 : ∀ w, (Instr.index 52 (.agg #[.int .i64 x, .int .i64 y, .int .i64 z]) (.int .i64 1)).run Tryz.prog w = .ok (.int .i64 y) w := fun _ => by kernel_rfl
      have i2 : ∀ w, (Instr.index 52 (.agg #[.int .i64 x, .int .i64 y, .int .i64 z]) (.int .i64 2)).run Tryz.prog w = .ok (.int .i64 z) w := fun _ => by kernel_rfl
      go_loopw [56] (fun j wr => ∃ x' y' z' : Int, Hid (BoxC Q x' y' z' wr) ∧ Hid (Below w.heap.size w wr) ∧ ((j = .int .i64 0 ∧ x = x' ∧ y = y' ∧ z = z') ∨ (j = .int .i64 1 ∧ X = x' ∧ y = y' ∧ z = z') ∨ (j = .int .i64 2 ∧ X = x' ∧ Y = y' ∧ z = z') ∨ (j = .int .i64 3 ∧ X = x' ∧ Y = y' ∧ U = z'))) (fun j _ => 3 - (intOf j).toNat)
      case atStart => exact ⟨x, y, z, hbox, hb, Or.inl ⟨rfl, rfl, rfl, rfl⟩⟩
      case round =>
        obtain ⟨x', y', z', hbx, hbl, hcase⟩ := hrel
        rcases hcase with ⟨rfl, rfl, rfl, rfl⟩ | ⟨rfl, rfl, rfl, rfl⟩ | ⟨rfl, rfl, rfl, rfl⟩ | ⟨rfl, rfl, rfl, rfl⟩
        · have key : Hid (∀ w', Below wr.heap.size wr w' → (∃ old, w'.cell? ⟨Q, 0, none⟩ = some old) ∧ w'.frozen? ⟨Q, 0, none⟩ = false ∧ Hid (BoxC Q X y z (w'.setCell ⟨Q, 0, none⟩ (.int .i64 X))) ∧ Hid (Below w.heap.size w (w'.setCell ⟨Q, 0, none⟩ (.int .i64 X)))) := Lib.hid (fun w' hw' => by
            have h1 := hbx.out.below hw'
            exact ⟨⟨_, cellB h1 0 _ rfl⟩, freeB h1 0, Lib.hid (h1.one 0 (by decide) X), Lib.hid ((below2 hbl.out hw').setCell (by show w.heap.size ≤ Q; exact hwP) _)⟩)
          go_wp2_with (go_at_call 32; (with_reducible refine (cX.out _).mono ?_); rintro e w3 ⟨rfl, b3⟩; obtain ⟨⟨old, m0⟩, f9, hb5, hl5⟩ := key.out w3 b3; clear b3)
          go_roundw
          case rel => exact ⟨_, _, _, hb5, hl5, Or.inr (Or.inl ⟨rfl, rfl, rfl, rfl⟩)⟩
          case measure => simp [intOf]
        · have key : Hid (∀ w', Below wr.heap.size wr w' → (∃ old, w'.cell? ⟨Q, 1, none⟩ = some old) ∧ w'.frozen? ⟨Q, 1, none⟩ = false ∧ Hid (BoxC Q X Y z (w'.setCell ⟨Q, 1, none⟩ (.int .i64 Y))) ∧ Hid (Below w.heap.size w (w'.setCell ⟨Q, 1, none⟩ (.int .i64 Y)))) := Lib.hid (fun w' hw' => by
            have h1 := hbx.out.below hw'
            exact ⟨⟨_, cellB h1 1 _ rfl⟩, freeB h1 1, Lib.hid (h1.one 1 (by decide) Y), Lib.hid ((below2 hbl.out hw').setCell (by show w.heap.size ≤ Q; exact hwP) _)⟩)
          go_wp2_with (go_at_call 32; (with_reducible refine (cY.out _).mono ?_); rintro e w3 ⟨rfl, b3⟩; obtain ⟨⟨old, m0⟩, f9, hb5, hl5⟩ := key.out w3 b3; clear b3)
          go_roundw
          case rel => exact ⟨_, _, _, hb5, hl5, Or.inr (Or.inr (Or.inl ⟨rfl, rfl, rfl, rfl⟩))⟩
          case measure => simp [intOf]
        · have key : Hid (∀ w', Below wr.heap.size wr w' → (∃ old, w'.cell? ⟨Q, 2, none⟩ = some old) ∧ w'.frozen? ⟨Q, 2, none⟩ = false ∧ Hid (BoxC Q X Y U (w'.setCell ⟨Q, 2, none⟩ (.int .i64 U))) ∧ Hid (Below w.heap.size w (w'.setCell ⟨Q, 2, none⟩ (.int .i64 U)))) := Lib.hid (fun w' hw' => by
            have h1 := hbx.out.below hw'
            exact ⟨⟨_, cellB h1 2 _ rfl⟩, freeB h1 2, Lib.hid (h1.one 2 (by decide) U), Lib.hid ((below2 hbl.out hw').setCell (by show w.heap.size ≤ Q; exact hwP) _)⟩)
          go_wp2_with (go_at_call 32; (with_reducible refine (cU.out _).mono ?_); rintro e w3 ⟨rfl, b3⟩; obtain ⟨⟨old, m0⟩, f9, hb5, hl5⟩ := key.out w3 b3; clear b3)
          go_roundw
          case rel => exact ⟨_, _, _, hb5, hl5, Or.inr (Or.inr (Or.inr ⟨rfl, rfl, rfl, rfl⟩))⟩
          case measure => simp [intOf]
        · have hrow := Lib.hid (hbx.out.row hwP)
          go_wp2
          go_ret2
          exact rowCE_mk hfin.out hC.out hrow.out hbl.out
end Go.Proofs.YtgfhjcbmilaegaaGreatDoor
namespace Go.Proofs.YtgfhjcbmilaegaaGreatDoor
open Go.ChangeShapes Go.WideShapes Go.ChangeAt Go.RowKit Go.Deep
set_option linter.unusedVariables false
set_option linter.unusedSimpArgs false
set_option maxRecDepth 1000000
set_option maxHeartbeats 3200000 in
theorem implFewestCoats_any (s : ByteArray) (a b : Int) (u : Value) (L : List Int) (v1 : Value) (G : List Int) (v2 : Value) (H : List Int) (z : Int) (w : World) (hs : s.size ≤ maxLen) (hL : L.length ≤ maxLen) (h0 : IntsAt w u L) (hG9 : G.length ≤ 1048576) (h1 : IntsAt w v1 G) (hH9 : H.length ≤ 1048576) (h2 : IntsAt w v2 H) : Calls Tryz.prog 18 #[.agg #[.string s, .int .i64 a, .int .i64 b, u], v1, v2, .int .i64 z] w fun e w' => e = .returned (.tuple #[.int .i64 (fewV s a b L G H z), .int .i64 (fewC s a b L G H z)]) ∧ Below w.heap.size w w' := by
  have hV : Hid (fewV s a b L G H z = if fewOk s a b L G H = true then (if inB z 0 765 = true then (if fewN b L G H z < 11 then (fewN b L G H z : Int) else 0) else 0) else 0) := Lib.hid rfl
  have hC : Hid (fewC s a b L G H z = if fewOk s a b L G H = true then (if inB z 0 765 = true then (if fewN b L G H z < 11 then 0 else 3) else 2) else 1) := Lib.hid rfl
  have hK : Hid (fewOk s a b L G H = (ctB ⟨s, a, b, L⟩ && colB G && colB H)) := Lib.hid rfl
  obtain ⟨q9, hB0, hsz⟩ := one_boxC w #[.string s, .int .i64 a, .int .i64 b, u] 36
  have x0 := q9 0 _ rfl
  have x1 := q9 1 _ rfl
  have x2 := q9 2 _ rfl
  have x3 := q9 3 _ rfl
  obtain ⟨W0, hW0⟩ : ∃ W0, W0 = (w.alloc (.cells #[.string s, .int .i64 a, .int .i64 b, u] 36)) := ⟨_, rfl⟩
  rw [← hW0] at x0 x1 x2 x3 hB0 hsz
  have hBx := heap_alloc_new w (.cells #[.string s, .int .i64 a, .int .i64 b, u] 36)
  rw [← hW0] at hBx
  have hat : CtAt W0 w.heap.size 0 ⟨s, a, b, L⟩ u := ⟨⟨x0, x1, x2, x3⟩, h0.below hB0⟩
  have cV := isValidCt_any s a b u L hs hL W0 (h0.below hB0)
  have cG := fun W (hb : Below W0.heap.size W0 W) => isColour_any v1 G W (by unfold maxLen; omega) ((h1.below hB0).below hb)
  have cH := fun W (hb : Below W0.heap.size W0 W) => isColour_any v2 H W (by unfold maxLen; omega) ((h2.below hB0).below hb)
  have cF := fun W => within64_any z 0 765 W
  have hrng : W0.rangeAt w.heap.size 0 [.string s, .int .i64 a, .int .i64 b, u] := fun j v hv => by rw [Nat.zero_add]; exact cellB hBx j v (by simpa using hv)
  have hat' := Lib.hid hat
  have hv1 := Lib.hid h1
  have hv2 := Lib.hid h2
  cases q0 : ctB ⟨s, a, b, L⟩
  · rw [q0] at cV hK
    replace cV := Lib.hid cV
    clear h0 h1 h2 hat cG cH cF
    go_enter Tryz.func18, Tryz.ntmps18
    go_upto_region 1 with fail
    rw [← hW0]
    clear hW0
    go_wp2_with (first | (refine wpList_load_mid rfl _ _ rfl w.heap.size 0 rfl _ _ hrng Tryz.underlying36 rfl rfl ?_) | (go_at_call 29; (with_reducible refine (cV.out).mono ?_); rintro e w1 ⟨rfl, b1⟩))
    go_ret2
    exact ⟨ret_int2 (by rw [hV.out, hK.out]; simp) (by rw [hC.out, hK.out]; simp), (below2 hB0 b1)⟩
  rw [q0] at cV hK
  cases q1 : colB G
  · rw [q1] at cG hK
    replace cV := Lib.hid cV
    replace cG := Lib.hid cG
    clear h0 h1 h2 hat cH cF
    go_enter Tryz.func18, Tryz.ntmps18
    go_upto_region 1 with fail
    rw [← hW0]
    clear hW0
    go_wp2_with (first | (refine wpList_load_mid rfl _ _ rfl w.heap.size 0 rfl _ _ hrng Tryz.underlying36 rfl rfl ?_) | (go_at_call 29; (with_reducible refine (cV.out).mono ?_); rintro e w1 ⟨rfl, b1⟩) | (go_at_call 24; (with_reducible refine (cG.out _ b1).mono ?_); rintro e w2 ⟨rfl, b2⟩))
    go_ret2
    exact ⟨ret_int2 (by rw [hV.out, hK.out]; simp) (by rw [hC.out, hK.out]; simp), (below2 hB0 (below2 b1 b2))⟩
  rw [q1] at cG hK
  cases q2 : colB H
  · rw [q2] at cH hK
    replace cV := Lib.hid cV
    replace cG := Lib.hid cG
    replace cH := Lib.hid cH
    clear h0 h1 h2 hat cF
    go_enter Tryz.func18, Tryz.ntmps18
    go_upto_region 1 with fail
    rw [← hW0]
    clear hW0
    go_wp2_with (first | (refine wpList_load_mid rfl _ _ rfl w.heap.size 0 rfl _ _ hrng Tryz.underlying36 rfl rfl ?_) | (go_at_call 29; (with_reducible refine (cV.out).mono ?_); rintro e w1 ⟨rfl, b1⟩) | (go_at_call 24; (with_reducible refine (cG.out _ b1).mono ?_); rintro e w2 ⟨rfl, b2⟩) | (go_at_call 24; (with_reducible refine (cH.out _ (below2 b1 b2)).mono ?_); rintro e w3 ⟨rfl, b3⟩))
    go_ret2
    exact ⟨ret_int2 (by rw [hV.out, hK.out]; simp) (by rw [hC.out, hK.out]; simp), (below2 hB0 (below2 (below2 b1 b2) b3))⟩
  rw [q2] at cH hK
  cases q3 : inB z 0 765
  · rw [q3] at cF hV hC
    replace cV := Lib.hid cV
    replace cG := Lib.hid cG
    replace cH := Lib.hid cH
    replace cF := Lib.hid cF
    clear h0 h1 h2 hat 
    go_enter Tryz.func18, Tryz.ntmps18
    go_upto_region 1 with fail
    rw [← hW0]
    clear hW0
    go_wp2_with (first | (refine wpList_load_mid rfl _ _ rfl w.heap.size 0 rfl _ _ hrng Tryz.underlying36 rfl rfl ?_) | (go_at_call 29; (with_reducible refine (cV.out).mono ?_); rintro e w1 ⟨rfl, b1⟩) | (go_at_call 24; (with_reducible refine (cG.out _ b1).mono ?_); rintro e w2 ⟨rfl, b2⟩) | (go_at_call 24; (with_reducible refine (cH.out _ (below2 b1 b2)).mono ?_); rintro e w3 ⟨rfl, b3⟩) | (go_at_call 40; (with_reducible refine (cF.out _).mono ?_); rintro e w4 ⟨rfl, rfl⟩))
    go_ret2
    exact ⟨ret_int2 (by rw [hV.out, hK.out]; simp) (by rw [hC.out, hK.out]; simp), (below2 hB0 (below2 (below2 b1 b2) b3))⟩
  rw [q3] at cF hV hC
  have hV2 : Hid (fewV s a b L G H z = if fewN b L G H z < 11 then (fewN b L G H z : Int) else 0) := Lib.hid (by rw [hV.out, hK.out]; simp)
  have hC2 : Hid (fewC s a b L G H z = if fewN b L G H z < 11 then 0 else 3) := Lib.hid (by rw [hC.out, hK.out]; simp)
  have hN : Hid (fewN b L G H z = fstK (fewP b L G H z) 11 0) := Lib.hid rfl
  have hbd := ct_bd q0
  have hcol := Lib.hid (it_col (col3_of hbd.2.2) hbd.2.1 (col3_of q1))
  have hbv := hbd.2.1
  obtain ⟨p, q, r, hLe, bp, bq, br⟩ := col3_of hbd.2.2
  obtain ⟨a', b', c', hHe, ba', bb', bc'⟩ := col3_of q2
  obtain ⟨e0', e1', e2', hGe, bx0, by0, bz0⟩ := col3_of q1
  have hGe' := Lib.hid hGe
  have hHe' := Lib.hid hHe
  have hLe' := Lib.hid hLe
  clear hV hC hK hbd q0 q1 q2 q3 hGe hHe hLe
  replace cV := Lib.hid cV
  replace cG := Lib.hid cG
  replace cH := Lib.hid cH
  replace cF := Lib.hid cF
  obtain ⟨g1, o1, u1c, hv1e, hg1, k0, k1, k2⟩ := row3 (w := w) (v := v1) (by have := hv1.out; rw [hGe'.out] at this; exact this)
  obtain ⟨g2, o2, u2c, hv2e, hg2, l0, l1, l2⟩ := row3 (w := w) (v := v2) (by have := hv2.out; rw [hHe'.out] at this; exact this)
  have hk1 : Hid (∀ W, Below W0.heap.size W0 W → W.cell? ⟨g1, o1, none⟩ = some (.int .i64 e0') ∧ W.cell? ⟨g1, o1 + 1, none⟩ = some (.int .i64 e1') ∧ W.cell? ⟨g1, o1 + 2, none⟩ = some (.int .i64 e2')) := Lib.hid (fun W hb => ⟨(bcell (below2 hB0 hb) _ _ hg1).trans k0, (bcell (below2 hB0 hb) _ _ hg1).trans k1, (bcell (below2 hB0 hb) _ _ hg1).trans k2⟩)
  have hk2 : Hid (∀ W, Below w.heap.size w W → W.cell? ⟨g2, o2, none⟩ = some (.int .i64 a') ∧ W.cell? ⟨g2, o2 + 1, none⟩ = some (.int .i64 b') ∧ W.cell? ⟨g2, o2 + 2, none⟩ = some (.int .i64 c')) := Lib.hid (fun W hb => ⟨(bcell hb _ _ hg2).trans l0, (bcell hb _ _ hg2).trans l1, (bcell hb _ _ hg2).trans l2⟩)
  subst hv1e
  subst hv2e
  obtain ⟨ua, uc, hue⟩ := intsShape h0
  subst hue
  have hrng' := Lib.hid hrng
  have h0' := Lib.hid h0
  clear h0 h1 h2 hat k0 k1 k2 l0 l1 l2
  go_enter Tryz.func18, Tryz.ntmps18
  go_upto_region 1 with fail
  rw [← hW0]
  clear hW0
  go_upto_region 6 with (first | (refine wpList_load_mid rfl _ _ rfl w.heap.size 0 rfl _ _ hrng Tryz.underlying36 rfl rfl ?_) | (go_at_call 29; (with_reducible refine (cV.out).mono ?_); rintro e w1 ⟨rfl, b1⟩) | (go_at_call 24; (with_reducible refine (cG.out _ b1).mono ?_); rintro e w2 ⟨rfl, b2⟩) | (go_at_call 24; (with_reducible refine (cH.out _ (below2 b1 b2)).mono ?_); rintro e w3 ⟨rfl, b3⟩) | (go_at_call 40; (with_reducible refine (cF.out _).mono ?_); rintro e w4 ⟨rfl, rfl⟩; obtain ⟨n0, n1, n2⟩ := hk1.out _ (below2 (below2 b1 b2) b3)) | (rw [run_arrayAt3 (by decide)]; go_simp))
  have b123 := below2 (below2 b1 b2) b3
  have hP0 : BoxC w3.heap.size e0' e1' e2' (w3.alloc (.cells #[.int .i64 e0', .int .i64 e1', .int .i64 e2'] 52)) := heap_alloc_new _ _
  have hB03 := below2 hB0 b123
  have hB4 : Below w.heap.size w (w3.alloc (.cells #[.int .i64 e0', .int .i64 e1', .int .i64 e2'] 52)) := hB03.alloc hB03.size _
  have hB04 : Below W0.heap.size W0 (w3.alloc (.cells #[.int .i64 e0', .int .i64 e1', .int .i64 e2'] 52)) := b123.alloc b123.size _
  have hwP : w.heap.size < w3.heap.size := Nat.lt_of_lt_of_le hsz b123.size
  generalize w3.alloc (.cells #[.int .i64 e0', .int .i64 e1', .int .i64 e2'] 52) = W4 at hP0 hB4 hB04 ⊢
  generalize w3.heap.size = P at hP0 hwP ⊢
  have hP0' := Lib.hid hP0
  have hB4' := Lib.hid hB4
  have hX0 := Lib.hid ((hB04.block _ hsz).trans hBx)
  have hL0 : Hid (([e0', e1', e2'] : List Int) = itK L b G 0) := Lib.hid hGe'.out.symm
  clear hP0 hB4 hB04 hB03 b123 b1 b2 b3 n0 n1 n2 cV cG cH cF hk1 hrng hrng' x0 x1 x2 x3 hBx q9 hat'
  go_wp2
  go_loopw [33] (fun i wr => ∃ (k : Nat) (x y z3 : Int), k ≤ 11 ∧ i = .int .i64 k ∧ Hid ([x, y, z3] = itK L b G k) ∧ Hid (fewN b L G H z = fstK (fewP b L G H z) (11 - k) k) ∧ Hid (BoxC P x y z3 wr) ∧ Hid (wr.heap[w.heap.size]? = some (.cells #[.string s, .int .i64 a, .int .i64 b, .slice ua L.length uc] 36 (0, 0))) ∧ Hid (Below w.heap.size w wr)) (fun i _ => 11 - (intOf i).toNat)
  case atStart => exact ⟨0, e0', e1', e2', by omega, rfl, hL0, hN, hP0', hX0, hB4'⟩
  case round =>
    obtain ⟨k, x, y, z3, hk, rfl, hCe, hNk, hbox, hX, hb⟩ := hrel
    by_cases hlt : k < 11
    · obtain ⟨x9, y9, z9, hCx, bx, by9, bz⟩ := hcol.out k
      have hpk : fewP b L G H z k = decide (gap3 x9 y9 z9 a' b' c' ≤ z) := by unfold fewP; rw [hCx, hHe'.out]; rfl
      rw [← hCe.out] at hCx
      injection hCx with hx9 hCx
      injection hCx with hy9 hCx
      injection hCx with hz9 _
      subst hx9 hy9 hz9
      obtain ⟨gg, hgg⟩ : ∃ gg, gg = gap3 x y z3 a' b' c' := ⟨_, rfl⟩
      have cP := fun W => gapTo_any x y z3 a' b' c' bx by9 bz ba' bb' bc' W
      rw [← hgg] at hpk
      rw [← hgg] at cP
      replace cP := Lib.hid cP
      have hkI : (k : Int) < 11 := by omega
      have hfs : Hid (fstK (fewP b L G H z) (11 - k) k = if fewP b L G H z k = true then k else fstK (fewP b L G H z) (11 - (k + 1)) (k + 1)) := Lib.hid (by rw [show 11 - k = (11 - (k + 1)) + 1 by omega]; rfl)
      have hlw := hb.out.size
      have hPl := ltOf hbox.out
      have keepH : Hid (∀ W1 W2, ((W1.cell? ⟨P, 0, none⟩ = some (.int .i64 x) ∧ W1.cell? ⟨P, 1, none⟩ = some (.int .i64 y) ∧ W1.cell? ⟨P, 2, none⟩ = some (.int .i64 z3)) ∧ (W1.cell? ⟨g2, o2, none⟩ = some (.int .i64 a') ∧ W1.cell? ⟨g2, o2 + 1, none⟩ = some (.int .i64 b') ∧ W1.cell? ⟨g2, o2 + 2, none⟩ = some (.int .i64 c')) ∧ Below wr.heap.size wr W1) → Below W1.heap.size W1 W2 → ((W2.cell? ⟨P, 0, none⟩ = some (.int .i64 x) ∧ W2.cell? ⟨P, 1, none⟩ = some (.int .i64 y) ∧ W2.cell? ⟨P, 2, none⟩ = some (.int .i64 z3)) ∧ (W2.cell? ⟨g2, o2, none⟩ = some (.int .i64 a') ∧ W2.cell? ⟨g2, o2 + 1, none⟩ = some (.int .i64 b') ∧ W2.cell? ⟨g2, o2 + 2, none⟩ = some (.int .i64 c')) ∧ Below wr.heap.size wr W2)) := Lib.hid (fun W1 W2 h1 h2 => by
        obtain ⟨⟨p0, p1, p2⟩, ⟨r0, r1, r2⟩, hb⟩ := h1
        have zz := hb.size
        exact ⟨⟨(bcell h2 _ _ (by omega)).trans p0, (bcell h2 _ _ (by omega)).trans p1, (bcell h2 _ _ (by omega)).trans p2⟩, ⟨(bcell h2 _ _ (by omega)).trans r0, (bcell h2 _ _ (by omega)).trans r1, (bcell h2 _ _ (by omega)).trans r2⟩, below2 hb h2⟩)
      have hS : ((wr.cell? ⟨P, 0, none⟩ = some (.int .i64 x) ∧ wr.cell? ⟨P, 1, none⟩ = some (.int .i64 y) ∧ wr.cell? ⟨P, 2, none⟩ = some (.int .i64 z3)) ∧ (wr.cell? ⟨g2, o2, none⟩ = some (.int .i64 a') ∧ wr.cell? ⟨g2, o2 + 1, none⟩ = some (.int .i64 b') ∧ wr.cell? ⟨g2, o2 + 2, none⟩ = some (.int .i64 c')) ∧ Below wr.heap.size wr wr) := ⟨⟨cellB hbox.out 0 _ rfl, cellB hbox.out 1 _ rfl, cellB hbox.out 2 _ rfl⟩, hk2.out wr hb.out, Below.refl _ _⟩
      have key : Hid (∀ w9, Below wr.heap.size wr w9 → w9.rangeAt w.heap.size 0 [.string s, .int .i64 a, .int .i64 b, .slice ua L.length uc] ∧ w9.rangeAt P 0 [.int .i64 x, .int .i64 y, .int .i64 z3] ∧
          Calls Tryz.prog 26 #[.agg #[.string s, .int .i64 a, .int .i64 b, .slice ua L.length uc], .agg #[.int .i64 x, .int .i64 y, .int .i64 z3]] w9 fun e w' => e = .returned (.agg #[.int .i64 (ovN x p b), .int .i64 (ovN y q b), .int .i64 (ovN z3 r b)]) ∧ Below w9.heap.size w9 w') := Lib.hid (fun w9 h9 => by
        have e1 := (h9.block _ (ltOf hX.out)).trans hX.out
        have e2 := hbox.out.below h9
        refine ⟨fun j v hv => by rw [Nat.zero_add]; exact cellB e1 j v (by simpa using hv), fun j v hv => by rw [Nat.zero_add]; exact cellB e2 j v (by simpa using hv), ?_⟩
        exact over_any s a b _ p q r x y z3 bx by9 bz bp bq br hbv w9 (by have := (h0'.out.below hb.out).below h9; rw [hLe'.out] at this ⊢; exact this))
      have key5 : Hid (∀ w9 w10, Below wr.heap.size wr w9 → Below w9.heap.size w9 w10 → w10.there P 0 3 ∧ ∀ w5 X Y Q, w10.setCells P 0 [.int .i64 X, .int .i64 Y, .int .i64 Q] = w5 → Hid (BoxC P X Y Q w5) ∧ Hid (w5.heap[w.heap.size]? = some (.cells #[.string s, .int .i64 a, .int .i64 b, .slice ua L.length uc] 36 (0, 0))) ∧ Hid (Below w.heap.size w w5)) := Lib.hid (fun w9 w10 h9 h10 => by
        have hbb := below2 h9 h10
        refine ⟨(hbox.out.below hbb).there, fun w5 X Y Q h5 => ?_⟩
        subst h5
        have gs := grownSets P [.int .i64 X, .int .i64 Y, .int .i64 Q] 0 w10
        have e1 := (hbb.block _ (ltOf hX.out)).trans hX.out
        exact ⟨Lib.hid (setThree (hbox.out.below hbb) _ _ _), Lib.hid ((gs.block _ (ltOf e1) (by simp; omega)).trans e1), Lib.hid (below_sets (by omega) _ _ _ (below2 hb.out hbb))⟩)
      clear hgg hX hbox hlw hPl
      by_cases hgz : gg ≤ z
      · have hfin : Hid (fewN b L G H z = k) := Lib.hid (by rw [hNk.out, hfs.out, hpk, decide_eq_true hgz]; rfl)
        clear hpk key key5
        go_upto_region 9 with fail
        go_region_held3 (fun w' => ((w'.cell? ⟨P, 0, none⟩ = some (.int .i64 x) ∧ w'.cell? ⟨P, 1, none⟩ = some (.int .i64 y) ∧ w'.cell? ⟨P, 2, none⟩ = some (.int .i64 z3)) ∧ (w'.cell? ⟨g2, o2, none⟩ = some (.int .i64 a') ∧ w'.cell? ⟨g2, o2 + 1, none⟩ = some (.int .i64 b') ∧ w'.cell? ⟨g2, o2 + 2, none⟩ = some (.int .i64 c')) ∧ Below wr.heap.size wr w'))
          (first | exact ⟨hS.1, hS.2.1, belowN hS.2.2 1⟩ | exact keepH.out _ _ (by assumption) (by assumption) | assumption)
          (first | (rw [run_arrayAt3 (by decide)]; go_simp) | (go_at_call 27; (with_reducible refine (cP.out _).mono ?_); rintro e w' ⟨rfl, hbel⟩))
        all_goals rename_i hHeld
        all_goals go_wp2
        all_goals go_ret2
        all_goals exact ⟨ret_int2 (by rw [hV2.out, hfin.out, if_pos hlt]) (by rw [hC2.out, hfin.out, if_pos hlt]), below2 hb.out hHeld.2.2⟩
      · have hNk2 : Hid (fewN b L G H z = fstK (fewP b L G H z) (11 - (k + 1)) (k + 1)) := Lib.hid (by rw [hNk.out, hfs.out, hpk, decide_eq_false hgz]; rfl)
        have hnx : Hid ([ovN x p b, ovN y q b, ovN z3 r b] = itK L b G (k + 1)) := Lib.hid (by show _ = ov3 L b (itK L b G k); rw [← hCe.out, hLe'.out]; rfl)
        obtain ⟨X, hX1⟩ : ∃ X, X = ovN x p b := ⟨_, rfl⟩
        obtain ⟨Y, hY1⟩ : ∃ Y, Y = ovN y q b := ⟨_, rfl⟩
        obtain ⟨Q, hZ1⟩ : ∃ Q, Q = ovN z3 r b := ⟨_, rfl⟩
        rw [← hX1, ← hY1, ← hZ1] at hnx key
        clear hpk hX1 hY1 hZ1
        go_upto_region 9 with fail
        go_region_held3 (fun w' => ((w'.cell? ⟨P, 0, none⟩ = some (.int .i64 x) ∧ w'.cell? ⟨P, 1, none⟩ = some (.int .i64 y) ∧ w'.cell? ⟨P, 2, none⟩ = some (.int .i64 z3)) ∧ (w'.cell? ⟨g2, o2, none⟩ = some (.int .i64 a') ∧ w'.cell? ⟨g2, o2 + 1, none⟩ = some (.int .i64 b') ∧ w'.cell? ⟨g2, o2 + 2, none⟩ = some (.int .i64 c')) ∧ Below wr.heap.size wr w'))
          (first | exact ⟨hS.1, hS.2.1, belowN hS.2.2 1⟩ | exact keepH.out _ _ (by assumption) (by assumption) | assumption)
          (first | (rw [run_arrayAt3 (by decide)]; go_simp) | (go_at_call 27; (with_reducible refine (cP.out _).mono ?_); rintro e w' ⟨rfl, hbel⟩))
        all_goals rename_i hHeld
        all_goals obtain ⟨hr45, hr70, cS⟩ := key.out _ hHeld.2.2
        all_goals have cS' := Lib.hid cS
        all_goals have key6 := Lib.hid (fun w10 h10 => key5.out _ w10 hHeld.2.2 h10)
        all_goals clear cS key key5 hS keepH
        all_goals go_wp2_with (first
          | (refine wpList_load_mid rfl _ _ rfl w.heap.size 0 rfl _ _ hr45 Tryz.underlying36 rfl rfl ?_)
          | (refine wpList_load_mid rfl _ _ rfl P 0 rfl _ _ hr70 Tryz.underlying52 rfl rfl ?_)
          | (go_at_call 26; (with_reducible refine cS'.out.mono ?_); rintro e w10 ⟨rfl, b10⟩; obtain ⟨th, key7⟩ := key6.out w10 b10; clear b10)
          | (refine wpList_store_mid rfl _ _ _ rfl P 0 _ rfl rfl ?_ sizeCo (oneCo _ _ _) ?_; (exact th); generalize hW : World.setCells _ _ _ _ = w5; (have Hk := key7 w5 _ _ _ hW); clear hW; obtain ⟨hbox5, hX5, hb5⟩ := Hk))
        all_goals go_roundw
        case rel => exact ⟨k + 1, X, Y, Q, by omega, by go_num, hnx, hNk2, hbox5, hX5, hb5⟩
        case measure => simp [intOf]; omega
    · obtain rfl : k = 11 := by omega
      have hfin : Hid (fewN b L G H z = 11) := Lib.hid (by rw [hNk.out]; rfl)
      go_wp2
      go_ret2
      exact ⟨ret_int2 (by rw [hV2.out, hfin.out]; rfl) (by rw [hC2.out, hfin.out]; rfl), hb.out⟩
end Go.Proofs.YtgfhjcbmilaegaaGreatDoor
