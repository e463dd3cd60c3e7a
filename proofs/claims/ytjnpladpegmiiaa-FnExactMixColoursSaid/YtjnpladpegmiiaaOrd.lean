/-
  Orders of coats: valid ones, and how long they dry.
-/
import Derived.Test.YtjnpladpegmiiaaCtsW
import Derived.Test.YtjnpladpegmiiaaCtsM
import Derived.Test.YtjnpladpegmiiaaRowE
import Derived.Test.YtjnpladpegmiiaaColG
namespace Go.Proofs.Ytjnpladpegmiiaa
open Go.ChangeShapes Go.WideShapes Go.ChangeAt Go.RowKit Go.Deep
set_option linter.unusedVariables false
set_option linter.unusedSimpArgs false
set_option maxRecDepth 1000000
/-- an order of n coats -/
def ordC (n : Nat) (O : List Int) : Bool := decide (O.length ≤ 10) && allI O 0 ((n : Int) - 1)
theorem ordC_len {n : Nat} {O : List Int} (h : ordC n O = true) : O.length ≤ 10 := of_decide_eq_true (Bool.and_eq_true_iff.1 h).1
theorem ordC_at {n : Nat} {O : List Int} (h : ordC n O = true) {k : Nat} (hk : k < O.length) : 0 ≤ O.getD k 0 ∧ (O.getD k 0).toNat < n ∧ O.getD k 0 = ((O.getD k 0).toNat : Int) := by
  have := allI_iff.1 (Bool.and_eq_true_iff.1 h).2 (O.getD k 0) (by rw [getD_of _ hk]; exact List.getElem_mem hk)
  omega
theorem isOrder_any (v : Value) (O : List Int) (n : Nat) (w : World) (hn : n ≤ 1048576) (hO : O.length ≤ 1048576) (hv : IntsAt w v O) : Calls Try.prog 52 #[v, .int .i64 (n : Int)] w fun e w' => e = .returned (.bool (ordC n O)) ∧ Below w.heap.size w w' := by
  have cA := Lib.hid (allWithin_any v O 0 ((n : Int) - 1) w (by unfold maxLen; omega) hv)
  have hx : Hid (ordC n O = (decide (O.length ≤ 10) && allI O 0 ((n : Int) - 1))) := Lib.hid rfl
  have e1 : IntKind.i64.wrap ((n : Int) - 1) = (n : Int) - 1 := IntWalk.i64_in _ (by omega)
  obtain ⟨q, hq⟩ : ∃ q, q = allI O 0 ((n : Int) - 1) := ⟨_, rfl⟩
  rw [← hq] at cA hx
  obtain ⟨a0, cap, rfl, _, _, _⟩ := hv
  clear hq
  by_cases h10 : O.length ≤ 10
  · cases q
    all_goals
      go_enter Try.func52, Try.ntmps52
      go_wp2_with (go_at_call 89; (with_reducible refine cA.out.mono ?_); rintro e w2 ⟨rfl, b2⟩)
      go_ret
      exact ⟨ret_bool (by rw [hx.out]; simp [h10]), b2⟩
  · go_enter Try.func52, Try.ntmps52
    go_wp2
    go_ret
    exact ⟨ret_bool (by rw [hx.out]; simp [h10]), Below.refl _ _⟩
set_option maxHeartbeats 1600000 in
theorem l13Order_any (vz : Value) (pz : Option Addr) (n cz : Nat) (hvz : vz = .slice pz n cz) (v : Value) (O : List Int) (w : World) (hn : n ≤ 1048576) (hO : O.length ≤ 1048576) (hv : IntsAt w v O) : Calls Try.prog 51 #[vz, v] w fun e w' => e = .returned (.bool (ordC n O)) ∧ w = w' := by
  subst hvz
  have hx : Hid (ordC n O = (decide (O.length ≤ 10) && allK (wAt O 0 ((n : Int) - 1)) O.length)) := Lib.hid rfl
  have e1 : IntKind.i64.wrap ((n : Int) - 1) = (n : Int) - 1 := IntWalk.i64_in _ (by omega)
  obtain ⟨a0, cap, rfl, hcap, hids, hread⟩ := hv
  have hread' := Lib.hid hread
  clear hread hids
  go_enter Try.func51, Try.ntmps51
  go_wp2
  go_loopw [5] (fun i wr => ∃ k : Nat, k ≤ O.length ∧ i = .int .i64 k ∧ Hid (allK (wAt O 0 ((n : Int) - 1)) k = true) ∧ wr = w) (fun i _ => O.length - (intOf i).toNat)
  case atStart => exact ⟨0, by omega, rfl, Lib.hid rfl, rfl⟩
  case round =>
    obtain ⟨k, hk, rfl, hall, rfl⟩ := hrel
    by_cases hlt : k < O.length
    · rcases hread'.out with h | ⟨g, o, rfl, hg, hc⟩
      · subst h; simp at hlt
      have hltI : (k : Int) < (O.length : Int) := by omega
      have c0 := rowcell (Below.refl _ _) hg hc hlt
      have hst : Hid (wAt O 0 ((n : Int) - 1) k = inB (O.getD k 0) 0 ((n : Int) - 1)) := Lib.hid rfl
      obtain ⟨x, hx'⟩ : ∃ x, x = O.getD k 0 := ⟨_, rfl⟩
      rw [← hx'] at c0 hst
      have cT := fun W => l00In_any x 0 ((n : Int) - 1) W
      clear hx' hc
      cases hcmp : inB x 0 ((n : Int) - 1)
      · rw [hcmp] at cT hst
        have hno : Hid (ordC n O = false) := Lib.hid (by rw [hx.out, allK_no hst.out hlt, Bool.and_false])
        go_wp2_with (go_at_call 65; (with_reducible refine (cT _).mono ?_); rintro e w2 ⟨rfl, rfl⟩)
        go_ret
        exact ⟨ret_bool hno.out.symm, rfl⟩
      · rw [hcmp] at cT hst
        have hall2 : Hid (allK (wAt O 0 ((n : Int) - 1)) (k + 1) = true) := Lib.hid (allK_yes hall.out hst.out)
        go_wp2_with (go_at_call 65; (with_reducible refine (cT _).mono ?_); rintro e w2 ⟨rfl, rfl⟩)
        go_roundw
        case rel => exact ⟨k + 1, by omega, by go_num, hall2, trivial⟩
        case measure => simp [intOf]; omega
    · have hkl : k = O.length := by omega
      have hfin : Hid (ordC n O = decide (O.length ≤ 10)) := Lib.hid (by have h9 := hall.out; rw [hkl] at h9; rw [hx.out, h9, Bool.and_true])
      clear hkl
      by_cases h10 : O.length ≤ 10
      all_goals
        go_wp2
        go_ret
        exact ⟨ret_bool (by rw [hfin.out]; first | (simp [h10]; done) | (simp; omega) | (simp [h10]; omega)), rfl⟩
theorem ctB_bd {x : Ct} (h : ctB x = true) : (0 ≤ x.days ∧ x.days ≤ 365) ∧ (0 ≤ x.cover ∧ x.cover ≤ 1000) ∧ colB x.col = true := ct_bd (s := x.id) (a := x.days) (b := x.cover) (L := x.col) h
/-- sums of the first k values -/
def sumK (f : Nat → Int) : Nat → Int
  | 0 => 0
  | k + 1 => sumK f k + f k
def dayF (Z : List Ct) (O : List Int) (i : Nat) : Int := (Z.getD (O.getD i 0).toNat ct0).days
def dayV (Z : List Ct) (O : List Int) : Int := if ctsB Z = true then pick (ordC Z.length O) (sumK (dayF Z O) O.length) else 0
def dayC (Z : List Ct) (O : List Int) : Int := if ctsB Z = true then code (ordC Z.length O) 7 else 1
theorem cts_getD {Z : List Ct} {k : Nat} (h : k < Z.length) : Z.getD k ct0 = Z[k] := by rw [List.getD_eq_getElem?_getD, List.getElem?_eq_getElem h]; rfl
theorem dayS_bd {Z : List Ct} {O : List Int} (hz : ctsB Z = true) (ho : ordC Z.length O = true) : ∀ k, k ≤ O.length → 0 ≤ sumK (dayF Z O) k ∧ sumK (dayF Z O) k ≤ 365 * k
  | 0, _ => by unfold sumK; omega
  | k + 1, hk => by
    have h1 := dayS_bd hz ho k (by omega)
    have h2 := ordC_at ho (k := k) (by omega)
    have h3 := (ctB_bd (cts_one hz h2.2.1)).1
    have h4 : dayF Z O k = Z[(O.getD k 0).toNat].days := by unfold dayF; rw [cts_getD h2.2.1]
    unfold sumK
    rw [h4]
    omega
/-- the cells of the coat that an order names -/
theorem ordCell {w wr : World} {g o : Nat} {Z : List Ct} {O : List Int} (hb : Below w.heap.size w wr) (hg : g < w.heap.size) (hc : ∀ i (hi : i < Z.length), ∃ u, w.rangeAt g (o + i * 4) (Z[i].cells u) ∧ IntsAt w u Z[i].col) (ho : ordC Z.length O = true) {k : Nat} (hk : k < O.length) : ∃ (m : Nat) (u : Value), O.getD k 0 = (m : Int) ∧ m < Z.length ∧ CtAt wr g (o + m * 4) (Z.getD m ct0) u ∧ Z.getD (O.getD k 0).toNat ct0 = Z.getD m ct0 := by
  have h2 := ordC_at ho hk
  obtain ⟨u, hu, hui⟩ := hc _ h2.2.1
  exact ⟨(O.getD k 0).toNat, u, h2.2.2, h2.2.1, by rw [cts_getD h2.2.1]; exact ctAt_of (range_below hu hg hb) (hui.below hb), rfl⟩
set_option maxHeartbeats 1600000 in
theorem specDryingDays_any (v : Value) (Z : List Ct) (v' : Value) (O : List Int) (w : World) (hz : Z.length ≤ 1048576) (hv : CtsAt w v Z) (ho : O.length ≤ 1048576) (hv' : IntsAt w v' O) : Calls Try.prog 18 #[v, v'] w fun e w' => e = .returned (.tuple #[.int .i64 (dayV Z O), .int .i64 (dayC Z O)]) ∧ Below w.heap.size w w' := by
  have cV := l13Ok_any v Z w hz hv
  have hV : Hid (dayV Z O = if ctsB Z = true then pick (ordC Z.length O) (sumK (dayF Z O) O.length) else 0) := Lib.hid rfl
  have hC : Hid (dayC Z O = if ctsB Z = true then code (ordC Z.length O) 7 else 1) := Lib.hid rfl
  have hv0 := hv
  obtain ⟨p9, c9, hv9, _, _, hread9⟩ := hv0
  have cO := fun W (hb : Below w.heap.size w W) => l13Order_any v p9 Z.length c9 hv9 v' O W hz ho (hv'.below hb)
  cases q1 : ctsB Z
  · rw [q1] at cV hV hC
    replace cV := Lib.hid cV
    subst hv9
    clear cO hread9 hv
    go_enter Try.func18, Try.ntmps18
    go_wp2_with (go_at_call 47; (with_reducible refine cV.out.mono ?_); rintro e w1 ⟨rfl, b1⟩)
    go_ret2
    exact ⟨ret_int2 hV.out.symm hC.out.symm, b1.below⟩
  cases q2 : ordC Z.length O
  · rw [q1] at cV hV hC
    rw [q2] at cO hV hC
    replace cV := Lib.hid cV
    replace cO := Lib.hid cO
    subst hv9
    clear hread9 hv
    go_enter Try.func18, Try.ntmps18
    go_wp2_with (first | (go_at_call 47; (with_reducible refine cV.out.mono ?_); rintro e w1 ⟨rfl, b1⟩) | (go_at_call 51; (with_reducible refine (cO.out _ b1.below).mono ?_); rintro e w2 ⟨rfl, rfl⟩))
    go_ret2
    exact ⟨ret_int2 hV.out.symm hC.out.symm, b1.below⟩
  have hbd := Lib.hid (fun k hk => dayS_bd q1 q2 k hk)
  have hoB := Lib.hid q2
  have hl10 := ordC_len q2
  rw [q1] at cV hV hC
  rw [q2] at cO hV hC
  replace cV := Lib.hid cV
  replace cO := Lib.hid cO
  subst hv9
  have hr9 := Lib.hid hread9
  obtain ⟨p8, c8, rfl, _, _, hread8⟩ := hv'
  have hr8 := Lib.hid hread8
  clear hread9 hv q1 q2 hread8
  go_enter Try.func18, Try.ntmps18
  go_wp2_with (first | (go_at_call 47; (with_reducible refine cV.out.mono ?_); rintro e w1 ⟨rfl, b1⟩) | (go_at_call 51; (with_reducible refine (cO.out _ b1.below).mono ?_); rintro e w2 ⟨rfl, rfl⟩))
  have hB2 := Lib.hid b1.below
  go_loopw [6, 7] (fun s i wr => ∃ (k : Nat) (m : Int), k ≤ O.length ∧ i = .int .i64 k ∧ s = .int .i64 m ∧ Hid (m = sumK (dayF Z O) k) ∧ 0 ≤ m ∧ m ≤ 3650 ∧ Hid (Below w.heap.size w wr)) (fun _ i _ => O.length - (intOf i).toNat)
  case atStart => exact ⟨0, 0, by omega, rfl, rfl, Lib.hid rfl, by omega, by omega, hB2⟩
  case round =>
    obtain ⟨k, m, hk, rfl, rfl, hm, hm0, hm1, hb⟩ := hrel
    by_cases hlt : k < O.length
    · rcases hr8.out with h | ⟨g8, o8, rfl, hg8, hc8⟩
      · subst h; simp at hlt
      have c0 := rowcell hb.out hg8 hc8 hlt
      rcases hr9.out with h | ⟨g, o, rfl, hg, hc⟩
      · have := (ordC_at hoB.out hlt).2.1; rw [h] at this; simp at this
      obtain ⟨j, u, hj, hjl, hat, hgd⟩ := ordCell hb.out hg hc hoB.out hlt
      have hnew : Hid (m + (Z.getD j ct0).days = sumK (dayF Z O) (k + 1)) := Lib.hid (by unfold sumK; rw [← hm.out]; unfold dayF; rw [hgd])
      have hbn := hbd.out (k + 1) (by omega)
      rw [← hnew.out] at hbn
      rw [hj] at c0
      have c1 := hat.1.2.1
      obtain ⟨d, hd⟩ : ∃ d, d = (Z.getD j ct0).days := ⟨_, rfl⟩
      rw [← hd] at c1 hnew hbn
      have hjI : (j : Int) < (Z.length : Int) := by omega
      have hbn2 : 0 ≤ m + d ∧ m + d ≤ 3650 := by omega
      clear hd hat hgd hj hc hc8 hbn
      go_wp2
      go_roundw
      case rel => exact ⟨k + 1, m + d, by omega, by go_num, rfl, hnew, by omega, by omega, hb⟩
      case measure => simp [intOf]; omega
    · obtain rfl : k = O.length := by omega
      have hfin : Hid (m = dayV Z O) := Lib.hid (by rw [hV.out]; simp [pick]; exact hm.out)
      go_wp2
      go_ret2
      exact ⟨ret_int2 hfin.out hC.out.symm, hb.out⟩
set_option maxHeartbeats 1600000 in
theorem implDryingDays_any (v : Value) (Z : List Ct) (v' : Value) (O : List Int) (w : World) (hz : Z.length ≤ 1048576) (hv : CtsAt w v Z) (ho : O.length ≤ 1048576) (hv' : IntsAt w v' O) : Calls Try.prog 20 #[v, v'] w fun e w' => e = .returned (.tuple #[.int .i64 (dayV Z O), .int .i64 (dayC Z O)]) ∧ Below w.heap.size w w' := by
  have cV := implValidCoats_any v Z w hz hv
  have hV : Hid (dayV Z O = if ctsB Z = true then pick (ordC Z.length O) (sumK (dayF Z O) O.length) else 0) := Lib.hid rfl
  have hC : Hid (dayC Z O = if ctsB Z = true then code (ordC Z.length O) 7 else 1) := Lib.hid rfl
  have hv0 := hv
  obtain ⟨p9, c9, hv9, _, _, hread9⟩ := hv0
  have cO := fun W (hb : Below w.heap.size w W) => isOrder_any v' O Z.length W hz ho (hv'.below hb)
  cases q1 : ctsB Z
  · rw [q1] at cV hV hC
    replace cV := Lib.hid cV
    subst hv9
    clear cO hread9 hv
    go_enter Try.func20, Try.ntmps20
    go_wp2_with (go_at_call 16; (with_reducible refine cV.out.mono ?_); rintro e w1 ⟨rfl, b1⟩)
    go_ret2
    exact ⟨ret_int2 hV.out.symm hC.out.symm, b1⟩
  cases q2 : ordC Z.length O
  · rw [q1] at cV hV hC
    rw [q2] at cO hV hC
    replace cV := Lib.hid cV
    replace cO := Lib.hid cO
    subst hv9
    clear hread9 hv
    go_enter Try.func20, Try.ntmps20
    go_wp2_with (first | (go_at_call 16; (with_reducible refine cV.out.mono ?_); rintro e w1 ⟨rfl, b1⟩) | (go_at_call 52; (with_reducible refine (cO.out _ b1).mono ?_); rintro e w2 ⟨rfl, b2⟩))
    go_ret2
    exact ⟨ret_int2 hV.out.symm hC.out.symm, (below2 b1 b2)⟩
  have hbd := Lib.hid (fun k hk => dayS_bd q1 q2 k hk)
  have hoB := Lib.hid q2
  have hl10 := ordC_len q2
  rw [q1] at cV hV hC
  rw [q2] at cO hV hC
  replace cV := Lib.hid cV
  replace cO := Lib.hid cO
  subst hv9
  have hr9 := Lib.hid hread9
  obtain ⟨p8, c8, rfl, _, _, hread8⟩ := hv'
  have hr8 := Lib.hid hread8
  clear hread9 hv q1 q2 hread8
  go_enter Try.func20, Try.ntmps20
  go_wp2_with (first | (go_at_call 16; (with_reducible refine cV.out.mono ?_); rintro e w1 ⟨rfl, b1⟩) | (go_at_call 52; (with_reducible refine (cO.out _ b1).mono ?_); rintro e w2 ⟨rfl, b2⟩))
  have hB2 := Lib.hid (below2 b1 b2)
  go_loopw [6, 21] (fun s i wr => ∃ (k : Nat) (m : Int), k ≤ O.length ∧ i = .int .i64 k ∧ s = .int .i64 m ∧ Hid (m = sumK (dayF Z O) k) ∧ 0 ≤ m ∧ m ≤ 3650 ∧ Hid (Below w.heap.size w wr)) (fun _ i _ => O.length - (intOf i).toNat)
  case atStart => exact ⟨0, 0, by omega, rfl, rfl, Lib.hid rfl, by omega, by omega, hB2⟩
  case round =>
    obtain ⟨k, m, hk, rfl, rfl, hm, hm0, hm1, hb⟩ := hrel
    by_cases hlt : k < O.length
    · rcases hr8.out with h | ⟨g8, o8, rfl, hg8, hc8⟩
      · subst h; simp at hlt
      have c0 := rowcell hb.out hg8 hc8 hlt
      rcases hr9.out with h | ⟨g, o, rfl, hg, hc⟩
      · have := (ordC_at hoB.out hlt).2.1; rw [h] at this; simp at this
      obtain ⟨j, u, hj, hjl, hat, hgd⟩ := ordCell hb.out hg hc hoB.out hlt
      have hnew : Hid (m + (Z.getD j ct0).days = sumK (dayF Z O) (k + 1)) := Lib.hid (by unfold sumK; rw [← hm.out]; unfold dayF; rw [hgd])
      have hbn := hbd.out (k + 1) (by omega)
      rw [← hnew.out] at hbn
      rw [hj] at c0
      have c1 := hat.1.2.1
      obtain ⟨d, hd⟩ : ∃ d, d = (Z.getD j ct0).days := ⟨_, rfl⟩
      rw [← hd] at c1 hnew hbn
      have hjI : (j : Int) < (Z.length : Int) := by omega
      have hbn2 : 0 ≤ m + d ∧ m + d ≤ 3650 := by omega
      clear hd hat hgd hj hc hc8 hbn
      go_wp2
      go_roundw
      case rel => exact ⟨k + 1, m + d, by omega, by go_num, rfl, hnew, by omega, by omega, hb⟩
      case measure => simp [intOf]; omega
    · obtain rfl : k = O.length := by omega
      have hfin : Hid (m = dayV Z O) := Lib.hid (by rw [hV.out]; simp [pick]; exact hm.out)
      go_wp2
      go_ret2
      exact ⟨ret_int2 hfin.out hC.out.symm, hb.out⟩
end Go.Proofs.Ytjnpladpegmiiaa
