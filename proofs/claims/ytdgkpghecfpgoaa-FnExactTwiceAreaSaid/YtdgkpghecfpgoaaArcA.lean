/-
  Outlines: twice the area.
-/
import Derived.Test.YtdgkpghecfpgoaaArcD
namespace Go.Proofs.Ytdgkpghecfpgoaa
open Go.ChangeShapes Go.WideShapes Go.ChangeAt Go.RowKit Go.Deep
set_option linter.unusedVariables false
set_option linter.unusedSimpArgs false
set_option maxRecDepth 1000000
def areaT (x : Arc) : Int := x.fx * x.ty - x.tx * x.fy
def areaK (Z : List Arc) : Nat → Int
  | 0 => 0
  | k + 1 => areaK Z k + areaT (Z.getD k arc0)
theorem areaT_bd {x : Arc} (h : arcB x = true) : (-10000000000 ≤ x.fx * x.ty ∧ x.fx * x.ty ≤ 10000000000) ∧ (-10000000000 ≤ x.tx * x.fy ∧ x.tx * x.fy ≤ 10000000000) := by
  obtain ⟨h1, h2, h3⟩ := arc_bd h
  have p2 := ptB_bd h2
  have p3 := ptB_bd h3
  have e1 := prod_bd (a := x.fx) (b := x.ty) (A := 100000) (B := 100000) (by omega) (by omega)
  have e2 := prod_bd (a := x.tx) (b := x.fy) (A := 100000) (B := 100000) (by omega) (by omega)
  omega
theorem areaK_bd {Z : List Arc} (h : outB Z = true) : ∀ k, k ≤ Z.length → -(20000000000 * (k : Int)) ≤ areaK Z k ∧ areaK Z k ≤ 20000000000 * (k : Int)
  | 0, _ => by unfold areaK; omega
  | k + 1, hk => by
    have h1 := areaK_bd h k (by omega)
    have h2 := areaT_bd (out_one h (show k < Z.length by omega))
    unfold areaK areaT
    rw [getD_of _ (show k < Z.length by omega)]
    omega
def areaV (Z : List Arc) : Int := pick (outB Z) (areaK Z Z.length)
set_option maxHeartbeats 1600000 in
theorem l05Area_any (v : Value) (Z : List Arc) (w : World) (hout0 : outB Z = true) (hv : ArcsAt w v Z) : Calls Try.prog 72 #[v] w fun e w' => e = .returned (.int .i64 (areaK Z Z.length)) ∧ Below w.heap.size w w' := by
  have hlen := out_len hout0
  have hout := Lib.hid hout0
  obtain ⟨p, cap, rfl, hcap, _, hread⟩ := hv
  have hread' := Lib.hid hread
  clear hread hout0
  go_enter Try.func72, Try.ntmps72
  go_wp2
  go_loopw [3, 4] (fun u i wr => ∃ (k : Nat) (A : Int), k ≤ Z.length ∧ i = .int .i64 k ∧ u = .int .i64 A ∧ -320000000000 ≤ A ∧ A ≤ 320000000000 ∧ Hid (A = areaK Z k) ∧ Hid (Below w.heap.size w wr)) (fun _ i _ => Z.length - (intOf i).toNat)
  case atStart => exact ⟨0, 0, by omega, rfl, rfl, by omega, by omega, Lib.hid rfl, Lib.hid (Below.refl _ _)⟩
  case round =>
    obtain ⟨k, A, hk, rfl, rfl, hA0, hA1, hA, hbel0⟩ := hrel
    have hb := hbel0.out
    by_cases hlt : k < Z.length
    · rcases hread'.out with h | ⟨g, o, rfl, hg, hc⟩
      · subst h; simp at hlt
      obtain ⟨x, hx⟩ : ∃ x, x = Z[k] := ⟨_, rfl⟩
      have hr := range_below (hc k hlt) hg hb
      have hx1 := out_one hout.out hlt
      rw [← hx] at hr hx1
      have hgr : g < wr.heap.size := Nat.lt_of_lt_of_le hg hb.size
      have hxk : Hid (Z.getD k arc0 = x) := Lib.hid (by rw [getD_of _ hlt, ← hx])
      have P1 := arcAt_of hr
      have hkI : (k : Int) < (Z.length : Int) := by omega
      clear hx hc
      obtain ⟨a, b, c, d, p, s⟩ := x
      obtain ⟨hx2, hx3, hx4⟩ := arc_bd hx1
      simp only at hx2 hx3 hx4
      obtain ⟨e1, e2⟩ := areaT_bd hx1
      simp only at e1 e2
      obtain ⟨c0, c1, c2, c3, c4, c5⟩ := P1
      simp only at c0 c1 c2 c3 c4 c5
      have hbd := areaK_bd hout.out (k + 1) (by omega)
      have hA2 : A + (c * s - p * d) = areaK Z (k + 1) := by
        show _ = areaK Z k + areaT (Z.getD k arc0)
        rw [hxk.out, ← hA.out]; rfl
      rw [← hA2] at hbd
      have hA2' := Lib.hid hA2
      clear hA2 hr hx1 hx2 hx3 hx4
      go_wp2
      go_quiet (fail)
      go_wp2
      go_roundw
      case rel => exact ⟨k + 1, A + (c * s - p * d), by omega, by go_num, rfl, by omega, by omega, hA2', Lib.hid (by first | exact belowN hb _ | exact hb)⟩
      case measure => simp [intOf]; omega
    · obtain rfl : k = Z.length := by omega
      go_wp2
      go_ret
      exact ⟨ret_int hA.out, hb⟩
theorem specTwiceArea_any (v : Value) (Z : List Arc) (w : World) (hn : Z.length ≤ 1048576) (hv : ArcsAt w v Z) : Calls Try.prog 42 #[v] w fun e w' => e = .returned (.tuple #[.int .i64 (areaV Z), .int .i64 (okC Z)]) ∧ Below w.heap.size w w' := by
  have cO := Lib.hid (l05Ok_any v Z w hn hv)
  cases h : outB Z
  · have hc1 : Hid (areaV Z = 0 ∧ okC Z = 1) := Lib.hid (by unfold areaV okC; rw [h]; exact ⟨rfl, rfl⟩)
    rw [h] at cO
    go_enter Try.func42, Try.ntmps42
    go_wp2_with (go_at_call 52; (with_reducible refine cO.out.mono ?_); rintro e w' ⟨rfl, hbel⟩)
    go_ret2
    exact ⟨ret_int2 hc1.out.1.symm hc1.out.2.symm, hbel⟩
  · have hc1 : Hid (areaV Z = areaK Z Z.length ∧ okC Z = 0) := Lib.hid (by unfold areaV okC; rw [h]; exact ⟨rfl, rfl⟩)
    rw [h] at cO
    have cC : ∀ W, Below w.heap.size w W → Calls Try.prog 72 #[v] W _ := fun W hb => l05Area_any v Z W h (hv.below hb)
    have cC' := Lib.hid cC
    clear cC
    go_enter Try.func42, Try.ntmps42
    go_wp2_with (first
      | (go_at_call 52; (with_reducible refine cO.out.mono ?_); rintro e w' ⟨rfl, hbel⟩)
      | (go_at_call 72; (with_reducible refine (cC'.out _ hbel).mono ?_); rintro e w2 ⟨rfl, hbel2⟩))
    go_ret2
    exact ⟨ret_int2 hc1.out.1.symm hc1.out.2.symm, below2 hbel hbel2⟩
set_option maxHeartbeats 1600000 in
theorem implTwiceArea_any (v : Value) (Z : List Arc) (w : World) (hn : Z.length ≤ 1048576) (hv : ArcsAt w v Z) : Calls Try.prog 43 #[v] w fun e w' => e = .returned (.tuple #[.int .i64 (areaV Z), .int .i64 (okC Z)]) ∧ Below w.heap.size w w' := by
  have cO := Lib.hid (implValidOutline_any v Z w hn hv)
  cases hout0 : outB Z
  · have hc1 : Hid (areaV Z = 0 ∧ okC Z = 1) := Lib.hid (by unfold areaV okC; rw [hout0]; exact ⟨rfl, rfl⟩)
    rw [hout0] at cO
    go_enter Try.func43, Try.ntmps43
    go_wp2_with (go_at_call 21; (with_reducible refine cO.out.mono ?_); rintro e w1 ⟨rfl, hbel1⟩)
    go_ret2
    exact ⟨ret_int2 hc1.out.1.symm hc1.out.2.symm, hbel1⟩
  have hlen := out_len hout0
  have hout := Lib.hid hout0
  rw [hout0] at cO
  have hv0 := Lib.hid hv
  obtain ⟨p, cap, rfl, hcap, _, hread0⟩ := hv
  clear hread0 hout0
  go_enter Try.func43, Try.ntmps43
  go_wp2_with (go_at_call 21; (with_reducible refine cO.out.mono ?_); rintro e w1 ⟨rfl, hbel1⟩)
  have hread' : Hid _ := Lib.hid hv0.out
  have hb1 := Lib.hid hbel1
  clear hbel1 cO hv0
  go_loopw [4, 12] (fun u i wr => ∃ (k : Nat) (A : Int), k ≤ Z.length ∧ i = .int .i64 k ∧ u = .int .i64 A ∧ -320000000000 ≤ A ∧ A ≤ 320000000000 ∧ Hid (A = areaK Z k) ∧ Hid (Below w.heap.size w wr)) (fun _ i _ => Z.length - (intOf i).toNat)
  case atStart => exact ⟨0, 0, by omega, rfl, rfl, by omega, by omega, Lib.hid rfl, hb1⟩
  case round =>
    obtain ⟨k, A, hk, rfl, rfl, hA0, hA1, hA, hbel0⟩ := hrel
    have hb := hbel0.out
    by_cases hlt : k < Z.length
    · obtain ⟨p2, cap2, hpe, _, _, hread⟩ := hread'.out
      injection hpe with hp1 _ hp3
      subst hp1 hp3
      rcases hread with h | ⟨g, o, rfl, hg, hc⟩
      · subst h; simp at hlt
      obtain ⟨x, hx⟩ : ∃ x, x = Z[k] := ⟨_, rfl⟩
      have hr := range_below (hc k hlt) hg hb
      have hx1 := out_one hout.out hlt
      rw [← hx] at hr hx1
      have hgr : g < wr.heap.size := Nat.lt_of_lt_of_le hg hb.size
      have hxk : Hid (Z.getD k arc0 = x) := Lib.hid (by rw [getD_of _ hlt, ← hx])
      have P1 := arcAt_of hr
      have hkI : (k : Int) < (Z.length : Int) := by omega
      clear hx hc
      obtain ⟨a, b, c, d, p, s⟩ := x
      obtain ⟨hx2, hx3, hx4⟩ := arc_bd hx1
      simp only at hx2 hx3 hx4
      obtain ⟨e1, e2⟩ := areaT_bd hx1
      simp only at e1 e2
      have hbd := areaK_bd hout.out (k + 1) (by omega)
      have hA2 : A + (c * s - d * p) = areaK Z (k + 1) := by
        show _ = areaK Z k + areaT (Z.getD k arc0)
        rw [hxk.out, ← hA.out, Int.mul_comm d p]; rfl
      rw [← hA2] at hbd
      have hA2' := Lib.hid hA2
      have p2 := ptB_bd hx3
      have p3 := ptB_bd hx4
      have hC : ∀ w, _ := fun w => crossProduct_any _ _ _ _ c d p s (fp_ofInt c) (fp_ofInt d) (fp_ofInt p) (fp_ofInt s) (by omega) (by omega) (by omega) (by omega) w
      have hC' := Lib.hid hC
      have hr1 : wr.rangeAt g (o + k * 6) [.int .i64 a, .int .i64 b, .int .i64 c, .int .i64 d, .int .i64 p, .int .i64 s] := hr
      rw [Int.mul_comm p d] at e2
      have ew : IntKind.i64.wrap (A + (c * s - d * p)) = A + (c * s - d * p) := IntWalk.i64_in _ (by omega)
      clear hA2 hr hx1 hx2 hx3 hx4 P1 hC p2 p3
      go_wp2_with (refine wpList_load_mid rfl _ _ rfl g (o + k * 6) rfl _ _ hr1 Try.underlying29 rfl rfl ?_)
      obtain ⟨q1, hB0, hsz⟩ := one_box wr #[.int .i64 a, .int .i64 b, .int .i64 c, .int .i64 d, .int .i64 p, .int .i64 s] 29
      generalize (wr.alloc (.cells #[.int .i64 a, .int .i64 b, .int .i64 c, .int .i64 d, .int .i64 p, .int .i64 s] 29)) = W0 at q1 hB0 hsz ⊢
      have hS : ((W0.cell? ⟨wr.heap.size, 0, none⟩ = some (.int .i64 a) ∧ W0.cell? ⟨wr.heap.size, 1, none⟩ = some (.int .i64 b) ∧ W0.cell? ⟨wr.heap.size, 2, none⟩ = some (.int .i64 c) ∧ W0.cell? ⟨wr.heap.size, 3, none⟩ = some (.int .i64 d) ∧ W0.cell? ⟨wr.heap.size, 4, none⟩ = some (.int .i64 p) ∧ W0.cell? ⟨wr.heap.size, 5, none⟩ = some (.int .i64 s)) ∧ Below W0.heap.size W0 W0) := ⟨⟨q1 0 _ rfl, q1 1 _ rfl, q1 2 _ rfl, q1 3 _ rfl, q1 4 _ rfl, q1 5 _ rfl⟩, Below.refl _ _⟩
      have keep : ∀ W1 W2, ((W1.cell? ⟨wr.heap.size, 0, none⟩ = some (.int .i64 a) ∧ W1.cell? ⟨wr.heap.size, 1, none⟩ = some (.int .i64 b) ∧ W1.cell? ⟨wr.heap.size, 2, none⟩ = some (.int .i64 c) ∧ W1.cell? ⟨wr.heap.size, 3, none⟩ = some (.int .i64 d) ∧ W1.cell? ⟨wr.heap.size, 4, none⟩ = some (.int .i64 p) ∧ W1.cell? ⟨wr.heap.size, 5, none⟩ = some (.int .i64 s)) ∧ Below W0.heap.size W0 W1) → Below W1.heap.size W1 W2 → ((W2.cell? ⟨wr.heap.size, 0, none⟩ = some (.int .i64 a) ∧ W2.cell? ⟨wr.heap.size, 1, none⟩ = some (.int .i64 b) ∧ W2.cell? ⟨wr.heap.size, 2, none⟩ = some (.int .i64 c) ∧ W2.cell? ⟨wr.heap.size, 3, none⟩ = some (.int .i64 d) ∧ W2.cell? ⟨wr.heap.size, 4, none⟩ = some (.int .i64 p) ∧ W2.cell? ⟨wr.heap.size, 5, none⟩ = some (.int .i64 s)) ∧ Below W0.heap.size W0 W2) := fun W1 W2 h1 h2 => by
        obtain ⟨p0, hb⟩ := h1
        exact ⟨ArcAt.below (x := ⟨a, b, c, d, p, s⟩) (o := 0) p0 (Nat.lt_of_lt_of_le hsz hb.size) h2, hb.trans (h2.mono hb.size)⟩
      have keepH := Lib.hid keep
      clear keep q1
      go_region_held3 (fun w' => ((w'.cell? ⟨wr.heap.size, 0, none⟩ = some (.int .i64 a) ∧ w'.cell? ⟨wr.heap.size, 1, none⟩ = some (.int .i64 b) ∧ w'.cell? ⟨wr.heap.size, 2, none⟩ = some (.int .i64 c) ∧ w'.cell? ⟨wr.heap.size, 3, none⟩ = some (.int .i64 d) ∧ w'.cell? ⟨wr.heap.size, 4, none⟩ = some (.int .i64 p) ∧ w'.cell? ⟨wr.heap.size, 5, none⟩ = some (.int .i64 s)) ∧ Below W0.heap.size W0 w'))
        (first | exact ⟨hS.1, belowN hS.2 1⟩ | exact keepH.out _ _ (by assumption) (by assumption) | assumption)
        (first | (go_at_call 74; (with_reducible refine (number_any _ _ _).mono ?_); rintro e w' ⟨rfl, hbel⟩) | (go_at_call 73; (with_reducible refine (hC'.out _).mono ?_); rintro e w' ⟨rfl, rfl⟩))
      rename_i hHeld'
      have hbel2 : Hid (Below w.heap.size w w') := Lib.hid (below2 (below2 hb hB0) hHeld'.2)
      clear hS keepH hHeld'
      go_wp2
      go_roundw
      case rel => exact ⟨k + 1, A + (c * s - d * p), by omega, by go_num, rfl, by omega, by omega, hA2', hbel2⟩
      case measure => simp [intOf]; omega
    · obtain rfl : k = Z.length := by omega
      have hc1 : Hid (areaV Z = areaK Z Z.length ∧ okC Z = 0) := Lib.hid (by unfold areaV okC; rw [hout.out]; exact ⟨rfl, rfl⟩)
      have hc2 : Hid (areaV Z = A) := Lib.hid (by rw [hc1.out.1, hA.out])
      go_wp2
      go_ret2
      exact ⟨ret_int2 hc2.out.symm hc1.out.2.symm, hb⟩
end Go.Proofs.Ytdgkpghecfpgoaa
