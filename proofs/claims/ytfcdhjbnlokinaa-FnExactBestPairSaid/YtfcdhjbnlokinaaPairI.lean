/-
  The program's contract of the closest pair of a list of planks.
-/
import Derived.Test.YtfcdhjbnlokinaaPairMath
namespace Go.Proofs.Ytfcdhjbnlokinaa
open Go.ChangeShapes Go.WideShapes Go.ChangeAt Go.RowKit Go.Deep
set_option linter.unusedVariables false
set_option linter.unusedSimpArgs false
set_option maxHeartbeats 6400000 in
set_option maxRecDepth 1000000 in
theorem implBestPair_any (v : Value) (Z : List Plk) (w : World) (hn : Z.length ≤ 1048576) (hv : PlksAt w v Z) : Calls Try.prog 16 #[v] w fun e w' => e = .returned (.tuple #[.int .i64 (bpA Z), .int .i64 (bpB Z), .int .i64 (bpC Z)]) ∧ Below w.heap.size w w' := by
  have cV0 := implValidPlanks_any v Z w hn hv
  cases hp : plksB Z
  · obtain ⟨r1, r2, r3⟩ := bp_inv hp
    have hr : Hid (bpA Z = 0 ∧ bpB Z = 0 ∧ bpC Z = 1) := Lib.hid ⟨r1, r2, r3⟩
    rw [hp] at cV0
    have cV := Lib.hid cV0
    clear cV0 hp r1 r2 r3 hv
    go_enter Try.func16, Try.ntmps16
    go_wp2_with fail
    refine cV.out.mono ?_
    rintro e w1 ⟨rfl, b1⟩
    go_wp2
    go_ret3
    rw [hr.out.1, hr.out.2.1, hr.out.2.2]
    exact ⟨rfl, b1⟩
  rw [hp] at cV0
  have cV := Lib.hid cV0
  have hp' := Lib.hid hp
  obtain ⟨ap, cap, rfl, hcap, hids, hread⟩ := hv
  have hread' := Lib.hid hread
  clear cV0 hp hread hids
  by_cases h2 : Z.length < 2
  · obtain ⟨r1, r2, r3⟩ := bp_few hp'.out h2
    have hr : Hid (bpA Z = 0 ∧ bpB Z = 0 ∧ bpC Z = 3) := Lib.hid ⟨r1, r2, r3⟩
    have h2I : (Z.length : Int) < 2 := by omega
    clear r1 r2 r3
    go_enter Try.func16, Try.ntmps16
    go_wp2_with fail
    refine cV.out.mono ?_
    rintro e w1 ⟨rfl, b1⟩
    go_wp2
    go_ret3
    rw [hr.out.1, hr.out.2.1, hr.out.2.2]
    exact ⟨rfl, b1⟩
  have h2I : 2 ≤ (Z.length : Int) := by omega
  go_enter Try.func16, Try.ntmps16
  go_wp2_with fail
  refine cV.out.mono ?_
  rintro e w1 ⟨rfl, b1⟩
  go_wp2
  go_loopw [5, 6, 7, 21] (fun q t u i wr => ∃ (j : Nat) (x y z : Int), j ≤ Z.length ∧ i = .int .i64 j ∧ q = .int .i64 x ∧ t = .int .i64 y ∧ u = .int .i64 z ∧ Hid (prS Z (bestP Z j) = (x, y, z)) ∧ Below w.heap.size w wr) (fun _ _ _ i _ => Z.length - (intOf i).toNat)
  case atStart => exact ⟨0, 0, 0, 9223372036854775807, by omega, rfl, rfl, rfl, rfl, Lib.hid rfl, b1⟩
  case round =>
    obtain ⟨j, x0, y0, z0, hj, rfl, rfl, rfl, rfl, hs0, hb0⟩ := hrel
    by_cases hlj : j < Z.length
    · have hjI : (j : Int) < (Z.length : Int) := by omega
      go_wp2
      go_loopw [5, 6, 7, 9] (fun q t u i wr => ∃ (k : Nat) (x y z : Int), j < k ∧ k ≤ Z.length ∧ i = .int .i64 k ∧ q = .int .i64 x ∧ t = .int .i64 y ∧ u = .int .i64 z ∧ Hid (rowS Z j k = (x, y, z)) ∧ Below w.heap.size w wr) (fun _ _ _ i _ => Z.length - (intOf i).toNat)
      case atStart => exact ⟨j + 1, x0, y0, z0, by omega, by omega, by go_num, rfl, rfl, rfl, Lib.hid (by rw [rowS_first]; exact hs0.out), hb0⟩
      case round =>
        obtain ⟨k, x, y, z, hjk, hk, rfl, rfl, rfl, rfl, hs, hb⟩ := hrel
        by_cases hlt : k < Z.length
        · rcases hread'.out with h | ⟨g, o, rfl, hg, hc⟩
          · subst h; simp at hlt
          have hstep := rowS_step hp'.out hjk hlt
          rw [hs.out, gapZ_get hlj hlt] at hstep
          have hv1 := valid_at hp'.out hlj
          have hv2 := valid_at hp'.out hlt
          have q1 := range_below (hc j hlj) hg hb
          have q2 := range_below (hc k hlt) hg hb
          have hgr : g < wr.heap.size := Nat.lt_of_lt_of_le hg hb.size
          obtain ⟨X, hX⟩ : ∃ X, X = Z[j] := ⟨_, rfl⟩
          obtain ⟨Y, hY⟩ : ∃ Y, Y = Z[k] := ⟨_, rfl⟩
          rw [← hX] at q1 hv1 hstep
          rw [← hY] at q2 hv2 hstep
          have P1 := plkAt_of q1
          have P2 := plkAt_of q2
          obtain ⟨s, a, b, c, d, f⟩ := X
          obtain ⟨s', a', b', c', d', f'⟩ := Y
          have cG0 := fun W => gapTo_any s a b c d f s' a' b' c' d' f' hv1 hv2 W
          obtain ⟨G, hG⟩ : ∃ G, G = gapV ⟨s, a, b, c, d, f⟩ ⟨s', a', b', c', d', f'⟩ := ⟨_, rfl⟩
          rw [← hG] at cG0 hstep
          have cG := Lib.hid cG0
          clear cG0 hG hX hY hc q1 q2 hv1 hv2
          have keep : ∀ W1 W2, (((W1.cell? ⟨g, o + j * 6, none⟩ = some (.string s) ∧ W1.cell? ⟨g, o + j * 6 + 1, none⟩ = some (.int .i64 a) ∧ W1.cell? ⟨g, o + j * 6 + 2, none⟩ = some (.int .i64 b) ∧ W1.cell? ⟨g, o + j * 6 + 3, none⟩ = some (.int .i64 c) ∧ W1.cell? ⟨g, o + j * 6 + 4, none⟩ = some (.int .i64 d) ∧ W1.cell? ⟨g, o + j * 6 + 5, none⟩ = some (.int .i64 f)) ∧ (W1.cell? ⟨g, o + k * 6, none⟩ = some (.string s') ∧ W1.cell? ⟨g, o + k * 6 + 1, none⟩ = some (.int .i64 a') ∧ W1.cell? ⟨g, o + k * 6 + 2, none⟩ = some (.int .i64 b') ∧ W1.cell? ⟨g, o + k * 6 + 3, none⟩ = some (.int .i64 c') ∧ W1.cell? ⟨g, o + k * 6 + 4, none⟩ = some (.int .i64 d') ∧ W1.cell? ⟨g, o + k * 6 + 5, none⟩ = some (.int .i64 f'))) ∧ Below wr.heap.size wr W1) → Below W1.heap.size W1 W2 → (((W2.cell? ⟨g, o + j * 6, none⟩ = some (.string s) ∧ W2.cell? ⟨g, o + j * 6 + 1, none⟩ = some (.int .i64 a) ∧ W2.cell? ⟨g, o + j * 6 + 2, none⟩ = some (.int .i64 b) ∧ W2.cell? ⟨g, o + j * 6 + 3, none⟩ = some (.int .i64 c) ∧ W2.cell? ⟨g, o + j * 6 + 4, none⟩ = some (.int .i64 d) ∧ W2.cell? ⟨g, o + j * 6 + 5, none⟩ = some (.int .i64 f)) ∧ (W2.cell? ⟨g, o + k * 6, none⟩ = some (.string s') ∧ W2.cell? ⟨g, o + k * 6 + 1, none⟩ = some (.int .i64 a') ∧ W2.cell? ⟨g, o + k * 6 + 2, none⟩ = some (.int .i64 b') ∧ W2.cell? ⟨g, o + k * 6 + 3, none⟩ = some (.int .i64 c') ∧ W2.cell? ⟨g, o + k * 6 + 4, none⟩ = some (.int .i64 d') ∧ W2.cell? ⟨g, o + k * 6 + 5, none⟩ = some (.int .i64 f'))) ∧ Below wr.heap.size wr W2) := fun W1 W2 h1 h2 => by
            obtain ⟨⟨p0, p1⟩, hb⟩ := h1
            have q0 := PlkAt.below (x := ⟨s, a, b, c, d, f⟩) (o := o + j * 6) p0 (Nat.lt_of_lt_of_le hgr hb.size) h2
            have q1 := PlkAt.below (x := ⟨s', a', b', c', d', f'⟩) (o := o + k * 6) p1 (Nat.lt_of_lt_of_le hgr hb.size) h2
            exact ⟨⟨q0, q1⟩, hb.trans (h2.mono hb.size)⟩
          have keepH := Lib.hid keep
          have hS : (((wr.cell? ⟨g, o + j * 6, none⟩ = some (.string s) ∧ wr.cell? ⟨g, o + j * 6 + 1, none⟩ = some (.int .i64 a) ∧ wr.cell? ⟨g, o + j * 6 + 2, none⟩ = some (.int .i64 b) ∧ wr.cell? ⟨g, o + j * 6 + 3, none⟩ = some (.int .i64 c) ∧ wr.cell? ⟨g, o + j * 6 + 4, none⟩ = some (.int .i64 d) ∧ wr.cell? ⟨g, o + j * 6 + 5, none⟩ = some (.int .i64 f)) ∧ (wr.cell? ⟨g, o + k * 6, none⟩ = some (.string s') ∧ wr.cell? ⟨g, o + k * 6 + 1, none⟩ = some (.int .i64 a') ∧ wr.cell? ⟨g, o + k * 6 + 2, none⟩ = some (.int .i64 b') ∧ wr.cell? ⟨g, o + k * 6 + 3, none⟩ = some (.int .i64 c') ∧ wr.cell? ⟨g, o + k * 6 + 4, none⟩ = some (.int .i64 d') ∧ wr.cell? ⟨g, o + k * 6 + 5, none⟩ = some (.int .i64 f'))) ∧ Below wr.heap.size wr wr) := ⟨⟨P1, P2⟩, Below.refl _ _⟩
          clear keep P1 P2
          have hkI : (k : Int) < (Z.length : Int) := by omega
          by_cases hl : G < z
          · have hn2 : Hid (rowS Z j (k + 1) = ((j : Int), (k : Int), G)) := Lib.hid (by rw [hstep, if_pos hl])
            clear hstep
            go_wp2
            go_region_held3 (fun w' => (((w'.cell? ⟨g, o + j * 6, none⟩ = some (.string s) ∧ w'.cell? ⟨g, o + j * 6 + 1, none⟩ = some (.int .i64 a) ∧ w'.cell? ⟨g, o + j * 6 + 2, none⟩ = some (.int .i64 b) ∧ w'.cell? ⟨g, o + j * 6 + 3, none⟩ = some (.int .i64 c) ∧ w'.cell? ⟨g, o + j * 6 + 4, none⟩ = some (.int .i64 d) ∧ w'.cell? ⟨g, o + j * 6 + 5, none⟩ = some (.int .i64 f)) ∧ (w'.cell? ⟨g, o + k * 6, none⟩ = some (.string s') ∧ w'.cell? ⟨g, o + k * 6 + 1, none⟩ = some (.int .i64 a') ∧ w'.cell? ⟨g, o + k * 6 + 2, none⟩ = some (.int .i64 b') ∧ w'.cell? ⟨g, o + k * 6 + 3, none⟩ = some (.int .i64 c') ∧ w'.cell? ⟨g, o + k * 6 + 4, none⟩ = some (.int .i64 d') ∧ w'.cell? ⟨g, o + k * 6 + 5, none⟩ = some (.int .i64 f'))) ∧ Below wr.heap.size wr w'))
              (first | exact ⟨hS.1, belowN hS.2 1⟩ | exact keepH.out _ _ (by assumption) (by assumption) | assumption)
              (first | (go_at_call 38; (with_reducible refine (cG.out _).mono ?_); rintro e w' ⟨rfl, hbel⟩))
            rename_i hHeld
            have hb2 := below2 hb hHeld.2
            clear hS keepH hHeld
            go_wp2
            go_roundw
            case rel => exact ⟨k + 1, (j : Int), (k : Int), G, by omega, by omega, by go_num, rfl, rfl, rfl, hn2, hb2⟩
            case measure => simp [intOf]; omega
          · have hn2 : Hid (rowS Z j (k + 1) = (x, y, z)) := Lib.hid (by rw [hstep, if_neg hl])
            clear hstep
            go_wp2
            go_region_held3 (fun w' => (((w'.cell? ⟨g, o + j * 6, none⟩ = some (.string s) ∧ w'.cell? ⟨g, o + j * 6 + 1, none⟩ = some (.int .i64 a) ∧ w'.cell? ⟨g, o + j * 6 + 2, none⟩ = some (.int .i64 b) ∧ w'.cell? ⟨g, o + j * 6 + 3, none⟩ = some (.int .i64 c) ∧ w'.cell? ⟨g, o + j * 6 + 4, none⟩ = some (.int .i64 d) ∧ w'.cell? ⟨g, o + j * 6 + 5, none⟩ = some (.int .i64 f)) ∧ (w'.cell? ⟨g, o + k * 6, none⟩ = some (.string s') ∧ w'.cell? ⟨g, o + k * 6 + 1, none⟩ = some (.int .i64 a') ∧ w'.cell? ⟨g, o + k * 6 + 2, none⟩ = some (.int .i64 b') ∧ w'.cell? ⟨g, o + k * 6 + 3, none⟩ = some (.int .i64 c') ∧ w'.cell? ⟨g, o + k * 6 + 4, none⟩ = some (.int .i64 d') ∧ w'.cell? ⟨g, o + k * 6 + 5, none⟩ = some (.int .i64 f'))) ∧ Below wr.heap.size wr w'))
              (first | exact ⟨hS.1, belowN hS.2 1⟩ | exact keepH.out _ _ (by assumption) (by assumption) | assumption)
              (first | (go_at_call 38; (with_reducible refine (cG.out _).mono ?_); rintro e w' ⟨rfl, hbel⟩))
            rename_i hHeld
            have hb2 := below2 hb hHeld.2
            clear hS keepH hHeld
            go_wp2
            go_roundw
            case rel => exact ⟨k + 1, x, y, z, by omega, by omega, by go_num, rfl, rfl, rfl, hn2, hb2⟩
            case measure => simp [intOf]; omega
        · have hk2 : k = Z.length := by omega
          have hn2 : Hid (prS Z (bestP Z (j + 1)) = (x, y, z)) := Lib.hid (by rw [← rowS_last, ← hk2]; exact hs.out)
          clear hk2
          go_wp2
          go_roundw
          case rel => exact ⟨j + 1, x, y, z, by omega, by go_num, rfl, rfl, rfl, hn2, hb⟩
          case measure => simp [intOf]; omega
    · have hj2 : j = Z.length := by omega
      obtain ⟨r1, r2, r3⟩ := bp_yes hp'.out (by omega)
      obtain ⟨t1, t2⟩ := prS_end (Z := Z) (by omega)
      have hs1 := hs0.out
      rw [hj2] at hs1
      rw [hs1] at t1 t2
      have hr : Hid (bpA Z = x0 ∧ bpB Z = y0 ∧ bpC Z = 0) := Lib.hid ⟨by rw [r1, ← t1], by rw [r2, ← t2], r3⟩
      clear r1 r2 r3 t1 t2 hs1 hj2
      go_wp2
      go_ret3
      rw [hr.out.1, hr.out.2.1, hr.out.2.2]
      exact ⟨rfl, hb0⟩
end Go.Proofs.Ytfcdhjbnlokinaa
