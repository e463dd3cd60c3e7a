/-
  The model's contract of the closest pair of a list of planks.
-/
import Derived.Test.YtfcdhjbnlokinaaPairI
namespace Go.Proofs.Ytfcdhjbnlokinaa
open Go.ChangeShapes Go.WideShapes Go.ChangeAt Go.RowKit Go.Deep
set_option linter.unusedVariables false
set_option linter.unusedSimpArgs false
theorem gap_all {w wr : World} (hd : DrewOf w wr) {g o o' : Nat} {x y : Plk} (hv : plkB x = true) (hv' : plkB y = true) (hr : w.rangeAt g o x.cells) (hr' : w.rangeAt g o' y.cells) : Hid (∀ n, Calls Try.prog 37 #[.pointer (some ⟨g, o, none⟩), .pointer (some ⟨g, o', none⟩)] (wr.drewN n) fun e w'' => e = .returned (.int .i64 (gapV x y)) ∧ ∃ m, w'' = wr.drewN m) := Lib.hid (fun n => by
  obtain ⟨s, a, b, c, d, f⟩ := x
  obtain ⟨s', a', b', c', d', f'⟩ := y
  exact (l03Gap_any s a b c d f s' a' b' c' d' f' hv hv' g o g o' (wr.drewN n) (plkAt_of ((hd.more n).range hr)) (plkAt_of ((hd.more n).range hr'))).mono fun e w' ⟨he, m, hm⟩ => ⟨he, n + m, by rw [hm, World.drewN_drewN]⟩)
theorem rowP_first (Z : List Plk) (j : Nat) : rowP Z j (bestP Z j) (j + 1 - (j + 1)) = bestP Z j := by rw [Nat.sub_self]; rfl
theorem rowP_next {Z : List Plk} {j k : Nat} (hj : j < k) {P : Int × Int} (h : rowP Z j (bestP Z j) (k - (j + 1)) = P) : rowP Z j (bestP Z j) (k + 1 - (j + 1)) = stp Z j k P := by
  rw [show k + 1 - (j + 1) = (k - (j + 1)) + 1 by omega, ← h]
  show stp Z j (j + 1 + (k - (j + 1))) _ = _
  rw [show j + 1 + (k - (j + 1)) = k by omega]
set_option maxHeartbeats 6400000 in
set_option maxRecDepth 1000000 in
theorem specBestPair_any (v : Value) (Z : List Plk) (w : World) (hn : Z.length ≤ 1048576) (hv : PlksAt w v Z) : Calls Try.prog 15 #[v] w fun e w' => e = .returned (.tuple #[.int .i64 (bpA Z), .int .i64 (bpB Z), .int .i64 (bpC Z)]) ∧ Below w.heap.size w w' := by
  have cO0 := l03Ok_any v Z w hn hv
  cases hp : plksB Z
  · obtain ⟨r1, r2, r3⟩ := bp_inv hp
    have hr : Hid (bpA Z = 0 ∧ bpB Z = 0 ∧ bpC Z = 1) := Lib.hid ⟨r1, r2, r3⟩
    rw [hp] at cO0
    have cO := Lib.hid cO0
    clear cO0 hp r1 r2 r3 hv
    go_enter Try.func15, Try.ntmps15
    go_wp2_with fail
    refine cO.out.mono ?_
    rintro e w1 ⟨rfl, b1⟩
    go_wp2
    go_ret3
    rw [hr.out.1, hr.out.2.1, hr.out.2.2]
    exact ⟨rfl, b1.below⟩
  rw [hp] at cO0
  have cO := Lib.hid cO0
  have hp' := Lib.hid hp
  obtain ⟨ap, cap, rfl, hcap, hids, hread⟩ := hv
  have hread' := Lib.hid hread
  clear cO0 hp hread hids
  go_enter Try.func15, Try.ntmps15
  go_wp2_with fail
  refine cO.out.mono ?_
  rintro e w1 ⟨rfl, b1⟩
  go_wp2
  go_loopw [5, 6, 7] (fun q t i wr => ∃ (j : Nat) (x y : Int), j ≤ Z.length ∧ i = .int .i64 j ∧ q = .int .i64 x ∧ t = .int .i64 y ∧ Hid (bestP Z j = (x, y)) ∧ DrewOf w wr) (fun _ _ i _ => Z.length - (intOf i).toNat)
  case atStart => exact ⟨0, -1, -1, by omega, rfl, rfl, rfl, Lib.hid rfl, b1⟩
  case round =>
    obtain ⟨j, x0, y0, hj, rfl, rfl, rfl, hs0, hd0⟩ := hrel
    by_cases hlj : j < Z.length
    · have hjI : (j : Int) < (Z.length : Int) := by omega
      go_wp2
      go_loopw [5, 6, 8] (fun q t i wr => ∃ (k : Nat) (x y : Int), j < k ∧ k ≤ Z.length ∧ i = .int .i64 k ∧ q = .int .i64 x ∧ t = .int .i64 y ∧ Hid (rowP Z j (bestP Z j) (k - (j + 1)) = (x, y)) ∧ DrewOf w wr) (fun _ _ i _ => Z.length - (intOf i).toNat)
      case atStart => exact ⟨j + 1, x0, y0, by omega, by omega, by go_num, rfl, rfl, Lib.hid (by rw [rowP_first]; exact hs0.out), hd0⟩
      case round =>
        obtain ⟨k, x, y, hjk, hk, rfl, rfl, rfl, hs, hd⟩ := hrel
        by_cases hlt : k < Z.length
        · rcases hread'.out with h | ⟨g, o, rfl, hg, hc⟩
          · subst h; simp at hlt
          have hstep := rowP_next hjk hs.out
          have hin := rowP_in (Z := Z) (j := j) hlj (bestP_in Z j (by omega)) (k - (j + 1)) (by omega)
          rw [hs.out] at hin
          have hkI : (k : Int) < (Z.length : Int) := by omega
          rcases hin with hin | ⟨hx1, hx2, hy1, hy2⟩
          · injection hin with hx hy
            subst hx hy
            have hn2 : Hid (rowP Z j (bestP Z j) (k + 1 - (j + 1)) = ((j : Int), (k : Int))) := Lib.hid (by rw [hstep]; unfold stp; rw [if_pos (Or.inl (by decide))])
            clear hstep hc
            go_wp2
            go_quiet ((go_at_call 37; fail))
            go_wp2
            go_roundw
            case rel => exact ⟨k + 1, (j : Int), (k : Int), by omega, by omega, by go_num, rfl, rfl, hn2, hd.more _⟩
            case measure => simp [intOf]; omega
          have hx1' : 0 ≤ x := hx1
          have hx2' : x < Z.length := hx2
          have hy1' : 0 ≤ y := hy1
          have hy2' : y < Z.length := hy2
          clear hx1 hx2 hy1 hy2
          obtain ⟨p, rfl⟩ := Int.eq_ofNat_of_zero_le hx1'
          obtain ⟨q, rfl⟩ := Int.eq_ofNat_of_zero_le hy1'
          have hpl : p < Z.length := by omega
          have hql : q < Z.length := by omega
          have hst : stp Z j k ((p : Int), (q : Int)) = if gapV Z[j] Z[k] < gapV Z[p] Z[q] then ((j : Int), (k : Int)) else ((p : Int), (q : Int)) := by
            unfold stp
            rw [gapZ_get hlj hlt]
            show (if (p : Int) < 0 ∨ gapV Z[j] Z[k] < gapZ Z (Int.toNat (p : Int)) (Int.toNat (q : Int)) then _ else _) = _
            rw [Int.toNat_natCast, Int.toNat_natCast, gapZ_get hpl hql]
            by_cases hl : gapV Z[j] Z[k] < gapV Z[p] Z[q]
            · rw [if_pos hl, if_pos (Or.inr hl)]
            · rw [if_neg hl, if_neg (by rintro (h5 | h5); omega; exact hl h5)]
          rw [hst] at hstep
          have cD := gap_all hd (valid_at hp'.out hlj) (valid_at hp'.out hlt) (hc j hlj) (hc k hlt)
          have cE := gap_all hd (valid_at hp'.out hpl) (valid_at hp'.out hql) (hc p hpl) (hc q hql)
          obtain ⟨D, hD⟩ : ∃ D, D = gapV Z[j] Z[k] := ⟨_, rfl⟩
          obtain ⟨E, hE⟩ : ∃ E, E = gapV Z[p] Z[q] := ⟨_, rfl⟩
          rw [← hD] at cD hstep
          rw [← hE] at cE hstep
          have hx0 : decide ((p : Int) < 0) = false := by simp
          clear hD hE hst hc hx1' hy1'
          by_cases hl : D < E
          · have hn2 : Hid (rowP Z j (bestP Z j) (k + 1 - (j + 1)) = ((j : Int), (k : Int))) := Lib.hid (by rw [hstep, if_pos hl])
            clear hstep
            go_wp2
            go_quiet ((go_at_call 37; first | (with_reducible exact cD.out _) | (with_reducible exact cE.out _)))
            go_wp2
            go_roundw
            case rel => exact ⟨k + 1, (j : Int), (k : Int), by omega, by omega, by go_num, rfl, rfl, hn2, hd.more _⟩
            case measure => simp [intOf]; omega
          · have hn2 : Hid (rowP Z j (bestP Z j) (k + 1 - (j + 1)) = ((p : Int), (q : Int))) := Lib.hid (by rw [hstep, if_neg hl])
            clear hstep
            go_wp2
            go_quiet ((go_at_call 37; first | (with_reducible exact cD.out _) | (with_reducible exact cE.out _)))
            go_wp2
            go_roundw
            case rel => exact ⟨k + 1, (p : Int), (q : Int), by omega, by omega, by go_num, rfl, rfl, hn2, hd.more _⟩
            case measure => simp [intOf]; omega
        · have hk2 : k = Z.length := by omega
          have hn2 : Hid (bestP Z (j + 1) = (x, y)) := Lib.hid (by show rowP Z j (bestP Z j) (Z.length - (j + 1)) = _; rw [← hk2]; exact hs.out)
          clear hk2
          go_wp2
          go_roundw
          case rel => exact ⟨j + 1, x, y, by omega, by go_num, rfl, rfl, hn2, hd⟩
          case measure => simp [intOf]; omega
    · have hj2 : j = Z.length := by omega
      have hs1 := hs0.out
      rw [hj2] at hs1
      by_cases h2 : Z.length < 2
      · obtain ⟨r1, r2, r3⟩ := bp_few hp'.out h2
        have hr : Hid (bpA Z = 0 ∧ bpB Z = 0 ∧ bpC Z = 3) := Lib.hid ⟨r1, r2, r3⟩
        rw [bestP_few h2] at hs1
        injection hs1 with hx hy
        subst hx hy
        clear r1 r2 r3 hj2
        go_wp2
        go_ret3
        rw [hr.out.1, hr.out.2.1, hr.out.2.2]
        exact ⟨rfl, hd0.below⟩
      · obtain ⟨r1, r2, r3⟩ := bp_yes hp'.out (by omega)
        have hpos := bestP_end (Z := Z) (by omega)
        rw [hs1] at r1 r2 hpos
        have hx0 : 0 ≤ x0 := hpos
        have hr : Hid (bpA Z = x0 ∧ bpB Z = y0 ∧ bpC Z = 0) := Lib.hid ⟨r1, r2, r3⟩
        clear r1 r2 r3 hj2 hs1 hpos
        go_wp2
        go_ret3
        rw [hr.out.1, hr.out.2.1, hr.out.2.2]
        exact ⟨rfl, hd0.below⟩
end Go.Proofs.Ytfcdhjbnlokinaa
