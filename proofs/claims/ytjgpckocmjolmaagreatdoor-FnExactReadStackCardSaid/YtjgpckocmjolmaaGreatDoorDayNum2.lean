/-
  Contracts of DayNumber, of the program.
-/
import Derived.Test.YtjgpckocmjolmaaGreatDoorDayNum
namespace Go.Proofs.YtjgpckocmjolmaaGreatDoor
open Go.ChangeShapes Go.WideShapes Go.ChangeAt Go.RowKit
set_option linter.unusedVariables false
set_option linter.unusedSimpArgs false
set_option maxHeartbeats 1000000 in
theorem dayOf_any (y m d : Int) (hy1 : 2000 ≤ y) (hy2 : y ≤ 2099) (hm1 : 1 ≤ m) (hm2 : m ≤ 12) (hd1 : 1 ≤ d) (hd2 : d ≤ 31) (w : World) : Calls Tryz.prog 41 #[.agg #[.int .i64 y, .int .i64 m, .int .i64 d]] w fun e w' => e = .returned (.int .i64 (numD y m d)) ∧ Below w.heap.size w w' := by
  have hnum : Hid (numD y m d = d - 1 + dby y + cum y m) := Lib.hid (by unfold numD; omega)
  go_enter Tryz.func41, Tryz.ntmps41
  go_wp2
  go_loop [3, 4] (fun s i => ∃ k s0 : Int, 2000 ≤ k ∧ k ≤ y ∧ i = .int .i64 k ∧ s = .int .i64 s0 ∧ 0 ≤ s0 ∧ s0 ≤ 40000 ∧ Hid (s0 = d - 1 + dby k)) (fun _ i => (y - intOf i).toNat)
  case atStart => exact ⟨2000, d - 1, by omega, by omega, rfl, rfl, by omega, by omega, Lib.hid (by rw [dby_zero]; omega)⟩
  case round =>
    obtain ⟨k, s0, hk1, hk2, rfl, rfl, hs0, hs1, hs⟩ := hrel
    by_cases hlt : k < y
    · have hdb2 := dby_bd (y := k + 1) (by omega) (by omega)
      have hyl := ylen_bd k
      have hn : Hid (s0 + ylen k = d - 1 + dby (k + 1)) := Lib.hid (by rw [dby_succ]; have := hs.out; omega)
      have hup : s0 + ylen k ≤ 40000 := by have := hn.out; omega
      go_wp2_with (go_at_call 61; refine (yearDays_any _ (by omega) (by omega) _).mono ?_; rintro e w' ⟨rfl, rfl⟩)
      go_round
      case rel => exact ⟨k + 1, s0 + ylen k, by omega, by omega, by go_num, rfl, by omega, by omega, hn⟩
      case measure => simp [intOf]; omega
    · obtain rfl : k = y := by omega
      go_wp2
      go_loop [3, 5] (fun s i => ∃ q s1 : Int, 1 ≤ q ∧ q ≤ m ∧ i = .int .i64 q ∧ s = .int .i64 s1 ∧ 0 ≤ s1 ∧ s1 ≤ 50000 ∧ Hid (s1 = d - 1 + dby k + cum k q)) (fun _ i => (m - intOf i).toNat)
      case atStart => exact ⟨1, s0, by omega, by omega, rfl, rfl, by omega, by omega, Lib.hid (by rw [cum_one]; have := hs.out; omega)⟩
      case round =>
        obtain ⟨q, s1, hq1, hq2, rfl, rfl, hs10, hs11, hs2⟩ := hrel
        by_cases hlt2 : q < m
        · have hcb := cum_bd (y := k) (m := q + 1) (by omega) (by omega)
          have hdb := dby_bd hk1 (by omega)
          have hml2 := mlen_bd k q
          have hn : Hid (s1 + mlen k q = d - 1 + dby k + cum k (q + 1)) := Lib.hid (by rw [cum_succ k q hq1 (by omega)]; have := hs2.out; omega)
          have hup : s1 + mlen k q ≤ 50000 := by have := hn.out; omega
          go_wp2_with (go_at_call 62; refine (monthDays_any _ _ (by omega) (by omega) (by omega) (by omega) _).mono ?_; rintro e w' ⟨rfl, rfl⟩)
          go_round
          case rel => exact ⟨q + 1, s1 + mlen k q, by omega, by omega, by go_num, rfl, by omega, by omega, hn⟩
          case measure => simp [intOf]; omega
        · obtain rfl : q = m := by omega
          go_wp2
          go_ret
          exact ⟨ret_int (by rw [hnum.out, ← hs2.out]), (Below.refl _ _).alloc (Nat.le_refl _) _⟩
theorem num_bd31 {y m d : Int} (hy1 : 2000 ≤ y) (hy2 : y ≤ 2099) (hm1 : 1 ≤ m) (hm2 : m ≤ 12) (hd1 : 1 ≤ d) (hd2 : d ≤ 31) : 0 ≤ numD y m d ∧ numD y m d ≤ 36524 := by
  have h4 := dby_succ y
  have h5 := dby_mono (y := y + 1) (z := 2100) (by omega)
  have h6 := dby_bd hy1 (by omega)
  have hc := cum_bd (y := y) hm1 (by omega)
  have hs := cum_succ y m hm1 hm2
  have he := cum_end y
  rw [dby_end] at h5
  by_cases h12 : m = 12
  · subst h12
    rw [show (12 : Int) + 1 = 13 from rfl] at hs
    have : mlen y 12 = 31 := by simp [mlen]
    unfold numD; omega
  · have hb := mlen_bd y m
    have hs2 := cum_succ y (m + 1) (by omega) (by omega)
    have hb2 := mlen_bd y (m + 1)
    have hm := cum_mono (y := y) (m := m + 1 + 1) (m' := 13) (by omega) (by omega) (by omega)
    unfold numD; omega
theorem date_no {y m d : Int} (h : dateB y m d = false) (h0 : 0 ≤ numD y m d) (h1 : numD y m d ≤ 36524) : ∃ a b c, dateN (numD y m d) = (a, b, c) ∧ ((a == y) = false ∨ (a = y ∧ (b == m) = false) ∨ (a = y ∧ b = m ∧ (c == d) = false)) := by
  obtain ⟨hb, _⟩ := dateN_ok h0 h1
  obtain ⟨a, b, c, hp⟩ : ∃ a b c, dateN (numD y m d) = (a, b, c) := ⟨_, _, _, rfl⟩
  rw [hp] at hb
  refine ⟨a, b, c, hp, ?_⟩
  by_cases e1 : a = y
  · by_cases e2 : b = m
    · by_cases e3 : c = d
      · subst e1; subst e2; subst e3
        rw [h] at hb; exact absurd hb (by decide)
      · exact Or.inr (Or.inr ⟨e1, e2, by simpa using e3⟩)
    · exact Or.inr (Or.inl ⟨e1, by simpa using e2⟩)
  · exact Or.inl (by simpa using e1)
set_option maxHeartbeats 1000000 in
theorem implDayNumber_any (y m d : Int) (w : World) : Calls Tryz.prog 19 #[.int .i64 y, .int .i64 m, .int .i64 d] w fun e w' => e = .returned (.tuple #[.int .i64 (numV y m d), .int .i64 (code (dateB y m d) 2)]) ∧ Below w.heap.size w w' := by
  have hsp := dateB_split y m d
  cases h1 : inB y 2000 2099
  · have hf : Hid (dateB y m d = false) := Lib.hid (by rw [hsp, h1]; rfl)
    clear hsp
    go_enter Tryz.func19, Tryz.ntmps19
    go_wp2_with (go_at_call 40; refine (within64_any _ _ _ _).mono ?_; rintro e w' ⟨rfl, rfl⟩)
    go_ret2
    exact ⟨ret_int2 (by unfold numV; rw [hf.out]; rfl) (by rw [hf.out]; rfl), Below.refl _ _⟩
  cases h2 : inB m 1 12
  · have hf : Hid (dateB y m d = false) := Lib.hid (by rw [hsp, h1, h2]; rfl)
    clear hsp
    go_enter Tryz.func19, Tryz.ntmps19
    go_wp2_with (go_at_call 40; refine (within64_any _ _ _ _).mono ?_; rintro e w' ⟨rfl, rfl⟩)
    go_ret2
    exact ⟨ret_int2 (by unfold numV; rw [hf.out]; rfl) (by rw [hf.out]; rfl), Below.refl _ _⟩
  have by0 := inB_iff.1 h1
  have bm0 := inB_iff.1 h2
  have hml := mlen_bd y m
  cases h3 : inB d 1 31
  · have hf : Hid (dateB y m d = false) := Lib.hid (by
      have := inB_no.1 h3
      rw [hsp, h1, h2, inB_no.2 (by omega)]; rfl)
    clear hsp
    go_enter Tryz.func19, Tryz.ntmps19
    go_wp2_with (go_at_call 40; refine (within64_any _ _ _ _).mono ?_; rintro e w' ⟨rfl, rfl⟩)
    go_ret2
    exact ⟨ret_int2 (by unfold numV; rw [hf.out]; rfl) (by rw [hf.out]; rfl), Below.refl _ _⟩
  have bd0 := inB_iff.1 h3
  have hnb := num_bd31 by0.1 by0.2 bm0.1 bm0.2 bd0.1 bd0.2
  clear hsp
  cases h4 : dateB y m d
  · obtain ⟨a, b, c, hdn, hne⟩ := date_no h4 hnb.1 hnb.2
    have cd : ∀ W, Calls Tryz.prog 42 #[.int .i64 (numD y m d)] W fun e w' => e = .returned (.agg #[.int .i64 a, .int .i64 b, .int .i64 c]) ∧ Below W.heap.size W w' := fun W => by
      have := dateOf_any _ hnb.1 hnb.2 W
      rw [hdn] at this; exact this
    have cd' := Lib.hid cd
    have hnv : Hid (numV y m d = 0) := Lib.hid (by unfold numV; rw [h4]; rfl)
    clear hdn cd
    rcases hne with hne | ⟨rfl, hne⟩ | ⟨rfl, rfl, hne⟩
    all_goals
      go_enter Tryz.func19, Tryz.ntmps19
      go_wp2_with (first
      | (go_at_call 40; refine (within64_any _ _ _ _).mono ?_; rintro e w' ⟨rfl, rfl⟩)
      | (go_at_call 41; refine (dayOf_any _ _ _ (by omega) (by omega) (by omega) (by omega) (by omega) (by omega) _).mono ?_; rintro e w1 ⟨rfl, b1⟩))
      have hz : w.heap.size < w1.heap.size := by have := b1.size; simp at this; omega
      have hE : w1.heap[w.heap.size]? = some (.cells #[.int .i64 _, .int .i64 _, .int .i64 _] 57 (0, 0)) := (b1.block _ (by simp)).trans (heap_alloc_new _ _)
      have hb1 : Below w.heap.size w w1 := ((Below.refl _ _).alloc (Nat.le_refl _) _).trans (b1.mono (by simp))
      have c0 := cellB hE 0 _ rfl
      have c1 := cellB hE 1 _ rfl
      have c2 := cellB hE 2 _ rfl
      clear hE b1
      go_region_with ((go_at_call 42; refine (cd'.out _).mono ?_; rintro e w2 ⟨rfl, b2⟩; have q0 := (b2.cell (p := ⟨w.heap.size, 0, none⟩) (by simpa using hz)).trans c0; have q1 := (b2.cell (p := ⟨w.heap.size, 1, none⟩) (by simpa using hz)).trans c1; have q2 := (b2.cell (p := ⟨w.heap.size, 2, none⟩) (by simpa using hz)).trans c2))
      all_goals
        go_wp2
        go_ret2
        exact ⟨ret_int2 hnv.out.symm rfl, by first | exact below2 (belowN hb1 1) b2 | exact belowN (below2 hb1 b2) 1⟩
  · have cd : ∀ W, Calls Tryz.prog 42 #[.int .i64 (numD y m d)] W fun e w' => e = .returned (.agg #[.int .i64 y, .int .i64 m, .int .i64 d]) ∧ Below W.heap.size W w' := fun W => by
      have := dateOf_any _ hnb.1 hnb.2 W
      rw [dateN_of h4 rfl] at this; exact this
    have cd' := Lib.hid cd
    have hnv : Hid (numV y m d = numD y m d) := Lib.hid (by unfold numV; rw [h4]; rfl)
    clear cd
    go_enter Tryz.func19, Tryz.ntmps19
    go_wp2_with (first
      | (go_at_call 40; refine (within64_any _ _ _ _).mono ?_; rintro e w' ⟨rfl, rfl⟩)
      | (go_at_call 41; refine (dayOf_any _ _ _ (by omega) (by omega) (by omega) (by omega) (by omega) (by omega) _).mono ?_; rintro e w1 ⟨rfl, b1⟩))
    have hz : w.heap.size < w1.heap.size := by have := b1.size; simp at this; omega
    have hE : w1.heap[w.heap.size]? = some (.cells #[.int .i64 _, .int .i64 _, .int .i64 _] 57 (0, 0)) := (b1.block _ (by simp)).trans (heap_alloc_new _ _)
    have hb1 : Below w.heap.size w w1 := ((Below.refl _ _).alloc (Nat.le_refl _) _).trans (b1.mono (by simp))
    have c0 := cellB hE 0 _ rfl
    have c1 := cellB hE 1 _ rfl
    have c2 := cellB hE 2 _ rfl
    clear hE b1
    go_region_with ((go_at_call 42; refine (cd'.out _).mono ?_; rintro e w2 ⟨rfl, b2⟩; have q0 := (b2.cell (p := ⟨w.heap.size, 0, none⟩) (by simpa using hz)).trans c0; have q1 := (b2.cell (p := ⟨w.heap.size, 1, none⟩) (by simpa using hz)).trans c1; have q2 := (b2.cell (p := ⟨w.heap.size, 2, none⟩) (by simpa using hz)).trans c2))
    all_goals
      go_wp2
      go_ret2
      exact ⟨ret_int2 hnv.out.symm rfl, by first | exact below2 (belowN hb1 1) b2 | exact belowN (below2 hb1 b2) 1⟩
end Go.Proofs.YtjgpckocmjolmaaGreatDoor
