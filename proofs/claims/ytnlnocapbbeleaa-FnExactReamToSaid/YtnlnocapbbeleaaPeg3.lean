/-
  Pegs: the model's side; ReamTo on both sides.
-/
import Derived.Test.YtnlnocapbbeleaaPeg2
namespace Go.Proofs.Ytnlnocapbbeleaa
open Go.ChangeShapes Go.WideShapes Go.ChangeAt Go.RowKit Go.Deep
set_option linter.unusedVariables false
set_option linter.unusedSimpArgs false
set_option maxRecDepth 1000000
theorem max9_any (p q : Int) (w : World) : Calls Try.prog 68 #[.int .i64 p, .int .i64 q] w fun e w' => e = .returned (.int .i64 (max p q)) ∧ w = w' := by
  by_cases h : q < p
  all_goals
    go_enter Try.func68, Try.ntmps68
    go_wp2
    go_ret
    exact ⟨ret_int (by omega), rfl⟩
/-- the model's way into a hole: -1 if there is none -/
def inV (a b c h : Int) : Int := if b < wyV a c h then -1 else wyV a c h
set_option maxHeartbeats 1600000 in
theorem l12In_any (s : ByteArray) (a : Int) (b : Int) (c : Int) (h : Int) (hp : pegN a b c) (hh : -1000 ≤ h ∧ h ≤ 1000) (w : World) (g o : Nat) (hat : PegAt w g o ⟨s, a, b, c⟩) : Calls Try.prog 59 #[.pointer (some ⟨g, o, none⟩), .int .i64 h] w fun e w' => e = .returned (.int .i64 (inV a b c h)) ∧ DrewOf w w' := by
  obtain ⟨k0, k1, k2, k3⟩ := hat
  simp only at k0 k1 k2 k3
  have hwb := wyV_bd (a := a) (h := h) hp.1.1 hp.2.2 hh.2
  have ha := hp.1
  have hV : Hid (max 0 (h - a) * c = wyV a c h) := Lib.hid rfl
  have cM := Lib.hid (fun W => max9_any 0 (h - a) W)
  have e1 : IntKind.i64.wrap (h - a) = h - a := IntWalk.i64_in _ (by omega)
  have e2 : IntKind.i64.wrap (max 0 (h - a) * c) = max 0 (h - a) * c := IntWalk.i64_in _ (by rw [hV.out]; omega)
  by_cases hlt : b < wyV a c h
  · rw [show inV a b c h = -1 from if_pos hlt]
    rw [← hV.out] at hlt
    clear hwb hV
    go_enter Try.func59, Try.ntmps59
    go_wp2
    go_quiet ((go_at_call 68; (with_reducible exact Qs (cM.out _))))
    go_wp2
    go_ret
    exact ⟨rfl, _, rfl⟩
  · rw [show inV a b c h = wyV a c h from if_neg hlt]
    rw [← hV.out] at hlt ⊢
    clear hwb hV
    go_enter Try.func59, Try.ntmps59
    go_wp2
    go_quiet ((go_at_call 68; (with_reducible exact Qs (cM.out _))))
    go_wp2
    go_ret
    exact ⟨rfl, _, rfl⟩
set_option maxHeartbeats 1600000 in
theorem specPegAt_any (s : ByteArray) (a : Int) (b : Int) (c : Int) (z : Int) (hs : s.size ≤ maxLen) (w : World) : Calls Try.prog 20 #[.agg #[.string s, .int .i64 a, .int .i64 b, .int .i64 c], .int .i64 z] w fun e w' => e = .returned (.tuple #[.int .i64 (pick (pegB ⟨s, a, b, c⟩ && inB z 0 b) (thV a c z)), .int .i64 (cd3 (pegB ⟨s, a, b, c⟩) (inB z 0 b) 0)]) ∧ Below w.heap.size w w' := by
  have hB0 : Below w.heap.size w (w.alloc (.cells #[.string s, .int .i64 a, .int .i64 b, .int .i64 c] 34)) := (Below.refl _ _).alloc (Nat.le_refl _) _
  have hx := peg_box s a b c w
  have hsz : w.heap.size < (w.alloc (.cells #[.string s, .int .i64 a, .int .i64 b, .int .i64 c] 34)).heap.size := by simp
  have hcel := Lib.hid (peg_cel hx hsz)
  obtain ⟨k0, k1, k2, k3⟩ := hcel.out (w.alloc (.cells #[.string s, .int .i64 a, .int .i64 b, .int .i64 c] 34)) (Below.refl _ _)
  have cV0 := l12One_any s a b c hs (w.alloc (.cells #[.string s, .int .i64 a, .int .i64 b, .int .i64 c] 34)) w.heap.size 0 hx
  cases h1 : pegB ⟨s, a, b, c⟩ <;> rw [h1] at cV0 <;> have cV := Lib.hid cV0 <;> clear cV0
  · clear hx
    go_enter Try.func20, Try.ntmps20
    go_wp2_with fail
    generalize (w.alloc (.cells #[.string s, .int .i64 a, .int .i64 b, .int .i64 c] 34)) = W0 at hB0 hsz hcel k0 k1 k2 k3 cV  ⊢
    go_wp2_with (go_at_call 54; (with_reducible refine (cV.out).mono ?_); rintro e w1 ⟨rfl, rfl⟩)
    go_ret2
    exact ⟨ret_int2 rfl rfl, hB0⟩
  have hp := peg_n h1
  have hb1 := hp.2.1
  have cW0 := fun W => l12Way_any z W
  cases h2 : inB z 0 1000 <;> rw [h2] at cW0 <;> have cW := Lib.hid cW0 <;> clear cW0
  · have h3 : inB z 0 b = false := by
      cases h3 : inB z 0 b
      · rfl
      · have h4 := inB_iff.1 h3
        exact absurd (inB_iff.2 (by omega) : inB z 0 1000 = true) (by rw [h2]; decide)
    rw [h3]
    clear hx
    go_enter Try.func20, Try.ntmps20
    go_wp2_with fail
    generalize (w.alloc (.cells #[.string s, .int .i64 a, .int .i64 b, .int .i64 c] 34)) = W0 at hB0 hsz hcel k0 k1 k2 k3 cV  ⊢
    go_wp2_with (first
      | (go_at_call 54; (with_reducible refine (cV.out).mono ?_); rintro e w1 ⟨rfl, rfl⟩)
      | (go_at_call 55; (with_reducible refine (cW.out _).mono ?_); rintro e w' ⟨rfl, rfl⟩))
    go_ret2
    exact ⟨ret_int2 rfl rfl, hB0⟩
  have hz := inB_iff.1 h2
  by_cases hzb : b < z
  · have h3 : inB z 0 b = false := by
      cases h3 : inB z 0 b
      · rfl
      · have h4 := inB_iff.1 h3
        omega
    rw [h3]
    clear hx
    go_enter Try.func20, Try.ntmps20
    go_wp2_with fail
    generalize (w.alloc (.cells #[.string s, .int .i64 a, .int .i64 b, .int .i64 c] 34)) = W0 at hB0 hsz hcel k0 k1 k2 k3 cV  ⊢
    go_wp2_with (first
      | (go_at_call 54; (with_reducible refine (cV.out).mono ?_); rintro e w1 ⟨rfl, rfl⟩)
      | (go_at_call 55; (with_reducible refine (cW.out _).mono ?_); rintro e w' ⟨rfl, rfl⟩))
    go_ret2
    exact ⟨ret_int2 rfl rfl, hB0⟩
  rw [show inB z 0 b = true from inB_iff.2 (by omega)]
  have hc := hp.2.2
  have ha := hp.1
  have hV : Hid (a + z / c = thV a c z) := Lib.hid rfl
  have hb := thV_bd (a := a) (c := c) (w := z) hc hz
  have hq : z.tdiv c = z / c := Int.tdiv_eq_ediv_of_nonneg hz.1
  have e0 : IntKind.i64.wrap (z / c) = z / c := IntWalk.i64_in _ (by unfold thV at hb; omega)
  have e1 : IntKind.i64.wrap (a + z / c) = a + z / c := IntWalk.i64_in _ (by unfold thV at hb; omega)
  have hne : c ≠ 0 := by omega
  clear hx hb
  go_enter Try.func20, Try.ntmps20
  go_wp2_with fail
  generalize (w.alloc (.cells #[.string s, .int .i64 a, .int .i64 b, .int .i64 c] 34)) = W0 at hB0 hsz hcel k0 k1 k2 k3 cV  ⊢
  go_wp2_with (first
    | (go_at_call 54; (with_reducible refine (cV.out).mono ?_); rintro e w1 ⟨rfl, rfl⟩)
    | (go_at_call 55; (with_reducible refine (cW.out _).mono ?_); rintro e w' ⟨rfl, rfl⟩))
  go_quiet (fail)
  go_wp2
  go_ret2
  exact ⟨ret_int2 hV.out rfl, belowN hB0 _⟩
set_option maxHeartbeats 1600000 in
theorem specWayIn_any (s : ByteArray) (a : Int) (b : Int) (c : Int) (h : Int) (hs : s.size ≤ maxLen) (w : World) : Calls Try.prog 23 #[.agg #[.string s, .int .i64 a, .int .i64 b, .int .i64 c], .int .i64 h] w fun e w' => e = .returned (.tuple #[.int .i64 (pick (pegB ⟨s, a, b, c⟩ && inB h 20 200) (iwV a b c h)), .int .i64 (cd3 (pegB ⟨s, a, b, c⟩) (inB h 20 200) (iwC a b c h))]) ∧ Below w.heap.size w w' := by
  have hB0 : Below w.heap.size w (w.alloc (.cells #[.string s, .int .i64 a, .int .i64 b, .int .i64 c] 34)) := (Below.refl _ _).alloc (Nat.le_refl _) _
  have hx := peg_box s a b c w
  have hsz : w.heap.size < (w.alloc (.cells #[.string s, .int .i64 a, .int .i64 b, .int .i64 c] 34)).heap.size := by simp
  have hcel := Lib.hid (peg_cel hx hsz)
  obtain ⟨k0, k1, k2, k3⟩ := hcel.out (w.alloc (.cells #[.string s, .int .i64 a, .int .i64 b, .int .i64 c] 34)) (Below.refl _ _)
  have cV0 := l12One_any s a b c hs (w.alloc (.cells #[.string s, .int .i64 a, .int .i64 b, .int .i64 c] 34)) w.heap.size 0 hx
  cases h1 : pegB ⟨s, a, b, c⟩ <;> rw [h1] at cV0 <;> have cV := Lib.hid cV0 <;> clear cV0
  · clear hx
    go_enter Try.func23, Try.ntmps23
    go_wp2_with fail
    generalize (w.alloc (.cells #[.string s, .int .i64 a, .int .i64 b, .int .i64 c] 34)) = W0 at hB0 hsz hcel k0 k1 k2 k3 cV  ⊢
    go_wp2_with (go_at_call 54; (with_reducible refine (cV.out).mono ?_); rintro e w1 ⟨rfl, rfl⟩)
    go_ret2
    exact ⟨ret_int2 rfl rfl, hB0⟩
  have hp := peg_n h1
  have cH0 := fun W => l12Hole_any h W
  cases h2 : inB h 20 200 <;> rw [h2] at cH0 <;> have cH := Lib.hid cH0 <;> clear cH0
  · clear hx
    go_enter Try.func23, Try.ntmps23
    go_wp2_with fail
    generalize (w.alloc (.cells #[.string s, .int .i64 a, .int .i64 b, .int .i64 c] 34)) = W0 at hB0 hsz hcel k0 k1 k2 k3 cV  ⊢
    go_wp2_with (first
      | (go_at_call 54; (with_reducible refine (cV.out).mono ?_); rintro e w1 ⟨rfl, rfl⟩)
      | (go_at_call 58; (with_reducible refine (cH.out _).mono ?_); rintro e w' ⟨rfl, rfl⟩))
    go_ret2
    exact ⟨ret_int2 rfl rfl, hB0⟩
  have hz := inB_iff.1 h2
  have cY0 := l12In_any s a b c h hp (by omega) (w.alloc (.cells #[.string s, .int .i64 a, .int .i64 b, .int .i64 c] 34)) w.heap.size 0 hx
  by_cases hlt : b < wyV a c h
  · rw [show inV a b c h = -1 from if_pos hlt] at cY0
    rw [show iwV a b c h = 0 from if_pos hlt, show iwC a b c h = 3 from if_pos hlt]
    have cY := Lib.hid cY0
    clear hx cY0
    go_enter Try.func23, Try.ntmps23
    go_wp2_with fail
    generalize (w.alloc (.cells #[.string s, .int .i64 a, .int .i64 b, .int .i64 c] 34)) = W0 at hB0 hsz hcel k0 k1 k2 k3 cV cY ⊢
    go_wp2_with (first
      | (go_at_call 54; (with_reducible refine (cV.out).mono ?_); rintro e w1 ⟨rfl, rfl⟩)
      | (go_at_call 58; (with_reducible refine (cH.out _).mono ?_); rintro e w' ⟨rfl, rfl⟩)
      | (go_at_call 59; (with_reducible refine (cY.out).mono ?_); rintro e w2 ⟨rfl, d2⟩; have b2 := d2.below; obtain ⟨i0, i1, i2, i3⟩ := hcel.out _ b2))
    go_ret2
    exact ⟨ret_int2 rfl rfl, below2 hB0 b2⟩
  rw [show inV a b c h = wyV a c h from if_neg hlt] at cY0
  rw [show iwV a b c h = wyV a c h from if_neg hlt, show iwC a b c h = 0 from if_neg hlt]
  have hwb := wyV_bd (a := a) (h := h) hp.1.1 hp.2.2 (by omega)
  obtain ⟨u, hu⟩ : ∃ u, u = wyV a c h := ⟨_, rfl⟩
  rw [← hu] at cY0 hwb ⊢
  have hng : ¬ u < 0 := by omega
  have cY := Lib.hid cY0
  clear hx cY0 hu
  go_enter Try.func23, Try.ntmps23
  go_wp2_with fail
  generalize (w.alloc (.cells #[.string s, .int .i64 a, .int .i64 b, .int .i64 c] 34)) = W0 at hB0 hsz hcel k0 k1 k2 k3 cV cY ⊢
  go_wp2_with (first
    | (go_at_call 54; (with_reducible refine (cV.out).mono ?_); rintro e w1 ⟨rfl, rfl⟩)
    | (go_at_call 58; (with_reducible refine (cH.out _).mono ?_); rintro e w' ⟨rfl, rfl⟩)
    | (go_at_call 59; (with_reducible refine (cY.out).mono ?_); rintro e w2 ⟨rfl, d2⟩; have b2 := d2.below; obtain ⟨i0, i1, i2, i3⟩ := hcel.out _ b2))
  go_ret2
  exact ⟨ret_int2 rfl rfl, below2 hB0 b2⟩
set_option maxHeartbeats 1600000 in
theorem specTurnFor_any (s : ByteArray) (a : Int) (b : Int) (c : Int) (h z : Int) (hs : s.size ≤ maxLen) (w : World) : Calls Try.prog 25 #[.agg #[.string s, .int .i64 a, .int .i64 b, .int .i64 c], .int .i64 h, .int .i64 z] w fun e w' => e = .returned (.tuple #[.int .i64 (pick (pegB ⟨s, a, b, c⟩ && (inB h 20 200 && inB z 0 100)) (tfV a b c h z)), .int .i64 (cd3 (pegB ⟨s, a, b, c⟩) (inB h 20 200 && inB z 0 100) (iwC a b c h))]) ∧ Below w.heap.size w w' := by
  have hB0 : Below w.heap.size w (w.alloc (.cells #[.string s, .int .i64 a, .int .i64 b, .int .i64 c] 34)) := (Below.refl _ _).alloc (Nat.le_refl _) _
  have hx := peg_box s a b c w
  have hsz : w.heap.size < (w.alloc (.cells #[.string s, .int .i64 a, .int .i64 b, .int .i64 c] 34)).heap.size := by simp
  have hcel := Lib.hid (peg_cel hx hsz)
  obtain ⟨k0, k1, k2, k3⟩ := hcel.out (w.alloc (.cells #[.string s, .int .i64 a, .int .i64 b, .int .i64 c] 34)) (Below.refl _ _)
  have cV0 := l12One_any s a b c hs (w.alloc (.cells #[.string s, .int .i64 a, .int .i64 b, .int .i64 c] 34)) w.heap.size 0 hx
  cases h1 : pegB ⟨s, a, b, c⟩ <;> rw [h1] at cV0 <;> have cV := Lib.hid cV0 <;> clear cV0
  · clear hx
    go_enter Try.func25, Try.ntmps25
    go_wp2_with fail
    generalize (w.alloc (.cells #[.string s, .int .i64 a, .int .i64 b, .int .i64 c] 34)) = W0 at hB0 hsz hcel k0 k1 k2 k3 cV  ⊢
    go_wp2_with (go_at_call 54; (with_reducible refine (cV.out).mono ?_); rintro e w1 ⟨rfl, rfl⟩)
    go_ret2
    exact ⟨ret_int2 rfl rfl, hB0⟩
  have hp := peg_n h1
  have cH0 := fun W => l12Hole_any h W
  cases h2 : inB h 20 200 <;> rw [h2] at cH0 <;> have cH := Lib.hid cH0 <;> clear cH0
  · clear hx
    go_enter Try.func25, Try.ntmps25
    go_wp2_with fail
    generalize (w.alloc (.cells #[.string s, .int .i64 a, .int .i64 b, .int .i64 c] 34)) = W0 at hB0 hsz hcel k0 k1 k2 k3 cV  ⊢
    go_wp2_with (first
      | (go_at_call 54; (with_reducible refine (cV.out).mono ?_); rintro e w1 ⟨rfl, rfl⟩)
      | (go_at_call 58; (with_reducible refine (cH.out _).mono ?_); rintro e w' ⟨rfl, rfl⟩))
    go_ret2
    exact ⟨ret_int2 rfl rfl, hB0⟩
  have cW0 := fun W => l00In_any z 0 100 W
  cases h3 : inB z 0 100 <;> rw [h3] at cW0 <;> have cW := Lib.hid cW0 <;> clear cW0
  · clear hx
    go_enter Try.func25, Try.ntmps25
    go_wp2_with fail
    generalize (w.alloc (.cells #[.string s, .int .i64 a, .int .i64 b, .int .i64 c] 34)) = W0 at hB0 hsz hcel k0 k1 k2 k3 cV  ⊢
    go_wp2_with (first
      | (go_at_call 54; (with_reducible refine (cV.out).mono ?_); rintro e w1 ⟨rfl, rfl⟩)
      | (go_at_call 58; (with_reducible refine (cH.out _).mono ?_); rintro e w' ⟨rfl, rfl⟩)
      | (go_at_call 62; (with_reducible refine (cW.out _).mono ?_); rintro e w' ⟨rfl, rfl⟩))
    go_ret2
    exact ⟨ret_int2 rfl rfl, hB0⟩
  have hz := inB_iff.1 h2
  have hz3 := inB_iff.1 h3
  have cY0 := l12In_any s a b c h hp (by omega) (w.alloc (.cells #[.string s, .int .i64 a, .int .i64 b, .int .i64 c] 34)) w.heap.size 0 hx
  by_cases hlt : b < wyV a c h
  · rw [show inV a b c h = -1 from if_pos hlt] at cY0
    rw [show iwC a b c h = 3 from if_pos hlt, show tfV a b c h z = 0 from if_pos hlt]
    have cY := Lib.hid cY0
    clear hx cY0
    go_enter Try.func25, Try.ntmps25
    go_wp2_with fail
    generalize (w.alloc (.cells #[.string s, .int .i64 a, .int .i64 b, .int .i64 c] 34)) = W0 at hB0 hsz hcel k0 k1 k2 k3 cV cY ⊢
    go_wp2_with (first
      | (go_at_call 54; (with_reducible refine (cV.out).mono ?_); rintro e w1 ⟨rfl, rfl⟩)
      | (go_at_call 58; (with_reducible refine (cH.out _).mono ?_); rintro e w' ⟨rfl, rfl⟩)
      | (go_at_call 62; (with_reducible refine (cW.out _).mono ?_); rintro e w' ⟨rfl, rfl⟩)
      | (go_at_call 59; (with_reducible refine (cY.out).mono ?_); rintro e w2 ⟨rfl, d2⟩; have b2 := d2.below; obtain ⟨i0, i1, i2, i3⟩ := hcel.out _ b2))
    go_ret2
    exact ⟨ret_int2 rfl rfl, below2 hB0 b2⟩
  rw [show inV a b c h = wyV a c h from if_neg hlt] at cY0
  rw [show iwC a b c h = 0 from if_neg hlt, show tfV a b c h z = rnd (360000 * z) (3142 * thV a c (wyV a c h)) from if_neg hlt]
  have hwb := wyV_bd (a := a) (h := h) hp.1.1 hp.2.2 (by omega)
  have hbb := hp.2.1
  have hc := hp.2.2
  have ha := hp.1
  obtain ⟨u, hu⟩ : ∃ u, u = wyV a c h := ⟨_, rfl⟩
  rw [← hu] at cY0 hwb hlt ⊢
  have hng : ¬ u < 0 := by omega
  have htb := thV_bd (a := a) (c := c) (w := u) hc (by omega)
  have hq : u.tdiv c = u / c := Int.tdiv_eq_ediv_of_nonneg hwb.1
  have hne : c ≠ 0 := by omega
  unfold thV at htb ⊢
  have e0 : IntKind.i64.wrap (u / c) = u / c := IntWalk.i64_in _ (by omega)
  have e1 : IntKind.i64.wrap (a + u / c) = a + u / c := IntWalk.i64_in _ (by omega)
  have e2 : IntKind.i64.wrap (3142 * (a + u / c)) = 3142 * (a + u / c) := IntWalk.i64_in _ (by omega)
  have e3 : IntKind.i64.wrap (360000 * z) = 360000 * z := IntWalk.i64_in _ (by omega)
  have cN := Lib.hid (fun W => l01Div_any (360000 * z) (3142 * (a + u / c)) (by omega) (by omega) (by omega) (by omega) (by omega) W)
  have cY := Lib.hid cY0
  clear hx cY0 hu
  go_enter Try.func25, Try.ntmps25
  go_wp2_with fail
  generalize (w.alloc (.cells #[.string s, .int .i64 a, .int .i64 b, .int .i64 c] 34)) = W0 at hB0 hsz hcel k0 k1 k2 k3 cV cY ⊢
  go_wp2_with (first
    | (go_at_call 54; (with_reducible refine (cV.out).mono ?_); rintro e w1 ⟨rfl, rfl⟩)
    | (go_at_call 58; (with_reducible refine (cH.out _).mono ?_); rintro e w' ⟨rfl, rfl⟩)
    | (go_at_call 62; (with_reducible refine (cW.out _).mono ?_); rintro e w' ⟨rfl, rfl⟩)
    | (go_at_call 59; (with_reducible refine (cY.out).mono ?_); rintro e w2 ⟨rfl, d2⟩; have b2 := d2.below; obtain ⟨i0, i1, i2, i3⟩ := hcel.out _ b2))
  go_quiet ((go_at_call 63; (with_reducible exact Qs (cN.out _))))
  go_wp2
  go_ret2
  exact ⟨ret_int2 rfl rfl, belowN (below2 hB0 b2) _⟩
end Go.Proofs.Ytnlnocapbbeleaa
