/-
  Contracts of the model's gaps of planks in memory.
-/
import Derived.Test.YtembebdlllcblabPlank4
namespace Go.Proofs.Ytembebdlllcblab
open Go.ChangeShapes Go.WideShapes Go.ChangeAt Go.RowKit
set_option linter.unusedVariables false
set_option linter.unusedSimpArgs false
set_option maxHeartbeats 2000000 in
theorem l03Gap_any (s : ByteArray) (a b c d f : Int) (s' : ByteArray) (a' b' c' d' f' : Int) (h : plkB ⟨s, a, b, c, d, f⟩ = true) (h' : plkB ⟨s', a', b', c', d', f'⟩ = true) (g o g' o' : Nat) (w : World) (hat : PlkAt w g o ⟨s, a, b, c, d, f⟩) (hat' : PlkAt w g' o' ⟨s', a', b', c', d', f'⟩) : Calls Try.prog 51 #[.pointer (some ⟨g, o, none⟩), .pointer (some ⟨g', o', none⟩)] w fun e w' => e = .returned (.int .i64 (gapV ⟨s, a, b, c, d, f⟩ ⟨s', a', b', c', d', f'⟩)) ∧ ∃ m, w' = w.drewN m := by
  obtain ⟨ha, hb, hc, hd, hf, hab, habc⟩ := plk_bd h
  obtain ⟨ha', hb', hc', hd', hf', hab', habc'⟩ := plk_bd h'
  obtain ⟨k1, k2⟩ := den_bd h
  obtain ⟨k3, k4⟩ := den_bd h'
  obtain ⟨k5, k6⟩ := rin_bd h
  obtain ⟨k7, k8⟩ := rin_bd h'
  have q1 := absD_bd _ _ k1 k2 k3 k4
  have q2 := absD_bd _ _ k5 (by omega) k7 (by omega)
  have hat1 := Lib.hid hat
  have hat2 := Lib.hid hat'
  obtain ⟨c0, c1, c2, c3, c4, c5⟩ := hat
  obtain ⟨c0', c1', c2', c3', c4', c5'⟩ := hat'
  simp only at c0 c1 c2 c3 c4 c5 c0' c1' c2' c3' c4' c5'
  have e1 : IntKind.i64.wrap (100 * b) = 100 * b := IntWalk.i64_in _ (by omega)
  have e2 : IntKind.i64.wrap (100 * b') = 100 * b' := IntWalk.i64_in _ (by omega)
  have r1 : 0 ≤ rnd (100 * b) f ∧ rnd (100 * b) f ≤ 1000000 := rin_bd h
  have r2 : 0 ≤ rnd (100 * b') f' ∧ rnd (100 * b') f' ≤ 1000000 := rin_bd h'
  have q3 : 0 ≤ absD (rnd (100 * b) f) (rnd (100 * b') f') ∧ absD (rnd (100 * b) f) (rnd (100 * b') f') ≤ 1000000000000 := q2
  have e3 : IntKind.i64.wrap (absD (denV ⟨s, a, b, c, d, f⟩) (denV ⟨s', a', b', c', d', f'⟩) + absD (rnd (100 * b) f) (rnd (100 * b') f')) = absD (denV ⟨s, a, b, c, d, f⟩) (denV ⟨s', a', b', c', d', f'⟩) + absD (rnd (100 * b) f) (rnd (100 * b') f') := IntWalk.i64_in _ (by omega)
  clear k5 k6 k7 k8 q2
  have cD : ∀ n, Calls Try.prog 46 #[.pointer (some ⟨g, o, none⟩)] (w.drewN n) fun e w' => e = .returned (.int .i64 (denV ⟨s, a, b, c, d, f⟩)) ∧ ∃ m, w' = w.drewN m := fun n => (l03Density_any _ _ _ _ _ _ h g o (w.drewN n) hat1.out).mono fun _ _ ⟨he, m, hm⟩ => ⟨he, n + m, by rw [hm, World.drewN_drewN]⟩
  have cD' : ∀ n, Calls Try.prog 46 #[.pointer (some ⟨g', o', none⟩)] (w.drewN n) fun e w' => e = .returned (.int .i64 (denV ⟨s', a', b', c', d', f'⟩)) ∧ ∃ m, w' = w.drewN m := fun n => (l03Density_any _ _ _ _ _ _ h' g' o' (w.drewN n) hat2.out).mono fun _ _ ⟨he, m, hm⟩ => ⟨he, n + m, by rw [hm, World.drewN_drewN]⟩
  have dD := Lib.hid cD
  have dD' := Lib.hid cD'
  clear cD cD'
  go_enter Try.func51, Try.ntmps51
  go_wp2
  go_quiet ((first | (go_at_call 46; first | (with_reducible exact dD.out _) | (with_reducible exact dD'.out _)) | (go_at_call 63; exact Qs (l03Abs_any _ _ (by omega) (by omega) (by omega) (by omega) _)) | (go_at_call 48; exact Qs (l01Div_any _ _ (by omega) (by omega) (by omega) (by omega) (by omega) _))))
  clear e1 e2 e3
  go_wp2
  go_ret
  exact ⟨rfl, _, rfl⟩
theorem implPairGap_any (s : ByteArray) (a b c d f : Int) (s' : ByteArray) (a' b' c' d' f' : Int) (hs : s.size ≤ maxLen) (hs' : s'.size ≤ maxLen) (w : World) : Calls Try.prog 29 #[.agg #[.string s, .int .i64 a, .int .i64 b, .int .i64 c, .int .i64 d, .int .i64 f], .agg #[.string s', .int .i64 a', .int .i64 b', .int .i64 c', .int .i64 d', .int .i64 f']] w fun e w' => e = .returned (.tuple #[.int .i64 (pick (plkB ⟨s, a, b, c, d, f⟩ && plkB ⟨s', a', b', c', d', f'⟩) (gapV ⟨s, a, b, c, d, f⟩ ⟨s', a', b', c', d', f'⟩)), .int .i64 (code (plkB ⟨s, a, b, c, d, f⟩ && plkB ⟨s', a', b', c', d', f'⟩) 1)]) ∧ Below w.heap.size w w' := by
  cases h : plkB ⟨s, a, b, c, d, f⟩
  · go_enter Try.func29, Try.ntmps29
    go_wp2_with (go_at_call 16; refine (implValidPlank_any _ _ _ _ _ _ hs _).mono ?_; rintro e w1 ⟨rfl, b1⟩; have C1 := bcell b1)
    go_ret2
    exact ⟨ret_int2 rfl rfl, (((Below.refl _ _).alloc (Nat.le_refl _) _).alloc (by simp) _).trans (b1.mono (by simp <;> omega))⟩
  cases h' : plkB ⟨s', a', b', c', d', f'⟩
  · go_enter Try.func29, Try.ntmps29
    go_wp2_with fail
    refine (implValidPlank_any _ _ _ _ _ _ hs _).mono ?_
    rw [h]
    rintro e w1 ⟨rfl, b1⟩
    have C1 := bcell b1
    go_wp2_with fail
    refine (implValidPlank_any _ _ _ _ _ _ hs' _).mono ?_
    rw [h']
    rintro e w2 ⟨rfl, b2⟩
    go_wp2
    go_ret2
    exact ⟨ret_int2 rfl rfl, (((Below.refl _ _).alloc (Nat.le_refl _) _).alloc (by simp) _).trans ((b1.trans (b2.mono b1.size)).mono (by simp <;> omega))⟩
  go_enter Try.func29, Try.ntmps29
  go_wp2_with fail
  refine (implValidPlank_any _ _ _ _ _ _ hs _).mono ?_
  rw [h]
  rintro e w1 ⟨rfl, b1⟩
  have C1 := bcell b1
  go_wp2_with fail
  refine (implValidPlank_any _ _ _ _ _ _ hs' _).mono ?_
  rw [h']
  rintro e w2 ⟨rfl, b2⟩
  have B2 := b1.trans (b2.mono b1.size)
  have C2 := bcell B2
  clear C1 b1 b2
  go_wp2_with fail
  refine (gapTo_any _ _ _ _ _ _ _ _ _ _ _ _ h h' _).mono ?_
  rintro e w3 ⟨rfl, b3⟩
  have B3 := B2.trans (b3.mono B2.size)
  go_wp2
  go_ret2
  exact ⟨ret_int2 rfl rfl, (((Below.refl _ _).alloc (Nat.le_refl _) _).alloc (by simp) _).trans (B3.mono (by simp <;> omega))⟩
theorem specPairGap_any (s : ByteArray) (a b c d f : Int) (s' : ByteArray) (a' b' c' d' f' : Int) (hs : s.size ≤ maxLen) (hs' : s'.size ≤ maxLen) (w : World) : Calls Try.prog 28 #[.agg #[.string s, .int .i64 a, .int .i64 b, .int .i64 c, .int .i64 d, .int .i64 f], .agg #[.string s', .int .i64 a', .int .i64 b', .int .i64 c', .int .i64 d', .int .i64 f']] w fun e w' => e = .returned (.tuple #[.int .i64 (pick (plkB ⟨s, a, b, c, d, f⟩ && plkB ⟨s', a', b', c', d', f'⟩) (gapV ⟨s, a, b, c, d, f⟩ ⟨s', a', b', c', d', f'⟩)), .int .i64 (code (plkB ⟨s, a, b, c, d, f⟩ && plkB ⟨s', a', b', c', d', f'⟩) 1)]) ∧ Below w.heap.size w w' := by
  have hP := plk_box s a b c d f w
  have hat' := plk_box s' a' b' c' d' f' (w.alloc (.cells #[.string s, .int .i64 a, .int .i64 b, .int .i64 c, .int .i64 d, .int .i64 f] 26))
  rw [show (w.alloc (.cells #[.string s, .int .i64 a, .int .i64 b, .int .i64 c, .int .i64 d, .int .i64 f] 26)).heap.size = w.heap.size + 1 by simp] at hat'
  have hat := hP.below (by simp) ((Below.refl _ _).alloc (Nat.le_refl _) (.cells #[.string s', .int .i64 a', .int .i64 b', .int .i64 c', .int .i64 d', .int .i64 f'] 26))
  have hatH := Lib.hid hat
  have hatH' := Lib.hid hat'
  clear hat hat' hP
  cases h : plkB ⟨s, a, b, c, d, f⟩
  · go_enter Try.func28, Try.ntmps28
    go_wp2_with fail
    refine (l03One_any _ _ _ _ _ _ hs _ _ _ hatH.out).mono ?_
    rw [h]
    rintro e w1 ⟨rfl, rfl⟩
    go_wp2
    go_ret2
    exact ⟨ret_int2 rfl rfl, (((Below.refl _ _).alloc (Nat.le_refl _) _).alloc (by simp) _)⟩
  cases h' : plkB ⟨s', a', b', c', d', f'⟩
  · go_enter Try.func28, Try.ntmps28
    go_wp2_with fail
    refine (l03One_any _ _ _ _ _ _ hs _ _ _ hatH.out).mono ?_
    rw [h]
    rintro e w1 ⟨rfl, rfl⟩
    go_wp2_with fail
    refine (l03One_any _ _ _ _ _ _ hs' _ _ _ hatH'.out).mono ?_
    rw [h']
    rintro e w1 ⟨rfl, rfl⟩
    go_wp2
    go_ret2
    exact ⟨ret_int2 rfl rfl, (((Below.refl _ _).alloc (Nat.le_refl _) _).alloc (by simp) _)⟩
  go_enter Try.func28, Try.ntmps28
  go_wp2_with fail
  refine (l03One_any _ _ _ _ _ _ hs _ _ _ hatH.out).mono ?_
  rw [h]
  rintro e w1 ⟨rfl, rfl⟩
  go_wp2_with fail
  refine (l03One_any _ _ _ _ _ _ hs' _ _ _ hatH'.out).mono ?_
  rw [h']
  rintro e w1 ⟨rfl, rfl⟩
  go_wp2_with fail
  refine (l03Gap_any _ _ _ _ _ _ _ _ _ _ _ _ h h' _ _ _ _ _ hatH.out hatH'.out).mono ?_
  rintro e w3 ⟨rfl, m, rfl⟩
  go_wp2
  go_ret2
  exact ⟨ret_int2 rfl rfl, belowN (((Below.refl _ _).alloc (Nat.le_refl _) _).alloc (by simp) _) _⟩
end Go.Proofs.Ytembebdlllcblab
