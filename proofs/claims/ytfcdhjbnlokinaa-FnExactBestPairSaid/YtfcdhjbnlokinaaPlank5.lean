/-
  Contracts of the model's gaps of planks in memory.
-/
import Derived.Test.YtfcdhjbnlokinaaPlank4
namespace Go.Proofs.Ytfcdhjbnlokinaa
open Go.ChangeShapes Go.WideShapes Go.ChangeAt Go.RowKit
set_option linter.unusedVariables false
set_option linter.unusedSimpArgs false
set_option maxHeartbeats 2000000 in
theorem l03Gap_any (s : ByteArray) (a b c d f : Int) (s' : ByteArray) (a' b' c' d' f' : Int) (h : plkB ⟨s, a, b, c, d, f⟩ = true) (h' : plkB ⟨s', a', b', c', d', f'⟩ = true) (g o g' o' : Nat) (w : World) (hat : PlkAt w g o ⟨s, a, b, c, d, f⟩) (hat' : PlkAt w g' o' ⟨s', a', b', c', d', f'⟩) : Calls Try.prog 37 #[.pointer (some ⟨g, o, none⟩), .pointer (some ⟨g', o', none⟩)] w fun e w' => e = .returned (.int .i64 (gapV ⟨s, a, b, c, d, f⟩ ⟨s', a', b', c', d', f'⟩)) ∧ ∃ m, w' = w.drewN m := by
  obtain ⟨ha, hb, hc, hd, hf, hab, habc⟩ := plk_bd h
  obtain ⟨ha', hb', hc', hd', hf', hab', habc'⟩ := plk_bd h'
  obtain ⟨k1, k2⟩ := den_bd h
  obtain ⟨k3, k4⟩ := den_bd h'
  obtain ⟨k5, k6⟩ := rin_bd h
  obtain ⟨k7, k8⟩ := rin_bd h'
  have q1 := absD_bd _ _ k1 k2 k3 k4
  have q2 := absD_bd _ _ k5 (by omega) k7 (by omega)
  have hat1 := Lib.hid hat
  have hat2 := Lib.hid hat'
  obtain ⟨c0, c1, c2, c3, c4, c5⟩ := hat
  obtain ⟨c0', c1', c2', c3', c4', c5'⟩ := hat'
  simp only at c0 c1 c2 c3 c4 c5 c0' c1' c2' c3' c4' c5'
  have e1 : IntKind.i64.wrap (100 * b) = 100 * b := IntWalk.i64_in _ (by omega)
  have e2 : IntKind.i64.wrap (100 * b') = 100 * b' := IntWalk.i64_in _ (by omega)
  have r1 : 0 ≤ rnd (100 * b) f ∧ rnd (100 * b) f ≤ 1000000 := rin_bd h
  have r2 : 0 ≤ rnd (100 * b') f' ∧ rnd (100 * b') f' ≤ 1000000 := rin_bd h'
  have q3 : 0 ≤ absD (rnd (100 * b) f) (rnd (100 * b') f') ∧ absD (rnd (100 * b) f) (rnd (100 * b') f') ≤ 1000000000000 := q2
  have e3 : IntKind.i64.wrap (absD (denV ⟨s, a, b, c, d, f⟩) (denV ⟨s', a', b', c', d', f'⟩) + absD (rnd (100 * b) f) (rnd (100 * b') f')) = absD (denV ⟨s, a, b, c, d, f⟩) (denV ⟨s', a', b', c', d', f'⟩) + absD (rnd (100 * b) f) (rnd (100 * b') f') := IntWalk.i64_in _ (by omega)
  clear k5 k6 k7 k8 q2
  have cD : ∀ n, Calls Try.prog 33 #[.pointer (some ⟨g, o, none⟩)] (w.drewN n) fun e w' => e = .returned (.int .i64 (denV ⟨s, a, b, c, d, f⟩)) ∧ ∃ m, w' = w.drewN m := fun n => (l03Density_any _ _ _ _ _ _ h g o (w.drewN n) hat1.out).mono fun _ _ ⟨he, m, hm⟩ => ⟨he, n + m, by rw [hm, World.drewN_drewN]⟩
  have cD' : ∀ n, Calls Try.prog 33 #[.pointer (some ⟨g', o', none⟩)] (w.drewN n) fun e w' => e = .returned (.int .i64 (denV ⟨s', a', b', c', d', f'⟩)) ∧ ∃ m, w' = w.drewN m := fun n => (l03Density_any _ _ _ _ _ _ h' g' o' (w.drewN n) hat2.out).mono fun _ _ ⟨he, m, hm⟩ => ⟨he, n + m, by rw [hm, World.drewN_drewN]⟩
  have dD := Lib.hid cD
  have dD' := Lib.hid cD'
  clear cD cD'
  go_enter Try.func37, Try.ntmps37
  go_wp2
  go_quiet ((first | (go_at_call 33; first | (with_reducible exact dD.out _) | (with_reducible exact dD'.out _)) | (go_at_call 55; exact Qs (l03Abs_any _ _ (by omega) (by omega) (by omega) (by omega) _)) | (go_at_call 53; exact Qs (l01Div_any _ _ (by omega) (by omega) (by omega) (by omega) (by omega) _))))
  clear e1 e2 e3
  go_wp2
  go_ret
  exact ⟨rfl, _, rfl⟩
end Go.Proofs.Ytfcdhjbnlokinaa
