/-
  Contracts of gaps of planks by value.
-/
import Derived.Test.YtfcdhjbnlokinaaPlank2
import Derived.Deep.RegionHeld3
namespace Go.Proofs.Ytfcdhjbnlokinaa
open Go.ChangeShapes Go.WideShapes Go.ChangeAt Go.RowKit
set_option linter.unusedVariables false
set_option linter.unusedSimpArgs false
theorem distance_any (p q : Int) (h0 : -1000000000000 ≤ p) (h1 : p ≤ 1000000000000) (h2 : -1000000000000 ≤ q) (h3 : q ≤ 1000000000000) (w : World) : Calls Try.prog 56 #[.int .i64 p, .int .i64 q] w fun e w' => e = .returned (.int .i64 (absD p q)) ∧ w = w' := by
  by_cases h : q ≤ p
  all_goals
    go_enter Try.func56, Try.ntmps56
    go_wp2
    go_ret
    exact ⟨ret_int (by unfold absD; split <;> omega), rfl⟩
def maxI (p q : Int) : Int := if q < p then p else q
theorem l00Max_any (p q : Int) (w : World) : Calls Try.prog 67 #[.int .i64 p, .int .i64 q] w fun e w' => e = .returned (.int .i64 (maxI p q)) ∧ w = w' := by
  by_cases h : q < p
  all_goals
    go_enter Try.func67, Try.ntmps67
    go_wp2
    go_ret
    exact ⟨ret_int (by unfold maxI; split <;> omega), rfl⟩
theorem l03Abs_any (p q : Int) (h0 : -1000000000000 ≤ p) (h1 : p ≤ 1000000000000) (h2 : -1000000000000 ≤ q) (h3 : q ≤ 1000000000000) (w : World) : Calls Try.prog 55 #[.int .i64 p, .int .i64 q] w fun e w' => e = .returned (.int .i64 (absD p q)) ∧ w = w' := by
  have hr : Hid (maxI (p - q) (q - p) = absD p q) := Lib.hid (by unfold absD maxI; split <;> split <;> omega)
  go_enter Try.func55, Try.ntmps55
  go_wp2_with (go_at_call 67; refine (l00Max_any _ _ _).mono ?_; rintro e w' ⟨rfl, rfl⟩)
  go_ret
  exact ⟨ret_int hr.out, rfl⟩
theorem absD_bd (p q : Int) (h0 : 0 ≤ p) (h1 : p ≤ 1000000000000) (h2 : 0 ≤ q) (h3 : q ≤ 1000000000000) : 0 ≤ absD p q ∧ absD p q ≤ 1000000000000 := by unfold absD; split <;> omega
/-- two planks lie one behind the other -/
def TwoP (B : Nat) (x y : Plk) (w : World) : Prop := PlkAt w B 0 x ∧ PlkAt w (B + 1) 0 y
set_option maxHeartbeats 1000000 in
theorem gapTo_any (s : ByteArray) (a b c d f : Int) (s' : ByteArray) (a' b' c' d' f' : Int) (h : plkB ⟨s, a, b, c, d, f⟩ = true) (h' : plkB ⟨s', a', b', c', d', f'⟩ = true) (w : World) : Calls Try.prog 38 #[.agg #[.string s, .int .i64 a, .int .i64 b, .int .i64 c, .int .i64 d, .int .i64 f], .agg #[.string s', .int .i64 a', .int .i64 b', .int .i64 c', .int .i64 d', .int .i64 f']] w fun e w' => e = .returned (.int .i64 (gapV ⟨s, a, b, c, d, f⟩ ⟨s', a', b', c', d', f'⟩)) ∧ Below w.heap.size w w' := by
  obtain ⟨k1, k2⟩ := den_bd h
  obtain ⟨k3, k4⟩ := den_bd h'
  obtain ⟨k5, k6⟩ := rin_bd h
  obtain ⟨k7, k8⟩ := rin_bd h'
  have q1 := absD_bd _ _ k1 k2 k3 k4
  have q2 := absD_bd _ _ k5 (by omega) k7 (by omega)
  go_enter Try.func38, Try.ntmps38
  go_wp2
  have hP := plk_box s a b c d f w
  have hP' := plk_box s' a' b' c' d' f' (w.alloc (.cells #[.string s, .int .i64 a, .int .i64 b, .int .i64 c, .int .i64 d, .int .i64 f] 47))
  rw [show (w.alloc (.cells #[.string s, .int .i64 a, .int .i64 b, .int .i64 c, .int .i64 d, .int .i64 f] 47)).heap.size = w.heap.size + 1 by simp] at hP'
  have hB0 : Below w.heap.size w ((w.alloc (.cells #[.string s, .int .i64 a, .int .i64 b, .int .i64 c, .int .i64 d, .int .i64 f] 47)).alloc (.cells #[.string s', .int .i64 a', .int .i64 b', .int .i64 c', .int .i64 d', .int .i64 f'] 47)) := (((Below.refl _ _).alloc (Nat.le_refl _) _).alloc (by simp) _)
  have hPb := hP.below (by simp) ((Below.refl _ _).alloc (Nat.le_refl _) (.cells #[.string s', .int .i64 a', .int .i64 b', .int .i64 c', .int .i64 d', .int .i64 f'] 47))
  have hsz : w.heap.size + 1 < ((w.alloc (.cells #[.string s, .int .i64 a, .int .i64 b, .int .i64 c, .int .i64 d, .int .i64 f] 47)).alloc (.cells #[.string s', .int .i64 a', .int .i64 b', .int .i64 c', .int .i64 d', .int .i64 f'] 47)).heap.size := by simp
  generalize (w.alloc (.cells #[.string s, .int .i64 a, .int .i64 b, .int .i64 c, .int .i64 d, .int .i64 f] 47)).alloc (.cells #[.string s', .int .i64 a', .int .i64 b', .int .i64 c', .int .i64 d', .int .i64 f'] 47) = W0 at hP' hPb hB0 hsz ⊢
  clear hP
  generalize hBB : w.heap.size = B at hP' hPb hsz ⊢
  have hS0 : TwoP B ⟨s, a, b, c, d, f⟩ ⟨s', a', b', c', d', f'⟩ W0 ∧ Below W0.heap.size W0 W0 := ⟨⟨hPb, hP'⟩, Below.refl _ _⟩
  have keepS : ∀ W1 W2, (TwoP B ⟨s, a, b, c, d, f⟩ ⟨s', a', b', c', d', f'⟩ W1 ∧ Below W0.heap.size W0 W1) → Below W1.heap.size W1 W2 → (TwoP B ⟨s, a, b, c, d, f⟩ ⟨s', a', b', c', d', f'⟩ W2 ∧ Below W0.heap.size W0 W2) := fun W1 W2 h1 h2 =>
    ⟨⟨h1.1.1.below (Nat.lt_of_lt_of_le (by omega) h1.2.size) h2, h1.1.2.below (Nat.lt_of_lt_of_le hsz h1.2.size) h2⟩, h1.2.trans (h2.mono h1.2.size)⟩
  have keepS' := Lib.hid keepS
  clear keepS
  have e3 : IntKind.i64.wrap (absD (denV ⟨s, a, b, c, d, f⟩) (denV ⟨s', a', b', c', d', f'⟩) + absD (rinV ⟨s, a, b, c, d, f⟩) (rinV ⟨s', a', b', c', d', f'⟩)) = gapV ⟨s, a, b, c, d, f⟩ ⟨s', a', b', c', d', f'⟩ := IntWalk.i64_in _ (by omega)
  unfold TwoP PlkAt at hS0
  simp only at hS0
  go_region_held3 (fun w' => (((w'.cell? ⟨B, 0, none⟩ = some (.string s) ∧ w'.cell? ⟨B, 1, none⟩ = some (.int .i64 a) ∧ w'.cell? ⟨B, 2, none⟩ = some (.int .i64 b) ∧ w'.cell? ⟨B, 3, none⟩ = some (.int .i64 c) ∧ w'.cell? ⟨B, 4, none⟩ = some (.int .i64 d) ∧ w'.cell? ⟨B, 5, none⟩ = some (.int .i64 f)) ∧ (w'.cell? ⟨B + 1, 0, none⟩ = some (.string s') ∧ w'.cell? ⟨B + 1, 1, none⟩ = some (.int .i64 a') ∧ w'.cell? ⟨B + 1, 2, none⟩ = some (.int .i64 b') ∧ w'.cell? ⟨B + 1, 3, none⟩ = some (.int .i64 c') ∧ w'.cell? ⟨B + 1, 4, none⟩ = some (.int .i64 d') ∧ w'.cell? ⟨B + 1, 5, none⟩ = some (.int .i64 f'))) ∧ Below W0.heap.size W0 w'))
    (first | exact ⟨hS0.1, belowN hS0.2 1⟩ | exact keepS'.out _ _ (by assumption) (by assumption) | assumption)
    (first | (go_at_call 36; (with_reducible refine (density_any _ _ _ _ _ _ h _).mono ?_); rintro e w' ⟨rfl, hbel⟩) | (go_at_call 36; (with_reducible refine (density_any _ _ _ _ _ _ h' _).mono ?_); rintro e w' ⟨rfl, hbel⟩) | (go_at_call 57; (with_reducible refine (ringWidth_any _ _ _ _ _ _ h _).mono ?_); rintro e w' ⟨rfl, hbel⟩) | (go_at_call 57; (with_reducible refine (ringWidth_any _ _ _ _ _ _ h' _).mono ?_); rintro e w' ⟨rfl, hbel⟩) | (go_at_call 56; refine (distance_any _ _ (by omega) (by omega) (by omega) (by omega) _).mono ?_; rintro e w' ⟨rfl, rfl⟩))
  go_wp2
  go_ret
  subst hBB
  exact ⟨rfl, hB0.trans (Below.mono (And.right (by assumption)) hB0.size)⟩
end Go.Proofs.Ytfcdhjbnlokinaa
