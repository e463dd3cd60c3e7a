/-
  Contracts of speeds, gaps and pieces of planks by value.
-/
import Derived.Test.YtfcdhjbnlokinaaPlank2
namespace Go.Proofs.Ytfcdhjbnlokinaa
open Go.ChangeShapes Go.WideShapes Go.ChangeAt Go.RowKit
set_option linter.unusedVariables false
set_option linter.unusedSimpArgs false
/-- the code of two tests, one behind the other -/
def code2 (b1 b2 : Bool) (c1 c2 : Int) : Int := if b1 = true then (if b2 = true then 0 else c2) else c1
theorem l03Piece_any (l v u : Int) (w : World) : Calls Try.prog 31 #[.int .i64 l, .int .i64 v, .int .i64 u] w fun e w' => e = .returned (.bool (inB l 1 2000 && inB v 1 2000 && inB u 1 2000)) ∧ w = w' := by
  cases h1 : inB l 1 2000
  · go_enter Try.func31, Try.ntmps31
    go_wp2_with (go_at_call 52; refine (l03Size_any _ _).mono ?_; rintro e w' ⟨rfl, rfl⟩)
    go_ret
    exact ⟨ret_bool (by first | rfl | simp [h1]), rfl⟩
  cases h2 : inB v 1 2000
  · go_enter Try.func31, Try.ntmps31
    go_wp2_with (go_at_call 52; refine (l03Size_any _ _).mono ?_; rintro e w' ⟨rfl, rfl⟩)
    go_ret
    exact ⟨ret_bool (by first | rfl | simp [h1, h2]), rfl⟩
  cases h3 : inB u 1 2000
  · go_enter Try.func31, Try.ntmps31
    go_wp2_with (go_at_call 52; refine (l03Size_any _ _).mono ?_; rintro e w' ⟨rfl, rfl⟩)
    go_ret
    exact ⟨ret_bool (by first | rfl | simp [h1, h2, h3]), rfl⟩
  go_enter Try.func31, Try.ntmps31
  go_wp2_with (go_at_call 52; refine (l03Size_any _ _).mono ?_; rintro e w' ⟨rfl, rfl⟩)
  go_ret
  exact ⟨ret_bool (by first | rfl | simp [h1, h2, h3]), rfl⟩
theorem isPiece_any (l v u : Int) (w : World) : Calls Try.prog 34 #[.agg #[.int .i64 l, .int .i64 v, .int .i64 u]] w fun e w' => e = .returned (.bool (inB l 1 2000 && inB v 1 2000 && inB u 1 2000)) ∧ Below w.heap.size w w' := by
  cases h1 : inB l 1 2000
  · go_enter Try.func34, Try.ntmps34
    go_wp2_with (go_at_call 50; refine (isSize_any _ _).mono ?_; rintro e w' ⟨rfl, rfl⟩)
    go_ret
    exact ⟨ret_bool (by first | rfl | simp [h1]), ((Below.refl _ _).alloc (Nat.le_refl _) _)⟩
  cases h2 : inB v 1 2000
  · go_enter Try.func34, Try.ntmps34
    go_wp2_with (go_at_call 50; refine (isSize_any _ _).mono ?_; rintro e w' ⟨rfl, rfl⟩)
    go_ret
    exact ⟨ret_bool (by first | rfl | simp [h1, h2]), ((Below.refl _ _).alloc (Nat.le_refl _) _)⟩
  cases h3 : inB u 1 2000
  · go_enter Try.func34, Try.ntmps34
    go_wp2_with (go_at_call 50; refine (isSize_any _ _).mono ?_; rintro e w' ⟨rfl, rfl⟩)
    go_ret
    exact ⟨ret_bool (by first | rfl | simp [h1, h2, h3]), ((Below.refl _ _).alloc (Nat.le_refl _) _)⟩
  go_enter Try.func34, Try.ntmps34
  go_wp2_with (go_at_call 50; refine (isSize_any _ _).mono ?_; rintro e w' ⟨rfl, rfl⟩)
  go_ret
  exact ⟨ret_bool (by first | rfl | simp [h1, h2, h3]), ((Below.refl _ _).alloc (Nat.le_refl _) _)⟩
theorem quo_bd {a l : Int} (ha : 1 ≤ a) (ha2 : a ≤ 2000) (hl : 1 ≤ l) : 0 ≤ a / l ∧ a / l ≤ 2000 := by
  have h1 := Int.ediv_nonneg (a := a) (b := l) (by omega) (by omega)
  have h2 := Int.ediv_le_self (a := a) l (by omega)
  omega
theorem mul_bd0 {a b p q : Int} (ha1 : 0 ≤ a) (ha2 : a ≤ p) (hb1 : 0 ≤ b) (hb2 : b ≤ q) : 0 ≤ a * b ∧ a * b ≤ p * q :=
  ⟨Int.mul_nonneg ha1 hb1, Int.mul_le_mul ha2 hb2 hb1 (by omega)⟩
/-- can a piece be cut? -/
def fitsB (x : Plk) (l v u : Int) : Bool := decide (l ≤ x.len) && decide (v ≤ x.wid) && decide (u ≤ x.thk)
theorem fitsInto_any (l v u : Int) (s : ByteArray) (a b c d f : Int) (w : World) : Calls Try.prog 35 #[.agg #[.int .i64 l, .int .i64 v, .int .i64 u], .agg #[.string s, .int .i64 a, .int .i64 b, .int .i64 c, .int .i64 d, .int .i64 f]] w fun e w' => e = .returned (.bool (fitsB ⟨s, a, b, c, d, f⟩ l v u)) ∧ Below w.heap.size w w' := by
  have hx : Hid (fitsB ⟨s, a, b, c, d, f⟩ l v u = (decide (l ≤ a) && decide (v ≤ b) && decide (u ≤ c))) := Lib.hid rfl
  by_cases h1 : l ≤ a <;> by_cases h2 : v ≤ b <;> by_cases h3 : u ≤ c
  all_goals
    go_enter Try.func35, Try.ntmps35
    go_wp2
    go_ret
    exact ⟨ret_bool (by rw [hx.out]; simp [h1, h2, h3]), (((Below.refl _ _).alloc (Nat.le_refl _) _).alloc (by simp) _)⟩
theorem l03Fits_any (l v u : Int) (s : ByteArray) (a b c d f : Int) (g o : Nat) (w : World) (hat : PlkAt w g o ⟨s, a, b, c, d, f⟩) : Calls Try.prog 32 #[.pointer (some ⟨g, o, none⟩), .int .i64 l, .int .i64 v, .int .i64 u] w fun e w' => e = .returned (.bool (fitsB ⟨s, a, b, c, d, f⟩ l v u)) ∧ w = w' := by
  have hx : Hid (fitsB ⟨s, a, b, c, d, f⟩ l v u = (decide (l ≤ a) && decide (v ≤ b) && decide (u ≤ c))) := Lib.hid rfl
  obtain ⟨c0, c1, c2, c3, c4, c5⟩ := hat
  simp only at c0 c1 c2 c3 c4 c5
  by_cases h1 : l ≤ a <;> by_cases h2 : v ≤ b <;> by_cases h3 : u ≤ c
  all_goals
    go_enter Try.func32, Try.ntmps32
    go_wp2
    go_ret
    exact ⟨ret_bool (by rw [hx.out]; simp [h1, h2, h3]), rfl⟩
end Go.Proofs.Ytfcdhjbnlokinaa
