/-
  Necks: scale, ratio, projection, on both sides.
-/
import Derived.Test.YtcdpkbcpglaiaaaNckT
namespace Go.Proofs.Ytcdpkbcpglaiaaa
open Go.ChangeShapes Go.WideShapes Go.ChangeAt Go.RowKit Go.Deep
set_option linter.unusedVariables false
set_option linter.unusedSimpArgs false
set_option maxRecDepth 1000000
set_option maxHeartbeats 1600000 in
theorem specProjectionOf_any (a : Int) (b : Int) (c : Int) (d : Int) (w : World) : Calls Try.prog 11 #[.agg #[.int .i64 a, .int .i64 b, .int .i64 c, .int .i64 d]] w fun e w' => e = .returned (.tuple #[.int .i64 (pick (nckB ⟨a, b, c, d⟩) (prjV b c d)), .int .i64 (code (nckB ⟨a, b, c, d⟩) 1)]) ∧ Below w.heap.size w w' := by
  have hat := nck_box a b c d w
  have c1 := fun W g o (hat : NckAt W g o ⟨a, b, c, d⟩) => l10Ok_any a b c d W g o hat
  cases h : nckB ⟨a, b, c, d⟩ <;> rw [h] at c1
  · go_enter Try.func11, Try.ntmps11
    go_wp2_with (go_at_call 27; (with_reducible refine (c1 _ _ 0 hat).mono ?_); rintro e w' ⟨rfl, rfl⟩)
    go_ret2
    exact ⟨ret_int2 rfl rfl, (Below.refl _ _).alloc (Nat.le_refl _) _⟩
  obtain ⟨ha, hb, hc, hd⟩ := nck_bd h
  have cD := Lib.hid (fun W g o (hat : NckAt W g o ⟨a, b, c, d⟩) => l10High_any a b c d d hb hc ⟨hd.1, by omega⟩ W g o hat)
  go_enter Try.func11, Try.ntmps11
  go_wp2_with (first
    | (go_at_call 27; (with_reducible refine (c1 _ _ 0 hat).mono ?_); rintro e w' ⟨rfl, rfl⟩)
    | (go_at_call 28; (with_reducible refine (cD.out _ _ 0 hat).mono ?_); rintro e w' ⟨rfl, m, rfl⟩))
  go_ret2
  exact ⟨ret_int2 rfl rfl, belowN ((Below.refl _ _).alloc (Nat.le_refl _) _) m⟩
end Go.Proofs.Ytcdpkbcpglaiaaa
