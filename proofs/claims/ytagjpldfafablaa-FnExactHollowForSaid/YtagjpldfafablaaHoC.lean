/-
  Hollows: the closure that looks for places that are too thin.
-/
import Derived.Test.YtagjpldfafablaaHoS8
import Derived.Test.YtagjpldfafablaaWood8
namespace Go.Proofs.Ytagjpldfafablaa
open Go.ChangeShapes Go.WideShapes Go.ChangeAt Go.RowKit Go.Deep
set_option linter.unusedVariables false
set_option linter.unusedSimpArgs false
set_option maxHeartbeats 3200000 in
theorem hollow1_any (g o cap R C : Nat) (rg ro rc : Nat → Nat) (h : Nat → Nat → Int) (n : Int) (hn0 : 0 ≤ n) (hn1 : n ≤ 1000) (bw : Nat) (w : World) (x : GR w g o cap R C rg ro rc h) (hb : w.heap[bw]? = some (.cells #[.iface 58 (.slice (some ⟨g, o, none⟩) R cap), .iface 59 (.int .i64 n)] 63 (0, 0))) (i k : Nat) (hi : i < R) (hk : k < C) :
    Calls Try.prog 41 #[encP (i, k), .pointer (some ⟨bw, 0, none⟩)] w fun e w' => e = .returned (.bool (decide (h i k < n))) ∧ Below w.heap.size w w' := by
  have cW0 := fun W (hB : Below w.heap.size w W) => wood_flat g o cap R C rg ro rc h n hn0 hn1 W (x.below hB) i k hi hk
  have za := x.h0 i k hi hk
  have zb := x.h1 i k hi hk
  unfold encP at cW0 ⊢
  dsimp only at cW0 ⊢
  obtain ⟨z, hz⟩ : ∃ z, z = h i k := ⟨_, rfl⟩
  rw [← hz] at cW0 za zb ⊢
  have cW := Lib.hid cW0
  clear cW0 x hz
  have hB : Below w.heap.size w (w.alloc (.cells #[.int .i64 (i : Int), .int .i64 (k : Int)] 49)) := (Below.refl _ _).alloc (Nat.le_refl _) _
  have p0 := heap_alloc_new w (.cells #[.int .i64 (i : Int), .int .i64 (k : Int)] 49)
  have q0 := (hB.block _ (lt_of_some hb)).trans hb
  have hN := lt_of_some hb
  clear hb
  have c0 := cellB p0 0 _ rfl
  have c1 := cellB p0 1 _ rfl
  have c2 := cellB q0 0 _ rfl
  have c3 := cellB q0 1 _ rfl
  have hB' := Lib.hid hB
  clear hB p0 q0
  go_enter Try.func41, Try.ntmps41
  go_wp2_with fail
  refine (cW.out _ hB'.out).mono ?_
  rintro e w2 ⟨rfl, b2⟩
  have hBB := Lib.hid (below2 hB'.out b2)
  clear c0 c1 c2 c3 b2 hB'
  by_cases hs : z < n
  · have h1 : decide (z < n) = true := by simp [hs]
    have h2 : z - n < 0 := by omega
    have h1' := Lib.hid h1
    clear h1
    go_wp2
    go_ret
    exact ⟨by rw [h1'.out]; (first | rfl | (show Ending.returned (.bool (decide (z - n < 0))) = _; simp [h2] <;> omega)), hBB.out⟩
  · have h1 : decide (z < n) = false := by simp [hs]
    have h2 : ¬ z - n < 0 := by omega
    have h1' := Lib.hid h1
    clear h1
    go_wp2
    go_ret
    exact ⟨by rw [h1'.out]; (first | rfl | (show Ending.returned (.bool (decide (z - n < 0))) = _; simp [h2] <;> omega)), hBB.out⟩
end Go.Proofs.Ytagjpldfafablaa
