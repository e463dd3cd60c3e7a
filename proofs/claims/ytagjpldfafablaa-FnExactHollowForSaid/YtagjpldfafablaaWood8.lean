/-
  Heights of wood over a flat surface, and between two grids.
-/
import Derived.Test.YtagjpldfafablaaCog8
import Derived.Handy
namespace Go.Proofs.Ytagjpldfafablaa
open Go.ChangeShapes Go.WideShapes Go.ChangeAt Go.RowKit Go.Deep
set_option linter.unusedVariables false
set_option linter.unusedSimpArgs false
attribute [local go_sem] Oper.semAt_some
theorem wood_flat (g o cap R C : Nat) (rg ro rc : Nat → Nat) (h : Nat → Nat → Int) (n : Int) (hn0 : 0 ≤ n) (hn1 : n ≤ 1000) (w : World) (x : GR w g o cap R C rg ro rc h) (i k : Nat) (hi : i < R) (hk : k < C) : Calls Try.prog 42 #[.agg #[.iface 58 (.slice (some ⟨g, o, none⟩) R cap), .iface 59 (.int .i64 n)], encP (i, k)] w fun e w' => e = .returned (.int .i64 (h i k - n)) ∧ Below w.heap.size w w' := by
  have hx := Lib.hid x
  have za := x.h0 i k hi hk
  have zb := x.h1 i k hi hk
  clear x
  unfold encP
  dsimp only
  obtain ⟨z, hz1⟩ : ∃ z, z = h i k := ⟨_, rfl⟩
  rw [← hz1] at za zb ⊢
  have hz1' := Lib.hid hz1
  clear hz1
  go_enter Try.func42, Try.ntmps42
  go_wp2_with fail
  have hB : Below w.heap.size w ((w.alloc (.cells #[.iface 58 (.slice (some ⟨g, o, none⟩) R cap), .iface 59 (.int .i64 n)] 63)).alloc (.cells #[.int .i64 (i : Int), .int .i64 (k : Int)] 49)) := ((Below.refl _ _).alloc (Nat.le_refl _) _).alloc (by simp) _
  have e0 : ((w.alloc (.cells #[.iface 58 (.slice (some ⟨g, o, none⟩) R cap), .iface 59 (.int .i64 n)] 63)).alloc (.cells #[.int .i64 (i : Int), .int .i64 (k : Int)] 49)).heap[w.heap.size]? = some (.cells #[.iface 58 (.slice (some ⟨g, o, none⟩) R cap), .iface 59 (.int .i64 n)] 63 (0, 0)) := by
    rw [Below.heap_alloc _ _ _ (by simp)]; exact heap_alloc_new _ _
  have e1 : ((w.alloc (.cells #[.iface 58 (.slice (some ⟨g, o, none⟩) R cap), .iface 59 (.int .i64 n)] 63)).alloc (.cells #[.int .i64 (i : Int), .int .i64 (k : Int)] 49)).heap[w.heap.size + 1]? = some (.cells #[.int .i64 (i : Int), .int .i64 (k : Int)] 49 (0, 0)) := by
    have := heap_alloc_new (w.alloc (.cells #[.iface 58 (.slice (some ⟨g, o, none⟩) R cap), .iface 59 (.int .i64 n)] 63)) (.cells #[.int .i64 (i : Int), .int .i64 (k : Int)] 49)
    simpa using this
  have hsz : ((w.alloc (.cells #[.iface 58 (.slice (some ⟨g, o, none⟩) R cap), .iface 59 (.int .i64 n)] 63)).alloc (.cells #[.int .i64 (i : Int), .int .i64 (k : Int)] 49)).heap.size = w.heap.size + 2 := by simp
  obtain ⟨N, hN⟩ : ∃ N, N = w.heap.size := ⟨_, rfl⟩
  have hB' := Lib.hid hB
  rw [← hN] at e0 e1 hsz
  rw [show w.heap.size = N from hN.symm]
  generalize ((w.alloc (.cells #[.iface 58 (.slice (some ⟨g, o, none⟩) R cap), .iface 59 (.int .i64 n)] 63)).alloc (.cells #[.int .i64 (i : Int), .int .i64 (k : Int)] 49)) = W at e0 e1 hB' hsz ⊢
  have cA0 := fun w' (hw' : Below W.heap.size W w') => at_any g o cap R C rg ro rc h w' (hx.out.below (hB'.out.trans (hw'.mono hB'.out.size))) i k hi hk
  unfold encP at cA0
  dsimp only at cA0
  rw [← hz1'.out] at cA0
  have cA := Lib.hid cA0
  have cB := Lib.hid (fun W => flat_at n (i : Int) (k : Int) W)
  have hN1 : N < W.heap.size := by omega
  have hN2 : N + 1 < W.heap.size := by omega
  have open0 : Hid (∀ w', Below W.heap.size W w' → w'.cell? ⟨N, 0, none⟩ = some (.iface 58 (.slice (some ⟨g, o, none⟩) R cap)) ∧ w'.cell? ⟨N, 1, none⟩ = some (.iface 59 (.int .i64 n)) ∧ w'.cell? ⟨N + 1, 0, none⟩ = some (.int .i64 (i : Int)) ∧ w'.cell? ⟨N + 1, 1, none⟩ = some (.int .i64 (k : Int))) := Lib.hid (fun w' hw' => by
    have q0 := (hw'.block _ hN1).trans e0
    have q1 := (hw'.block _ hN2).trans e1
    exact ⟨cellB q0 0 _ rfl, cellB q0 1 _ rfl, cellB q1 0 _ rfl, cellB q1 1 _ rfl⟩)
  clear cA0 hz1' e0 e1 hB hN hsz
  have hwz : IntKind.i64.wrap (z - n) = z - n := IntWalk.i64_in _ (by omega)
  refine wp_calm 10 (fun w' => Below W.heap.size W w') (by kernel_rfl) (by kernel_rfl) (by kernel_rfl) (by kernel_rfl) (belowN (Below.refl _ _) 1) ?_
  simp only [List.take_succ_cons, List.take_zero, List.drop_succ_cons, List.drop_zero]
  refine calm_take (v := ?vy1) (by rfl) ?ey1 ?ry1
  case ey1 => (intro w' hw'; obtain ⟨c0, c1, c2, c3⟩ := open0.out w' hw'; go_simp; try with_reducible rfl)
  try simp only [Act.put, List.setIfInBounds_toArray, List.set_cons_zero, List.set_cons_succ]
  refine calm_take (v := ?vy2) (by rfl) ?ey2 ?ry2
  case ey2 => (intro w' hw'; obtain ⟨c0, c1, c2, c3⟩ := open0.out w' hw'; go_simp; try with_reducible rfl)
  try simp only [Act.put, List.setIfInBounds_toArray, List.set_cons_zero, List.set_cons_succ]
  refine calm_take (v := ?vy3) (by rfl) ?ey3 ?ry3
  case ey3 => (intro w' hw'; obtain ⟨c0, c1, c2, c3⟩ := open0.out w' hw'; go_simp; try with_reducible rfl)
  try simp only [Act.put, List.setIfInBounds_toArray, List.set_cons_zero, List.set_cons_succ]
  refine calm_call (v := .int .i64 z) (f := ?fy4) (args := ?ay4) (by rfl) ?ey4 ?cy4 ?ry4
  case ey4 => (intro w' hw'; obtain ⟨c0, c1, c2, c3⟩ := open0.out w' hw'; go_simp; try (go_invoke; go_simp); first | (with_reducible rfl) | (refine ⟨?_, ?_⟩ <;> with_reducible rfl))
  case cy4 => (intro w' hw'; with_reducible exact calm_ret hw' (cA.out w' hw'))
  try simp only [Act.put, List.setIfInBounds_toArray, List.set_cons_zero, List.set_cons_succ]
  refine calm_take (v := ?vy5) (by rfl) ?ey5 ?ry5
  case ey5 => (intro w' hw'; obtain ⟨c0, c1, c2, c3⟩ := open0.out w' hw'; go_simp; try with_reducible rfl)
  try simp only [Act.put, List.setIfInBounds_toArray, List.set_cons_zero, List.set_cons_succ]
  refine calm_take (v := ?vy6) (by rfl) ?ey6 ?ry6
  case ey6 => (intro w' hw'; obtain ⟨c0, c1, c2, c3⟩ := open0.out w' hw'; go_simp; try with_reducible rfl)
  try simp only [Act.put, List.setIfInBounds_toArray, List.set_cons_zero, List.set_cons_succ]
  refine calm_take (v := ?vy7) (by rfl) ?ey7 ?ry7
  case ey7 => (intro w' hw'; obtain ⟨c0, c1, c2, c3⟩ := open0.out w' hw'; go_simp; try with_reducible rfl)
  try simp only [Act.put, List.setIfInBounds_toArray, List.set_cons_zero, List.set_cons_succ]
  refine calm_call (v := .int .i64 n) (f := ?fy8) (args := ?ay8) (by rfl) ?ey8 ?cy8 ?ry8
  case ey8 => (intro w' hw'; obtain ⟨c0, c1, c2, c3⟩ := open0.out w' hw'; go_simp; try (go_invoke; go_simp); first | (with_reducible rfl) | (refine ⟨?_, ?_⟩ <;> with_reducible rfl))
  case cy8 => (intro w' hw'; with_reducible exact calm_ret hw' (cB.out w'))
  try simp only [Act.put, List.setIfInBounds_toArray, List.set_cons_zero, List.set_cons_succ]
  refine calm_take (v := ?vy9) (by rfl) ?ey9 ?ry9
  case ey9 => (intro w' hw'; obtain ⟨c0, c1, c2, c3⟩ := open0.out w' hw'; go_simp; try with_reducible rfl)
  try simp only [Act.put, List.setIfInBounds_toArray, List.set_cons_zero, List.set_cons_succ]
  refine calm_take (v := ?vy10) (by rfl) ?ey10 ?ry10
  case ey10 => (intro w' hw'; obtain ⟨c0, c1, c2, c3⟩ := open0.out w' hw'; go_simp; try with_reducible rfl)
  try simp only [Act.put, List.setIfInBounds_toArray, List.set_cons_zero, List.set_cons_succ]
  refine wpQuiet_nil (fun w' hw' => ?_)
  refine wpList_nil ?_
  go_wp2
  go_ret
  exact ⟨rfl, hB'.out.trans (hw'.mono hB'.out.size)⟩
theorem wood_two (g o cap R C : Nat) (rg ro rc : Nat → Nat) (h : Nat → Nat → Int) (g' o' cap' : Nat) (rg' ro' rc' : Nat → Nat) (h' : Nat → Nat → Int) (w : World) (x : GR w g o cap R C rg ro rc h) (x' : GR w g' o' cap' R C rg' ro' rc' h') (i k : Nat) (hi : i < R) (hk : k < C) : Calls Try.prog 42 #[.agg #[.iface 58 (.slice (some ⟨g, o, none⟩) R cap), .iface 58 (.slice (some ⟨g', o', none⟩) R cap')], encP (i, k)] w fun e w' => e = .returned (.int .i64 (h i k - h' i k)) ∧ Below w.heap.size w w' := by
  have hx := Lib.hid x
  have za := x.h0 i k hi hk
  have zb := x.h1 i k hi hk
  have hx' := Lib.hid x'
  have ya := x'.h0 i k hi hk
  have yb := x'.h1 i k hi hk
  clear x'
  clear x
  unfold encP
  dsimp only
  obtain ⟨z, hz1⟩ : ∃ z, z = h i k := ⟨_, rfl⟩
  rw [← hz1] at za zb ⊢
  have hz1' := Lib.hid hz1
  clear hz1
  obtain ⟨y, hy1⟩ : ∃ y, y = h' i k := ⟨_, rfl⟩
  rw [← hy1] at ya yb ⊢
  have hy1' := Lib.hid hy1
  clear hy1
  go_enter Try.func42, Try.ntmps42
  go_wp2_with fail
  have hB : Below w.heap.size w ((w.alloc (.cells #[.iface 58 (.slice (some ⟨g, o, none⟩) R cap), .iface 58 (.slice (some ⟨g', o', none⟩) R cap')] 63)).alloc (.cells #[.int .i64 (i : Int), .int .i64 (k : Int)] 49)) := ((Below.refl _ _).alloc (Nat.le_refl _) _).alloc (by simp) _
  have e0 : ((w.alloc (.cells #[.iface 58 (.slice (some ⟨g, o, none⟩) R cap), .iface 58 (.slice (some ⟨g', o', none⟩) R cap')] 63)).alloc (.cells #[.int .i64 (i : Int), .int .i64 (k : Int)] 49)).heap[w.heap.size]? = some (.cells #[.iface 58 (.slice (some ⟨g, o, none⟩) R cap), .iface 58 (.slice (some ⟨g', o', none⟩) R cap')] 63 (0, 0)) := by
    rw [Below.heap_alloc _ _ _ (by simp)]; exact heap_alloc_new _ _
  have e1 : ((w.alloc (.cells #[.iface 58 (.slice (some ⟨g, o, none⟩) R cap), .iface 58 (.slice (some ⟨g', o', none⟩) R cap')] 63)).alloc (.cells #[.int .i64 (i : Int), .int .i64 (k : Int)] 49)).heap[w.heap.size + 1]? = some (.cells #[.int .i64 (i : Int), .int .i64 (k : Int)] 49 (0, 0)) := by
    have := heap_alloc_new (w.alloc (.cells #[.iface 58 (.slice (some ⟨g, o, none⟩) R cap), .iface 58 (.slice (some ⟨g', o', none⟩) R cap')] 63)) (.cells #[.int .i64 (i : Int), .int .i64 (k : Int)] 49)
    simpa using this
  have hsz : ((w.alloc (.cells #[.iface 58 (.slice (some ⟨g, o, none⟩) R cap), .iface 58 (.slice (some ⟨g', o', none⟩) R cap')] 63)).alloc (.cells #[.int .i64 (i : Int), .int .i64 (k : Int)] 49)).heap.size = w.heap.size + 2 := by simp
  obtain ⟨N, hN⟩ : ∃ N, N = w.heap.size := ⟨_, rfl⟩
  have hB' := Lib.hid hB
  rw [← hN] at e0 e1 hsz
  rw [show w.heap.size = N from hN.symm]
  generalize ((w.alloc (.cells #[.iface 58 (.slice (some ⟨g, o, none⟩) R cap), .iface 58 (.slice (some ⟨g', o', none⟩) R cap')] 63)).alloc (.cells #[.int .i64 (i : Int), .int .i64 (k : Int)] 49)) = W at e0 e1 hB' hsz ⊢
  have cA0 := fun w' (hw' : Below W.heap.size W w') => at_any g o cap R C rg ro rc h w' (hx.out.below (hB'.out.trans (hw'.mono hB'.out.size))) i k hi hk
  unfold encP at cA0
  dsimp only at cA0
  rw [← hz1'.out] at cA0
  have cA := Lib.hid cA0
  have cB0 := fun w' (hw' : Below W.heap.size W w') => at_any g' o' cap' R C rg' ro' rc' h' w' (hx'.out.below (hB'.out.trans (hw'.mono hB'.out.size))) i k hi hk
  unfold encP at cB0
  dsimp only at cB0
  rw [← hy1'.out] at cB0
  have cB := Lib.hid cB0
  clear cB0 hy1'
  have hN1 : N < W.heap.size := by omega
  have hN2 : N + 1 < W.heap.size := by omega
  have open0 : Hid (∀ w', Below W.heap.size W w' → w'.cell? ⟨N, 0, none⟩ = some (.iface 58 (.slice (some ⟨g, o, none⟩) R cap)) ∧ w'.cell? ⟨N, 1, none⟩ = some (.iface 58 (.slice (some ⟨g', o', none⟩) R cap')) ∧ w'.cell? ⟨N + 1, 0, none⟩ = some (.int .i64 (i : Int)) ∧ w'.cell? ⟨N + 1, 1, none⟩ = some (.int .i64 (k : Int))) := Lib.hid (fun w' hw' => by
    have q0 := (hw'.block _ hN1).trans e0
    have q1 := (hw'.block _ hN2).trans e1
    exact ⟨cellB q0 0 _ rfl, cellB q0 1 _ rfl, cellB q1 0 _ rfl, cellB q1 1 _ rfl⟩)
  clear cA0 hz1' e0 e1 hB hN hsz
  have hwz : IntKind.i64.wrap (z - y) = z - y := IntWalk.i64_in _ (by omega)
  refine wp_calm 10 (fun w' => Below W.heap.size W w') (by kernel_rfl) (by kernel_rfl) (by kernel_rfl) (by kernel_rfl) (belowN (Below.refl _ _) 1) ?_
  simp only [List.take_succ_cons, List.take_zero, List.drop_succ_cons, List.drop_zero]
  refine calm_take (v := ?vy11) (by rfl) ?ey11 ?ry11
  case ey11 => (intro w' hw'; obtain ⟨c0, c1, c2, c3⟩ := open0.out w' hw'; go_simp; try with_reducible rfl)
  try simp only [Act.put, List.setIfInBounds_toArray, List.set_cons_zero, List.set_cons_succ]
  refine calm_take (v := ?vy12) (by rfl) ?ey12 ?ry12
  case ey12 => (intro w' hw'; obtain ⟨c0, c1, c2, c3⟩ := open0.out w' hw'; go_simp; try with_reducible rfl)
  try simp only [Act.put, List.setIfInBounds_toArray, List.set_cons_zero, List.set_cons_succ]
  refine calm_take (v := ?vy13) (by rfl) ?ey13 ?ry13
  case ey13 => (intro w' hw'; obtain ⟨c0, c1, c2, c3⟩ := open0.out w' hw'; go_simp; try with_reducible rfl)
  try simp only [Act.put, List.setIfInBounds_toArray, List.set_cons_zero, List.set_cons_succ]
  refine calm_call (v := .int .i64 z) (f := ?fy14) (args := ?ay14) (by rfl) ?ey14 ?cy14 ?ry14
  case ey14 => (intro w' hw'; obtain ⟨c0, c1, c2, c3⟩ := open0.out w' hw'; go_simp; try (go_invoke; go_simp); first | (with_reducible rfl) | (refine ⟨?_, ?_⟩ <;> with_reducible rfl))
  case cy14 => (intro w' hw'; with_reducible exact calm_ret hw' (cA.out w' hw'))
  try simp only [Act.put, List.setIfInBounds_toArray, List.set_cons_zero, List.set_cons_succ]
  refine calm_take (v := ?vy15) (by rfl) ?ey15 ?ry15
  case ey15 => (intro w' hw'; obtain ⟨c0, c1, c2, c3⟩ := open0.out w' hw'; go_simp; try with_reducible rfl)
  try simp only [Act.put, List.setIfInBounds_toArray, List.set_cons_zero, List.set_cons_succ]
  refine calm_take (v := ?vy16) (by rfl) ?ey16 ?ry16
  case ey16 => (intro w' hw'; obtain ⟨c0, c1, c2, c3⟩ := open0.out w' hw'; go_simp; try with_reducible rfl)
  try simp only [Act.put, List.setIfInBounds_toArray, List.set_cons_zero, List.set_cons_succ]
  refine calm_take (v := ?vy17) (by rfl) ?ey17 ?ry17
  case ey17 => (intro w' hw'; obtain ⟨c0, c1, c2, c3⟩ := open0.out w' hw'; go_simp; try with_reducible rfl)
  try simp only [Act.put, List.setIfInBounds_toArray, List.set_cons_zero, List.set_cons_succ]
  refine calm_call (v := .int .i64 y) (f := ?fy18) (args := ?ay18) (by rfl) ?ey18 ?cy18 ?ry18
  case ey18 => (intro w' hw'; obtain ⟨c0, c1, c2, c3⟩ := open0.out w' hw'; go_simp; try (go_invoke; go_simp); first | (with_reducible rfl) | (refine ⟨?_, ?_⟩ <;> with_reducible rfl))
  case cy18 => (intro w' hw'; with_reducible exact calm_ret hw' (cB.out w' hw'))
  try simp only [Act.put, List.setIfInBounds_toArray, List.set_cons_zero, List.set_cons_succ]
  refine calm_take (v := ?vy19) (by rfl) ?ey19 ?ry19
  case ey19 => (intro w' hw'; obtain ⟨c0, c1, c2, c3⟩ := open0.out w' hw'; go_simp; try with_reducible rfl)
  try simp only [Act.put, List.setIfInBounds_toArray, List.set_cons_zero, List.set_cons_succ]
  refine calm_take (v := ?vy20) (by rfl) ?ey20 ?ry20
  case ey20 => (intro w' hw'; obtain ⟨c0, c1, c2, c3⟩ := open0.out w' hw'; go_simp; try with_reducible rfl)
  try simp only [Act.put, List.setIfInBounds_toArray, List.set_cons_zero, List.set_cons_succ]
  refine wpQuiet_nil (fun w' hw' => ?_)
  refine wpList_nil ?_
  go_wp2
  go_ret
  exact ⟨rfl, hB'.out.trans (hw'.mono hB'.out.size)⟩
end Go.Proofs.Ytagjpldfafablaa
