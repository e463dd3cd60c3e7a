/-
  Surfaces: heights of mirror images, of wood between two surfaces.
-/
import Derived.Test.YtcclahemmfjmgaaHiS
import Derived.Lib.IfaceEq
namespace Go.Proofs.Ytcclahemmfjmgaa
open Go.ChangeShapes Go.WideShapes Go.ChangeAt Go.RowKit Go.Deep
set_option linter.unusedVariables false
set_option linter.unusedSimpArgs false
attribute [local go_sem] Oper.semAt_some
theorem calm_same {W w' : World} {f : FuncId} {args : Array Value} {v : Value} (hw' : Below W.heap.size W w') (h : Calls Try.prog f args w' fun e w2 => e = .returned v ∧ w' = w2) : Calls Try.prog f args w' fun e w2 => e = .returned v ∧ Below W.heap.size W w2 :=
  h.mono fun e w2 h2 => ⟨h2.1, h2.2 ▸ hw'⟩
theorem mirror_at (g o cap R C : Nat) (rg ro rc : Nat → Nat) (h : Nat → Nat → Int) (w : World) (x : GR w g o cap R C rg ro rc h) (i k : Nat) (hi : i < R) (hk : k < C) : Calls Try.prog 108 #[.agg #[.slice (some ⟨g, o, none⟩) R cap], encP (i, k)] w fun e w' => e = .returned (.int .i64 (h i (C - 1 - k))) ∧ Below w.heap.size w w' := by
  have hx := Lib.hid x
  have b2 := x.C10
  have b1 := x.R10
  have r1 := x.R1
  clear x
  unfold encP
  dsimp only
  obtain ⟨z, hz1⟩ : ∃ z, z = h i (C - 1 - k) := ⟨_, rfl⟩
  rw [← hz1]
  have hz1' := Lib.hid hz1
  clear hz1
  go_enter Try.func108, Try.ntmps108
  go_wp2_with fail
  have hB : Below w.heap.size w ((w.alloc (.cells #[.slice (some ⟨g, o, none⟩) R cap] 57)).alloc (.cells #[.int .i64 (i : Int), .int .i64 (k : Int)] 46)) := ((Below.refl _ _).alloc (Nat.le_refl _) _).alloc (by simp) _
  have e0 : ((w.alloc (.cells #[.slice (some ⟨g, o, none⟩) R cap] 57)).alloc (.cells #[.int .i64 (i : Int), .int .i64 (k : Int)] 46)).heap[w.heap.size]? = some (.cells #[.slice (some ⟨g, o, none⟩) R cap] 57 (0, 0)) := by
    rw [Below.heap_alloc _ _ _ (by simp)]; exact heap_alloc_new _ _
  have e1 : ((w.alloc (.cells #[.slice (some ⟨g, o, none⟩) R cap] 57)).alloc (.cells #[.int .i64 (i : Int), .int .i64 (k : Int)] 46)).heap[w.heap.size + 1]? = some (.cells #[.int .i64 (i : Int), .int .i64 (k : Int)] 46 (0, 0)) := by
    have := heap_alloc_new (w.alloc (.cells #[.slice (some ⟨g, o, none⟩) R cap] 57)) (.cells #[.int .i64 (i : Int), .int .i64 (k : Int)] 46)
    simpa using this
  have hsz : ((w.alloc (.cells #[.slice (some ⟨g, o, none⟩) R cap] 57)).alloc (.cells #[.int .i64 (i : Int), .int .i64 (k : Int)] 46)).heap.size = w.heap.size + 2 := by simp
  obtain ⟨N, hN⟩ : ∃ N, N = w.heap.size := ⟨_, rfl⟩
  have hz := Lib.hid (hx.out.below hB)
  have hB' := Lib.hid hB
  rw [← hN] at e0 e1 hsz
  rw [show w.heap.size = N from hN.symm]
  generalize (w.alloc (.cells #[.slice (some ⟨g, o, none⟩) R cap] 57)).alloc (.cells #[.int .i64 (i : Int), .int .i64 (k : Int)] 46) = W at e0 e1 hz hB' hsz ⊢
  have hi' := hi
  have cA0 := fun w' (hw' : Below W.heap.size W w') => at_any g o cap R C rg ro rc h w' (hz.out.below hw') i (C - 1 - k) hi (by omega)
  have cC0 := fun w' (hw' : Below W.heap.size W w') => columns_at g o R cap C (rc 0) (some ⟨rg 0, ro 0, none⟩) r1 (by omega) (by omega) w' (by simpa using (hz.out.below hw').top 0 (by omega))
  unfold encP at cA0
  dsimp only at cA0
  rw [show ((C - 1 - k : Nat) : Int) = (C : Int) - 1 - (k : Int) by omega] at cA0
  rw [← hz1'.out] at cA0
  have cA := Lib.hid cA0
  have cC := Lib.hid cC0
  have hN1 : N < W.heap.size := by omega
  have hN2 : N + 1 < W.heap.size := by omega
  have open0 : Hid (∀ w', Below W.heap.size W w' → w'.cell? ⟨N, 0, none⟩ = some (.slice (some ⟨g, o, none⟩) R cap) ∧ w'.cell? ⟨N + 1, 0, none⟩ = some (.int .i64 (i : Int)) ∧ w'.cell? ⟨N + 1, 1, none⟩ = some (.int .i64 (k : Int))) := Lib.hid (fun w' hw' => by
    have q0 := (hw'.block _ hN1).trans e0
    have q1 := (hw'.block _ hN2).trans e1
    exact ⟨cellB q0 0 _ rfl, cellB q1 0 _ rfl, cellB q1 1 _ rfl⟩)
  have hkI : (k : Int) < (C : Int) := by omega
  have hw1 : IntKind.i64.wrap ((C : Int) - 1) = (C : Int) - 1 := IntWalk.i64_in _ (by omega)
  have hw2 : IntKind.i64.wrap ((C : Int) - 1 - (k : Int)) = (C : Int) - 1 - (k : Int) := IntWalk.i64_in _ (by omega)
  clear cA0 cC0 hz1' e0 e1 hB hN hsz
  refine wp_calm 14 (fun w' => Below W.heap.size W w') (by kernel_rfl) (by kernel_rfl) (by kernel_rfl) (by kernel_rfl) (belowN (Below.refl _ _) 1) ?_
  simp only [List.take_succ_cons, List.take_zero, List.drop_succ_cons, List.drop_zero]
  refine calm_take (v := ?vy1) (by rfl) ?ey1 ?ry1
  case ey1 => (intro w' hw'; obtain ⟨c0, c1, c2⟩ := open0.out w' hw'; go_simp; try with_reducible rfl)
  try simp only [Act.put, List.setIfInBounds_toArray, List.set_cons_zero, List.set_cons_succ]
  refine calm_take (v := ?vy2) (by rfl) ?ey2 ?ry2
  case ey2 => (intro w' hw'; obtain ⟨c0, c1, c2⟩ := open0.out w' hw'; go_simp; try with_reducible rfl)
  try simp only [Act.put, List.setIfInBounds_toArray, List.set_cons_zero, List.set_cons_succ]
  refine calm_take (v := ?vy3) (by rfl) ?ey3 ?ry3
  case ey3 => (intro w' hw'; obtain ⟨c0, c1, c2⟩ := open0.out w' hw'; go_simp; try with_reducible rfl)
  try simp only [Act.put, List.setIfInBounds_toArray, List.set_cons_zero, List.set_cons_succ]
  refine calm_take (v := ?vy4) (by rfl) ?ey4 ?ry4
  case ey4 => (intro w' hw'; obtain ⟨c0, c1, c2⟩ := open0.out w' hw'; go_simp; try with_reducible rfl)
  try simp only [Act.put, List.setIfInBounds_toArray, List.set_cons_zero, List.set_cons_succ]
  refine calm_take (v := ?vy5) (by rfl) ?ey5 ?ry5
  case ey5 => (intro w' hw'; obtain ⟨c0, c1, c2⟩ := open0.out w' hw'; go_simp; try with_reducible rfl)
  try simp only [Act.put, List.setIfInBounds_toArray, List.set_cons_zero, List.set_cons_succ]
  refine calm_take (v := ?vy6) (by rfl) ?ey6 ?ry6
  case ey6 => (intro w' hw'; obtain ⟨c0, c1, c2⟩ := open0.out w' hw'; go_simp; try with_reducible rfl)
  try simp only [Act.put, List.setIfInBounds_toArray, List.set_cons_zero, List.set_cons_succ]
  refine calm_call (v := .int .i64 (C : Int)) (f := ?fy7) (args := ?ay7) (by rfl) ?ey7 ?cy7 ?ry7
  case ey7 => (intro w' hw'; obtain ⟨c0, c1, c2⟩ := open0.out w' hw'; go_simp; first | (with_reducible rfl) | (refine ⟨?_, ?_⟩ <;> with_reducible rfl))
  case cy7 => (intro w' hw'; with_reducible exact calm_same hw' (cC.out w' hw'))
  try simp only [Act.put, List.setIfInBounds_toArray, List.set_cons_zero, List.set_cons_succ]
  refine calm_take (v := ?vy8) (by rfl) ?ey8 ?ry8
  case ey8 => (intro w' hw'; obtain ⟨c0, c1, c2⟩ := open0.out w' hw'; go_simp; try with_reducible rfl)
  try simp only [Act.put, List.setIfInBounds_toArray, List.set_cons_zero, List.set_cons_succ]
  refine calm_take (v := ?vy9) (by rfl) ?ey9 ?ry9
  case ey9 => (intro w' hw'; obtain ⟨c0, c1, c2⟩ := open0.out w' hw'; go_simp; try with_reducible rfl)
  try simp only [Act.put, List.setIfInBounds_toArray, List.set_cons_zero, List.set_cons_succ]
  refine calm_take (v := ?vy10) (by rfl) ?ey10 ?ry10
  case ey10 => (intro w' hw'; obtain ⟨c0, c1, c2⟩ := open0.out w' hw'; go_simp; try with_reducible rfl)
  try simp only [Act.put, List.setIfInBounds_toArray, List.set_cons_zero, List.set_cons_succ]
  refine calm_take (v := ?vy11) (by rfl) ?ey11 ?ry11
  case ey11 => (intro w' hw'; obtain ⟨c0, c1, c2⟩ := open0.out w' hw'; go_simp; try with_reducible rfl)
  try simp only [Act.put, List.setIfInBounds_toArray, List.set_cons_zero, List.set_cons_succ]
  refine calm_take (v := ?vy12) (by rfl) ?ey12 ?ry12
  case ey12 => (intro w' hw'; obtain ⟨c0, c1, c2⟩ := open0.out w' hw'; go_simp; try with_reducible rfl)
  try simp only [Act.put, List.setIfInBounds_toArray, List.set_cons_zero, List.set_cons_succ]
  refine calm_call (v := .int .i64 z) (f := ?fy13) (args := ?ay13) (by rfl) ?ey13 ?cy13 ?ry13
  case ey13 => (intro w' hw'; obtain ⟨c0, c1, c2⟩ := open0.out w' hw'; go_simp; first | (with_reducible rfl) | (refine ⟨?_, ?_⟩ <;> with_reducible rfl))
  case cy13 => (intro w' hw'; with_reducible exact calm_ret hw' (cA.out w' hw'))
  try simp only [Act.put, List.setIfInBounds_toArray, List.set_cons_zero, List.set_cons_succ]
  refine calm_take (v := ?vy14) (by rfl) ?ey14 ?ry14
  case ey14 => (intro w' hw'; obtain ⟨c0, c1, c2⟩ := open0.out w' hw'; go_simp; try with_reducible rfl)
  try simp only [Act.put, List.setIfInBounds_toArray, List.set_cons_zero, List.set_cons_succ]
  refine wpQuiet_nil (fun w' hw' => ?_)
  refine wpList_nil ?_
  go_wp2
  go_ret
  exact ⟨rfl, hB'.out.trans (hw'.mono hB'.out.size)⟩
theorem flat_at (n : Int) (p q : Int) (w : World) : Calls Try.prog 118 #[.int .i64 n, .agg #[.int .i64 p, .int .i64 q]] w fun e w' => e = .returned (.int .i64 n) ∧ Below w.heap.size w w' := by
  go_enter Try.func118, Try.ntmps118
  go_wp2
  go_ret
  exact ⟨rfl, (Below.refl _ _).alloc (Nat.le_refl _) _⟩
end Go.Proofs.Ytcclahemmfjmgaa
