/-
  Places at the edge, by the steps to it.
-/
import Derived.Test.YtagjpldfafablaaSurf
namespace Go.Proofs.Ytagjpldfafablaa
open Go.ChangeShapes Go.WideShapes Go.ChangeAt Go.RowKit Go.Deep
set_option linter.unusedVariables false
set_option linter.unusedSimpArgs false
attribute [local go_sem] Oper.semAt_some
set_option maxRecDepth 1000000
set_option linter.unusedVariables false
set_option linter.unusedSimpArgs false
attribute [local go_sem] Oper.semAt_some
set_option maxRecDepth 1000000
/-- how far a place is from the edge -/
def dpV (R C i k : Nat) : Int := minG (minG (i : Int) ((R : Int) - 1 - i)) (minG (k : Int) ((C : Int) - 1 - k))
theorem run_min_int4 {P : Program} {w : World} (ts : Array TypeId) (t : TypeId) (k k' k'' k3 : IntKind) (x y z u : Int) : (Builtin.min_ ts t #[.int k x, .int k' y, .int k'' z, .int k3 u]).run P w = .ok (.int k (minG (minG (minG x y) z) u)) w := by
  have e : ∀ a b : Int, (if b < a then b else a) = minG a b := fun a b => by unfold minG; omega
  simp [Builtin.min_, Builtin.min2, e]
attribute [local go_sem] run_min_int4
attribute [local go_sem] run_min_int4
theorem min_fold (a b c d : Int) : minG (minG (minG a b) c) d = minG (minG a b) (minG c d) := by unfold minG; omega
set_option maxHeartbeats 3200000 in
theorem edgeSteps_any (g o cap R C : Nat) (rg ro rc : Nat → Nat) (h : Nat → Nat → Int) (w : World) (x : GR w g o cap R C rg ro rc h) (i k : Nat) (hi : i < R) (hk : k < C) : Calls Try.prog 82 #[.slice (some ⟨g, o, none⟩) R cap, encP (i, k)] w fun e w' => e = .returned (.int .i64 (dpV R C i k)) ∧ Below w.heap.size w w' := by
  have c0 := x.top 0 (by omega)
  have b1 := x.R10
  have b2 := x.C10
  have r1 := x.R1
  have l1 := x.gl
  rw [Nat.add_zero] at c0
  clear x
  have hw1 : IntKind.i64.wrap ((R : Int) - 1) = (R : Int) - 1 := IntWalk.i64_in _ (by omega)
  have hw2 : IntKind.i64.wrap ((R : Int) - 1 - i) = (R : Int) - 1 - i := IntWalk.i64_in _ (by omega)
  have hw3 : IntKind.i64.wrap ((C : Int) - 1) = (C : Int) - 1 := IntWalk.i64_in _ (by omega)
  have hw4 : IntKind.i64.wrap ((C : Int) - 1 - k) = (C : Int) - 1 - k := IntWalk.i64_in _ (by omega)
  have hr : Hid (minG (minG (i : Int) ((R : Int) - 1 - i)) (minG (k : Int) ((C : Int) - 1 - k)) = dpV R C i k) := Lib.hid rfl
  unfold encP
  dsimp only
  go_enter Try.func82, Try.ntmps82
  go_wp2_with fail
  have k0 := cellB (heap_alloc_new w (.cells #[.int .i64 (i : Int), .int .i64 (k : Int)] 49)) 0 _ rfl
  have k1 := cellB (heap_alloc_new w (.cells #[.int .i64 (i : Int), .int .i64 (k : Int)] 49)) 1 _ rfl
  have ks : w.heap.size < (w.alloc (.cells #[.int .i64 (i : Int), .int .i64 (k : Int)] 49)).heap.size := by simp
  have hB : Below w.heap.size w (w.alloc (.cells #[.int .i64 (i : Int), .int .i64 (k : Int)] 49)) := (Below.refl _ _).alloc (Nat.le_refl _) _
  replace c0 := (hB.cell (p := ⟨g, o, none⟩) l1).trans c0
  have l2 := Nat.lt_of_lt_of_le l1 hB.size
  have hB' := Lib.hid hB
  generalize w.alloc (.cells #[.int .i64 (i : Int), .int .i64 (k : Int)] 49) = W0 at k0 k1 ks c0 l2 hB' ⊢
  have open0 : Hid (∀ w', Below W0.heap.size W0 w' → w'.cell? ⟨w.heap.size, 0, none⟩ = some (.int .i64 (i : Int)) ∧ w'.cell? ⟨w.heap.size, 1, none⟩ = some (.int .i64 (k : Int)) ∧ w'.cell? ⟨g, o, none⟩ = some (.slice (some ⟨rg 0, ro 0, none⟩) C (rc 0))) := Lib.hid (fun w' hw' => ⟨(hw'.cell (p := ⟨w.heap.size, 0, none⟩) ks).trans k0, (hw'.cell (p := ⟨w.heap.size, 1, none⟩) ks).trans k1, (hw'.cell (p := ⟨g, o, none⟩) l2).trans c0⟩)
  clear hB l1 c0 k0 k1
  refine wp_calm 16 (fun w' => Below W0.heap.size W0 w') (by kernel_rfl) (by kernel_rfl) (by kernel_rfl) (by kernel_rfl) (belowN (Below.refl _ _) 1) ?_
  simp only [List.take_succ_cons, List.take_zero, List.drop_succ_cons, List.drop_zero]
  refine calm_take (v := ?vy27) (by rfl) ?ey27 ?ry27
  case ey27 => (intro w' hw'; obtain ⟨d0, d1, d2⟩ := open0.out w' hw'; go_simp; try with_reducible rfl)
  try simp only [Act.put, List.setIfInBounds_toArray, List.set_cons_zero, List.set_cons_succ]
  refine calm_take (v := ?vy28) (by rfl) ?ey28 ?ry28
  case ey28 => (intro w' hw'; obtain ⟨d0, d1, d2⟩ := open0.out w' hw'; go_simp; try with_reducible rfl)
  try simp only [Act.put, List.setIfInBounds_toArray, List.set_cons_zero, List.set_cons_succ]
  refine calm_take (v := ?vy29) (by rfl) ?ey29 ?ry29
  case ey29 => (intro w' hw'; obtain ⟨d0, d1, d2⟩ := open0.out w' hw'; go_simp; try with_reducible rfl)
  try simp only [Act.put, List.setIfInBounds_toArray, List.set_cons_zero, List.set_cons_succ]
  refine calm_take (v := ?vy30) (by rfl) ?ey30 ?ry30
  case ey30 => (intro w' hw'; obtain ⟨d0, d1, d2⟩ := open0.out w' hw'; go_simp; try with_reducible rfl)
  try simp only [Act.put, List.setIfInBounds_toArray, List.set_cons_zero, List.set_cons_succ]
  refine calm_take (v := ?vy31) (by rfl) ?ey31 ?ry31
  case ey31 => (intro w' hw'; obtain ⟨d0, d1, d2⟩ := open0.out w' hw'; go_simp; try with_reducible rfl)
  try simp only [Act.put, List.setIfInBounds_toArray, List.set_cons_zero, List.set_cons_succ]
  refine calm_take (v := ?vy32) (by rfl) ?ey32 ?ry32
  case ey32 => (intro w' hw'; obtain ⟨d0, d1, d2⟩ := open0.out w' hw'; go_simp; try with_reducible rfl)
  try simp only [Act.put, List.setIfInBounds_toArray, List.set_cons_zero, List.set_cons_succ]
  refine calm_take (v := ?vy33) (by rfl) ?ey33 ?ry33
  case ey33 => (intro w' hw'; obtain ⟨d0, d1, d2⟩ := open0.out w' hw'; go_simp; try with_reducible rfl)
  try simp only [Act.put, List.setIfInBounds_toArray, List.set_cons_zero, List.set_cons_succ]
  refine calm_take (v := ?vy34) (by rfl) ?ey34 ?ry34
  case ey34 => (intro w' hw'; obtain ⟨d0, d1, d2⟩ := open0.out w' hw'; go_simp; try with_reducible rfl)
  try simp only [Act.put, List.setIfInBounds_toArray, List.set_cons_zero, List.set_cons_succ]
  refine calm_take (v := ?vy35) (by rfl) ?ey35 ?ry35
  case ey35 => (intro w' hw'; obtain ⟨d0, d1, d2⟩ := open0.out w' hw'; go_simp; try with_reducible rfl)
  try simp only [Act.put, List.setIfInBounds_toArray, List.set_cons_zero, List.set_cons_succ]
  refine calm_take (v := ?vy36) (by rfl) ?ey36 ?ry36
  case ey36 => (intro w' hw'; obtain ⟨d0, d1, d2⟩ := open0.out w' hw'; go_simp; try with_reducible rfl)
  try simp only [Act.put, List.setIfInBounds_toArray, List.set_cons_zero, List.set_cons_succ]
  refine calm_take (v := ?vy37) (by rfl) ?ey37 ?ry37
  case ey37 => (intro w' hw'; obtain ⟨d0, d1, d2⟩ := open0.out w' hw'; go_simp; try with_reducible rfl)
  try simp only [Act.put, List.setIfInBounds_toArray, List.set_cons_zero, List.set_cons_succ]
  refine calm_call (v := .int .i64 (C : Int)) (f := ?fy38) (args := ?ay38) (by rfl) ?ey38 ?cy38 ?ry38
  case ey38 => (intro w' hw'; obtain ⟨d0, d1, d2⟩ := open0.out w' hw'; go_simp; first | (with_reducible rfl) | (refine ⟨?_, ?_⟩ <;> with_reducible rfl))
  case cy38 => (intro w' hw'; with_reducible exact calm_same hw' (columns_at g o R cap C (rc 0) (some ⟨rg 0, ro 0, none⟩) r1 (by omega) (by omega) w' ((open0.out w' hw').2.2)))
  try simp only [Act.put, List.setIfInBounds_toArray, List.set_cons_zero, List.set_cons_succ]
  refine calm_take (v := ?vy39) (by rfl) ?ey39 ?ry39
  case ey39 => (intro w' hw'; obtain ⟨d0, d1, d2⟩ := open0.out w' hw'; go_simp; try with_reducible rfl)
  try simp only [Act.put, List.setIfInBounds_toArray, List.set_cons_zero, List.set_cons_succ]
  refine calm_take (v := ?vy40) (by rfl) ?ey40 ?ry40
  case ey40 => (intro w' hw'; obtain ⟨d0, d1, d2⟩ := open0.out w' hw'; go_simp; try with_reducible rfl)
  try simp only [Act.put, List.setIfInBounds_toArray, List.set_cons_zero, List.set_cons_succ]
  refine calm_take (v := ?vy41) (by rfl) ?ey41 ?ry41
  case ey41 => (intro w' hw'; obtain ⟨d0, d1, d2⟩ := open0.out w' hw'; go_simp; try with_reducible rfl)
  try simp only [Act.put, List.setIfInBounds_toArray, List.set_cons_zero, List.set_cons_succ]
  refine calm_take (v := ?vy42) (by rfl) ?ey42 ?ry42
  case ey42 => (intro w' hw'; obtain ⟨d0, d1, d2⟩ := open0.out w' hw'; go_simp; try with_reducible rfl)
  try simp only [Act.put, List.setIfInBounds_toArray, List.set_cons_zero, List.set_cons_succ]
  refine wpQuiet_nil (fun w' hw' => ?_)
  have hm : Hid (minG (minG (minG (i : Int) ((R : Int) - 1 - i)) (k : Int)) ((C : Int) - 1 - k) = dpV R C i k) := Lib.hid ((min_fold _ _ _ _).trans hr.out)
  clear hr open0
  go_wp2
  go_ret
  exact ⟨ret_int hm.out, below2 hB'.out hw'⟩
set_option linter.unusedVariables false
set_option linter.unusedSimpArgs false
attribute [local go_sem] Oper.semAt_some
def edgeB (R C i k : Nat) : Bool := decide (i = 0 ∨ i = R - 1 ∨ k = 0 ∨ k = C - 1)
theorem isEdge_any (g o cap R C : Nat) (rg ro rc : Nat → Nat) (h : Nat → Nat → Int) (w : World) (x : GR w g o cap R C rg ro rc h) (i k : Nat) (hi : i < R) (hk : k < C) : Calls Try.prog 58 #[.slice (some ⟨g, o, none⟩) R cap, encP (i, k)] w fun e w' => e = .returned (.bool (edgeB R C i k)) ∧ Below w.heap.size w w' := by
  have hB : Below w.heap.size w (w.alloc (.cells #[.int .i64 (i : Int), .int .i64 (k : Int)] 49)) := (Below.refl _ _).alloc (Nat.le_refl _) _
  have cE := Lib.hid (edgeSteps_any g o cap R C rg ro rc h _ (x.below hB) i k hi hk)
  have hB' := Lib.hid hB
  have hr : Hid (edgeB R C i k = (dpV R C i k == 0)) := Lib.hid (by
    rw [Bool.eq_iff_iff]
    unfold edgeB
    simp only [beq_iff_eq, decide_eq_true_eq]
    unfold dpV minG
    omega)
  clear x hB
  unfold encP at cE ⊢
  dsimp only at cE ⊢
  go_enter Try.func58, Try.ntmps58
  go_wp2_with (go_at_call 82; (with_reducible refine cE.out.mono ?_); rintro e w' ⟨rfl, b1⟩)
  go_ret
  exact ⟨ret_bool (by rw [hr.out]), below2 hB'.out b1⟩
theorem l07Edge_any (g o cap R C : Nat) (rg ro rc : Nat → Nat) (h : Nat → Nat → Int) (w : World) (x : GR w g o cap R C rg ro rc h) (i k : Nat) (hi : i < R) (hk : k < C) : Calls Try.prog 80 #[.slice (some ⟨g, o, none⟩) R cap, .int .i64 (i : Int), .int .i64 (k : Int)] w fun e w' => e = .returned (.bool (edgeB R C i k)) ∧ DrewOf w w' := by
  have c0 := x.top 0 (by omega)
  have c1 := x.top i hi
  have b1 := x.R10
  have b2 := x.C10
  have r1 := x.R1
  have r2 := x.C1
  have l1 := x.gl
  rw [Nat.add_zero] at c0
  clear x
  have hE : Hid (edgeB R C i k = decide (i = 0 ∨ i = R - 1 ∨ k = 0 ∨ k = C - 1)) := Lib.hid rfl
  have hw1 : IntKind.i64.wrap ((C : Int) - 1) = (C : Int) - 1 := IntWalk.i64_in _ (by omega)
  have hw2 : IntKind.i64.wrap ((R : Int) - 1) = (R : Int) - 1 := IntWalk.i64_in _ (by omega)
  by_cases hq1 : i = 0
  · have q1 : ((((i : Int)) : Int) == 0) = true := by simpa using (show ((i : Int) : Int) = 0 by omega)
    have hr : Hid (edgeB R C i k = true) := Lib.hid (by rw [hE.out]; simp [hq1])
    clear hq1
    go_enter Try.func80, Try.ntmps80
    go_wp2
    go_ret
    exact ⟨ret_bool hr.out.symm, DrewOf.refl _⟩
  have q1 : ((((i : Int)) : Int) == 0) = false := by simpa using (show ¬ ((i : Int) : Int) = 0 by omega)
  by_cases hq3 : k = 0
  · have q3 : ((((k : Int)) : Int) == 0) = true := by simpa using (show ((k : Int) : Int) = 0 by omega)
    have hr : Hid (edgeB R C i k = true) := Lib.hid (by rw [hE.out]; simp [hq3])
    clear hq3
    go_enter Try.func80, Try.ntmps80
    go_wp2
    go_ret
    exact ⟨ret_bool hr.out.symm, DrewOf.refl _⟩
  have q3 : ((((k : Int)) : Int) == 0) = false := by simpa using (show ¬ ((k : Int) : Int) = 0 by omega)
  by_cases hq2 : i = R - 1
  · have q2 : ((((i : Int)) : Int) == ((R : Int) - 1)) = true := by simpa using (show ((i : Int) : Int) = ((R : Int) - 1) by omega)
    have hr : Hid (edgeB R C i k = true) := Lib.hid (by rw [hE.out]; simp [hq2])
    clear hq2
    go_enter Try.func80, Try.ntmps80
    go_wp2
    go_ret
    exact ⟨ret_bool hr.out.symm, DrewOf.refl _⟩
  have q2 : ((((i : Int)) : Int) == ((R : Int) - 1)) = false := by simpa using (show ¬ ((i : Int) : Int) = ((R : Int) - 1) by omega)
  by_cases hq4 : k = C - 1
  · have q4 : ((((k : Int)) : Int) == ((C : Int) - 1)) = true := by simpa using (show ((k : Int) : Int) = ((C : Int) - 1) by omega)
    have hr : Hid (edgeB R C i k = true) := Lib.hid (by rw [hE.out]; simp [hq4])
    clear hq4
    go_enter Try.func80, Try.ntmps80
    go_wp2
    go_ret
    exact ⟨ret_bool hr.out.symm, DrewOf.refl _⟩
  have q4 : ((((k : Int)) : Int) == ((C : Int) - 1)) = false := by simpa using (show ¬ ((k : Int) : Int) = ((C : Int) - 1) by omega)
  have hr : Hid (edgeB R C i k = false) := Lib.hid (by rw [hE.out]; simp [hq1, hq3, hq2, hq4])
  clear hq1 hq3 hq2 hq4
  go_enter Try.func80, Try.ntmps80
  go_wp2
  go_ret
  exact ⟨ret_bool hr.out.symm, DrewOf.refl _⟩
end Go.Proofs.Ytagjpldfafablaa
