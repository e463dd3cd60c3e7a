/-
  Places at the edge.
-/
import Derived.Test.YtcfmchkomboliaaSurf
namespace Go.Proofs.Ytcfmchkomboliaa
open Go.ChangeShapes Go.WideShapes Go.ChangeAt Go.RowKit Go.Deep
set_option linter.unusedVariables false
set_option linter.unusedSimpArgs false
attribute [local go_sem] Oper.semAt_some
def edgeB (R C i k : Nat) : Bool := decide (i = 0 ∨ i = R - 1 ∨ k = 0 ∨ k = C - 1)
theorem isEdge_any (g o cap R C : Nat) (rg ro rc : Nat → Nat) (h : Nat → Nat → Int) (w : World) (x : GR w g o cap R C rg ro rc h) (i k : Nat) (hi : i < R) (hk : k < C) : Calls Try.prog 55 #[.slice (some ⟨g, o, none⟩) R cap, encP (i, k)] w fun e w' => e = .returned (.bool (edgeB R C i k)) ∧ Below w.heap.size w w' := by
  have c0 := x.top 0 (by omega)
  have c1 := x.top i hi
  have b1 := x.R10
  have b2 := x.C10
  have r1 := x.R1
  have r2 := x.C1
  have l1 := x.gl
  rw [Nat.add_zero] at c0
  clear x
  have hE : Hid (edgeB R C i k = decide (i = 0 ∨ i = R - 1 ∨ k = 0 ∨ k = C - 1)) := Lib.hid rfl
  have hw1 : IntKind.i64.wrap ((C : Int) - 1) = (C : Int) - 1 := IntWalk.i64_in _ (by omega)
  have hw2 : IntKind.i64.wrap ((R : Int) - 1) = (R : Int) - 1 := IntWalk.i64_in _ (by omega)
  unfold encP
  dsimp only
  by_cases hq1 : i = 0
  · have q1 : ((((i : Int)) : Int) == 0) = true := by simpa using (show ((i : Int) : Int) = 0 by omega)
    have hr : Hid (edgeB R C i k = true) := Lib.hid (by rw [hE.out]; simp [hq1])
    clear hq1
    go_enter Try.func55, Try.ntmps55
    go_wp2_with fail
    have k0 := cellB (heap_alloc_new w (.cells #[.int .i64 (i : Int), .int .i64 (k : Int)] 46)) 0 _ rfl
    have k1 := cellB (heap_alloc_new w (.cells #[.int .i64 (i : Int), .int .i64 (k : Int)] 46)) 1 _ rfl
    have hB : Below w.heap.size w (w.alloc (.cells #[.int .i64 (i : Int), .int .i64 (k : Int)] 46)) := (Below.refl _ _).alloc (Nat.le_refl _) _
    replace c0 := (hB.cell (p := ⟨g, o, none⟩) l1).trans c0
    have hB' := Lib.hid hB
    generalize w.alloc (.cells #[.int .i64 (i : Int), .int .i64 (k : Int)] 46) = W0 at k0 k1 c0 hB' ⊢
    have cC := Lib.hid (fun n => columns_at g o R cap C (rc 0) (some ⟨rg 0, ro 0, none⟩) r1 (by omega) (by omega) (W0.drewN n) c0)
    clear hB l1 c0 c1
    go_quiet ((go_at_call 73; exact Qs (cC.out _)))
    go_wp2
    go_ret
    exact ⟨ret_bool hr.out.symm, belowN hB'.out _⟩
  have q1 : ((((i : Int)) : Int) == 0) = false := by simpa using (show ¬ ((i : Int) : Int) = 0 by omega)
  by_cases hq2 : i = R - 1
  · have q2 : ((((i : Int)) : Int) == ((R : Int) - 1)) = true := by simpa using (show ((i : Int) : Int) = ((R : Int) - 1) by omega)
    have hr : Hid (edgeB R C i k = true) := Lib.hid (by rw [hE.out]; simp [hq2])
    clear hq2
    go_enter Try.func55, Try.ntmps55
    go_wp2_with fail
    have k0 := cellB (heap_alloc_new w (.cells #[.int .i64 (i : Int), .int .i64 (k : Int)] 46)) 0 _ rfl
    have k1 := cellB (heap_alloc_new w (.cells #[.int .i64 (i : Int), .int .i64 (k : Int)] 46)) 1 _ rfl
    have hB : Below w.heap.size w (w.alloc (.cells #[.int .i64 (i : Int), .int .i64 (k : Int)] 46)) := (Below.refl _ _).alloc (Nat.le_refl _) _
    replace c0 := (hB.cell (p := ⟨g, o, none⟩) l1).trans c0
    have hB' := Lib.hid hB
    generalize w.alloc (.cells #[.int .i64 (i : Int), .int .i64 (k : Int)] 46) = W0 at k0 k1 c0 hB' ⊢
    have cC := Lib.hid (fun n => columns_at g o R cap C (rc 0) (some ⟨rg 0, ro 0, none⟩) r1 (by omega) (by omega) (W0.drewN n) c0)
    clear hB l1 c0 c1
    go_quiet ((go_at_call 73; exact Qs (cC.out _)))
    go_wp2
    go_ret
    exact ⟨ret_bool hr.out.symm, belowN hB'.out _⟩
  have q2 : ((((i : Int)) : Int) == ((R : Int) - 1)) = false := by simpa using (show ¬ ((i : Int) : Int) = ((R : Int) - 1) by omega)
  by_cases hq3 : k = 0
  · have q3 : ((((k : Int)) : Int) == 0) = true := by simpa using (show ((k : Int) : Int) = 0 by omega)
    have hr : Hid (edgeB R C i k = true) := Lib.hid (by rw [hE.out]; simp [hq3])
    clear hq3
    go_enter Try.func55, Try.ntmps55
    go_wp2_with fail
    have k0 := cellB (heap_alloc_new w (.cells #[.int .i64 (i : Int), .int .i64 (k : Int)] 46)) 0 _ rfl
    have k1 := cellB (heap_alloc_new w (.cells #[.int .i64 (i : Int), .int .i64 (k : Int)] 46)) 1 _ rfl
    have hB : Below w.heap.size w (w.alloc (.cells #[.int .i64 (i : Int), .int .i64 (k : Int)] 46)) := (Below.refl _ _).alloc (Nat.le_refl _) _
    replace c0 := (hB.cell (p := ⟨g, o, none⟩) l1).trans c0
    have hB' := Lib.hid hB
    generalize w.alloc (.cells #[.int .i64 (i : Int), .int .i64 (k : Int)] 46) = W0 at k0 k1 c0 hB' ⊢
    have cC := Lib.hid (fun n => columns_at g o R cap C (rc 0) (some ⟨rg 0, ro 0, none⟩) r1 (by omega) (by omega) (W0.drewN n) c0)
    clear hB l1 c0 c1
    go_quiet ((go_at_call 73; exact Qs (cC.out _)))
    go_wp2
    go_ret
    exact ⟨ret_bool hr.out.symm, belowN hB'.out _⟩
  have q3 : ((((k : Int)) : Int) == 0) = false := by simpa using (show ¬ ((k : Int) : Int) = 0 by omega)
  by_cases hq4 : k = C - 1
  · have q4 : ((((k : Int)) : Int) == ((C : Int) - 1)) = true := by simpa using (show ((k : Int) : Int) = ((C : Int) - 1) by omega)
    have hr : Hid (edgeB R C i k = true) := Lib.hid (by rw [hE.out]; simp [hq4])
    clear hq4
    go_enter Try.func55, Try.ntmps55
    go_wp2_with fail
    have k0 := cellB (heap_alloc_new w (.cells #[.int .i64 (i : Int), .int .i64 (k : Int)] 46)) 0 _ rfl
    have k1 := cellB (heap_alloc_new w (.cells #[.int .i64 (i : Int), .int .i64 (k : Int)] 46)) 1 _ rfl
    have hB : Below w.heap.size w (w.alloc (.cells #[.int .i64 (i : Int), .int .i64 (k : Int)] 46)) := (Below.refl _ _).alloc (Nat.le_refl _) _
    replace c0 := (hB.cell (p := ⟨g, o, none⟩) l1).trans c0
    have hB' := Lib.hid hB
    generalize w.alloc (.cells #[.int .i64 (i : Int), .int .i64 (k : Int)] 46) = W0 at k0 k1 c0 hB' ⊢
    have cC := Lib.hid (fun n => columns_at g o R cap C (rc 0) (some ⟨rg 0, ro 0, none⟩) r1 (by omega) (by omega) (W0.drewN n) c0)
    clear hB l1 c0 c1
    go_quiet ((go_at_call 73; exact Qs (cC.out _)))
    go_wp2
    go_ret
    exact ⟨ret_bool hr.out.symm, belowN hB'.out _⟩
  have q4 : ((((k : Int)) : Int) == ((C : Int) - 1)) = false := by simpa using (show ¬ ((k : Int) : Int) = ((C : Int) - 1) by omega)
  have hr : Hid (edgeB R C i k = false) := Lib.hid (by rw [hE.out]; simp [hq1, hq2, hq3, hq4])
  clear hq1 hq2 hq3 hq4
  go_enter Try.func55, Try.ntmps55
  go_wp2_with fail
  have k0 := cellB (heap_alloc_new w (.cells #[.int .i64 (i : Int), .int .i64 (k : Int)] 46)) 0 _ rfl
  have k1 := cellB (heap_alloc_new w (.cells #[.int .i64 (i : Int), .int .i64 (k : Int)] 46)) 1 _ rfl
  have hB : Below w.heap.size w (w.alloc (.cells #[.int .i64 (i : Int), .int .i64 (k : Int)] 46)) := (Below.refl _ _).alloc (Nat.le_refl _) _
  replace c0 := (hB.cell (p := ⟨g, o, none⟩) l1).trans c0
  have hB' := Lib.hid hB
  generalize w.alloc (.cells #[.int .i64 (i : Int), .int .i64 (k : Int)] 46) = W0 at k0 k1 c0 hB' ⊢
  have cC := Lib.hid (fun n => columns_at g o R cap C (rc 0) (some ⟨rg 0, ro 0, none⟩) r1 (by omega) (by omega) (W0.drewN n) c0)
  clear hB l1 c0 c1
  go_quiet ((go_at_call 73; exact Qs (cC.out _)))
  go_wp2
  go_ret
  exact ⟨ret_bool hr.out.symm, belowN hB'.out _⟩
theorem l07Edge_any (g o cap R C : Nat) (rg ro rc : Nat → Nat) (h : Nat → Nat → Int) (w : World) (x : GR w g o cap R C rg ro rc h) (i k : Nat) (hi : i < R) (hk : k < C) : Calls Try.prog 53 #[.slice (some ⟨g, o, none⟩) R cap, .int .i64 (i : Int), .int .i64 (k : Int)] w fun e w' => e = .returned (.bool (edgeB R C i k)) ∧ DrewOf w w' := by
  have c0 := x.top 0 (by omega)
  have c1 := x.top i hi
  have b1 := x.R10
  have b2 := x.C10
  have r1 := x.R1
  have r2 := x.C1
  have l1 := x.gl
  rw [Nat.add_zero] at c0
  clear x
  have hE : Hid (edgeB R C i k = decide (i = 0 ∨ i = R - 1 ∨ k = 0 ∨ k = C - 1)) := Lib.hid rfl
  have hw1 : IntKind.i64.wrap ((C : Int) - 1) = (C : Int) - 1 := IntWalk.i64_in _ (by omega)
  have hw2 : IntKind.i64.wrap ((R : Int) - 1) = (R : Int) - 1 := IntWalk.i64_in _ (by omega)
  by_cases hq1 : i = 0
  · have q1 : ((((i : Int)) : Int) == 0) = true := by simpa using (show ((i : Int) : Int) = 0 by omega)
    have hr : Hid (edgeB R C i k = true) := Lib.hid (by rw [hE.out]; simp [hq1])
    clear hq1
    go_enter Try.func53, Try.ntmps53
    go_wp2
    go_ret
    exact ⟨ret_bool hr.out.symm, DrewOf.refl _⟩
  have q1 : ((((i : Int)) : Int) == 0) = false := by simpa using (show ¬ ((i : Int) : Int) = 0 by omega)
  by_cases hq3 : k = 0
  · have q3 : ((((k : Int)) : Int) == 0) = true := by simpa using (show ((k : Int) : Int) = 0 by omega)
    have hr : Hid (edgeB R C i k = true) := Lib.hid (by rw [hE.out]; simp [hq3])
    clear hq3
    go_enter Try.func53, Try.ntmps53
    go_wp2
    go_ret
    exact ⟨ret_bool hr.out.symm, DrewOf.refl _⟩
  have q3 : ((((k : Int)) : Int) == 0) = false := by simpa using (show ¬ ((k : Int) : Int) = 0 by omega)
  by_cases hq2 : i = R - 1
  · have q2 : ((((i : Int)) : Int) == ((R : Int) - 1)) = true := by simpa using (show ((i : Int) : Int) = ((R : Int) - 1) by omega)
    have hr : Hid (edgeB R C i k = true) := Lib.hid (by rw [hE.out]; simp [hq2])
    clear hq2
    go_enter Try.func53, Try.ntmps53
    go_wp2
    go_ret
    exact ⟨ret_bool hr.out.symm, DrewOf.refl _⟩
  have q2 : ((((i : Int)) : Int) == ((R : Int) - 1)) = false := by simpa using (show ¬ ((i : Int) : Int) = ((R : Int) - 1) by omega)
  by_cases hq4 : k = C - 1
  · have q4 : ((((k : Int)) : Int) == ((C : Int) - 1)) = true := by simpa using (show ((k : Int) : Int) = ((C : Int) - 1) by omega)
    have hr : Hid (edgeB R C i k = true) := Lib.hid (by rw [hE.out]; simp [hq4])
    clear hq4
    go_enter Try.func53, Try.ntmps53
    go_wp2
    go_ret
    exact ⟨ret_bool hr.out.symm, DrewOf.refl _⟩
  have q4 : ((((k : Int)) : Int) == ((C : Int) - 1)) = false := by simpa using (show ¬ ((k : Int) : Int) = ((C : Int) - 1) by omega)
  have hr : Hid (edgeB R C i k = false) := Lib.hid (by rw [hE.out]; simp [hq1, hq3, hq2, hq4])
  clear hq1 hq3 hq2 hq4
  go_enter Try.func53, Try.ntmps53
  go_wp2
  go_ret
  exact ⟨ret_bool hr.out.symm, DrewOf.refl _⟩
end Go.Proofs.Ytcfmchkomboliaa
