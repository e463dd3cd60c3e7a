/-
  Texts of Cord: the program's and the model's contracts.
-/
import Derived.Test.YtnenccfmopjcjaaGreatDoorCrdIn
import Derived.Test.YtnenccfmopjcjaaGreatDoorCrdT
import Derived.Test.YtnenccfmopjcjaaGreatDoorReg
import Derived.Test.YtnenccfmopjcjaaGreatDoorListI
import Derived.Test.YtnenccfmopjcjaaGreatDoorReadListI
import Derived.Deep.RegionHeld3
namespace Go.Proofs.YtnenccfmopjcjaaGreatDoor
open Go.ChangeShapes Go.WideShapes Go.ChangeAt Go.RowKit Go.Deep
set_option linter.unusedVariables false
set_option linter.unusedSimpArgs false
set_option maxRecDepth 1000000
theorem fresh_n (w : World) (o : Obj) : Below w.heap.size w (w.alloc o) := (Below.refl _ _).alloc (Nat.le_refl _) _
theorem own_shapeN {w : World} {B e size n : Nat} {v : Value} {xs : List Value} (h : w.ownsRow B e size v n xs) : ∃ a cap, v = .slice a n cap := by
  rcases h.2 with ⟨rfl, rfl⟩ | ⟨g, cap, _, rfl, _⟩
  · exact ⟨none, 0, rfl⟩
  · exact ⟨_, cap, rfl⟩
/-- the text of a Cord -/
def crdT (x : Crd) : List UInt8 := if crdB x = true then textZ [x.pit, x.len, x.gau, x.str] else []
theorem crd_ints (a b c d : Int) (w : World) (h : ∀ n ∈ [a, b, c, d], inI n) : IntsAt (w.alloc (.cells #[.int .i64 a, .int .i64 b, .int .i64 c, .int .i64 d] 2)) (.slice (some ⟨w.heap.size, 0, none⟩) 4 4) [a, b, c, d] :=
  ⟨some ⟨w.heap.size, 0, none⟩, 4, rfl, Nat.le_refl _, h, Or.inr ⟨w.heap.size, 0, rfl, by simp, fun i hi => by
    match i, hi with
    | 0, _ => exact cellB (heap_alloc_new w _) 0 _ rfl
    | 1, _ => exact cellB (heap_alloc_new w _) 1 _ rfl
    | 2, _ => exact cellB (heap_alloc_new w _) 2 _ rfl
    | 3, _ => exact cellB (heap_alloc_new w _) 3 _ rfl
⟩⟩
theorem crd_inI {a b c d : Int} (h : crdB ⟨a, b, c, d⟩ = true) : (∀ n ∈ [a, b, c, d], inI n) ∧ fitsZ [a, b, c, d] = true := by
  have hb := crd_bd h
  have key : ∀ n ∈ [a, b, c, d], -1000000000000 ≤ n ∧ n ≤ 1000000000000 := by
    intro n hn
    simp only [List.mem_cons, List.not_mem_nil, or_false] at hn
    rcases hn with rfl | rfl | rfl | rfl <;> omega
  refine ⟨fun n hn => by have := key n hn; unfold inI; omega, ?_⟩
  unfold fitsZ
  rw [Bool.and_eq_true]
  refine ⟨List.all_eq_true.2 fun n hn => ?_, by simp⟩
  unfold inV
  exact inB_iff.2 (key n hn)
set_option maxHeartbeats 1600000 in
theorem implStringText_any (a : Int) (b : Int) (c : Int) (d : Int) (w : World) (hT : TabP w) : Calls Tryz.prog 8 #[.agg #[.int .i64 a, .int .i64 b, .int .i64 c, .int .i64 d]] w fun e w' => e = .returned (.string ⟨(crdT ⟨a, b, c, d⟩).toArray⟩) ∧ Below w.heap.size w w' := by
  have hT' := Lib.hid hT
  clear hT
  have cV := Lib.hid (fun W => implValidString_any a b c d W)
  cases h : crdB ⟨a, b, c, d⟩ <;> rw [h] at cV
  · have hr : Hid (Ending.returned (.string ⟨#[]⟩) = .returned (.string ⟨(crdT ⟨a, b, c, d⟩).toArray⟩)) := Lib.hid (by unfold crdT; rw [h]; rfl)
    clear h
    go_enter Tryz.func8, Tryz.ntmps8
    go_wp2_with fail
    obtain ⟨q1, hB0, hsz⟩ := one_box w #[.int .i64 a, .int .i64 b, .int .i64 c, .int .i64 d] 25
    generalize (w.alloc (.cells #[.int .i64 a, .int .i64 b, .int .i64 c, .int .i64 d] 25)) = W0 at q1 hB0 hsz ⊢
    have c0 := q1 0 _ rfl
    have c1 := q1 1 _ rfl
    have c2 := q1 2 _ rfl
    have c3 := q1 3 _ rfl
    refine (cV.out _).mono ?_
    rintro e w1 ⟨rfl, b1⟩
    have B1 := below2 hB0 b1
    have hT1 := hT'.out.below B1
    replace c0 := (b1.cell (p := ⟨w.heap.size, 0, none⟩) hsz).trans c0
    replace c1 := (b1.cell (p := ⟨w.heap.size, 1, none⟩) hsz).trans c1
    replace c2 := (b1.cell (p := ⟨w.heap.size, 2, none⟩) hsz).trans c2
    replace c3 := (b1.cell (p := ⟨w.heap.size, 3, none⟩) hsz).trans c3
    clear q1 b1
    go_wp2
    go_ret
    exact ⟨hr.out, B1⟩
  · obtain ⟨hin, hft⟩ := crd_inI h
    have hin' := Lib.hid hin
    have cL0 : ∀ W V, IntsAt W V [a, b, c, d] → TabP W → Calls Tryz.prog 22 #[V] W fun e w' => e = .returned (.string ⟨(crdT ⟨a, b, c, d⟩).toArray⟩) ∧ Below W.heap.size W w' := fun W V hi hW => by
      have := implListText_any V [a, b, c, d] W (by simp) hi hW
      unfold listR at this
      rw [hft] at this
      unfold crdT
      rw [h]
      exact this
    have cL := Lib.hid cL0
    obtain ⟨D, hD⟩ : ∃ D, D = crdT ⟨a, b, c, d⟩ := ⟨_, rfl⟩
    rw [← hD] at cL ⊢
    clear h hin hft cL0 hD
    go_enter Tryz.func8, Tryz.ntmps8
    go_wp2_with fail
    obtain ⟨q1, hB0, hsz⟩ := one_box w #[.int .i64 a, .int .i64 b, .int .i64 c, .int .i64 d] 25
    generalize (w.alloc (.cells #[.int .i64 a, .int .i64 b, .int .i64 c, .int .i64 d] 25)) = W0 at q1 hB0 hsz ⊢
    have c0 := q1 0 _ rfl
    have c1 := q1 1 _ rfl
    have c2 := q1 2 _ rfl
    have c3 := q1 3 _ rfl
    refine (cV.out _).mono ?_
    rintro e w1 ⟨rfl, b1⟩
    have B1 := below2 hB0 b1
    have hT1 := hT'.out.below B1
    replace c0 := (b1.cell (p := ⟨w.heap.size, 0, none⟩) hsz).trans c0
    replace c1 := (b1.cell (p := ⟨w.heap.size, 1, none⟩) hsz).trans c1
    replace c2 := (b1.cell (p := ⟨w.heap.size, 2, none⟩) hsz).trans c2
    replace c3 := (b1.cell (p := ⟨w.heap.size, 3, none⟩) hsz).trans c3
    clear q1 b1
    go_wp2_with fail
    have hia := crd_ints a b c d w1 hin'.out
    have hB2 := fresh_n w1 (.cells #[.int .i64 a, .int .i64 b, .int .i64 c, .int .i64 d] 2)
    have hT2 := hT1.below hB2
    generalize (w1.alloc (.cells #[.int .i64 a, .int .i64 b, .int .i64 c, .int .i64 d] 2)) = W2 at hia hB2 hT2 ⊢
    refine (cL.out _ _ hia hT2).mono ?_
    rintro e w3 ⟨rfl, b3⟩
    go_wp2
    go_ret
    exact ⟨rfl, below2 B1 (below2 hB2 b3)⟩
end Go.Proofs.YtnenccfmopjcjaaGreatDoor
