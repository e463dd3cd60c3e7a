/-
  Texts of Cord: the program's and the model's contracts.
-/
import Derived.Test.YtnenccfmopjcjaaDoorCrdIn
import Derived.Test.YtnenccfmopjcjaaDoorCrdT
import Derived.Test.YtnenccfmopjcjaaDoorReg
import Derived.Test.YtnenccfmopjcjaaDoorListI
import Derived.Test.YtnenccfmopjcjaaDoorReadListI
import Derived.Deep.RegionHeld3
namespace Go.Proofs.YtnenccfmopjcjaaDoor
open Go.ChangeShapes Go.WideShapes Go.ChangeAt Go.RowKit Go.Deep
set_option linter.unusedVariables false
set_option linter.unusedSimpArgs false
set_option maxRecDepth 1000000
theorem fresh_n (w : World) (o : Obj) : Below w.heap.size w (w.alloc o) := (Below.refl _ _).alloc (Nat.le_refl _) _
theorem own_shapeN {w : World} {B e size n : Nat} {v : Value} {xs : List Value} (h : w.ownsRow B e size v n xs) : ∃ a cap, v = .slice a n cap := by
  rcases h.2 with ⟨rfl, rfl⟩ | ⟨g, cap, _, rfl, _⟩
  · exact ⟨none, 0, rfl⟩
  · exact ⟨_, cap, rfl⟩
/-- the text of a Cord -/
def crdT (x : Crd) : List UInt8 := if crdB x = true then textZ [x.pit, x.len, x.gau, x.str] else []
theorem crd_ints (a b c d : Int) (w : World) (h : ∀ n ∈ [a, b, c, d], inI n) : IntsAt (w.alloc (.cells #[.int .i64 a, .int .i64 b, .int .i64 c, .int .i64 d] 2)) (.slice (some ⟨w.heap.size, 0, none⟩) 4 4) [a, b, c, d] :=
  ⟨some ⟨w.heap.size, 0, none⟩, 4, rfl, Nat.le_refl _, h, Or.inr ⟨w.heap.size, 0, rfl, by simp, fun i hi => by
    match i, hi with
    | 0, _ => exact cellB (heap_alloc_new w _) 0 _ rfl
    | 1, _ => exact cellB (heap_alloc_new w _) 1 _ rfl
    | 2, _ => exact cellB (heap_alloc_new w _) 2 _ rfl
    | 3, _ => exact cellB (heap_alloc_new w _) 3 _ rfl
⟩⟩
theorem crd_inI {a b c d : Int} (h : crdB ⟨a, b, c, d⟩ = true) : (∀ n ∈ [a, b, c, d], inI n) ∧ fitsZ [a, b, c, d] = true := by
  have hb := crd_bd h
  have key : ∀ n ∈ [a, b, c, d], -1000000000000 ≤ n ∧ n ≤ 1000000000000 := by
    intro n hn
    simp only [List.mem_cons, List.not_mem_nil, or_false] at hn
    rcases hn with rfl | rfl | rfl | rfl <;> omega
  refine ⟨fun n hn => by have := key n hn; unfold inI; omega, ?_⟩
  unfold fitsZ
  rw [Bool.and_eq_true]
  refine ⟨List.all_eq_true.2 fun n hn => ?_, by simp⟩
  unfold inV
  exact inB_iff.2 (key n hn)
end Go.Proofs.YtnenccfmopjcjaaDoor
