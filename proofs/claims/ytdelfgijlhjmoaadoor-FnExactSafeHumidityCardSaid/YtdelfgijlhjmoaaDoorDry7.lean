/-
  Days of drying and days with cracks: the program's and the model's contracts.
-/
import Derived.Test.YtdelfgijlhjmoaaDoorDry6
import Derived.Deep.RegionHeld3
namespace Go.Proofs.YtdelfgijlhjmoaaDoor
open Go.ChangeShapes Go.WideShapes Go.ChangeAt Go.RowKit Go.Deep
set_option linter.unusedVariables false
set_option linter.unusedSimpArgs false
/-- the code of two tests and of what is found -/
def codeD (b1 b2 : Bool) (c : Int) : Int := if b1 = true then (if b2 = true then c else 2) else 1
def dtdN (a v b z : Int) : Int := ((fstK (wetP a v b z) 4001).getD 0 : Nat)
def dtdC (a v b z : Int) : Int := if (fstK (wetP a v b z) 4001).isSome then 0 else 3
theorem fstE_out (a v b z : Int) : ∃ x y, fstE a v b z (Int.toNat 4000) = .agg #[.int .i64 (dtdN a v b z), .int .i64 x, .int .i64 y] := by
  unfold fstE dtdN
  rw [show Int.toNat 4000 + 1 = 4001 from rfl]
  cases h : fstK (wetP a v b z) 4001 with
  | none => exact ⟨0, 0, rfl⟩
  | some k => refine ⟨(dryE a v b k).2.1, (dryE a v b k).2.2, ?_⟩; simp only [encD, dryE_day]; rfl
theorem fstB_out (a v b z : Int) : dtdC a v b z = if fstB a v b z (Int.toNat 4000) = true then 0 else 3 := by unfold dtdC fstB; rw [show Int.toNat 4000 + 1 = 4001 from rfl]
theorem dtdN_no {a v b z : Int} (h : fstB a v b z (Int.toNat 4000) = false) : dtdN a v b z = 0 := by
  unfold dtdN; have h' : (fstK (wetP a v b z) 4001).isSome = false := by unfold fstB at h; rw [show Int.toNat 4000 + 1 = 4001 from rfl] at h; exact h
  rw [Option.isSome_eq_false_iff, Option.isNone_iff_eq_none] at h'; rw [h']; rfl
theorem dtd_yes {a v b z : Int} {k : Nat} (hk : k ≤ 4000) (hp : dryV a v b k ≤ z) (hno : ∀ j, j < k → wetP a v b z j = false) : dtdN a v b z = k ∧ dtdC a v b z = 0 := by
  have := fstK_some (p := wetP a v b z) (n := 4001) (k := k) (by omega) (by simp [wetP, hp]) hno
  unfold dtdN dtdC; rw [this]; exact ⟨rfl, rfl⟩
theorem dtd_no {a v b z : Int} (hno : ∀ j, j < 4001 → wetP a v b z j = false) : dtdN a v b z = 0 ∧ dtdC a v b z = 3 := by
  have := fstK_none (p := wetP a v b z) (n := 4001) hno
  unfold dtdN dtdC; rw [this]; exact ⟨rfl, rfl⟩
theorem l04ChangeB_any (m e t : Int) (hm0 : 0 ≤ m) (hm1 : m ≤ 1000) (he0 : 0 ≤ e) (he1 : e ≤ 1000) (ht0 : 10 ≤ t) (ht1 : t ≤ 1000) (w : World) : Calls Tryd.prog 10 #[.int .i64 m, .int .i64 e, .int .i64 t] w fun r w' => r = .returned (.int .i64 (chgV m e t)) ∧ Below w.heap.size w w' :=
  (l04Change_any m e t hm0 hm1 he0 he1 ht0 ht1 w).mono fun _ _ h => ⟨h.1, h.2 ▸ Below.refl _ _⟩
end Go.Proofs.YtdelfgijlhjmoaaDoor
