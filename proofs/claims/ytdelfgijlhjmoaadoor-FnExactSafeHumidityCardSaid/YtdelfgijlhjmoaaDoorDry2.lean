/-
  The program's drying: one day's change, the sequence of days.
-/
import Derived.Test.YtdelfgijlhjmoaaDoorDry
import Derived.Test.YtdelfgijlhjmoaaDoorSeq
import Derived.Shelf.Abstract
import Derived.Shelf.RegionOpen
import Derived.OwnWalkIn
import Derived.TacticsInMore
import Derived.LoopNIn
import Derived.LoopIn
namespace Go.Proofs.YtdelfgijlhjmoaaDoor
open Go.ChangeShapes Go.WideShapes Go.ChangeAt Go.RowKit Go.Deep
set_option linter.unusedVariables false
set_option linter.unusedSimpArgs false
attribute [local go_sem] Oper.semAt_some
theorem changeTo_any (s : ByteArray) (a : Int) (b : Int) (c : Int) (v : Int) (ha0 : 0 ≤ a) (ha1 : a ≤ 1000) (hb0 : 10 ≤ b) (hb1 : b ≤ 1000) (hv0 : 0 ≤ v) (hv1 : v ≤ 1000) (w : World) : Calls Tryd.prog 16 #[.agg #[.string s, .int .i64 a, .int .i64 b, .int .i64 c], .int .i64 v] w fun e w' => e = .returned (.int .i64 (chgV a v b)) ∧ Below w.heap.size w w' := by
  go_enter Tryd.func16, Tryd.ntmps16
  go_wp2_with (go_at_call 30; refine (nearest_any _ _ (by omega) (by omega) (by omega) (by omega) (by omega) _).mono ?_; rintro e w' ⟨rfl, m, rfl⟩)
  go_ret
  exact ⟨rfl, belowN ((Below.refl _ _).alloc (Nat.le_refl _) _) _⟩
/-- what a day of drying tells: the day, the moisture behind it, its change -/
def dryE (m v t : Int) : Nat → Int × Int × Int
  | 0 => (0, m, 0)
  | k + 1 => ((k : Int) + 1, dryV m v t (k + 1), chgV (dryV m v t k) v t)
/-- the days up to the n-th -/
def dryL (m v t : Int) (n : Nat) : List (Int × Int × Int) := (List.range (n + 1)).map (dryE m v t)
def encD (x : Int × Int × Int) : Value := .agg #[.int .i64 x.1, .int .i64 x.2.1, .int .i64 x.2.2]
theorem dryL_len (m v t : Int) (n : Nat) : (dryL m v t n).length = n + 1 := by simp [dryL]
theorem dryL_snoc (m v t : Int) (k : Nat) : dryL m v t (k + 1) = dryL m v t k ++ [dryE m v t (k + 1)] := by
  unfold dryL; rw [List.range_succ (n := k + 1), List.map_append]; rfl
theorem dryL_pre (m v t : Int) {n k : Nat} (h : k ≤ n) : dryL m v t k <+: dryL m v t n := by
  obtain ⟨j, rfl⟩ : ∃ j, n = k + j := ⟨n - k, by omega⟩
  clear h
  induction j with
  | zero => exact List.prefix_refl _
  | succ j ih => rw [show k + (j + 1) = (k + j) + 1 by omega, dryL_snoc]; exact ih.trans (List.prefix_append _ _)
theorem dryL_zero (m v t : Int) : dryL m v t 0 = [] ++ [(0, m, 0)] := rfl
theorem heap_set {w : World} {b : Nat} {cs : Array Value} {t : TypeId} (h : w.heap[b]? = some (.cells cs t (0, 0))) (i : Nat) (v : Value) (cs' : Array Value) (hc : cs.setIfInBounds i v = cs') : (w.setCell ⟨b, i, none⟩ v).heap[b]? = some (.cells cs' t (0, 0)) := by
  obtain ⟨hlt, hk⟩ := Array.getElem?_eq_some_iff.1 h
  show (w.heap.modify b _)[b]? = _
  rw [Array.getElem?_eq_getElem (by rw [Array.size_modify]; exact hlt), Array.getElem_modify_self, hk, ← hc]
  simp [Array.setIfInBounds]
theorem StkAt.but {b : Nat} {A C : World} (h : CellsBut b A C) {g o : Nat} (hg : g ≠ b) {x : Stk} (hx : StkAt A g o x) : StkAt C g o x := by
  have key : ∀ p : Addr, p.block = g → (A.cell? p).isSome → C.cell? p = A.cell? p := fun p hp hs => by
    obtain ⟨v, hv⟩ := Option.isSome_iff_exists.1 hs
    obtain ⟨q, hq, hc⟩ := cells_of_cell hv
    have := h.same p.block q (by rw [hp]; exact hg) hq hc
    unfold World.cell?
    rw [this, hq]
  obtain ⟨c0, c1, c2, c3⟩ := hx
  exact ⟨(key ⟨g, _, none⟩ rfl (by rw [c0]; rfl)).trans c0, (key ⟨g, _, none⟩ rfl (by rw [c1]; rfl)).trans c1, (key ⟨g, _, none⟩ rfl (by rw [c2]; rfl)).trans c2, (key ⟨g, _, none⟩ rfl (by rw [c3]; rfl)).trans c3⟩
theorem cell_but {b : Nat} {A C : World} (h : CellsBut b A C) {p : Addr} (hg : p.block ≠ b) {v : Value} (hx : A.cell? p = some v) : C.cell? p = some v := by
  obtain ⟨q, hq, hc⟩ := cells_of_cell hx
  have := h.same p.block q hg hq hc
  rw [← hx]; unfold World.cell?; rw [this, hq]
end Go.Proofs.YtdelfgijlhjmoaaDoor
