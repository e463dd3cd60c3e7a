/-
  Plain lemmas on lists of numbers as texts. Nothing of the program stands here.
-/
import Derived.Test.YtcgmpomhklhmaaaDoorDigMath
import Derived.Lib.Join
import Derived.Lib.ItoaLen
namespace Go.Proofs.YtcgmpomhklhmaaaDoor
def inV (n : Int) : Bool := inB n (-1000000000000) 1000000000000
def fitsZ (Z : List Int) : Bool := Z.all inV && decide (Z.length ≤ 64)
def textZ (Z : List Int) : List UInt8 := if Z.length = 0 then [45] else Lib.join (Z.map Lib.itoa) [44]
def listR (Z : List Int) : List UInt8 := if fitsZ Z then textZ Z else []
/-- the text of the first k numbers -/
def joinK (Z : List Int) (k : Nat) : List UInt8 := Lib.join ((Z.take k).map Lib.itoa) [44]
theorem joinK_zero (Z : List Int) : joinK Z 0 = [] := rfl
theorem joinK_all (Z : List Int) : joinK Z Z.length = Lib.join (Z.map Lib.itoa) [44] := by unfold joinK; rw [List.take_length]
theorem joinTail_snoc (sep : List UInt8) (r : List (List UInt8)) (y : List UInt8) : Lib.joinTail sep (r ++ [y]) = Lib.joinTail sep r ++ (sep ++ y) := by
  unfold Lib.joinTail; simp
theorem joinK_first (Z : List Int) (h : 0 < Z.length) : joinK Z 1 = Lib.itoa Z[0] := by
  unfold joinK
  rw [List.take_succ_eq_append_getElem h]
  simp [Lib.join_one]
theorem joinK_next (Z : List Int) (k : Nat) (h0 : 0 < k) (h : k < Z.length) : joinK Z (k + 1) = joinK Z k ++ ([44] ++ Lib.itoa Z[k]) := by
  unfold joinK
  rw [List.take_succ_eq_append_getElem h, List.map_append]
  cases hz : (Z.take k).map Lib.itoa with
  | nil =>
    have : ((Z.take k).map Lib.itoa).length = 0 := by rw [hz]; rfl
    rw [List.length_map, List.length_take] at this
    omega
  | cons x r =>
    rw [List.map_singleton, List.cons_append, Lib.join_cons, Lib.join_cons, joinTail_snoc, List.append_assoc]
theorem itoa_len {n : Int} (h : -9223372036854775808 ≤ n ∧ n ≤ 9223372036854775807) : (Lib.itoa n).length ≤ 21 := Lib.itoa_length_le n h.1 h.2
theorem lens_le (L : List (List UInt8)) (h : ∀ x ∈ L, x.length ≤ 21) : Lib.lens L ≤ 21 * L.length := by
  induction L with
  | nil => exact Nat.le_refl 0
  | cons x r ih =>
    have h1 := h x List.mem_cons_self
    have h2 := ih (fun y hy => h y (List.mem_cons_of_mem _ hy))
    unfold Lib.lens at h2 ⊢
    rw [List.map_cons, List.sum_cons, List.length_cons]; omega
theorem join_le (L : List (List UInt8)) (h : ∀ x ∈ L, x.length ≤ 21) : (Lib.join L [44]).length ≤ 22 * L.length := by
  cases L with
  | nil => exact Nat.le_refl 0
  | cons x r =>
    have h1 := lens_le (x :: r) h
    rw [Lib.join_length, List.length_cons] at *
    simp only [List.length_cons, List.length_nil] at *
    omega
theorem joinK_le (Z : List Int) (k : Nat) (hz : ∀ n ∈ Z, -9223372036854775808 ≤ n ∧ n ≤ 9223372036854775807) : (joinK Z k).length ≤ 22 * k := by
  unfold joinK
  refine Nat.le_trans (join_le _ (fun x hx => ?_)) ?_
  · obtain ⟨n, hn, rfl⟩ := List.mem_map.1 hx
    exact itoa_len (hz n (List.mem_of_mem_take hn))
  · rw [List.length_map, List.length_take]; omega
theorem fits_bad {Z : List Int} {n : Int} (h : n ∈ Z) (hn : inV n = false) : fitsZ Z = false := by
  unfold fitsZ
  have : Z.all inV = false := by rw [List.all_eq_false]; exact ⟨n, h, by simp [hn]⟩
  rw [this]; rfl
theorem fits_long {Z : List Int} (h : ¬ Z.length ≤ 64) : fitsZ Z = false := by
  unfold fitsZ; simp [h]
theorem fits_all {Z : List Int} (h : Z.all inV = true) : fitsZ Z = decide (Z.length ≤ 64) := by
  unfold fitsZ; rw [h]; rfl
theorem allZ_snoc {Z : List Int} {k : Nat} (h : k < Z.length) (ha : (Z.take k).all inV = true) (hk : inV Z[k] = true) : (Z.take (k + 1)).all inV = true := by
  rw [List.take_succ_eq_append_getElem h, List.all_append, ha]
  simp [hk]
end Go.Proofs.YtcgmpomhklhmaaaDoor
