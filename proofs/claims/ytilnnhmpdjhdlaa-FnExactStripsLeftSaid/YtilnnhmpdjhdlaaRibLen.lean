/-
  Lengths of ribs: the program's and the model's contracts.
-/
import Derived.Test.YtilnnhmpdjhdlaaRibs5
import Derived.BigQuiet
import Derived.Deep.QuietTactic
namespace Go.Proofs.Ytilnnhmpdjhdlaa
open Go.ChangeShapes Go.WideShapes Go.ChangeAt Go.RowKit Go.Deep
set_option linter.unusedVariables false
set_option linter.unusedSimpArgs false
set_option maxRecDepth 1000000
/-- the length of the first k ribs -/
def lenS (Z : List Rib) : Nat → Int
  | 0 => 0
  | k + 1 => lenS Z k + (Z.getD k rib0).len
def lensOk (Z : List Rib) : Prop := Z.length ≤ 8 ∧ ∀ x ∈ Z, 0 ≤ x.len ∧ x.len ≤ 1000000
theorem lenS_bd {Z : List Rib} (h : lensOk Z) : ∀ k, k ≤ Z.length → 0 ≤ lenS Z k ∧ lenS Z k ≤ 1000000 * k
  | 0, _ => by unfold lenS; omega
  | k + 1, hk => by
    have h1 := lenS_bd h k (by omega)
    have h2 := h.2 _ (List.getElem_mem (show k < Z.length by omega))
    unfold lenS
    rw [rib_getD_at' (by omega)]
    omega
theorem lenS_mono {Z : List Rib} (h : lensOk Z) : ∀ k n, k ≤ n → n ≤ Z.length → lenS Z k ≤ lenS Z n
  | k, 0, h1, _ => by obtain rfl : k = 0 := by omega
                      exact Int.le_refl _
  | k, n + 1, h1, h2 => by
    rcases Nat.lt_or_ge n k with h3 | h3
    · obtain rfl : k = n + 1 := by omega
      exact Int.le_refl _
    · have := lenS_mono h k n h3 (by omega)
      have h4 := h.2 _ (List.getElem_mem (show n < Z.length by omega))
      show _ ≤ lenS Z n + (Z.getD n rib0).len
      rw [rib_getD_at' (by omega)]
      omega
theorem ribs_one {Z : List Rib} (h : ribsB Z = true) {k : Nat} (hk : k < Z.length) : ribB Z[k] = true := by
  rcases hb : rib_stepOK Z k with _ | _
  · rw [ribsB_no hb hk] at h; cases h
  · unfold rib_stepOK at hb
    rw [rib_getD_at' hk] at hb
    exact (Bool.and_eq_true_iff.1 hb).1
theorem ribs_mem {Z : List Rib} (h : ribsB Z = true) {x : Rib} (hx : x ∈ Z) : (1 ≤ x.len ∧ x.len ≤ 10000) ∧ (1 ≤ x.hgt ∧ x.hgt ≤ 10000) := by
  obtain ⟨k, hk, rfl⟩ := List.getElem_of_mem hx
  have := ribs_one h hk
  exact rib_bd (s := Z[k].id) this
theorem ribs_8 {Z : List Rib} (h : ribsB Z = true) : Z.length ≤ 8 := by
  unfold ribsB at h
  exact of_decide_eq_true (Bool.and_eq_true_iff.1 h).2
theorem ribs_lens {Z : List Rib} (h : ribsB Z = true) : lensOk Z := ⟨ribs_8 h, fun x hx => by have := ribs_mem h hx; omega⟩
theorem lenS_ribs {Z : List Rib} (h : ribsB Z = true) : ∀ k, k ≤ Z.length → k ≤ lenS Z k ∧ lenS Z k ≤ 10000 * k
  | 0, _ => by unfold lenS; omega
  | k + 1, hk => by
    have h1 := lenS_ribs h k (by omega)
    have h2 := ribs_mem h (List.getElem_mem (show k < Z.length by omega))
    unfold lenS
    rw [rib_getD_at' (by omega)]
    omega
theorem ribLen_at {w wr : World} (hd : DrewOf w wr) {g o : Nat} {x : Rib} (hr : w.rangeAt g o x.cells) : wr.cell? ⟨g, o + 1, none⟩ = some (.int .i64 x.len) := (ribAt_of (hd.range hr)).2.1
def code2 (b1 b2 : Bool) (c1 c2 : Int) : Int := if b1 = true then (if b2 = true then 0 else c2) else c1
end Go.Proofs.Ytilnnhmpdjhdlaa
