/-
  Rows of numbers: what a walk is told of one, and the law's own copies and comparisons.
-/
import Derived.Test.YtjgpckocmjolmaaGreatDoorSplit
namespace Go.Proofs.YtjgpckocmjolmaaGreatDoor
open Go.ChangeShapes Go.WideShapes Go.ChangeAt Go.RowKit
set_option linter.unusedVariables false
set_option linter.unusedSimpArgs false

theorem infoI : (Tryz.prog.info? 2).map (fun i => (i.zero, i.size, i.bytes)) = some (some (.int .i64 0), 1, 8) := by kernel_rfl
def encI (n : Int) : Value := .int .i64 n
def inI (n : Int) : Prop := -9223372036854775808 ≤ n ∧ n ≤ 9223372036854775807
/-- v reads as the numbers Z -/
def IntsAt (w : World) (v : Value) (Z : List Int) : Prop :=
  ∃ a cap, v = .slice a Z.length cap ∧ Z.length ≤ cap ∧ (∀ n ∈ Z, inI n) ∧
    (Z = [] ∨ ∃ g o, a = some ⟨g, o, none⟩ ∧ g < w.heap.size ∧ ∀ i (hi : i < Z.length), w.cell? ⟨g, o + i, none⟩ = some (.int .i64 Z[i]))
theorem IntsAt.below {w w' : World} {v : Value} {Z : List Int} (h : IntsAt w v Z) (hb : Below w.heap.size w w') : IntsAt w' v Z := by
  obtain ⟨a, cap, h1, h2, h3, h4⟩ := h
  refine ⟨a, cap, h1, h2, h3, ?_⟩
  rcases h4 with h4 | ⟨g, o, e, hg, hc⟩
  · exact Or.inl h4
  · exact Or.inr ⟨g, o, e, Nat.lt_of_lt_of_le hg hb.size, fun i hi => (hb.cell (p := ⟨g, o + i, none⟩) hg).trans (hc i hi)⟩
theorem IntsAt.drewN {w : World} {v : Value} {Z : List Int} (h : IntsAt w v Z) (n : Nat) : IntsAt (w.drewN n) v Z := h
/-- an owned row reads so -/
theorem ints_own {w : World} {B : Nat} {v : Value} {Z : List Int} (h : w.ownsRow B 2 1 v Z.length (Z.map encI)) (hz : ∀ n ∈ Z, inI n) : IntsAt w v Z := by
  have h0 := h
  rcases h.2 with ⟨h1, h2⟩ | ⟨g, cap, cur, hv, hg, hb, hn, hcap, _, _⟩
  · have hZ : Z = [] := List.eq_nil_of_length_eq_zero h2
    subst hZ
    exact ⟨none, 0, h1, Nat.le_refl 0, hz, Or.inl rfl⟩
  · subst hv
    refine ⟨_, cap, rfl, hn, hz, Or.inr ⟨g, 0, rfl, (h0.lt g rfl).2, fun i hi => ?_⟩⟩
    rw [Nat.zero_add, h0.cellAt i (by omega)]
    simp [encI, List.getElem?_eq_getElem hi]
/-- .. as one that came in -/
theorem ints_in {w : World} {a : Option Addr} {len cap : Nat} {zs : List Int}
    (h : (a = none ∧ len = 0 ∧ cap = 0 ∧ zs = []) ∨ ∃ x, a = some x ∧ len ≤ cap ∧ cap ≤ maxLen ∧ zs.length = cap ∧ (∀ i, i < zs.length → w.cell? (x.add i) = some (.int .i64 (zs.getD i 0))) ∧ ∀ n ∈ zs, (Lit.int .i64 n).wf = true) :
    ∃ Z : List Int, IntsAt w (.slice a len cap) Z ∧ Z.length = len := by
  rcases h with ⟨rfl, rfl, rfl, rfl⟩ | ⟨x, rfl, hl, hm, hz, hcell, hwz⟩
  · exact ⟨[], ⟨none, 0, rfl, Nat.le_refl 0, (fun n hn => (by cases hn)), Or.inl rfl⟩, rfl⟩
  · refine ⟨zs.take len, ⟨some x, cap, by rw [List.length_take]; congr 1; omega, by rw [List.length_take]; omega, fun n hn => ?_, ?_⟩, by rw [List.length_take]; omega⟩
    · have := bounds_i64 (hwz n (List.mem_of_mem_take hn)); exact this
    · by_cases h0 : len = 0
      · left; subst h0; simp
      · right
        obtain ⟨b, off, spot⟩ := x
        have hc := hcell 0 (by omega)
        have hspot : spot = none := by simpa [Addr.add] using World.cell?_spot hc
        subst hspot
        refine ⟨b, off, rfl, World.block_lt_of_cell? w _ (by have := hc; simpa [Addr.add] using this), fun i hi => ?_⟩
        have hi2 : i < zs.length := by rw [List.length_take] at hi; omega
        have := hcell i hi2
        rw [add_plain] at this
        rw [this]
        simp [List.getD, List.getElem?_eq_getElem hi2]

/-- a new row, k numbers of which are laid -/
def fillI (Z : List Int) (k : Nat) : List Value := (Z.take k).map encI ++ List.replicate (Z.length - k) (.int .i64 0)
theorem fillI_zero (Z : List Int) : fillI Z 0 = List.replicate Z.length (.int .i64 0) := by simp [fillI]
theorem fillI_all (Z : List Int) : fillI Z Z.length = Z.map encI := by simp [fillI]
theorem fillI_len (Z : List Int) (k : Nat) (h : k ≤ Z.length) : (fillI Z k).length = Z.length := by simp [fillI]; omega
theorem fillI_set (Z : List Int) (k : Nat) (h : k < Z.length) : (fillI Z k).set k (.int .i64 Z[k]) = fillI Z (k + 1) := by
  unfold fillI
  have e : List.replicate (Z.length - k) (Value.int .i64 0) = Value.int .i64 0 :: List.replicate (Z.length - (k + 1)) (.int .i64 0) := by
    rw [show Z.length - k = (Z.length - (k + 1)) + 1 by omega, List.replicate_succ]
  have hl : ((Z.take k).map encI).length = k := by simp; omega
  rw [e, List.set_append_right _ _ (by rw [hl]; exact Nat.le_refl _), hl, Nat.sub_self, List.set_cons_zero, List.take_succ_eq_append_getElem h, List.map_append, List.append_assoc]
  rfl
def RowI (Z : List Int) (w : World) (e : Ending) (w' : World) : Prop :=
  ∃ v, e = .returned v ∧ w'.ownsRow w.heap.size 2 1 v Z.length (Z.map encI) ∧ Below w.heap.size w w'

end Go.Proofs.YtjgpckocmjolmaaGreatDoor
