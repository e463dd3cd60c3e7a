/-
  Rows of Cord: what a walk is told of one, and the law's own copies.
-/
import Derived.Test.YthnmlnhimglacaaCrdIn
namespace Go.Proofs.Ythnmlnhimglacaa
open Go.ChangeShapes Go.WideShapes Go.ChangeAt Go.RowKit Go.Deep
set_option linter.unusedVariables false
set_option linter.unusedSimpArgs false
set_option maxRecDepth 1000000
def Crd.cells (x : Crd) : List Value := [.int .i64 x.pit, .int .i64 x.len, .int .i64 x.gau, .int .i64 x.str]
theorem crdAt_of {w : World} {g o : Nat} {x : Crd} (h : w.rangeAt g o x.cells) : CrdAt w g o x :=
  ⟨by simpa using h 0 _ rfl, h 1 _ rfl, h 2 _ rfl, h 3 _ rfl⟩
/-- v reads as the structs Z -/
def CrdsAt (w : World) (v : Value) (Z : List Crd) : Prop :=
  ∃ a cap, v = .slice a Z.length cap ∧ Z.length ≤ cap ∧ (∀ x ∈ Z, True) ∧ (Z = [] ∨ ∃ g o, a = some ⟨g, o, none⟩ ∧ g < w.heap.size ∧ ∀ i (hi : i < Z.length), w.rangeAt g (o + i * 4) Z[i].cells)
theorem CrdsAt.below {w w' : World} {v : Value} {Z : List Crd} (h : CrdsAt w v Z) (hb : Below w.heap.size w w') : CrdsAt w' v Z := by
  obtain ⟨a, cap, h1, h2, h3, h4⟩ := h
  refine ⟨a, cap, h1, h2, h3, ?_⟩
  rcases h4 with h4 | ⟨g, o, e, hg, hc⟩
  · exact Or.inl h4
  · exact Or.inr ⟨g, o, e, Nat.lt_of_lt_of_le hg hb.size, fun i hi => range_below (hc i hi) hg hb⟩
/-- what the walk is told of an argument -/
def CrdsV (w : World) (v : Value) : Prop := ∃ Z, CrdsAt w v Z ∧ Z.length ≤ maxLen
set_option maxRecDepth 1000000 in
theorem crds_open {H : Type} {enc : TypeId × Value → H} {w : World} {base : Nat} {spare : Nat → Bool} {held : Bool} {r : Reach} {b0 : Nat} {v : Value} {d : DataW H} {p : List MemPlace} (hv : Value.okWide Try.prog w r b0 32 v) (h : DataW.Trod enc Try.prog w base spare held 32 v d p) : CrdsV w v := by
  obtain ⟨a, len, cap, rfl⟩ := okWide_slice Try.underlying32 hv
  obtain ⟨fuel, hf⟩ := h
  rcases open_slice Try.underlying32 hf with ⟨hcs, _⟩ | ⟨x, l, c, m, n, D, Pl, hcs, _, hl, hm, hmm, _, hi⟩
  · simp [Value.cells] at hcs
    obtain ⟨rfl, rfl, rfl⟩ := hcs
    exact ⟨[], ⟨none, 0, rfl, Nat.le_refl 0, fun x hx => (by cases hx), Or.inl rfl⟩, Nat.zero_le _⟩
  · simp [Value.cells] at hcs
    obtain ⟨rfl, rfl, rfl⟩ := hcs
    have hC : Try.prog.cellsOf 23 = 4 := by kernel_rfl
    rw [hC] at hi
    have hlm : len ≤ m := by rw [hmm]; split <;> omega
    have key : ∀ i, ∃ x1 : Crd, i < len → (∀ j v, x1.cells[j]? = some v → w.cell? ((x.add (i * 4)).add j) = some v) ∧ True := by
      intro i
      by_cases hlt : i < len
      · obtain ⟨cs', hc, ht⟩ := hi i (by omega)
        obtain ⟨_, hlen, hat⟩ := World.cells?_some hc
        obtain ⟨a1, b1, c1, d1, e⟩ := crd_cells ht hlen
        refine ⟨⟨a1, b1, c1, d1⟩, fun _ => ⟨fun j v hv => ?_, trivial⟩⟩
        have hj : j < 4 := by have := (List.getElem?_eq_some_iff.1 hv).1; simpa [Crd.cells] using this
        rw [hat j hj, e]; exact hv
      · exact ⟨⟨0, 0, 0, 0⟩, fun h => absurd h hlt⟩
    obtain ⟨f, hfx⟩ := Classical.axiomOfChoice key
    have hZl : ((List.range len).map f).length = len := by simp
    refine ⟨(List.range len).map f, ⟨some x, cap, by rw [hZl], by rw [hZl]; exact hl, ?_, ?_⟩, by rw [hZl]; exact Nat.le_trans hl hm⟩
    · intro y hy
      obtain ⟨i, hi1, rfl⟩ := List.mem_map.1 hy
      exact (hfx i (List.mem_range.1 hi1)).2
    · by_cases h0 : len = 0
      · left; subst h0; rfl
      · right
        obtain ⟨b, off, spot⟩ := x
        have hc := (hfx 0 (by omega)).1 0 _ rfl
        have hspot : spot = none := by simpa [Addr.add] using World.cell?_spot hc
        subst hspot
        refine ⟨b, off, rfl, World.block_lt_of_cell? w _ (by have := hc; simpa [Addr.add] using this), fun i hi j v hv => ?_⟩
        have hil : i < len := by rw [hZl] at hi; exact hi
        have := (hfx i hil).1 j v (by simpa using hv)
        rwa [add_plain, add_plain] at this
/-- how much room is left: if any, all texts are short -/
def SzCrdRet (Z : List Crd) (w : World) (e : Ending) (w' : World) : Prop := ∃ n : Int, e = .returned (.int .i64 n) ∧ -1 ≤ n ∧ n ≤ 1048576 ∧ (0 ≤ n → Z.length ≤ 1048576 ∧ ∀ x ∈ Z, True) ∧ Below w.heap.size w w'
/-- how much room is left of the law's own bound -/
theorem szCordS_any (v : Value) (Z : List Crd) (w : World) (hlen : Z.length ≤ maxLen) (hv : CrdsAt w v Z) : Calls Try.prog 26 #[v, .int .i64 1048576] w (SzCrdRet Z w) := by
  unfold maxLen at hlen
  obtain ⟨a, cap, rfl, hcap, hids, hread⟩ := hv
  clear hread hids
  by_cases hL : Z.length ≤ 1048576
  · go_enter Try.func26, Try.ntmps26
    go_wp2
    go_ret
    exact ⟨_, rfl, by omega, by omega, fun _ => ⟨hL, fun _ _ => trivial⟩, Below.refl _ _⟩
  · go_enter Try.func26, Try.ntmps26
    go_wp2
    go_ret
    exact ⟨_, rfl, by omega, by omega, fun h => by omega, Below.refl _ _⟩
end Go.Proofs.Ythnmlnhimglacaa
