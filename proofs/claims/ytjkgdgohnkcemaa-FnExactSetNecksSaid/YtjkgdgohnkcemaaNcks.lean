/-
  Rows of Neck: what a walk is told of one, and the law's own copies.
-/
import Derived.Test.YtjkgdgohnkcemaaNckIn
namespace Go.Proofs.Ytjkgdgohnkcemaa
open Go.ChangeShapes Go.WideShapes Go.ChangeAt Go.RowKit Go.Deep
set_option linter.unusedVariables false
set_option linter.unusedSimpArgs false
set_option maxRecDepth 1000000
def Nck.cells (x : Nck) : List Value := [.int .i64 x.stp, .int .i64 x.bod, .int .i64 x.ovr, .int .i64 x.ang]
theorem nckAt_of {w : World} {g o : Nat} {x : Nck} (h : w.rangeAt g o x.cells) : NckAt w g o x :=
  ⟨by simpa using h 0 _ rfl, h 1 _ rfl, h 2 _ rfl, h 3 _ rfl⟩
/-- v reads as the structs Z -/
def NcksAt (w : World) (v : Value) (Z : List Nck) : Prop :=
  ∃ a cap, v = .slice a Z.length cap ∧ Z.length ≤ cap ∧ (∀ x ∈ Z, True) ∧ (Z = [] ∨ ∃ g o, a = some ⟨g, o, none⟩ ∧ g < w.heap.size ∧ ∀ i (hi : i < Z.length), w.rangeAt g (o + i * 4) Z[i].cells)
theorem NcksAt.below {w w' : World} {v : Value} {Z : List Nck} (h : NcksAt w v Z) (hb : Below w.heap.size w w') : NcksAt w' v Z := by
  obtain ⟨a, cap, h1, h2, h3, h4⟩ := h
  refine ⟨a, cap, h1, h2, h3, ?_⟩
  rcases h4 with h4 | ⟨g, o, e, hg, hc⟩
  · exact Or.inl h4
  · exact Or.inr ⟨g, o, e, Nat.lt_of_lt_of_le hg hb.size, fun i hi => range_below (hc i hi) hg hb⟩
/-- what the walk is told of an argument -/
def NcksV (w : World) (v : Value) : Prop := ∃ Z, NcksAt w v Z ∧ Z.length ≤ maxLen
set_option maxRecDepth 1000000 in
theorem ncks_open {H : Type} {enc : TypeId × Value → H} {w : World} {base : Nat} {spare : Nat → Bool} {held : Bool} {r : Reach} {b0 : Nat} {v : Value} {d : DataW H} {p : List MemPlace} (hv : Value.okWide Try.prog w r b0 42 v) (h : DataW.Trod enc Try.prog w base spare held 42 v d p) : NcksV w v := by
  obtain ⟨a, len, cap, rfl⟩ := okWide_slice Try.underlying42 hv
  obtain ⟨fuel, hf⟩ := h
  rcases open_slice Try.underlying42 hf with ⟨hcs, _⟩ | ⟨x, l, c, m, n, D, Pl, hcs, _, hl, hm, hmm, _, hi⟩
  · simp [Value.cells] at hcs
    obtain ⟨rfl, rfl, rfl⟩ := hcs
    exact ⟨[], ⟨none, 0, rfl, Nat.le_refl 0, fun x hx => (by cases hx), Or.inl rfl⟩, Nat.zero_le _⟩
  · simp [Value.cells] at hcs
    obtain ⟨rfl, rfl, rfl⟩ := hcs
    have hC : Try.prog.cellsOf 23 = 4 := by kernel_rfl
    rw [hC] at hi
    have hlm : len ≤ m := by rw [hmm]; split <;> omega
    have key : ∀ i, ∃ x1 : Nck, i < len → (∀ j v, x1.cells[j]? = some v → w.cell? ((x.add (i * 4)).add j) = some v) ∧ True := by
      intro i
      by_cases hlt : i < len
      · obtain ⟨cs', hc, ht⟩ := hi i (by omega)
        obtain ⟨_, hlen, hat⟩ := World.cells?_some hc
        obtain ⟨a1, b1, c1, d1, e⟩ := nck_cells ht hlen
        refine ⟨⟨a1, b1, c1, d1⟩, fun _ => ⟨fun j v hv => ?_, trivial⟩⟩
        have hj : j < 4 := by have := (List.getElem?_eq_some_iff.1 hv).1; simpa [Nck.cells] using this
        rw [hat j hj, e]; exact hv
      · exact ⟨⟨0, 0, 0, 0⟩, fun h => absurd h hlt⟩
    obtain ⟨f, hfx⟩ := Classical.axiomOfChoice key
    have hZl : ((List.range len).map f).length = len := by simp
    refine ⟨(List.range len).map f, ⟨some x, cap, by rw [hZl], by rw [hZl]; exact hl, ?_, ?_⟩, by rw [hZl]; exact Nat.le_trans hl hm⟩
    · intro y hy
      obtain ⟨i, hi1, rfl⟩ := List.mem_map.1 hy
      exact (hfx i (List.mem_range.1 hi1)).2
    · by_cases h0 : len = 0
      · left; subst h0; rfl
      · right
        obtain ⟨b, off, spot⟩ := x
        have hc := (hfx 0 (by omega)).1 0 _ rfl
        have hspot : spot = none := by simpa [Addr.add] using World.cell?_spot hc
        subst hspot
        refine ⟨b, off, rfl, World.block_lt_of_cell? w _ (by have := hc; simpa [Addr.add] using this), fun i hi j v hv => ?_⟩
        have hil : i < len := by rw [hZl] at hi; exact hi
        have := (hfx i hil).1 j v (by simpa using hv)
        rwa [add_plain, add_plain] at this
/-- how much room is left: if any, all texts are short -/
def SzNckRet (Z : List Nck) (w : World) (e : Ending) (w' : World) : Prop := ∃ n : Int, e = .returned (.int .i64 n) ∧ -1 ≤ n ∧ n ≤ 1048576 ∧ (0 ≤ n → Z.length ≤ 1048576 ∧ ∀ x ∈ Z, True) ∧ Below w.heap.size w w'
/-- how much room is left of the law's own bound -/
theorem szNeckS_any (v : Value) (Z : List Nck) (w : World) (hlen : Z.length ≤ maxLen) (hv : NcksAt w v Z) : Calls Try.prog 39 #[v, .int .i64 1048576] w (SzNckRet Z w) := by
  unfold maxLen at hlen
  obtain ⟨a, cap, rfl, hcap, hids, hread⟩ := hv
  clear hread hids
  by_cases hL : Z.length ≤ 1048576
  · go_enter Try.func39, Try.ntmps39
    go_wp2
    go_ret
    exact ⟨_, rfl, by omega, by omega, fun _ => ⟨hL, fun _ _ => trivial⟩, Below.refl _ _⟩
  · go_enter Try.func39, Try.ntmps39
    go_wp2
    go_ret
    exact ⟨_, rfl, by omega, by omega, fun h => by omega, Below.refl _ _⟩
end Go.Proofs.Ytjkgdgohnkcemaa
