/-
  Rows of Arc: what a walk is told of one, and the law's own copies.
-/
import Derived.Test.YtdgkpghecfpgoaaArcT
namespace Go.Proofs.Ytdgkpghecfpgoaa
open Go.ChangeShapes Go.WideShapes Go.ChangeAt Go.RowKit Go.Deep
set_option linter.unusedVariables false
set_option linter.unusedSimpArgs false
set_option maxRecDepth 1000000
def Arc.cells (x : Arc) : List Value := [.int .i64 x.cx, .int .i64 x.cy, .int .i64 x.fx, .int .i64 x.fy, .int .i64 x.tx, .int .i64 x.ty]
theorem arcAt_of {w : World} {g o : Nat} {x : Arc} (h : w.rangeAt g o x.cells) : ArcAt w g o x :=
  ⟨by simpa using h 0 _ rfl, h 1 _ rfl, h 2 _ rfl, h 3 _ rfl, h 4 _ rfl, h 5 _ rfl⟩
/-- v reads as the structs Z -/
def ArcsAt (w : World) (v : Value) (Z : List Arc) : Prop :=
  ∃ a cap, v = .slice a Z.length cap ∧ Z.length ≤ cap ∧ (∀ x ∈ Z, True) ∧ (Z = [] ∨ ∃ g o, a = some ⟨g, o, none⟩ ∧ g < w.heap.size ∧ ∀ i (hi : i < Z.length), w.rangeAt g (o + i * 6) Z[i].cells)
theorem ArcsAt.below {w w' : World} {v : Value} {Z : List Arc} (h : ArcsAt w v Z) (hb : Below w.heap.size w w') : ArcsAt w' v Z := by
  obtain ⟨a, cap, h1, h2, h3, h4⟩ := h
  refine ⟨a, cap, h1, h2, h3, ?_⟩
  rcases h4 with h4 | ⟨g, o, e, hg, hc⟩
  · exact Or.inl h4
  · exact Or.inr ⟨g, o, e, Nat.lt_of_lt_of_le hg hb.size, fun i hi => range_below (hc i hi) hg hb⟩
/-- what the walk is told of an argument -/
def ArcsV (w : World) (v : Value) : Prop := ∃ Z, ArcsAt w v Z ∧ Z.length ≤ maxLen
set_option maxRecDepth 1000000 in
theorem arcs_open {H : Type} {enc : TypeId × Value → H} {w : World} {base : Nat} {spare : Nat → Bool} {held : Bool} {r : Reach} {b0 : Nat} {v : Value} {d : DataW H} {p : List MemPlace} (hv : Value.okWide Try.prog w r b0 32 v) (h : DataW.Trod enc Try.prog w base spare held 32 v d p) : ArcsV w v := by
  obtain ⟨a, len, cap, rfl⟩ := okWide_slice Try.underlying32 hv
  obtain ⟨fuel, hf⟩ := h
  rcases open_slice Try.underlying32 hf with ⟨hcs, _⟩ | ⟨x, l, c, m, n, D, Pl, hcs, _, hl, hm, hmm, _, hi⟩
  · simp [Value.cells] at hcs
    obtain ⟨rfl, rfl, rfl⟩ := hcs
    exact ⟨[], ⟨none, 0, rfl, Nat.le_refl 0, fun x hx => (by cases hx), Or.inl rfl⟩, Nat.zero_le _⟩
  · simp [Value.cells] at hcs
    obtain ⟨rfl, rfl, rfl⟩ := hcs
    have hC : Try.prog.cellsOf 25 = 6 := by kernel_rfl
    rw [hC] at hi
    have hlm : len ≤ m := by rw [hmm]; split <;> omega
    have key : ∀ i, ∃ x1 : Arc, i < len → (∀ j v, x1.cells[j]? = some v → w.cell? ((x.add (i * 6)).add j) = some v) ∧ True := by
      intro i
      by_cases hlt : i < len
      · obtain ⟨cs', hc, ht⟩ := hi i (by omega)
        obtain ⟨_, hlen, hat⟩ := World.cells?_some hc
        obtain ⟨a1, b1, c1, d1, p1, s1, e⟩ := arc_cells ht hlen
        refine ⟨⟨a1, b1, c1, d1, p1, s1⟩, fun _ => ⟨fun j v hv => ?_, trivial⟩⟩
        have hj : j < 6 := by have := (List.getElem?_eq_some_iff.1 hv).1; simpa [Arc.cells] using this
        rw [hat j hj, e]; exact hv
      · exact ⟨⟨0, 0, 0, 0, 0, 0⟩, fun h => absurd h hlt⟩
    obtain ⟨f, hfx⟩ := Classical.axiomOfChoice key
    have hZl : ((List.range len).map f).length = len := by simp
    refine ⟨(List.range len).map f, ⟨some x, cap, by rw [hZl], by rw [hZl]; exact hl, ?_, ?_⟩, by rw [hZl]; exact Nat.le_trans hl hm⟩
    · intro y hy
      obtain ⟨i, hi1, rfl⟩ := List.mem_map.1 hy
      exact (hfx i (List.mem_range.1 hi1)).2
    · by_cases h0 : len = 0
      · left; subst h0; rfl
      · right
        obtain ⟨b, off, spot⟩ := x
        have hc := (hfx 0 (by omega)).1 0 _ rfl
        have hspot : spot = none := by simpa [Addr.add] using World.cell?_spot hc
        subst hspot
        refine ⟨b, off, rfl, World.block_lt_of_cell? w _ (by have := hc; simpa [Addr.add] using this), fun i hi j v hv => ?_⟩
        have hil : i < len := by rw [hZl] at hi; exact hi
        have := (hfx i hil).1 j v (by simpa using hv)
        rwa [add_plain, add_plain] at this
/-- how much room is left: if any, all texts are short -/
def SzArcRet (Z : List Arc) (w : World) (e : Ending) (w' : World) : Prop := ∃ n : Int, e = .returned (.int .i64 n) ∧ -1 ≤ n ∧ n ≤ 1048576 ∧ (0 ≤ n → Z.length ≤ 1048576 ∧ ∀ x ∈ Z, True) ∧ Below w.heap.size w w'
/-- how much room is left of the law's own bound -/
theorem szArcS_one (v : Value) (Z : List Arc) (w : World) (hlen : Z.length ≤ maxLen) (hv : ArcsAt w v Z) : Calls Try.prog 18 #[v, .int .i64 1048576] w fun e w' => e = .returned (.int .i64 (if Z.length ≤ 1048576 then 1048576 - (Z.length : Int) else -1)) ∧ w = w' := by
  unfold maxLen at hlen
  obtain ⟨a, cap, rfl, hcap, hids, hread⟩ := hv
  clear hread hids
  by_cases hL : Z.length ≤ 1048576
  · go_enter Try.func18, Try.ntmps18
    go_wp2
    go_ret
    exact ⟨rfl, rfl⟩
  · go_enter Try.func18, Try.ntmps18
    go_wp2
    go_ret
    exact ⟨rfl, rfl⟩
theorem szArcS_any (v : Value) (Z : List Arc) (w : World) (hlen : Z.length ≤ maxLen) (hv : ArcsAt w v Z) : Calls Try.prog 18 #[v, .int .i64 1048576] w (SzArcRet Z w) := by
  refine (szArcS_one v Z w hlen hv).mono ?_
  rintro e w' ⟨rfl, rfl⟩
  by_cases hL : Z.length ≤ 1048576
  · exact ⟨_, by rw [if_pos hL], by omega, by omega, fun _ => ⟨hL, fun _ _ => trivial⟩, Below.refl _ _⟩
  · exact ⟨_, by rw [if_neg hL], by omega, by omega, fun h => by omega, Below.refl _ _⟩
end Go.Proofs.Ytdgkpghecfpgoaa
