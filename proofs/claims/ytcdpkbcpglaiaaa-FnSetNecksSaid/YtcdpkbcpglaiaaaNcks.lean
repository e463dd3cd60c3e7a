/-
  Rows of Neck: what a walk is told of one, and the law's own copies.
-/
import Derived.Test.YtcdpkbcpglaiaaaNckIn
namespace Go.Proofs.Ytcdpkbcpglaiaaa
open Go.ChangeShapes Go.WideShapes Go.ChangeAt Go.RowKit Go.Deep
set_option linter.unusedVariables false
set_option linter.unusedSimpArgs false
set_option maxRecDepth 1000000
def Nck.cells (x : Nck) : List Value := [.int .i64 x.stp, .int .i64 x.bod, .int .i64 x.ovr, .int .i64 x.ang]
theorem nckAt_of {w : World} {g o : Nat} {x : Nck} (h : w.rangeAt g o x.cells) : NckAt w g o x :=
  ⟨by simpa using h 0 _ rfl, h 1 _ rfl, h 2 _ rfl, h 3 _ rfl⟩
/-- v reads as the structs Z -/
def NcksAt (w : World) (v : Value) (Z : List Nck) : Prop :=
  ∃ a cap, v = .slice a Z.length cap ∧ Z.length ≤ cap ∧ (∀ x ∈ Z, True) ∧ (Z = [] ∨ ∃ g o, a = some ⟨g, o, none⟩ ∧ g < w.heap.size ∧ ∀ i (hi : i < Z.length), w.rangeAt g (o + i * 4) Z[i].cells)
theorem NcksAt.below {w w' : World} {v : Value} {Z : List Nck} (h : NcksAt w v Z) (hb : Below w.heap.size w w') : NcksAt w' v Z := by
  obtain ⟨a, cap, h1, h2, h3, h4⟩ := h
  refine ⟨a, cap, h1, h2, h3, ?_⟩
  rcases h4 with h4 | ⟨g, o, e, hg, hc⟩
  · exact Or.inl h4
  · exact Or.inr ⟨g, o, e, Nat.lt_of_lt_of_le hg hb.size, fun i hi => range_below (hc i hi) hg hb⟩
/-- what the walk is told of an argument -/
def NcksV (w : World) (v : Value) : Prop := ∃ Z, NcksAt w v Z ∧ Z.length ≤ maxLen
/-- how much room is left: if any, all texts are short -/
def SzNckRet (Z : List Nck) (w : World) (e : Ending) (w' : World) : Prop := ∃ n : Int, e = .returned (.int .i64 n) ∧ -1 ≤ n ∧ n ≤ 1048576 ∧ (0 ≤ n → Z.length ≤ 1048576 ∧ ∀ x ∈ Z, True) ∧ Below w.heap.size w w'
end Go.Proofs.Ytcdpkbcpglaiaaa
