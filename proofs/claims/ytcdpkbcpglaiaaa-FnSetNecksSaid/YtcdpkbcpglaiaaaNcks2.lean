/-
  Rows of Neck: the law's own copies.
-/
import Derived.Test.YtcdpkbcpglaiaaaNcks
import Derived.OwnWalk
import Derived.Deep.RegionHeld3
namespace Go.Proofs.Ytcdpkbcpglaiaaa
open Go.ChangeShapes Go.WideShapes Go.ChangeAt Go.RowKit Go.Deep
set_option linter.unusedVariables false
set_option linter.unusedSimpArgs false
set_option maxRecDepth 1000000
/-- a new row is handed back -/
def NcksRet (Z : List Nck) (w : World) (e : Ending) (w' : World) : Prop := ∃ v, e = .returned v ∧ NcksAt w' v Z ∧ Below w.heap.size w w'
theorem infoNck : (Try.prog.info? 26).map (fun i => (i.zero, i.size, i.bytes)) = some (some (.agg #[.int .i64 0, .int .i64 0, .int .i64 0, .int .i64 0]), 4, 32) := by kernel_rfl
/-- so many of a new row are laid -/
def StoredNck (w : World) (Z : List Nck) (k : Nat) (wr : World) : Prop := wr.there w.heap.size 0 (Z.length * 4) ∧ w.heap.size < wr.heap.size ∧ Hid (∀ i (hi : i < Z.length), i < k → wr.rangeAt w.heap.size (i * 4) Z[i].cells) ∧ Below w.heap.size w wr
theorem nck_stored {w w2 : World} {Z : List Nck} {k : Nat} {x : Nck} (hlt : k < Z.length) (hx : x = Z[k]) (hth : w2.there w.heap.size 0 (Z.length * 4)) (hdone : ∀ i (hi : i < Z.length), i < k → w2.rangeAt w.heap.size (i * 4) Z[i].cells) (hsz : w.heap.size < w2.heap.size) (hb : Below w.heap.size w w2) (o : Nat) (ho : o = k * 4) : StoredNck w Z (k + 1) (w2.setCells w.heap.size o x.cells) := by
  subst ho
  refine ⟨World.there_setCells hth _ _ _, by rw [size_sets]; exact hsz, Lib.hid ?_, below_sets (Nat.le_refl _) _ _ _ hb⟩
  intro i hi hik
  by_cases e : i = k
  · subst e; rw [← hx]; exact World.rangeAt_setCells_same _ _ _ _ (there_part hth _ _ (by simp [Nck.cells]; omega))
  · exact World.rangeAt_setCells_apart (hdone i hi (by omega)) _ _ _ (Or.inr (Or.inl (by simp [Nck.cells]; omega)))
theorem sizeNck : (Try.prog.info? 26).map (·.size) = some 4 := by kernel_rfl
theorem oneNck (a : Int) (b : Int) (c : Int) (d : Int) : (#[Value.int .i64 a, .int .i64 b, .int .i64 c, .int .i64 d] : Array Value).all (·.oneCell') = true := by simp [Value.oneCell']
/-- a new row is handed back, and where it lies -/
def NcksNew (Z : List Nck) (w : World) (e : Ending) (w' : World) : Prop := e = .returned (.slice (some ⟨w.heap.size, 0, none⟩) Z.length Z.length) ∧ NcksAt w' (.slice (some ⟨w.heap.size, 0, none⟩) Z.length Z.length) Z ∧ w'.there w.heap.size 0 (Z.length * 4) ∧ w.heap.size < w'.heap.size ∧ Below w.heap.size w w'
end Go.Proofs.Ytcdpkbcpglaiaaa
