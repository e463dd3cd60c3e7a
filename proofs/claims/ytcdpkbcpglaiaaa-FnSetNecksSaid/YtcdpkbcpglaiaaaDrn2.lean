/-
  The model's draws of a neck and numbers.
-/
import Derived.Test.YtcdpkbcpglaiaaaDrn
import Derived.Deep.RegionWith
import Derived.Deep.RegionHeld3
import Derived.WalkLawsBesides
namespace Go.Proofs.Ytcdpkbcpglaiaaa
open Go.ChangeShapes Go.WideShapes Go.ChangeAt Go.RowKit Go.Deep
set_option linter.unusedVariables false
set_option maxRecDepth 1000000
set_option linter.unusedSimpArgs false
theorem u8_at {B : Nat} {w W : World} {v : Value} {Z : List Int} (h : U8Old B w v Z) (hB : B ≤ W.heap.size) (hb : Below w.heap.size w W) : U8Old W.heap.size W v Z := by
  obtain ⟨a, cap, h1, h2, h3, h4⟩ := h.below hb
  refine ⟨a, cap, h1, h2, h3, ?_⟩
  rcases h4 with h4 | ⟨g, o, e, hg0, hg, hc⟩
  · exact Or.inl h4
  · exact Or.inr ⟨g, o, e, hg, hg, hc⟩
theorem below_grow {B : Nat} {a w w' : World} {b : Nat} (h : Below B a w) (hB : B ≤ w.heap.size) (g : w.grownBy w' (some b)) (hb : B ≤ b) : Below B a w' := h.grown g hB (fun k hk => by injection hk with hk; omega)
/-- what a drawing return holds: the neck at X, room at R -/
structure DrN (b X R : Nat) (x1 x2 x3 x4 : Int) (w0 w : World) : Prop where
  c0 : w.cell? ⟨X, 0, none⟩ = some (.int .i64 x1)
  c1 : w.cell? ⟨X, 1, none⟩ = some (.int .i64 x2)
  c2 : w.cell? ⟨X, 2, none⟩ = some (.int .i64 x3)
  c3 : w.cell? ⟨X, 3, none⟩ = some (.int .i64 x4)
  room : ∀ i, i < 4 → (∃ u, w.cell? ⟨R, i, none⟩ = some u) ∧ w.frozen? ⟨R, i, none⟩ = false
  low : Below w0.heap.size w0 w
  xb : X ≠ b
  rb : R ≠ b
  xr : X ≠ R
  rl : w0.heap.size ≤ R ∧ w0.heap.size ≤ b
theorem DrN.after {b X R : Nat} {x1 x2 x3 x4 : Int} {w0 w w' : World} (h : DrN b X R x1 x2 x3 x4 w0 w) (g : w.grownBy w' (some b)) : DrN b X R x1 x2 x3 x4 w0 w' := by
  have kX : w'.heap[X]? = w.heap[X]? := g.block X (World.block_lt_of_cell? w _ h.c0) (fun e => h.xb (by injection e))
  have kR : w'.heap[R]? = w.heap[R]? := g.block R (by obtain ⟨⟨u, hu⟩, _⟩ := h.room 0 (by omega); exact World.block_lt_of_cell? w _ hu) (fun e => h.rb (by injection e))
  have hl := h.rl.2
  exact ⟨(cell_block kX).trans h.c0, (cell_block kX).trans h.c1, (cell_block kX).trans h.c2, (cell_block kX).trans h.c3, fun i hi => ⟨by rw [cell_block kR]; exact (h.room i hi).1, by rw [World.frozen?_of_block (a := ⟨R, i, none⟩) kR]; exact (h.room i hi).2⟩, h.low.grown g h.low.size (fun k hk => by injection hk with hk; omega), h.xb, h.rb, h.xr, h.rl⟩
theorem DrN.below {b X R : Nat} {x1 x2 x3 x4 : Int} {w0 w w' : World} (h : DrN b X R x1 x2 x3 x4 w0 w) (g : Below w.heap.size w w') : DrN b X R x1 x2 x3 x4 w0 w' := h.after (below_grown' g _)
theorem DrN.set {b X R : Nat} {x1 x2 x3 x4 : Int} {w0 w : World} (h : DrN b X R x1 x2 x3 x4 w0 w) (j : Nat) (u : Value) : DrN b X R x1 x2 x3 x4 w0 (w.setCell ⟨R, j, none⟩ u) := by
  have kX : (w.setCell ⟨R, j, none⟩ u).heap[X]? = w.heap[X]? := Below.heap_setCell _ _ _ X h.xr
  refine ⟨(cell_block kX).trans h.c0, (cell_block kX).trans h.c1, (cell_block kX).trans h.c2, (cell_block kX).trans h.c3, fun i hi => ?_, h.low.setCell (p := ⟨R, j, none⟩) h.rl.1 u, h.xb, h.rb, h.xr, h.rl⟩
  obtain ⟨⟨o, ho⟩, hf⟩ := h.room i hi
  refine ⟨?_, by rw [World.frozen?_setCell]; exact hf⟩
  by_cases e : i = j
  · subst e; exact ⟨_, World.cell?_setCell_same _ _ _ ho⟩
  · exact ⟨o, (World.cell?_setCell_other _ _ _ _ (by intro h; injection h with _ h2; exact e h2.symm)).trans ho⟩
theorem src_drew {w : World} {b n : Nat} {v : Value} (h : SrcAt w b v n) (k : Nat) : SrcAt (w.drewN k) b v n := h
theorem u8_drew {B : Nat} {w : World} {v : Value} {Z : List Int} (h : U8Old B w v Z) (k : Nat) : U8Old B (w.drewN k) v Z := h
theorem among_allocD (L : List Int) (h1 : 1 < L.length) (h2 : L.length ≤ 200) (C : Array Value) (t : TypeId) (b B n : Nat) (v : Value) (Z : List Int) (w : World) (hB : B ≤ b) (hn : n ≤ 90) (hZ : Z.length ≤ 1048576) (hs : SrcAt w b v n) (hu : U8Old B w v Z)
    (hC : (L.map fun x => Value.int .i64 x).toArray = C) :
    Calls Try.prog 22 #[.pointer (some ⟨b, 0, none⟩), .slice (some ⟨w.heap.size, 0, none⟩) L.length L.length] (w.alloc (.cells C t)).drew (AmRet L b B v Z (n + 1) (w.alloc (.cells C t)).drew) := by
  have hb : Below w.heap.size w (w.alloc (.cells C t)).drew := belowN ((Below.refl _ _).alloc (Nat.le_refl _) _) 1
  refine (among_any L h1 h2 w.heap.size b B n v Z (w.alloc (.cells C t)).drew hB hn hZ (hs.below hb) (hu.below hb) (by simp) (by have := hs.1; omega) (fun i hi => ?_)).mono ?_
  · have : (w.alloc (.cells C t)).drew.cell? ⟨w.heap.size, 0 + i, none⟩ = (w.alloc (.cells C t)).cell? ⟨w.heap.size, 0 + i, none⟩ := rfl
    first
      | (rw [this, World.cell?_alloc_mark, ← hC]; simp [hi])
      | (show (w.alloc (.cells C t)).cell? _ = _; rw [World.cell?_alloc_mark, ← hC]; simp [hi])
  · rintro e w' ⟨r, he, hr, s, u, g⟩
    exact ⟨r, he, hr, s, u, g⟩
end Go.Proofs.Ytcdpkbcpglaiaaa
