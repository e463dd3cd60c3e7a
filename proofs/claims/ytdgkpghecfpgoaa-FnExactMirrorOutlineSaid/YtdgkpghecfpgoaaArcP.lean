/-
  Rows of arcs of a call's own: marked, held, and what else stays.
-/
import Derived.Test.YtdgkpghecfpgoaaArcO
namespace Go.Proofs.Ytdgkpghecfpgoaa
open Go.ChangeShapes Go.WideShapes Go.ChangeAt Go.RowKit Go.Deep
set_option linter.unusedVariables false
set_option linter.unusedSimpArgs false
set_option maxRecDepth 1000000
theorem OwnA.lt {B : Nat} {v : Value} {Z : List Arc} {w : World} (h : OwnA B v Z w) (k : Nat) (hk : v.ownBlock = some k) : B ≤ k ∧ k < w.heap.size := by
  rcases h.2 with ⟨_, rfl⟩ | ⟨g, cap, rfl, h3, h4, _⟩
  · simp [Value.ownBlock] at hk
  · have e : g = k := by simpa [Value.ownBlock] using hk
    exact ⟨e ▸ h3, e ▸ h4⟩
theorem OwnA.apart {B : Nat} {v u : Value} {Z Y : List Arc} {w w' : World} (h : OwnA B v Z w) (k : OwnA w.heap.size u Y w') : v.ownBlock = none ∨ v.ownBlock ≠ u.ownBlock := by
  cases e : v.ownBlock with
  | none => exact Or.inl rfl
  | some g =>
    refine Or.inr fun hu => ?_
    have := (h.lt g e).2
    have := (k.lt g hu.symm).1
    omega
theorem grown_cell {w w' : World} {r : Option Nat} (hg : w.grownBy w' r) {b o : Nat} (hb : b < w.heap.size) (hr : some b ≠ r) : w'.cell? ⟨b, o, none⟩ = w.cell? ⟨b, o, none⟩ := World.cell?_of_block (w := w) (hg.block b hb hr)
theorem grown_frozen {w w' : World} {r : Option Nat} (hg : w.grownBy w' r) {b o : Nat} (hb : b < w.heap.size) (hr : some b ≠ r) : w'.frozen? ⟨b, o, none⟩ = w.frozen? ⟨b, o, none⟩ := World.frozen?_of_block (w := w) (hg.block b hb hr)
theorem OwnA.grown {B : Nat} {v : Value} {Z : List Arc} {w w' : World} {r : Option Nat} (h : OwnA B v Z w) (hg : w.grownBy w' r) (hr : v.ownBlock = none ∨ v.ownBlock ≠ r) : OwnA B v Z w' := by
  obtain ⟨h1, h2⟩ := h
  rcases h2 with ⟨rfl, rfl⟩ | ⟨g, cap, rfl, hB, hlt, hth⟩
  · exact ownA_nil _ _
  · have hne : some g ≠ r := by
      rcases hr with hr | hr
      · simp [Value.ownBlock] at hr
      · simpa [Value.ownBlock] using hr
    refine ⟨?_, Or.inr ⟨g, cap, rfl, hB, Nat.lt_of_lt_of_le hlt hg.size, fun j hj => ⟨?_, ?_⟩⟩⟩
    · obtain ⟨a, cap', e, hcap, hids, hread⟩ := h1
      injection e with e1 _ e3
      subst e1 e3
      refine ⟨_, _, rfl, hcap, hids, ?_⟩
      rcases hread with hz | ⟨g', o', e', hg', hc⟩
      · exact Or.inl hz
      · injection e' with e'
        injection e' with e1 e2
        subst e1 e2
        exact Or.inr ⟨g, 0, rfl, Nat.lt_of_lt_of_le hlt hg.size, fun i hi j v hv => (grown_cell hg hlt hne).trans (hc i hi j v hv)⟩
    · rw [grown_cell hg hlt hne]; exact (hth j hj).1
    · rw [grown_frozen hg hlt hne]; exact (hth j hj).2
/-- a row whose cells are marks -/
def MarkA (n : Nat) (v : Value) (k0 : Nat) (w : World) : Prop := (n = 0 ∧ v = .slice none 0 0) ∨ ∃ g cap, v = .slice (some ⟨g, 0, none⟩) n cap ∧ g < w.heap.size ∧ ∀ i, i < n * 6 → w.cell? ⟨g, i, none⟩ = some (.int .i64 ((k0 + i : Nat) : Int))
theorem MarkA.below {n k0 : Nat} {v : Value} {w w' : World} (h : MarkA n v k0 w) (hb : Below w.heap.size w w') : MarkA n v k0 w' := by
  rcases h with h | ⟨g, cap, e, hlt, hc⟩
  · exact Or.inl h
  · exact Or.inr ⟨g, cap, e, Nat.lt_of_lt_of_le hlt hb.size, fun i hi => (hb.cell (p := ⟨g, i, none⟩) hlt).trans (hc i hi)⟩
theorem markArcS_own (v : Value) (Z : List Arc) (k0 B : Nat) (w : World) (hn : Z.length ≤ 1048576) (hk0 : 0 < k0) (hk1 : k0 ≤ 1000000000) (h : OwnA B v Z w) : Calls Try.prog 30 #[v, .int .i64 k0] w fun e w' => e = .returned (.int .i64 ((k0 + Z.length * 6 : Nat) : Int)) ∧ MarkA Z.length v k0 w' ∧ w.grownBy w' v.ownBlock := by
  rcases h.2 with ⟨rfl, rfl⟩ | ⟨g, cap, rfl, hB, hlt, hth⟩
  · clear h
    go_enter Try.func30, Try.ntmps30
    go_wp2
    refine wp_loop_rounds 1 ?_
    rw [rounds_succ]
    go_wp2
    go_ret
    exact ⟨rfl, Or.inl ⟨rfl, rfl⟩, World.grownBy.refl _ _⟩
  · refine (markArcS_row g Z.length cap k0 w hn hk0 hk1 hlt hth).mono ?_
    rintro e w' ⟨rfl, hg, hc⟩
    exact ⟨rfl, Or.inr ⟨g, cap, rfl, Nat.lt_of_lt_of_le hlt hg.size, hc⟩, hg⟩
theorem heldArcS_own (v : Value) (n k0 : Nat) (w : World) (hn : n ≤ 1048576) (hk0 : 0 < k0) (hk1 : k0 ≤ 1000000000) (h : MarkA n v k0 w) : Calls Try.prog 37 #[v, .int .i64 k0] w fun e w' => e = .returned (.int .i64 ((k0 + n * 6 : Nat) : Int)) ∧ ∃ d, w' = w.drewN d := by
  rcases h with ⟨rfl, rfl⟩ | ⟨g, cap, rfl, hlt, hc⟩
  · go_enter Try.func37, Try.ntmps37
    go_wp2
    refine wp_loop_rounds 1 ?_
    rw [rounds_succ]
    go_wp2
    go_ret
    exact ⟨rfl, 0, rfl⟩
  · exact heldArcS_row g n cap k0 w hn hk0 hk1 hc
end Go.Proofs.Ytdgkpghecfpgoaa
