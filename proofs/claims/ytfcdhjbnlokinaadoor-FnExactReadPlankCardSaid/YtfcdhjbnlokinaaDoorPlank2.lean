/-
  Contracts of densities, rings, speeds and gaps of planks by value.
-/
import Derived.Test.YtfcdhjbnlokinaaDoorPlank
namespace Go.Proofs.YtfcdhjbnlokinaaDoor
open Go.ChangeShapes Go.WideShapes Go.ChangeAt Go.RowKit
set_option linter.unusedVariables false
set_option linter.unusedSimpArgs false
def denV (x : Plk) : Int := rnd (1000000 * x.mas) (x.len * x.wid * x.thk)
def rinV (x : Plk) : Int := rnd (100 * x.wid) x.rin
def absD (a b : Int) : Int := if b ≤ a then a - b else b - a
def gapV (x y : Plk) : Int := absD (denV x) (denV y) + absD (rinV x) (rinV y)
theorem mul_bdP {a b p q : Int} (ha1 : 1 ≤ a) (ha2 : a ≤ p) (hb1 : 1 ≤ b) (hb2 : b ≤ q) : 1 ≤ a * b ∧ a * b ≤ p * q :=
  ⟨by have := Int.mul_le_mul ha1 hb1 (by omega) (by omega); simpa using this, Int.mul_le_mul ha2 hb2 (by omega) (by omega)⟩
/-- what a valid plank's numbers keep -/
theorem plk_bd {s : ByteArray} {a b c d f : Int} (h : plkB ⟨s, a, b, c, d, f⟩ = true) : (1 ≤ a ∧ a ≤ 2000) ∧ (1 ≤ b ∧ b ≤ 2000) ∧ (1 ≤ c ∧ c ≤ 2000) ∧ (1 ≤ d ∧ d ≤ 100000) ∧ (1 ≤ f ∧ f ≤ 500) ∧ (1 ≤ a * b ∧ a * b ≤ 4000000) ∧ (1 ≤ a * b * c ∧ a * b * c ≤ 8000000000) := by
  unfold plkB at h
  simp only [Bool.and_eq_true, inB_iff] at h
  obtain ⟨⟨⟨⟨⟨_, ha⟩, hb⟩, hc⟩, hd⟩, hf⟩ := h
  have h1 := mul_bdP ha.1 ha.2 hb.1 hb.2
  have h2 := mul_bdP h1.1 h1.2 hc.1 hc.2
  exact ⟨ha, hb, hc, hd, hf, ⟨h1.1, by have := h1.2; omega⟩, h2.1, by have := h2.2; omega⟩
theorem rnd_bdP (a b : Int) (ha : 0 ≤ a) (hb : 1 ≤ b) : 0 ≤ rnd a b ∧ rnd a b ≤ 2 * a + b := by
  have h := rp_bd a b (by omega)
  have e : rnd a b = rp a b := by unfold rnd; rw [if_neg (by omega), if_neg (by omega)]
  rw [e]
  refine ⟨?_, by omega⟩
  rw [rp_pos ha]; exact Int.ediv_nonneg (by omega) (by omega)
theorem den_bd {s : ByteArray} {a b c d f : Int} (h : plkB ⟨s, a, b, c, d, f⟩ = true) : 0 ≤ denV ⟨s, a, b, c, d, f⟩ ∧ denV ⟨s, a, b, c, d, f⟩ ≤ 1000000000000 := by
  obtain ⟨_, _, _, hd, _, _, hv⟩ := plk_bd h
  have := rnd_bdP (1000000 * d) (a * b * c) (by omega) hv.1
  show 0 ≤ rnd (1000000 * d) (a * b * c) ∧ rnd (1000000 * d) (a * b * c) ≤ 1000000000000
  omega
theorem rin_bd {s : ByteArray} {a b c d f : Int} (h : plkB ⟨s, a, b, c, d, f⟩ = true) : 0 ≤ rinV ⟨s, a, b, c, d, f⟩ ∧ rinV ⟨s, a, b, c, d, f⟩ ≤ 1000000 := by
  obtain ⟨_, hb, _, _, hf, _⟩ := plk_bd h
  have := rnd_bdP (100 * b) f (by omega) hf.1
  show 0 ≤ rnd (100 * b) f ∧ rnd (100 * b) f ≤ 1000000
  omega
theorem plk_box (s : ByteArray) (a b c d f : Int) (w : World) : PlkAt (w.alloc (.cells #[.string s, .int .i64 a, .int .i64 b, .int .i64 c, .int .i64 d, .int .i64 f] 29)) w.heap.size 0 ⟨s, a, b, c, d, f⟩ :=
  ⟨cellB (heap_alloc_new _ _) 0 _ rfl, cellB (heap_alloc_new _ _) 1 _ rfl, cellB (heap_alloc_new _ _) 2 _ rfl, cellB (heap_alloc_new _ _) 3 _ rfl, cellB (heap_alloc_new _ _) 4 _ rfl, cellB (heap_alloc_new _ _) 5 _ rfl⟩
theorem bcell {W w1 : World} (hb : Below W.heap.size W w1) : ∀ b o, b < W.heap.size → w1.cell? ⟨b, o, none⟩ = W.cell? ⟨b, o, none⟩ :=
  fun b o h => hb.cell (p := ⟨b, o, none⟩) h
end Go.Proofs.YtfcdhjbnlokinaaDoor
