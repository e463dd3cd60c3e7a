/-
  The greatest of rows of numbers, the first one of several. Mathematics.
-/
import Derived.Test.YtjnpladpegmiiaaBowMath
import Derived.Test.YtjnpladpegmiiaaRowMath
namespace Go.Proofs.Ytjnpladpegmiiaa
set_option linter.unusedVariables false
set_option linter.unusedSimpArgs false
/-- number k of a row; row i; its greatest -/
def rgAt (Z : List Int) (k : Nat) : Int := Z.getD k 0
def rwAt (G : List (List Int)) (i : Nat) : List Int := G.getD i []
def rwI (Z : List Int) : Nat := fgI (rgAt Z) Z.length
def rwM (Z : List Int) : Int := rgAt Z (rwI Z)
def bpI (G : List (List Int)) : Nat := fgI (fun i => rwM (rwAt G i)) G.length
def bpK (G : List (List Int)) : Nat := rwI (rwAt G (bpI G))
/-- the first k numbers of row i looked at, from a best place b on -/
def scP (G : List (List Int)) (i : Nat) (b : Nat × Nat) : Nat → Nat × Nat
  | 0 => b
  | k + 1 => if rgAt (rwAt G (scP G i b k).1) (scP G i b k).2 < rgAt (rwAt G i) k then (i, k) else scP G i b k
/-- all rows below i looked at -/
def bpP (G : List (List Int)) : Nat → Nat × Nat
  | 0 => (0, 0)
  | i + 1 => scP G i (bpP G i) (rwAt G i).length
theorem scP_eq (G : List (List Int)) (i : Nat) (b : Nat × Nat) : ∀ k, scP G i b k = if 0 < k ∧ rgAt (rwAt G b.1) b.2 < rgAt (rwAt G i) (fgI (rgAt (rwAt G i)) k) then (i, fgI (rgAt (rwAt G i)) k) else b
  | 0 => by rw [if_neg (by omega)]; rfl
  | k + 1 => by
    have ih := scP_eq G i b k
    obtain ⟨f, hf⟩ : ∃ f, f = rgAt (rwAt G i) := ⟨_, rfl⟩
    obtain ⟨m, hm⟩ : ∃ m, m = rgAt (rwAt G b.1) b.2 := ⟨_, rfl⟩
    rw [← hf, ← hm] at ih ⊢
    show (if rgAt (rwAt G (scP G i b k).1) (scP G i b k).2 < rgAt (rwAt G i) k then (i, k) else scP G i b k) = _
    rw [← hf]
    have hs : fgI f (k + 1) = if f (fgI f k) < f k then k else fgI f k := rfl
    by_cases hA : 0 < k ∧ m < f (fgI f k)
    · rw [if_pos hA] at ih
      rw [ih]
      show (if rgAt (rwAt G i) (fgI f k) < f k then (i, k) else (i, fgI f k)) = _
      rw [← hf, hs]
      by_cases h2 : f (fgI f k) < f k
      · rw [if_pos h2, if_pos h2, if_pos ⟨by omega, by omega⟩]
      · rw [if_neg h2, if_neg h2, if_pos ⟨by omega, hA.2⟩]
    · rw [if_neg hA] at ih
      rw [ih, ← hm, hs]
      rcases Nat.eq_zero_or_pos k with h0 | h0
      · subst h0
        rw [show (if f (fgI f 0) < f 0 then 0 else fgI f 0) = 0 by split <;> rfl]
        by_cases h3 : m < f 0
        · rw [if_pos h3, if_pos ⟨by omega, h3⟩]
        · rw [if_neg h3, if_neg (by omega)]
      · have h4 : ¬ m < f (fgI f k) := fun h => hA ⟨h0, h⟩
        by_cases h3 : m < f k
        · rw [if_pos h3, if_pos (show f (fgI f k) < f k by omega), if_pos ⟨by omega, h3⟩]
        · rw [if_neg h3]
          by_cases h5 : f (fgI f k) < f k
          · rw [if_pos h5, if_neg (by omega)]
          · rw [if_neg h5, if_neg (by omega)]
theorem bpP_eq (G : List (List Int)) : ∀ i, 0 < i → (∀ j, j < i → 0 < (rwAt G j).length) → bpP G i = (fgI (fun i => rwM (rwAt G i)) i, rwI (rwAt G (fgI (fun i => rwM (rwAt G i)) i)))
  | 1, _, hp => by
    have hn := hp 0 (by omega)
    rw [fgI_one]
    show scP G 0 (0, 0) _ = _
    rw [scP_eq]
    show (if 0 < (rwAt G 0).length ∧ rgAt (rwAt G 0) 0 < rgAt (rwAt G 0) (rwI (rwAt G 0)) then (0, rwI (rwAt G 0)) else (0, 0)) = _
    by_cases h : rgAt (rwAt G 0) 0 < rgAt (rwAt G 0) (rwI (rwAt G 0))
    · rw [if_pos ⟨hn, h⟩]
    · rw [if_neg (fun h2 => h h2.2)]
      have : rwI (rwAt G 0) = 0 := by
        rcases Nat.eq_zero_or_pos (rwI (rwAt G 0)) with h0 | h0
        · exact h0
        · exact absurd (fgI_first (f := rgAt (rwAt G 0)) _ 0 h0) h
      rw [this]
  | i + 2, _, hp => by
    have ih := bpP_eq G (i + 1) (by omega) (fun j hj => hp j (by omega))
    have hn := hp (i + 1) (by omega)
    obtain ⟨R, hR⟩ : ∃ R : Nat → Int, R = fun i => rwM (rwAt G i) := ⟨_, rfl⟩
    have hR2 : ∀ j, R j = rwM (rwAt G j) := fun j => by rw [hR]
    rw [← hR] at ih ⊢
    show scP G (i + 1) (bpP G (i + 1)) _ = _
    rw [scP_eq, ih]
    show (if 0 < (rwAt G (i + 1)).length ∧ rwM (rwAt G (fgI R (i + 1))) < rwM (rwAt G (i + 1)) then (i + 1, rwI (rwAt G (i + 1))) else (fgI R (i + 1), rwI (rwAt G (fgI R (i + 1))))) = _
    rw [← hR2, ← hR2]
    have hs : fgI R (i + 2) = if R (fgI R (i + 1)) < R (i + 1) then i + 1 else fgI R (i + 1) := rfl
    rw [hs]
    by_cases h : R (fgI R (i + 1)) < R (i + 1)
    · rw [if_pos ⟨hn, h⟩, if_pos h]
    · rw [if_neg (fun h2 => h h2.2), if_neg h]
theorem bp_all (G : List (List Int)) (h0 : 0 < G.length) (hp : ∀ j, j < G.length → 0 < (rwAt G j).length) : bpP G G.length = (bpI G, bpK G) := bpP_eq G _ h0 hp
theorem scP_lt (G : List (List Int)) (i : Nat) (b : Nat × Nat) (hb : b.1 ≤ i) (hbk : b.1 < i → b.2 < (rwAt G b.1).length) (hbz : b.1 = i → b.2 = 0) (hp : 0 < (rwAt G i).length) (k : Nat) (hk : k ≤ (rwAt G i).length) : (scP G i b k).1 ≤ i ∧ (scP G i b k).2 < (rwAt G (scP G i b k).1).length := by
  rw [scP_eq]
  by_cases h : 0 < k ∧ rgAt (rwAt G b.1) b.2 < rgAt (rwAt G i) (fgI (rgAt (rwAt G i)) k)
  · rw [if_pos h]
    exact ⟨Nat.le_refl i, by have := fgI_lt (f := rgAt (rwAt G i)) k h.1; show _ < (rwAt G i).length; omega⟩
  · rw [if_neg h]
    refine ⟨hb, ?_⟩
    rcases Nat.lt_or_ge b.1 i with h1 | h1
    · exact hbk h1
    · have h2 : b.1 = i := by omega
      rw [hbz h2, h2]; exact hp
theorem bpP_lt (G : List (List Int)) : ∀ i, (∀ j, j < i → 0 < (rwAt G j).length) → ((0 < i → (bpP G i).1 < i ∧ (bpP G i).2 < (rwAt G (bpP G i).1).length) ∧ (i = 0 → bpP G i = (0, 0)))
  | 0, _ => ⟨fun h => absurd h (by omega), fun _ => rfl⟩
  | i + 1, hp => by
    have ih := bpP_lt G i (fun j hj => hp j (by omega))
    refine ⟨fun _ => ?_, fun h => absurd h (by omega)⟩
    have hb : (bpP G i).1 ≤ i ∧ ((bpP G i).1 < i → (bpP G i).2 < (rwAt G (bpP G i).1).length) ∧ ((bpP G i).1 = i → (bpP G i).2 = 0) := by
      rcases Nat.eq_zero_or_pos i with h0 | h0
      · subst h0; rw [ih.2 rfl]; exact ⟨Nat.le_refl 0, fun h => absurd h (Nat.lt_irrefl 0), fun _ => rfl⟩
      · have := ih.1 h0; exact ⟨by omega, fun _ => this.2, fun h => by omega⟩
    have := scP_lt G i (bpP G i) hb.1 hb.2.1 hb.2.2 (hp i (by omega)) _ (Nat.le_refl _)
    show (scP G i (bpP G i) _).1 < i + 1 ∧ (scP G i (bpP G i) _).2 < _
    exact ⟨by omega, this.2⟩
end Go.Proofs.Ytjnpladpegmiiaa
