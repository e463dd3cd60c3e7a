/-
  Plain lemmas on reading planks: a name, a blank and a list. Nothing of the program stands here.
-/
import Derived.Test.YtcgmpomhklhmaaaDoorFixMath
import Derived.Lib.IndexMore
namespace Go.Proofs.YtcgmpomhklhmaaaDoor
theorem mem_split (s : UInt8) (c : UInt8) (hc : c ≠ s) : ∀ (n : Nat) (l : List UInt8), l.length ≤ n → c ∈ l → ∃ p ∈ splitL s l, c ∈ p := by
  intro n
  induction n with
  | zero =>
    intro l hl h
    have : l = [] := List.eq_nil_of_length_eq_zero (by omega)
    subst this; cases h
  | succ n ih =>
    intro l hl h
    rcases split_cases s l with ⟨h1, _⟩ | ⟨x, r, e, _, h1⟩
    · exact ⟨l, by rw [h1]; simp, h⟩
    · rw [e] at h hl
      rcases List.mem_append.1 h with h2 | h2
      · exact ⟨x, by rw [h1]; simp, h2⟩
      · rcases List.mem_cons.1 h2 with h3 | h3
        · exact absurd h3 hc
        · obtain ⟨p, hp, hcp⟩ := ih r (by simp at hl; omega) h3
          exact ⟨p, by rw [h1]; exact List.mem_cons_of_mem _ hp, hcp⟩
theorem readD_blank {p : List UInt8} {c : UInt8} (hc : db c = false) (h45 : c ≠ 45) (h : c ∈ p) : readD p = none := by
  refine readD_bad (Or.inr (Or.inr (Or.inr ?_)))
  refine all_fail (c := c) ?_ hc
  unfold atD
  split
  · rename_i he
    cases p with
    | nil => cases h
    | cons a t =>
      have ha : a = 45 := he
      rcases List.mem_cons.1 h with e | e
      · rw [e, ha] at h45; exact absurd rfl h45
      · exact e
  · exact h
theorem readL_blank {l : List UInt8} {c : UInt8} (hc : db c = false) (h45 : c ≠ 45) (h44 : c ≠ 44) (h : c ∈ l) : readL l = none := by
  unfold readL
  rw [if_neg (by intro e; rw [e] at h; simp at h; exact h45 h)]
  split
  · rfl
  · obtain ⟨p, hp, hcp⟩ := mem_split 44 c h44 _ l (Nat.le_refl _) h
    exact readParts_bad hp (by unfold rv; rw [readD_blank hc h45 hcp])
theorem readL_nil : readL [] = none := by
  unfold readL
  rw [if_neg (by decide)]
  have e : splitL 44 [] = [[]] := rfl
  rw [e, if_neg (by decide)]
  exact readParts_bad (p := []) (by simp) (by unfold rv; rw [readD_bad (Or.inl rfl)])
/-- the text behind the first blank, and what stands before it -/
theorem cut_cases (l : List UInt8) : ((Lib.cut l [32]).2.1 = [] ∧ ∀ a b, splitL 32 l ≠ [a, b]) ∨ ∃ r, (Lib.cut l [32]).2.1 = r ∧ ((32 ∈ r ∧ ∀ a b, splitL 32 l ≠ [a, b]) ∨ splitL 32 l = [(Lib.cut l [32]).1, r]) := by
  by_cases hi : Lib.index l [32] = -1
  · left
    have hn := idx_none 32 l hi
    refine ⟨?_, fun a b h => ?_⟩
    · unfold Lib.cut; rw [hi]; rfl
    · rw [splitL_miss 32 l hn] at h; simp at h
  · right
    obtain ⟨i, hi'⟩ : ∃ i : Nat, Lib.index l [32] = i := ⟨(Lib.index l [32]).toNat, by have := Lib.index_ge l [32]; omega⟩
    obtain ⟨e, hx⟩ := idx_some 32 l i hi'
    have c1 : (Lib.cut l [32]).1 = l.take i := by unfold Lib.cut; rw [hi']; simp
    have c2 : (Lib.cut l [32]).2.1 = l.drop (i + 1) := by unfold Lib.cut; rw [hi']; simp
    have hs : splitL 32 l = l.take i :: splitL 32 (l.drop (i + 1)) := by
      conv => lhs; rw [e]
      rw [splitL_hit 32 _ _ hx]
    refine ⟨l.drop (i + 1), c2, ?_⟩
    by_cases hm : (32 : UInt8) ∈ l.drop (i + 1)
    · left
      refine ⟨hm, fun a b h => ?_⟩
      rw [hs] at h
      injection h with _ h2
      rcases split_cases 32 (l.drop (i + 1)) with ⟨_, h3⟩ | ⟨x, r, _, _, h3⟩
      · exact h3 _ hm rfl
      · rw [h3] at h2
        injection h2 with _ h4
        have := splitL_pos' 32 r
        rw [h4] at this; simp at this
    · right
      rw [hs, c1, splitL_miss 32 _ (fun c hc e => hm (e ▸ hc))]
end Go.Proofs.YtcgmpomhklhmaaaDoor
