/-
  Plain lemmas on laps and numbers with places: their texts and the model's readers. Nothing of the program stands here.
-/
import Derived.Test.YtcgmpomhklhmaaaDoorTextMath
namespace Go.Proofs.YtcgmpomhklhmaaaDoor
/-- the model's reader of laps -/
def lapR (l : List UInt8) : Option Int :=
  match splitL 58 l with
  | [a, b] => if b.length = 2 ∧ b.all db = true then
      (match readD a with
        | some m => if 0 ≤ m ∧ m ≤ 1000000000 ∧ valF 0 b ≤ 59 ∧ 60 * m + valF 0 b ≤ 1000000000 then some (60 * m + valF 0 b) else none
        | none => none) else none
  | _ => none
theorem split_cases (s : UInt8) (l : List UInt8) : (splitL s l = [l] ∧ ∀ c ∈ l, c ≠ s) ∨ ∃ x r, l = x ++ s :: r ∧ (∀ c ∈ x, c ≠ s) ∧ splitL s l = x :: splitL s r := by
  by_cases h : s ∈ l
  · obtain ⟨x, r, e, hn⟩ := List.eq_append_cons_of_mem h
    have hx : ∀ c ∈ x, c ≠ s := fun c hc e => hn (e ▸ hc)
    exact Or.inr ⟨x, r, e, hx, by rw [e]; exact splitL_hit s x r hx⟩
  · have hx : ∀ c ∈ l, c ≠ s := fun c hc e => h (e ▸ hc)
    exact Or.inl ⟨splitL_miss s l hx, hx⟩
theorem split_join2 (s : UInt8) (l a b : List UInt8) (h : splitL s l = [a, b]) : l = a ++ s :: b := by
  rcases split_cases s l with ⟨h1, _⟩ | ⟨x, r, e, _, h1⟩
  · rw [h1] at h; simp at h
  · rw [h1] at h
    injection h with h2 h3
    rcases split_cases s r with ⟨h4, _⟩ | ⟨y, q, _, _, h4⟩
    · rw [h4] at h3
      injection h3 with h5 _
      rw [e, h2, h5]
    · rw [h4] at h3
      injection h3 with _ h6
      have := splitL_pos' s q
      rw [h6] at this; simp at this
theorem lap_sound {l : List UInt8} {n : Int} (h : lapR l = some n) : ∃ k : Nat, n = k ∧ k ≤ 1000000000 ∧ lapL k = l := by
  unfold lapR at h
  split at h
  · rename_i a b hs
    split at h
    · rename_i hb
      split at h
      · rename_i m hm
        split at h
        · rename_i hc
          obtain ⟨M, rfl⟩ := Int.eq_ofNat_of_zero_le hc.1
          have e := Option.some.inj h
          refine ⟨60 * M + valF 0 b, by omega, by omega, ?_⟩
          unfold lapL
          rw [show (60 * M + valF 0 b) / 60 = M by omega, show (60 * M + valF 0 b) % 60 = valF 0 b by omega, dN_back 2 b hb.1 hb.2, (readD_some hm).1]
          exact (split_join2 58 l a b hs).symm
        · cases h
      · cases h
    · cases h
  · cases h
theorem itoa_len_le (j : Nat) (n : Nat) (h : n < 10 ^ (j + 1)) : (Lib.itoa (n : Int)).length ≤ j + 1 := by
  by_cases h0 : n = 0
  · subst h0; rw [show ((0 : Nat) : Int) = 0 from rfl, itoa_zero]; simp
  · rw [itoa_pos n (by omega)]; exact digsN_len _ _ h
theorem db58 : db 58 = false := by decide
theorem db45 : db 45 = false := by decide
theorem db46 : db 46 = false := by decide
theorem lap_split (k : Nat) : splitL 58 (lapL k) = [Lib.itoa ((k / 60 : Nat) : Int), dN 2 (k % 60)] :=
  split_one 58 _ _ (all_ne (itoa_all _) db58) (all_ne (dN_all _ _) db58)
theorem lap_full (k : Nat) (h : k ≤ 1000000000) : lapR (lapL k) = some (k : Int) := by
  have hm : readD (Lib.itoa ((k / 60 : Nat) : Int)) = some ((k / 60 : Nat) : Int) := by
    apply readD_itoa
    rw [List.length_drop]
    have := itoa_len_le 9 (k / 60) (by omega)
    omega
  unfold lapR
  rw [lap_split]
  simp only [dN_len, dN_all, and_self, if_true, hm]
  rw [dN_val 2 (k % 60) (by omega), if_pos (by omega)]
  congr 1; omega
theorem clock_split (k : Nat) : splitL 58 (clockL k) = [dN 2 (k / 60), dN 2 (k % 60)] :=
  split_one 58 _ _ (all_ne (dN_all _ _) db58) (all_ne (dN_all _ _) db58)
theorem date_split (y m d : Nat) : splitL 45 (dateL y m d) = [dN 4 y, dN 2 m, dN 2 d] :=
  split_two 45 _ _ _ (all_ne (dN_all _ _) db45) (all_ne (dN_all _ _) db45) (all_ne (dN_all _ _) db45)
theorem fix_split (n p : Nat) : splitL 46 (fixU n p) = [Lib.itoa ((n / 10 ^ p : Nat) : Int), dN p (n % 10 ^ p)] :=
  split_one 46 _ _ (all_ne (itoa_all _) db46) (all_ne (dN_all _ _) db46)
end Go.Proofs.YtcgmpomhklhmaaaDoor
