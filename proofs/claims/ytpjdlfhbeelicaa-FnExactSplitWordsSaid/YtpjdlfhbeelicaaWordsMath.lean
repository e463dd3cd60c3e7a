/-
  Plain lemmas: dividing at runes equal to a blank gives the same words as dividing at the byte. Nothing of the program stands here.
-/
import Derived.Test.YtpjdlfhbeelicaaSplitMath
import Derived.Lib.FieldsP
import Derived.Lib.MapLaws
import Derived.Lib.DecodeN
import Derived.Lib.RuneCount
namespace Go.Proofs.Ytpjdlfhbeelicaa
theorem get_bang (s : ByteArray) (i : Nat) (h : i < s.size) : s.get! i = s[i] := by
  have : i < s.data.size := h
  show s.data[i]! = s.data[i]
  exact getElem!_pos s.data i this
theorem dec_cases (s : ByteArray) (pos : Nat) (h : pos < s.size) :
    1 ≤ (Utf8.decode s pos).2 ∧ pos + (Utf8.decode s pos).2 ≤ s.size ∧ ((Utf8.decode s pos).1 = 32 → s[pos] = 32 ∧ (Utf8.decode s pos).2 = 1) ∧
    ((Utf8.decode s pos).1 ≠ 32 → ∀ j, j < (Utf8.decode s pos).2 → (s.get! (pos + j)).toNat ≠ 32) := by
  have e := Lib.decode_at s pos
  have g := get_bang s pos h
  generalize hb1 : (s.get! (pos + 1)).toNat = b1 at e
  generalize hb2 : (s.get! (pos + 2)).toNat = b2 at e
  generalize hb3 : (s.get! (pos + 3)).toNat = b3 at e
  have w1 := Lib.decode_width_pos s pos h
  refine ⟨w1, ?_, ?_, ?_⟩
  · have := Lib.decodeN_le_n' (s.size - pos) (s.get! pos).toNat b1 b2 b3 (by omega)
    rw [← e] at this; omega
  · intro h32
    rcases Lib.decodeN_shape (s.size - pos) (s.get! pos).toNat b1 b2 b3 with ⟨_, c⟩ | ⟨_, _, _, _, c⟩ | ⟨_, _, _, _, _, _, c⟩ | ⟨_, _, _, _, _, _, _, c⟩ | c
    all_goals
      rw [e, c] at h32 ⊢
      simp only at h32
    · refine ⟨?_, rfl⟩
      rw [← g]; exact UInt8.toNat_inj.1 h32
    all_goals (exfalso; omega)
  · intro h32 j hj
    rcases Lib.decodeN_shape (s.size - pos) (s.get! pos).toNat b1 b2 b3 with ⟨_, c⟩ | ⟨_, _, _, _, c⟩ | ⟨_, _, _, _, _, _, c⟩ | ⟨_, _, _, _, _, _, _, c⟩ | c
    · rw [e, c] at h32 hj
      simp only at h32 hj
      obtain rfl : j = 0 := by omega
      exact h32
    · rw [e, c] at hj
      simp only at hj
      rcases (show j = 0 ∨ j = 1 by omega) with rfl | rfl
      · rw [Nat.add_zero]; omega
      · rw [hb1]; omega
    · rw [e, c] at hj
      simp only at hj
      rcases (show j = 0 ∨ j = 1 ∨ j = 2 by omega) with rfl | rfl | rfl
      · rw [Nat.add_zero]; omega
      · rw [hb1]; omega
      · rw [hb2]; omega
    · rw [e, c] at hj
      simp only at hj
      rcases (show j = 0 ∨ j = 1 ∨ j = 2 ∨ j = 3 by omega) with rfl | rfl | rfl | rfl
      · rw [Nat.add_zero]; omega
      · rw [hb1]; omega
      · rw [hb2]; omega
      · rw [hb3]; omega
    · have h0 : (s.get! pos).toNat ≠ 32 := by
        intro h0
        rw [h0] at c
        have : Lib.decodeN (s.size - pos) 32 b1 b2 b3 = (32, 1) := by unfold Lib.decodeN; rfl
        rw [this] at c
        simp at c
      rw [e, c] at hj
      simp only at hj
      obtain rfl : j = 0 := by omega
      rw [Nat.add_zero]; exact h0
theorem dec_bytes (s : ByteArray) (pos : Nat) (h : pos < s.size) (h32 : (Utf8.decode s pos).1 ≠ 32) : ∀ c ∈ (s.data.toList.drop pos).take (Utf8.decode s pos).2, c ≠ (32 : UInt8) := by
  obtain ⟨_, hle, _, hj⟩ := dec_cases s pos h
  intro c hc
  obtain ⟨j, hjl, hcj⟩ := List.mem_iff_getElem.1 hc
  have hjw : j < (Utf8.decode s pos).2 := by rw [List.length_take] at hjl; omega
  have := hj h32 j hjw
  rw [get_bang s (pos + j) (by omega)] at this
  intro hcc
  apply this
  have e : c = s[pos + j]'(by omega) := by
    rw [← hcj, List.getElem_take, List.getElem_drop]; rfl
  rw [← e, hcc]; rfl

/-- what the library's spans say at byte pos -/
def WordsAt (s : ByteArray) (pos : Nat) (st : Option Nat) (acc : List (Nat × Nat)) : Prop :=
  acc.map (fun x => piece s.data.toList x.1 x.2) = (splitSt 32 (s.data.toList.take pos)).1.filter (fun x => !x.isEmpty) ∧
  (match st with | none => (splitSt 32 (s.data.toList.take pos)).2 = [] | some a => a < pos ∧ (splitSt 32 (s.data.toList.take pos)).2 = piece s.data.toList a pos)
theorem piece_grow (l : List UInt8) (a pos k : Nat) (h : a ≤ pos) : piece l a pos ++ (l.drop pos).take k = piece l a (pos + k) := Lib.pieceU_grow l a pos k h
theorem take_grow (l : List UInt8) (pos k : Nat) : l.take (pos + k) = l.take pos ++ (l.drop pos).take k := List.take_add
theorem piece_ne (s : ByteArray) (a pos : Nat) (h : a < pos) (hp : pos ≤ s.size) : (piece s.data.toList a pos).isEmpty = false := by
  cases e : piece s.data.toList a pos with
  | nil =>
    have : (piece s.data.toList a pos).length = 0 := by rw [e]; rfl
    unfold piece at this
    rw [List.length_take, List.length_drop, len_data] at this
    omega
  | cons _ _ => rfl
theorem close_words (s : ByteArray) (st : Option Nat) (acc : List (Nat × Nat)) (h : WordsAt s s.size st acc) :
    (Lib.closeSpans s (acc, st)).map (fun x => piece s.data.toList x.1 x.2) = wordsL s.data.toList := by
  obtain ⟨h1, h2⟩ := h
  rw [take_all] at h1 h2
  unfold wordsL splitL
  rw [List.filter_append]
  cases st with
  | none =>
    simp only at h2
    simp [Lib.closeSpans, h1, h2]
  | some a =>
    simp only at h2
    have := piece_ne s a s.size h2.1 (Nat.le_refl _)
    simp [Lib.closeSpans, h1, h2.2, this]
theorem spans_words (s : ByteArray) : ∀ (f pos : Nat) (st : Option Nat) (acc : List (Nat × Nat)), pos ≤ s.size → s.size ≤ pos + f → WordsAt s pos st acc →
    (Lib.closeSpans s (Lib.spansFromP (fun r => r == 32) s f pos st acc)).map (fun x => piece s.data.toList x.1 x.2) = wordsL s.data.toList
  | 0, pos, st, acc, hp, hf, h => by
    obtain rfl : pos = s.size := by omega
    exact close_words s st acc h
  | f + 1, pos, st, acc, hp, hf, h => by
    by_cases hlt : pos < s.size
    · obtain ⟨hw1, hwle, hsp, _⟩ := dec_cases s pos hlt
      have hby := dec_bytes s pos hlt
      unfold Lib.spansFromP
      rw [if_pos hlt]
      by_cases h32 : (Utf8.decode s pos).1 = 32
      · obtain ⟨hc, hw⟩ := hsp h32
        rw [if_pos (by simp [h32]), hw]
        obtain ⟨h1, h2⟩ := h
        have hn := splitSt_hit 32 (s.data.toList.take pos) s[pos] hc
        rw [← take_snoc s pos hlt] at hn
        cases st with
        | none =>
          simp only at h2
          refine spans_words s f (pos + 1) none acc (by omega) (by omega) ⟨?_, ?_⟩
          · rw [hn, h1, h2, List.filter_append]; simp
          · show (splitSt 32 (s.data.toList.take (pos + 1))).2 = []; rw [hn]
        | some a =>
          simp only at h2
          refine spans_words s f (pos + 1) none _ (by omega) (by omega) ⟨?_, ?_⟩
          · have := piece_ne s a pos h2.1 (by omega)
            rw [hn, List.map_append, h1, h2.2, List.filter_append]; simp [this]
          · show (splitSt 32 (s.data.toList.take (pos + 1))).2 = []; rw [hn]
      · rw [if_neg (by simp [h32])]
        obtain ⟨h1, h2⟩ := h
        have hm := splitSt_more 32 (s.data.toList.take pos) _ (hby h32)
        rw [← take_grow] at hm
        cases st with
        | none =>
          simp only at h2
          refine spans_words s f _ (some pos) acc (by omega) (by omega) ⟨?_, ?_⟩
          · rw [hm]; exact h1
          · show pos < pos + _ ∧ _
            refine ⟨by omega, ?_⟩
            rw [hm, h2, ← piece_nil s.data.toList pos, piece_grow _ _ _ _ (Nat.le_refl _)]
        | some a =>
          simp only at h2
          refine spans_words s f _ (some a) acc (by omega) (by omega) ⟨?_, ?_⟩
          · rw [hm]; exact h1
          · show a < pos + _ ∧ _
            refine ⟨by omega, ?_⟩
            rw [hm, h2.2, piece_grow _ _ _ _ (by omega)]
    · obtain rfl : pos = s.size := by omega
      rw [Lib.spansFromP_end _ _ _ _ _ _ hlt]
      exact close_words s st acc h
theorem goFields_words (s : ByteArray) : Lib.goFieldsP (fun r => r == 32) s = (wordsL s.data.toList).map fun l => (⟨l.toArray⟩ : ByteArray) := by
  unfold Lib.goFieldsP Lib.spansOfP
  rw [← spans_words s s.size 0 none [] (by omega) (by omega) ⟨by simp [splitSt], by simp [splitSt]⟩, List.map_map]
  exact List.map_congr_left fun x _ => extract_bytes s x.1 x.2
end Go.Proofs.Ytpjdlfhbeelicaa
