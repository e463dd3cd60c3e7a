/-
  Plain lemmas on dividing a text at a byte. Nothing of the program stands here.
-/
import Derived.Test.YtmppaimcejcoiaaBytes
namespace Go.Proofs.Ytmppaimcejcoiaa
def splitStep (b : UInt8) (st : List (List UInt8) × List UInt8) (c : UInt8) : List (List UInt8) × List UInt8 :=
  if c = b then (st.1 ++ [st.2], []) else (st.1, st.2 ++ [c])
def splitSt (b : UInt8) (l : List UInt8) : List (List UInt8) × List UInt8 := l.foldl (splitStep b) ([], [])
def splitL (b : UInt8) (l : List UInt8) : List (List UInt8) := (splitSt b l).1 ++ [(splitSt b l).2]
theorem splitSt_snoc (b : UInt8) (l : List UInt8) (c : UInt8) : splitSt b (l ++ [c]) = splitStep b (splitSt b l) c := by
  unfold splitSt; rw [List.foldl_append]; rfl
theorem splitSt_hit (b : UInt8) (l : List UInt8) (c : UInt8) (h : c = b) : splitSt b (l ++ [c]) = ((splitSt b l).1 ++ [(splitSt b l).2], []) := by
  rw [splitSt_snoc]; unfold splitStep; rw [if_pos h]
theorem splitSt_miss (b : UInt8) (l : List UInt8) (c : UInt8) (h : c ≠ b) : splitSt b (l ++ [c]) = ((splitSt b l).1, (splitSt b l).2 ++ [c]) := by
  rw [splitSt_snoc]; unfold splitStep; rw [if_neg h]
theorem splitSt_more (b : UInt8) (l m : List UInt8) (h : ∀ c ∈ m, c ≠ b) : splitSt b (l ++ m) = ((splitSt b l).1, (splitSt b l).2 ++ m) := by
  induction m generalizing l with
  | nil => simp
  | cons c m ih =>
    rw [show l ++ c :: m = (l ++ [c]) ++ m by simp, ih (l ++ [c]) (fun d hd => h d (List.mem_cons_of_mem _ hd)), splitSt_miss b l c (h c List.mem_cons_self)]
    simp
/-- how many parts: at most one more than bytes -/
theorem splitSt_len (b : UInt8) (l : List UInt8) : (splitSt b l).1.length ≤ l.length := by
  have key : ∀ (l : List UInt8) (st : List (List UInt8) × List UInt8), (l.foldl (splitStep b) st).1.length ≤ st.1.length + l.length := by
    intro l
    induction l with
    | nil => intro st; simp
    | cons c l ih =>
      intro st
      rw [List.foldl_cons]
      refine Nat.le_trans (ih _) ?_
      unfold splitStep
      split
      · simp; omega
      · simp
  have := key l ([], [])
  simp only [List.length_nil, Nat.zero_add] at this
  exact this
/-- the words of a line: the parts between blanks that are not empty -/
def wordsL (l : List UInt8) : List (List UInt8) := (splitL 32 l).filter fun x => !x.isEmpty

/-- the bytes from a up to b -/
def piece (l : List UInt8) (a b : Nat) : List UInt8 := (l.drop a).take (b - a)
theorem piece_nil (l : List UInt8) (a : Nat) : piece l a a = [] := by unfold piece; simp
theorem piece_snoc (s : ByteArray) (a k : Nat) (h : a ≤ k) (hk : k < s.size) : piece s.data.toList a (k + 1) = piece s.data.toList a k ++ [s[k]] := by
  unfold piece
  have e : k + 1 - a = (k - a) + 1 := by omega
  have hl : k - a < (s.data.toList.drop a).length := by rw [List.length_drop, len_data]; omega
  rw [e, List.take_succ_eq_append_getElem hl]
  congr 2
  rw [List.getElem_drop]
  have : a + (k - a) = k := by omega
  simp only [this]; rfl
theorem extract_piece (s : ByteArray) (a b : Nat) : (s.extract a b).data.toList = piece s.data.toList a b := by
  unfold piece
  rw [ByteArray.data_extract, Array.toList_extract, List.extract_eq_take_drop]
theorem bytes_of (s : ByteArray) (l : List UInt8) (h : s.data.toList = l) : s = ⟨l.toArray⟩ := by
  subst h; rfl
theorem extract_bytes (s : ByteArray) (a b : Nat) : s.extract a b = ⟨(piece s.data.toList a b).toArray⟩ := bytes_of _ _ (extract_piece s a b)

/-- where the dividing stands at byte k: the parts so far, and where the next one begins -/
def SplitAt (b : UInt8) (s : ByteArray) (k fr : Nat) (L : List (List UInt8)) : Prop := fr ≤ k ∧ splitSt b (s.data.toList.take k) = (L, piece s.data.toList fr k)
theorem SplitAt.start (b : UInt8) (s : ByteArray) : SplitAt b s 0 0 [] := ⟨Nat.le_refl 0, by simp [splitSt, piece]⟩
theorem SplitAt.hit {b : UInt8} {s : ByteArray} {k fr : Nat} {L : List (List UInt8)} (h : SplitAt b s k fr L) (hk : k < s.size) (hc : s[k] = b) : SplitAt b s (k + 1) (k + 1) (L ++ [piece s.data.toList fr k]) := by
  refine ⟨Nat.le_refl _, ?_⟩
  rw [take_snoc s k hk, splitSt_hit b _ _ hc, h.2, piece_nil]
theorem SplitAt.miss {b : UInt8} {s : ByteArray} {k fr : Nat} {L : List (List UInt8)} (h : SplitAt b s k fr L) (hk : k < s.size) (hc : s[k] ≠ b) : SplitAt b s (k + 1) fr L := by
  refine ⟨Nat.le_succ_of_le h.1, ?_⟩
  rw [take_snoc s k hk, splitSt_miss b _ _ hc, h.2, piece_snoc s fr k h.1 hk]
theorem SplitAt.done {b : UInt8} {s : ByteArray} {fr : Nat} {L : List (List UInt8)} (h : SplitAt b s s.size fr L) : splitL b s.data.toList = L ++ [piece s.data.toList fr s.size] := by
  have e := h.2
  rw [take_all] at e
  unfold splitL; rw [e]
theorem SplitAt.len {b : UInt8} {s : ByteArray} {k fr : Nat} {L : List (List UInt8)} (h : SplitAt b s k fr L) : L.length ≤ k := by
  have := splitSt_len b (s.data.toList.take k)
  rw [h.2] at this
  exact Nat.le_trans this (List.length_take_le _ _)
end Go.Proofs.Ytmppaimcejcoiaa
