/-
  Plain lemmas: the library's dividing of a text, up to so many parts, against the model's. Nothing of the program stands here.
-/
import Derived.Test.YtcgmpomhklhmaaaDoorSplitMath
import Derived.Test.YtcgmpomhklhmaaaDoorReadMath
import Derived.Test.YtcgmpomhklhmaaaDoorListMath
import Derived.Lib.Split
import Derived.Lib.IndexLaws
import Derived.Lib.IndexBytes
namespace Go.Proofs.YtcgmpomhklhmaaaDoor
theorem fold_out (b : UInt8) (r : List UInt8) : ∀ (out : List (List UInt8)) (cur : List UInt8), r.foldl (splitStep b) (out, cur) = (out ++ (r.foldl (splitStep b) ([], cur)).1, (r.foldl (splitStep b) ([], cur)).2) := by
  induction r with
  | nil => intro out cur; simp
  | cons c r ih =>
    intro out cur
    rw [List.foldl_cons, List.foldl_cons]
    by_cases h : c = b
    · have e : ∀ o u, splitStep b (o, u) c = (o ++ [u], []) := fun o u => by unfold splitStep; rw [if_pos h]
      rw [e, e, ih (out ++ [cur]) [], ih ([] ++ [cur]) []]
      simp
    · have e : ∀ o u, splitStep b (o, u) c = (o, u ++ [c]) := fun o u => by unfold splitStep; rw [if_neg h]
      rw [e, e, ih out (cur ++ [c])]
theorem splitL_miss (b : UInt8) (l : List UInt8) (h : ∀ c ∈ l, c ≠ b) : splitL b l = [l] := by
  have := splitSt_more b [] l h
  rw [List.nil_append] at this
  unfold splitL; rw [this]; rfl
theorem splitL_hit (b : UInt8) (x r : List UInt8) (h : ∀ c ∈ x, c ≠ b) : splitL b (x ++ b :: r) = x :: splitL b r := by
  have h1 := splitSt_more b [] x h
  rw [List.nil_append] at h1
  have h2 : splitSt b (x ++ [b]) = ([x], []) := by rw [splitSt_hit b x b rfl, h1]; rfl
  have h3 : splitSt b (x ++ b :: r) = ([x] ++ (splitSt b r).1, (splitSt b r).2) := by
    have e : x ++ b :: r = (x ++ [b]) ++ r := by simp
    rw [e]
    unfold splitSt at h2 ⊢
    rw [List.foldl_append, h2, fold_out]
  unfold splitL; rw [h3]; rfl
theorem idx_none (b : UInt8) (l : List UInt8) (h : Lib.index l [b] = -1) : ∀ c ∈ l, c ≠ b := by
  rw [Lib.index_one] at h
  intro c hc e
  obtain ⟨k, hk, hkc⟩ := List.mem_iff_getElem.1 hc
  exact Lib.indexByte_none h k (by rw [List.getElem?_eq_getElem hk, hkc, e])
theorem idx_some (b : UInt8) (l : List UInt8) (i : Nat) (h : Lib.index l [b] = i) : l = l.take i ++ b :: l.drop (i + 1) ∧ ∀ c ∈ l.take i, c ≠ b := by
  rw [Lib.index_one] at h
  obtain ⟨h1, h2⟩ := Lib.indexByte_some h
  obtain ⟨hi, hib⟩ := List.getElem?_eq_some_iff.1 h1
  refine ⟨?_, fun c hc e => ?_⟩
  · conv => lhs; rw [← List.take_append_drop i l]
    rw [List.drop_eq_getElem_cons hi, hib]
  · obtain ⟨k, hk, hkc⟩ := List.mem_iff_getElem.1 hc
    rw [List.length_take] at hk
    rw [List.getElem_take] at hkc
    exact h2 k (by omega) (by rw [List.getElem?_eq_getElem (by omega), hkc, e])
theorem splitL_pos' (b : UInt8) (l : List UInt8) : 0 < (splitL b l).length := by unfold splitL; simp
/-- up to k cuts: all parts if there are no more than k + 1, else k + 1 parts -/
theorem splitK_all (b : UInt8) : ∀ (k : Nat) (l : List UInt8), (splitL b l).length ≤ k + 1 → Lib.splitK [b] 0 k l = splitL b l
  | 0, l, h => by
    by_cases hi : Lib.index l [b] = -1
    · rw [splitL_miss b l (idx_none b l hi)]; rfl
    · obtain ⟨i, hi'⟩ : ∃ i : Nat, Lib.index l [b] = i := ⟨(Lib.index l [b]).toNat, by have := Lib.index_ge l [b]; omega⟩
      obtain ⟨e, hx⟩ := idx_some b l i hi'
      rw [e, splitL_hit b _ _ hx, List.length_cons] at h
      have := splitL_pos' b (l.drop (i + 1))
      omega
  | k + 1, l, h => by
    by_cases hi : Lib.index l [b] = -1
    · rw [splitL_miss b l (idx_none b l hi)]
      unfold Lib.splitK; rw [if_pos (by rw [hi]; rfl)]
    · obtain ⟨i, hi'⟩ : ∃ i : Nat, Lib.index l [b] = i := ⟨(Lib.index l [b]).toNat, by have := Lib.index_ge l [b]; omega⟩
      obtain ⟨e, hx⟩ := idx_some b l i hi'
      have hs : splitL b l = l.take i :: splitL b (l.drop (i + 1)) := by
        conv => lhs; rw [e]
        rw [splitL_hit b _ _ hx]
      rw [hs, List.length_cons] at h
      rw [hs]
      unfold Lib.splitK
      rw [if_neg (by rw [hi']; simp), hi', splitK_all b k _ (by simp only [Int.toNat_natCast, List.length_singleton]; omega)]
      simp
theorem splitK_long (b : UInt8) : ∀ (k : Nat) (l : List UInt8), k + 1 ≤ (splitL b l).length → (Lib.splitK [b] 0 k l).length = k + 1
  | 0, l, _ => rfl
  | k + 1, l, h => by
    by_cases hi : Lib.index l [b] = -1
    · rw [splitL_miss b l (idx_none b l hi)] at h; simp at h
    · obtain ⟨i, hi'⟩ : ∃ i : Nat, Lib.index l [b] = i := ⟨(Lib.index l [b]).toNat, by have := Lib.index_ge l [b]; omega⟩
      obtain ⟨e, hx⟩ := idx_some b l i hi'
      have hs : splitL b l = l.take i :: splitL b (l.drop (i + 1)) := by
        conv => lhs; rw [e]
        rw [splitL_hit b _ _ hx]
      rw [hs, List.length_cons] at h
      unfold Lib.splitK
      rw [if_neg (by rw [hi']; simp), hi', List.length_cons, splitK_long b k _ (by simp only [Int.toNat_natCast, List.length_singleton]; omega)]

theorem part_len (b : UInt8) : ∀ (n : Nat) (l : List UInt8), l.length ≤ n → ∀ p ∈ splitL b l, p.length ≤ l.length := by
  intro n
  induction n with
  | zero =>
    intro l hl p hp
    have : l = [] := List.eq_nil_of_length_eq_zero (by omega)
    subst this
    have e : splitL b [] = [[]] := rfl
    rw [e] at hp
    simp at hp; subst hp; exact Nat.le_refl 0
  | succ n ih =>
    intro l hl p hp
    by_cases hi : Lib.index l [b] = -1
    · rw [splitL_miss b l (idx_none b l hi)] at hp
      simp at hp; subst hp; exact Nat.le_refl _
    · obtain ⟨i, hi'⟩ : ∃ i : Nat, Lib.index l [b] = i := ⟨(Lib.index l [b]).toNat, by have := Lib.index_ge l [b]; omega⟩
      obtain ⟨e, hx⟩ := idx_some b l i hi'
      have hs : splitL b l = l.take i :: splitL b (l.drop (i + 1)) := by
        conv => lhs; rw [e]
        rw [splitL_hit b _ _ hx]
      have hpos : 0 < l.length := by rw [e]; simp; omega
      rw [hs] at hp
      rcases List.mem_cons.1 hp with h | h
      · subst h; rw [List.length_take]; omega
      · have := ih (l.drop (i + 1)) (by rw [List.length_drop]; omega) p h
        rw [List.length_drop] at this; omega
/-- a part's number, if it is one and in its limits -/
def rv (p : List UInt8) : Option Int := match readD p with | some n => if inV n then some n else none | none => none
def readParts : List (List UInt8) → Option (List Int)
  | [] => some []
  | p :: r => match rv p with | none => none | some n => (readParts r).map (n :: ·)
theorem readParts_bad {P : List (List UInt8)} {p : List UInt8} (h : p ∈ P) (hp : rv p = none) : readParts P = none := by
  induction P with
  | nil => cases h
  | cons q r ih =>
    unfold readParts
    rcases List.mem_cons.1 h with e | e
    · rw [← e, hp]
    · cases rv q with
      | none => rfl
      | some n => simp only; rw [ih e]; rfl
theorem readParts_snoc {P : List (List UInt8)} {Z : List Int} {p : List UInt8} {n : Int} (h : readParts P = some Z) (hp : rv p = some n) : readParts (P ++ [p]) = some (Z ++ [n]) := by
  induction P generalizing Z with
  | nil => cases h; simp [readParts, hp]
  | cons q r ih =>
    unfold readParts at h
    rw [List.cons_append]
    unfold readParts
    cases hq : rv q with
    | none => rw [hq] at h; cases h
    | some m =>
      rw [hq] at h
      simp only at h ⊢
      cases hr : readParts r with
      | none => rw [hr] at h; cases h
      | some Y =>
        rw [hr] at h
        rw [ih hr]
        cases h; rfl
theorem readParts_take {P : List (List UInt8)} {k : Nat} {Z : List Int} {n : Int} (hk : k < P.length) (h : readParts (P.take k) = some Z) (hp : rv P[k] = some n) : readParts (P.take (k + 1)) = some (Z ++ [n]) := by
  rw [List.take_succ_eq_append_getElem hk]; exact readParts_snoc h hp
def readL (l : List UInt8) : Option (List Int) := if l = [45] then some [] else if 64 < (splitL 44 l).length then none else readParts (splitL 44 l)
theorem rv_in {p : List UInt8} {n : Int} (h : rv p = some n) : -1000000000000 ≤ n ∧ n ≤ 1000000000000 := by
  unfold rv at h
  cases hr : readD p with
  | none => rw [hr] at h; cases h
  | some m =>
    rw [hr] at h
    simp only at h
    split at h
    · rename_i hv; cases h; exact inB_iff.1 hv
    · cases h
theorem readD_of_rv {p : List UInt8} {n : Int} (h : rv p = some n) : readD p = some n ∧ inV n = true := by
  unfold rv at h
  cases hr : readD p with
  | none => rw [hr] at h; cases h
  | some m =>
    rw [hr] at h
    simp only at h
    split at h
    · rename_i hv; cases h; exact ⟨rfl, hv⟩
    · cases h
theorem readD_no {p : List UInt8} (h : rv p = none) : readD p = none ∨ ∃ n, readD p = some n ∧ inV n = false := by
  unfold rv at h
  cases hr : readD p with
  | none => exact Or.inl rfl
  | some m =>
    rw [hr] at h
    simp only at h
    split at h
    · cases h
    · rename_i hv; exact Or.inr ⟨m, rfl, by simpa using hv⟩
theorem readParts_in : ∀ {P : List (List UInt8)} {Z : List Int}, readParts P = some Z → ∀ n ∈ Z, -1000000000000 ≤ n ∧ n ≤ 1000000000000
  | [], Z, h, n, hn => by cases h; cases hn
  | p :: r, Z, h, n, hn => by
    unfold readParts at h
    cases hp : rv p with
    | none => rw [hp] at h; cases h
    | some m =>
      rw [hp] at h
      simp only at h
      cases hr : readParts r with
      | none => rw [hr] at h; cases h
      | some Y =>
        rw [hr] at h
        cases h
        rcases List.mem_cons.1 hn with e | e
        · subst e; exact rv_in hp
        · exact readParts_in hr n e
theorem readParts_len : ∀ {P : List (List UInt8)} {Z : List Int}, readParts P = some Z → Z.length = P.length
  | [], Z, h => by cases h; rfl
  | p :: r, Z, h => by
    unfold readParts at h
    cases hp : rv p with
    | none => rw [hp] at h; cases h
    | some m =>
      rw [hp] at h
      simp only at h
      cases hr : readParts r with
      | none => rw [hr] at h; cases h
      | some Y =>
        rw [hr] at h
        cases h
        rw [List.length_cons, List.length_cons, readParts_len hr]
end Go.Proofs.YtcgmpomhklhmaaaDoor
