/-
  Contracts of the model's dividing of a text at a byte, and of SplitWords.
-/
import Derived.Test.YtmppaimcejcoiaaCore2
import Derived.Test.YtmppaimcejcoiaaSplitMath
namespace Go.Proofs.Ytmppaimcejcoiaa
open Go.ChangeShapes Go.WideShapes Go.ChangeAt Go.RowKit
set_option linter.unusedVariables false
set_option linter.unusedSimpArgs false

theorem infoS : (Try.prog.info? 9).map (fun i => (i.zero, i.size, i.bytes)) = some (some (.string ⟨#[]⟩), 1, 16) := by kernel_rfl
def encS (l : List UInt8) : Value := .string ⟨l.toArray⟩
/-- the call hands back a row of texts in new memory -/
def RowRet (L : List (List UInt8)) (w : World) (e : Ending) (w' : World) : Prop :=
  ∃ v, e = .returned v ∧ w'.ownsRow w.heap.size 9 1 v L.length (L.map encS) ∧ Below w.heap.size w w'

theorem _root_.Go.World.ownsRow.own_ge {w : World} {B e size n : Nat} {v : Value} {xs : List Value} (h : w.ownsRow B e size v n xs) (j : Nat) (hj : v.ownBlock = some j) : B ≤ j := by
  rcases h.2 with ⟨h0, _⟩ | ⟨g, cap, cur, hv, hg, _⟩
  · subst h0; cases hj
  · subst hv; cases hj; exact hg

theorem own_kept {w w' : World} {B e size n : Nat} {v : Value} {xs : List Value} (h : w.ownsRow B e size v n xs) (hb : Below w.heap.size w w') : w'.ownsRow B e size v n xs := by
  refine ⟨h.1, ?_⟩
  rcases h.2 with h1 | ⟨g, cap, cur, hv, hg, hc, r⟩
  · exact Or.inl h1
  · refine Or.inr ⟨g, cap, cur, hv, hg, ?_, r⟩
    have hl : g < w.heap.size := (h.lt g (by rw [hv]; rfl)).2
    rw [hb.block g hl]; exact hc
/-- an elder row lies apart from a younger one -/
theorem own_apart {w w' : World} {B e size n m : Nat} {v u : Value} {xs ys : List Value} (h : w.ownsRow B e size v n xs) (k : w'.ownsRow w.heap.size e size u m ys) : v.ownBlock = none ∨ v.ownBlock ≠ u.ownBlock := by
  cases e1 : v.ownBlock with
  | none => exact Or.inl rfl
  | some a =>
    right
    intro e2
    have h1 := (h.lt a e1).2
    have h2 := (k.lt a e2.symm).1
    omega
theorem gtrans {a b c : World} {r : Option Nat} (h : a.grownBy b r) (k : b.grownBy c r) : a.grownBy c r :=
  ⟨k.os.trans h.os, k.tape.trans h.tape, k.output.trans h.output, Nat.le_trans h.size k.size, fun j hj hr => (k.block j (Nat.lt_of_lt_of_le hj h.size) hr).trans (h.block j hj hr)⟩
theorem below_grown' {a b : World} (h : Below a.heap.size a b) (r : Option Nat) : a.grownBy b r :=
  ⟨h.os, h.tape, h.output, h.size, fun j hj _ => h.block j hj⟩
theorem grown_drewN {a b : World} {r : Option Nat} (h : a.grownBy b r) (n : Nat) : a.grownBy (b.drewN n) r := ⟨h.os, h.tape, h.output, h.size, h.block⟩
/-- a row of texts that somebody hands over: where it lies, and its cells -/
theorem row_open {w : World} {B : Nat} {v : Value} {L : List (List UInt8)} (h : w.ownsRow B 9 1 v L.length (L.map encS)) :
    (v = .slice none 0 0 ∧ L = []) ∨ ∃ g cap, v = .slice (some ⟨g, 0, none⟩) L.length cap ∧ B ≤ g ∧ g < w.heap.size ∧ L.length ≤ cap ∧ cap ≤ maxLen ∧ w.frozen? ⟨g, 0, none⟩ = false ∧ ∀ i, i < L.length → w.cell? ⟨g, i, none⟩ = some (encS (L.getD i [])) := by
  have h0 := h
  rcases h.2 with ⟨h1, h2⟩ | ⟨g, cap, cur, hv, hg, hb, hn, hcap, _, _⟩
  · left; exact ⟨h1, List.eq_nil_of_length_eq_zero h2⟩
  · right
    subst hv
    refine ⟨g, cap, rfl, hg, (h0.lt g rfl).2, hn, hcap, h0.frozenAt 0, fun i hi => ?_⟩
    rw [h0.cellAt i (by omega)]
    simp [List.getD, List.getElem?_eq_getElem hi]
theorem own_lower {w : World} {B B' e size n : Nat} {v : Value} {xs : List Value} (h : w.ownsRow B e size v n xs) (hB : B' ≤ B) : w.ownsRow B' e size v n xs := by
  refine ⟨h.1, ?_⟩
  rcases h.2 with h1 | ⟨g, cap, cur, hv, hg, r⟩
  · exact Or.inl h1
  · exact Or.inr ⟨g, cap, cur, hv, Nat.le_trans hB hg, r⟩
def ne0 (x : List UInt8) : Bool := !x.isEmpty
theorem filter_snoc_yes {L : List (List UInt8)} {k : Nat} (h : k < L.length) (hk : ne0 (L.getD k []) = true) : (L.take (k + 1)).filter ne0 = (L.take k).filter ne0 ++ [L.getD k []] := by
  rw [List.take_succ_eq_append_getElem h, List.filter_append]
  have e : L.getD k [] = L[k] := by simp [List.getD, List.getElem?_eq_getElem h]
  rw [e] at hk ⊢
  rw [List.filter_cons_of_pos hk, List.filter_nil]
theorem filter_snoc_no {L : List (List UInt8)} {k : Nat} (h : k < L.length) (hk : ne0 (L.getD k []) = false) : (L.take (k + 1)).filter ne0 = (L.take k).filter ne0 := by
  rw [List.take_succ_eq_append_getElem h, List.filter_append]
  have e : L.getD k [] = L[k] := by simp [List.getD, List.getElem?_eq_getElem h]
  rw [e] at hk
  rw [List.filter_cons_of_neg (by simp [hk]), List.filter_nil, List.append_nil]
theorem enc_empty (l : List UInt8) : (⟨l.toArray⟩ : ByteArray).toList.isEmpty = l.isEmpty := by rw [ByteArray.toList_mk]
theorem splitL_len (b : UInt8) (l : List UInt8) : (splitL b l).length ≤ l.length + 1 := by
  have := splitSt_len b l; unfold splitL; simp; omega
theorem splitL_pos (b : UInt8) (l : List UInt8) : 0 < (splitL b l).length := by unfold splitL; simp
theorem fold_words (s : ByteArray) (P : List (List UInt8)) (h : P = splitL 32 s.data.toList) : P.filter ne0 = wordsL s.data.toList := by subst h; rfl

end Go.Proofs.Ytmppaimcejcoiaa
