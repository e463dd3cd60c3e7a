/-
  Plates out of texts: mathematics.
-/
import Derived.Test.YtgffgaeingaihaaDoorCutMath
import Derived.Test.YtgffgaeingaihaaDoorPlt
import Derived.Test.YtgffgaeingaihaaDoorReadListI
import Derived.Test.YtgffgaeingaihaaDoorGridM
namespace Go.Proofs.YtgffgaeingaihaaDoor
open Go.ChangeShapes Go.WideShapes Go.ChangeAt Go.RowKit Go.Deep
set_option linter.unusedVariables false
set_option linter.unusedSimpArgs false
set_option maxRecDepth 1000000
theorem splitK_part (b : UInt8) : ∀ (k : Nat) (l : List UInt8), ∀ p ∈ Lib.splitK [b] 0 k l, p.length ≤ l.length
  | 0, l, p, hp => by
    have e : Lib.splitK [b] 0 0 l = [l] := rfl
    rw [e] at hp
    rw [List.mem_singleton.1 hp]; exact Nat.le_refl _
  | k + 1, l, p, hp => by
    unfold Lib.splitK at hp
    split at hp
    · rw [List.mem_singleton.1 hp]; exact Nat.le_refl _
    · rcases List.mem_cons.1 hp with h | h
      · subst h; rw [List.length_take]; exact Nat.min_le_right _ _
      · have := splitK_part b k _ p h
        simp only [List.length_drop] at this
        omega
/-- the rows of texts, if each is one -/
def rowsP : List (List UInt8) → Option (List (List Int))
  | [] => some []
  | p :: r => match readL p with | none => none | some Z => (rowsP r).map (Z :: ·)
theorem rowsP_bad {P : List (List UInt8)} {p : List UInt8} (h : p ∈ P) (hp : readL p = none) : rowsP P = none := by
  induction P with
  | nil => cases h
  | cons q r ih =>
    unfold rowsP
    rcases List.mem_cons.1 h with e | e
    · rw [← e, hp]
    · cases readL q with
      | none => rfl
      | some n => simp only; rw [ih e]; rfl
theorem rowsP_snoc {P : List (List UInt8)} {G : List (List Int)} {p : List UInt8} {Z : List Int} (h : rowsP P = some G) (hp : readL p = some Z) : rowsP (P ++ [p]) = some (G ++ [Z]) := by
  induction P generalizing G with
  | nil => cases h; simp [rowsP, hp]
  | cons q r ih =>
    unfold rowsP at h
    rw [List.cons_append]
    unfold rowsP
    cases hq : readL q with
    | none => rw [hq] at h; cases h
    | some m =>
      rw [hq] at h
      simp only at h ⊢
      cases hr : rowsP r with
      | none => rw [hr] at h; cases h
      | some Y =>
        rw [hr] at h
        rw [ih hr]
        cases h; rfl
theorem rowsP_take {P : List (List UInt8)} {k : Nat} {G : List (List Int)} {Z : List Int} (hk : k < P.length) (h : rowsP (P.take k) = some G) (hp : readL P[k] = some Z) : rowsP (P.take (k + 1)) = some (G ++ [Z]) := by
  rw [List.take_succ_eq_append_getElem hk]; exact rowsP_snoc h hp
theorem rowsP_len : ∀ {P : List (List UInt8)} {G : List (List Int)}, rowsP P = some G → G.length = P.length
  | [], G, h => by cases h; rfl
  | p :: r, G, h => by
    unfold rowsP at h
    cases hp : readL p with
    | none => rw [hp] at h; cases h
    | some m =>
      rw [hp] at h
      simp only at h
      cases hr : rowsP r with
      | none => rw [hr] at h; cases h
      | some Y =>
        rw [hr] at h
        cases h
        rw [List.length_cons, List.length_cons, rowsP_len hr]
theorem readL_in {l : List UInt8} {Z : List Int} (h : readL l = some Z) : (∀ n ∈ Z, inI n) ∧ Z.length ≤ 64 := by
  unfold readL at h
  split at h
  · cases h; exact ⟨fun n hn => (by cases hn), by decide⟩
  · split at h
    · cases h
    · rename_i hl
      refine ⟨fun n hn => ?_, ?_⟩
      · have := readParts_in h n hn; unfold inI; omega
      · have := readParts_len h; omega
theorem rowsP_tot : ∀ {P : List (List UInt8)} {G : List (List Int)}, rowsP P = some G → totL G ≤ 64 * G.length
  | [], G, h => by cases h; exact Nat.le_refl _
  | p :: r, G, h => by
    unfold rowsP at h
    cases hp : readL p with
    | none => rw [hp] at h; cases h
    | some m =>
      rw [hp] at h
      simp only at h
      cases hr : rowsP r with
      | none => rw [hr] at h; cases h
      | some Y =>
        rw [hr] at h
        cases h
        have := rowsP_tot hr
        have := (readL_in hp).2
        rw [totL_cons, List.length_cons]; omega
/-- the plate of texts -/
def platP (P : List (List UInt8)) : Option (List (List Int)) :=
  match rowsP P with
  | none => none
  | some G => if okP G = true then some G else none
theorem platP_no {P : List (List UInt8)} (h : rowsP P = none) : platP P = none := by unfold platP; rw [h]
theorem platP_bad {P : List (List UInt8)} {G : List (List Int)} (h : rowsP P = some G) (hk : okP G = false) : platP P = none := by unfold platP; rw [h]; simp [hk]
theorem platP_yes {P : List (List UInt8)} {G : List (List Int)} (h : rowsP P = some G) (hk : okP G = true) : platP P = some G := by unfold platP; rw [h]; simp [hk]
theorem okP_len {G : List (List Int)} (h : okP G = true) : 0 < G.length ∧ G.length ≤ 10 := by
  unfold okP at h
  simp only [Bool.and_eq_true, decide_eq_true_eq] at h
  exact h.2
theorem platP_long {P : List (List UInt8)} (h : 10 < P.length) : platP P = none := by
  cases hr : rowsP P with
  | none => exact platP_no hr
  | some G =>
    have hl := rowsP_len hr
    cases hk : okP G with
    | false => exact platP_bad hr hk
    | true => have := okP_len hk; omega
/-- the plate of a text -/
def plateO (l : List UInt8) : Option (List (List Int)) := platP (splitL 47 l)
/-- the library's parts -/
def cutR (s : ByteArray) : List ByteArray := Lib.splitB ⟨#[47]⟩ 0 (min 11 (s.size + 1) - 1) s
theorem cutR_data (s : ByteArray) : (cutR s).map (·.data.toList) = Lib.splitK [47] 0 (min 11 (s.size + 1) - 1) s.data.toList := Lib.splitB_data _ _ _ _
theorem cutR_le (s : ByteArray) : (cutR s).length ≤ 11 := by
  have := Lib.splitB_length_le ⟨#[47]⟩ 0 (min 11 (s.size + 1) - 1) s
  unfold cutR; omega
theorem cutR_plate (s : ByteArray) : platP ((cutR s).map (·.data.toList)) = plateO s.data.toList := by
  have hl := splitL_len 47 s.data.toList
  rw [len_data] at hl
  rw [cutR_data]
  unfold plateO
  by_cases h : (splitL 47 s.data.toList).length ≤ min 11 (s.size + 1) - 1 + 1
  · rw [splitK_all 47 _ _ h]
  · have hk : min 11 (s.size + 1) - 1 = 10 := by omega
    rw [hk] at h ⊢
    rw [platP_long (show 10 < (splitL 47 s.data.toList).length by omega), platP_long (by rw [splitK_long 47 10 _ (by omega)]; omega)]
theorem cutR_part (s : ByteArray) : ∀ p ∈ (cutR s).map (·.data.toList), p.length ≤ s.size := by
  intro p hp
  rw [cutR_data] at hp
  have := splitK_part 47 _ _ p hp
  rwa [len_data] at this
theorem splitR_any (s : ByteArray) (w : World) (hs : s.size ≤ 1048576) (hSh : w.ShapedOpen Tryd.prog) :
    Calls Tryd.prog 18 #[.string s, .string ⟨#[47]⟩, .int .i64 11] w fun e w' => ∃ cap, e = .returned (.slice (some ⟨w.heap.size, 0, none⟩) (cutR s).length cap) ∧ (cutR s).length ≤ cap ∧ Below w.heap.size w w' ∧ w.heap.size < w'.heap.size ∧
      ∀ j (hj : j < (cutR s).length), w'.cell? ⟨w.heap.size, j, none⟩ = some (.string (cutR s)[j]) := by
  refine (Tryd.strings_SplitN_shaped s ⟨#[47]⟩ 11 w hSh (by omega) (by decide) (by omega) (by omega)).mono ?_
  rintro e w' ⟨rfl, rfl⟩
  refine ⟨min 11 (s.size + 1), rfl, ?_, (Below.refl _ _).alloc (Nat.le_refl _) _, by simp, ?_⟩
  · have := Lib.splitB_length_le ⟨#[47]⟩ 0 (min 11 (s.size + 1) - 1) s
    unfold cutR; omega
  · intro j hj
    rw [World.cell?_alloc_mark]
    show (Lib.cellsOf (cutR s) _)[j]? = _
    unfold Lib.cellsOf
    rw [List.getElem?_toArray, List.getElem?_append_left (by rw [List.length_map]; exact hj), List.getElem?_map, List.getElem?_eq_getElem hj]
    rfl
/-- new rows, the first of which are laid -/
def fillR (Y : List (List Int)) (N : Nat) : List (List Int) := Y ++ List.replicate (N - Y.length) []
theorem fillR_nil (N : Nat) : fillR [] N = List.replicate N [] := by simp [fillR]
theorem fillR_all (Y : List (List Int)) : fillR Y Y.length = Y := by simp [fillR]
theorem fillR_len (Y : List (List Int)) (N : Nat) (h : Y.length ≤ N) : (fillR Y N).length = N := by simp [fillR]; omega
theorem fillR_set (Y : List (List Int)) (N : Nat) (Z : List Int) (h : Y.length < N) : (fillR Y N).set Y.length Z = fillR (Y ++ [Z]) N := by
  unfold fillR
  have e : List.replicate (N - Y.length) ([] : List Int) = [] :: List.replicate (N - (Y.length + 1)) [] := by
    rw [show N - Y.length = (N - (Y.length + 1)) + 1 by omega, List.replicate_succ]
  rw [e, List.set_append_right _ _ (by simp), Nat.sub_self, List.set_cons_zero, List.append_assoc, List.length_append]
  rfl
/-- a grid and whether there is one -/
def GridB (G : List (List Int)) (b : Bool) (w : World) (e : Ending) (w' : World) : Prop :=
  ∃ v vs, e = .returned (.tuple #[v, .bool b]) ∧ OwnG w.heap.size w'.heap.size w' v G vs ∧ Below w.heap.size w w'
def PlRet (o : Option (List (List Int))) (w : World) (e : Ending) (w' : World) : Prop := GridB (o.getD []) o.isSome w e w'
theorem plRet_no {o : Option (List (List Int))} (h : o = none) {w w' : World} (hb : Below w.heap.size w w') : PlRet o w (.returned (.tuple #[.slice none 0 0, .bool false])) w' := by
  subst h
  exact ⟨_, [], rfl, (OwnG.nil w.heap.size w'), hb⟩
theorem plRet_yes {o : Option (List (List Int))} {G : List (List Int)} (h : o = some G) {w w' : World} {v : Value} {vs : List Value} (ho : OwnG w.heap.size w'.heap.size w' v G vs) (hb : Below w.heap.size w w') : PlRet o w (.returned (.tuple #[v, .bool true])) w' := by
  subst h
  exact ⟨_, vs, rfl, ho, hb⟩
theorem plate_small (l : List UInt8) : ((plateO l).getD []).length + totL ((plateO l).getD []) ≤ 1048576 := by
  unfold plateO platP
  cases hr : rowsP (splitL 47 l) with
  | none => simp [totL]
  | some G =>
    cases hk : okP G with
    | false => simp [hk, totL]
    | true =>
      have h1 := okP_len hk
      have h2 := rowsP_tot hr
      simp only [hk, if_true, Option.getD_some]
      omega
end Go.Proofs.YtgffgaeingaihaaDoor
