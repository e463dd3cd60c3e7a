/-
  An Id, a blank and a list of numbers: what all texts of that kind share.
-/
import Derived.Test.YtcgmpomhklhmaaaDoorTabs
import Derived.Test.YtcgmpomhklhmaaaDoorDec
import Derived.Test.YtcgmpomhklhmaaaDoorUnits
import Derived.Test.YtcgmpomhklhmaaaDoorListI
import Derived.Test.YtcgmpomhklhmaaaDoorReadListI
import Derived.Test.YtcgmpomhklhmaaaDoorReadList
import Derived.Test.YtcgmpomhklhmaaaDoorReadNum
import Derived.Test.YtcgmpomhklhmaaaDoorPlankRM
import Derived.Test.YtcgmpomhklhmaaaDoorMonth
import Derived.Deep.RegionHeld3
namespace Go.Proofs.YtcgmpomhklhmaaaDoor
open Go.ChangeShapes Go.WideShapes Go.ChangeAt Go.RowKit
set_option linter.unusedVariables false
set_option linter.unusedSimpArgs false
set_option maxRecDepth 1000000
theorem str_ret {D : ByteArray} {l : List UInt8} {w w' : World} (h : D.data.toList = l) (hb : Below w.heap.size w w') : StrRet l w (.returned (.string D)) w' := ⟨by rw [bytes_of D l h], hb⟩
theorem cat_data (a b : ByteArray) : (a ++ b).data.toList = a.data.toList ++ b.data.toList := by rw [ByteArray.data_append, Array.toList_append]
theorem cat_size (a b : ByteArray) : (a ++ b).size = a.size + b.size := by rw [← len_data, cat_data, List.length_append, len_data, len_data]
theorem name_le {l : List UInt8} (h : nameL l = true) : l.length ≤ 10 := by
  unfold nameL at h; simp at h; omega
theorem listR_in {Z : List Int} (h : Z.all inV = true) (hl : Z.length ≤ 64) : listR Z = textZ Z := by
  unfold listR; rw [fits_all h, decide_eq_true hl]; rfl
theorem fresh_b (w : World) (o : Obj) : Below w.heap.size w (w.alloc o) := (Below.refl _ _).alloc (Nat.le_refl _) _
/-- one name for a text behind a first byte string -/
theorem add_named (s t : ByteArray) (h : s.size + t.size ≤ 9223372036854775807) : ∃ S : ByteArray, S.data.toList = s.data.toList ++ t.data.toList ∧ S.size = s.size + t.size ∧ ∀ w, (Op.stringOp .add s t).run Tryd.prog w = .ok (.string S) w :=
  ⟨s ++ t, cat_data s t, cat_size s t, fun w => run_string_add_sum w s t h⟩
theorem textZ_le (Z : List Int) (hz : ∀ n ∈ Z, inI n) : (textZ Z).length ≤ 22 * Z.length + 1 := by
  by_cases h : Z = []
  · subst h; show (textZ []).length ≤ 1; decide
  · have h1 := joinK_le Z Z.length hz
    have e : joinK Z Z.length = textZ Z := by
      unfold textZ
      rw [if_neg (fun e => h (List.eq_nil_of_length_eq_zero e))]
      exact joinK_all _
    rw [e] at h1; omega
set_option maxHeartbeats 1600000 in
theorem namedText_any (s : ByteArray) (hs : s.size ≤ 10) (v : Value) (Z : List Int) (hZ : Z.all inV = true) (hl : Z.length ≤ 64) (w : World) (hv : IntsAt w v Z) (hT : TabP w) : Calls Tryd.prog 19 #[.string s, v] w (StrRet (s.data.toList ++ 32 :: textZ Z) w) := by
  have hzz : ∀ n ∈ Z, inI n := by obtain ⟨_, _, _, _, h, _⟩ := hv; exact h
  have hle := textZ_le Z hzz
  obtain ⟨D, hD⟩ : ∃ D : ByteArray, D = ⟨(textZ Z).toArray⟩ := ⟨_, rfl⟩
  have hDl : D.data.toList = textZ Z := by rw [hD]
  have hDs : D.size ≤ 2000 := by rw [← len_data, hDl]; omega
  have cD : Hid (∀ W, Below w.heap.size w W → Calls Tryd.prog 20 #[v] W fun e w' => e = .returned (.string D) ∧ Below W.heap.size W w') := Lib.hid (fun W hb => by
    have := implListText_any v Z W (by omega) (hv.below hb) (hT.below hb)
    rw [listR_in hZ hl] at this
    rw [hD]; exact this)
  obtain ⟨S1, hS1, hS1s, add1⟩ := add_named s ⟨#[32]⟩ (by show s.size + 1 ≤ _; omega)
  have hS1s' : S1.size ≤ 11 := by rw [hS1s]; show s.size + 1 ≤ 11; omega
  obtain ⟨S2, hS2, hS2s, add2⟩ := add_named S1 D (by omega)
  have hr : Hid (S2.data.toList = s.data.toList ++ 32 :: textZ Z) := Lib.hid (by rw [hS2, hS1, hDl, List.append_assoc]; rfl)
  clear hzz hle hD hDl hS1 hS1s hS2 hS2s hv hT hZ
  go_enter Tryd.func19, Tryd.ntmps19
  go_wp2_with (go_at_call 20; (with_reducible refine (cD.out _ (Below.refl _ _)).mono ?_); rintro e w1 ⟨rfl, b1⟩)
  go_ret
  exact str_ret hr.out b1
/-- an Id and so many numbers, as a text tells them -/
def namOf (p q : List UInt8) (m : Nat) : Option (List UInt8 × List Int) :=
  match readL q with
  | some Z => if Z.length = m then some (p, Z) else none
  | none => none
def namO (l : List UInt8) (m : Nat) : Option (List UInt8 × List Int) :=
  match splitL 32 l with
  | [p, q] => namOf p q m
  | _ => none
theorem namO_no {l : List UInt8} {m : Nat} (h : ∀ p q, splitL 32 l ≠ [p, q]) : namO l m = none := by
  unfold namO
  split
  · rename_i p q e; exact absurd e (h p q)
  · rfl
theorem namO_two {l p q : List UInt8} (m : Nat) (h : splitL 32 l = [p, q]) : namO l m = namOf p q m := by unfold namO; rw [h]
theorem namO_cut (l : List UInt8) (m : Nat) : namO l m = namOf (Lib.cut l [32]).1 (Lib.cut l [32]).2.1 m := by
  rcases cut_cases l with ⟨h1, h2⟩ | ⟨r, h1, h2 | h2⟩
  · rw [namO_no h2, h1]; unfold namOf; rw [readL_nil]
  · rw [namO_no h2.2, h1]; unfold namOf; rw [readL_blank (c := 32) (by decide) (by decide) (by decide) h2.1]
  · rw [namO_two m h2, h1]
theorem namOf_none {p q : List UInt8} {m : Nat} (h : readL q = none) : namOf p q m = none := by unfold namOf; rw [h]
theorem namOf_len {p q : List UInt8} {m : Nat} {Z : List Int} (h : readL q = some Z) (hl : Z.length ≠ m) : namOf p q m = none := by unfold namOf; rw [h]; exact if_neg hl
theorem namOf_yes {p q : List UInt8} {m : Nat} {Z : List Int} (h : readL q = some Z) (hl : Z.length = m) : namOf p q m = some (p, Z) := by unfold namOf; rw [h]; exact if_pos hl
theorem namO_len {l : List UInt8} {m : Nat} {p : List UInt8} {Z : List Int} (h : namO l m = some (p, Z)) : Z.length = m := by
  rw [namO_cut] at h
  unfold namOf at h
  split at h
  · split at h
    · cases h; assumption
    · cases h
  · cases h
theorem namO_id {l : List UInt8} {m : Nat} {p : List UInt8} {Z : List Int} (h : namO l m = some (p, Z)) : p.length ≤ l.length := by
  rw [namO_cut] at h
  have hp : (Lib.cut l [32]).1.length ≤ l.length := by
    unfold Lib.cut
    split
    · show (l.take _).length ≤ _; rw [List.length_take]; omega
    · exact Nat.le_refl _
  unfold namOf at h
  split at h
  · split at h
    · cases h; exact hp
    · cases h
  · cases h
/-- what a reader of an Id and numbers hands back: if it did not read, the Id and the row are any -/
def NamRet (o : Option (List UInt8 × List Int)) (w : World) (e : Ending) (w' : World) : Prop :=
  match o with
  | none => ∃ t v, e = .returned (.tuple #[.string t, v, .bool false]) ∧ Below w.heap.size w w'
  | some x => ∃ v, e = .returned (.tuple #[.string ⟨x.1.toArray⟩, v, .bool true]) ∧ w'.ownsRow w.heap.size 2 1 v x.2.length (x.2.map encI) ∧ Below w.heap.size w w'
theorem namRet_no {o : Option (List UInt8 × List Int)} (h : o = none) {t : ByteArray} {v : Value} {w w' : World} (hb : Below w.heap.size w w') : NamRet o w (.returned (.tuple #[.string t, v, .bool false])) w' := by subst h; exact ⟨t, v, rfl, hb⟩
theorem namRet_yes {o : Option (List UInt8 × List Int)} {p : List UInt8} {Z : List Int} (h : o = some (p, Z)) {A : ByteArray} (hA : A = ⟨p.toArray⟩) {v : Value} {w w' : World} {B : Nat} (hB : w.heap.size ≤ B) (ho : w'.ownsRow B 2 1 v Z.length (Z.map encI)) (hb : Below w.heap.size w w') : NamRet o w (.returned (.tuple #[.string A, v, .bool true])) w' := by
  subst h hA; exact ⟨v, rfl, own_low ho hB, hb⟩
/-- what a list of numbers hands back, opened -/
theorem lret_open {o : Option (List Int)} {w w' : World} {e : Ending} (h : LRet o w e w') (hz : ∀ Z, o = some Z → ∀ n ∈ Z, inI n) : (o = none ∧ e = .returned (.tuple #[.slice none 0 0, .bool false]) ∧ Below w.heap.size w w') ∨ ∃ Z v, o = some Z ∧ e = .returned (.tuple #[v, .bool true]) ∧ IntsAt w' v Z ∧ Below w.heap.size w w' := by
  cases o with
  | none => exact Or.inl ⟨rfl, h.1, h.2⟩
  | some Z =>
    obtain ⟨v, he, ho, hb⟩ := h
    exact Or.inr ⟨Z, v, rfl, he, ints_own ho (hz Z rfl), hb⟩
theorem readL_in {l : List UInt8} {Z : List Int} (h : readL l = some Z) : ∀ n ∈ Z, inI n := by
  unfold readL at h
  split at h
  · cases h; intro n hn; cases hn
  · split at h
    · cases h
    · intro n hn
      have := readParts_in h n hn
      unfold inI; omega
theorem readL_len {l : List UInt8} {Z : List Int} (h : readL l = some Z) : Z.length ≤ 64 := by
  unfold readL at h
  split at h
  · cases h; simp
  · split at h
    · cases h
    · have := readParts_len h; omega
theorem rowI_form {w : World} {B : Nat} {v : Value} {Z : List Int} (h : w.ownsRow B 2 1 v Z.length (Z.map encI)) : ∃ a cap, v = .slice a Z.length cap ∧ Z.length ≤ cap := by
  rcases h.2 with ⟨h1, h2⟩ | ⟨g, cap, cur, hv, hg, hb, hn, hcap, _, _⟩
  · exact ⟨none, 0, by rw [h1, h2], by omega⟩
  · exact ⟨_, cap, hv, hn⟩
theorem cut_any (s : ByteArray) (hs : s.size ≤ 1048576) : ∃ A B : ByteArray, A.data.toList = (Lib.cut s.data.toList [32]).1 ∧ B.data.toList = (Lib.cut s.data.toList [32]).2.1 ∧ A = ⟨(Lib.cut s.data.toList [32]).1.toArray⟩ ∧ A.size ≤ 1048576 ∧ B.size ≤ 1048576 ∧ ∃ b, Hid (∀ W, W.ShapedOpen Tryd.prog → Calls Tryd.prog 24 #[.string s, .string ⟨#[32]⟩] W fun e w' => e = .returned (.tuple #[.string A, .string B, .bool b]) ∧ ∃ n, w' = W.drewN n) := by
  have hsz : (Lib.cut s.data.toList [32]).1.length ≤ 1048576 ∧ (Lib.cut s.data.toList [32]).2.1.length ≤ 1048576 := by
    unfold Lib.cut
    split
    · exact ⟨by show (s.data.toList.take _).length ≤ _; rw [List.length_take, len_data]; omega, by show (s.data.toList.drop _).length ≤ _; rw [List.length_drop, len_data]; omega⟩
    · exact ⟨by rw [len_data]; omega, by simp⟩
  exact ⟨⟨(Lib.cut s.data.toList [32]).1.toArray⟩, ⟨(Lib.cut s.data.toList [32]).2.1.toArray⟩, rfl, rfl, rfl, by rw [← len_data]; exact hsz.1, by rw [← len_data]; exact hsz.2, (Lib.cut s.data.toList [32]).2.2, Lib.hid (fun W h => Tryd.strings_Cut_shaped s ⟨#[32]⟩ W h (by omega))⟩
theorem namOf_M (p q : List UInt8) (m : Nat) : namOf p q m = (readM q m).map (fun Z => (p, Z)) := by
  cases h : readL q with
  | none => rw [namOf_none h, readM_none h]; rfl
  | some Z =>
    by_cases hl : Z.length = m
    · rw [namOf_yes h hl, readM_yes h hl]; rfl
    · rw [namOf_len h hl, readM_len h hl]; rfl
theorem rowS2 {w : World} {B : Nat} {v : Value} {a b : List UInt8} (h : w.ownsRow B 9 1 v 2 [encS a, encS b]) : ∃ g cap, v = .slice (some ⟨g, 0, none⟩) 2 cap ∧ 2 ≤ cap ∧ g < w.heap.size ∧ w.cell? ⟨g, 0, none⟩ = some (encS a) ∧ w.cell? ⟨g, 1, none⟩ = some (encS b) := by
  have h0 := h
  rcases h.2 with ⟨h1, h2⟩ | ⟨g, cap, cur, hv, hg, hb, hn, hcap, _, _⟩
  · omega
  · subst hv
    exact ⟨g, cap, rfl, hn, (h0.lt g rfl).2, by rw [h0.cellAt 0 (by omega)]; rfl, by rw [h0.cellAt 1 (by omega)]; rfl⟩
end Go.Proofs.YtcgmpomhklhmaaaDoor
