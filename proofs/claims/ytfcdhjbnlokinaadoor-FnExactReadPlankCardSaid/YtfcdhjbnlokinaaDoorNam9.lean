/-
  An Id, a blank and a list of numbers: what all texts of that kind share.
-/
import Derived.Test.YtfcdhjbnlokinaaDoorTabs
import Derived.Test.YtfcdhjbnlokinaaDoorDec
import Derived.Test.YtfcdhjbnlokinaaDoorUnits
import Derived.Test.YtfcdhjbnlokinaaDoorListI
import Derived.Test.YtfcdhjbnlokinaaDoorReadListI
import Derived.Test.YtfcdhjbnlokinaaDoorReadList
import Derived.Test.YtfcdhjbnlokinaaDoorReadNum
import Derived.Test.YtfcdhjbnlokinaaDoorPlankRM
import Derived.Test.YtfcdhjbnlokinaaDoorMonth
import Derived.Deep.RegionHeld3
namespace Go.Proofs.YtfcdhjbnlokinaaDoor
open Go.ChangeShapes Go.WideShapes Go.ChangeAt Go.RowKit
set_option linter.unusedVariables false
set_option linter.unusedSimpArgs false
set_option maxRecDepth 1000000
theorem str_ret {D : ByteArray} {l : List UInt8} {w w' : World} (h : D.data.toList = l) (hb : Below w.heap.size w w') : StrRet l w (.returned (.string D)) w' := ⟨by rw [bytes_of D l h], hb⟩
theorem cat_data (a b : ByteArray) : (a ++ b).data.toList = a.data.toList ++ b.data.toList := by rw [ByteArray.data_append, Array.toList_append]
theorem cat_size (a b : ByteArray) : (a ++ b).size = a.size + b.size := by rw [← len_data, cat_data, List.length_append, len_data, len_data]
theorem name_le {l : List UInt8} (h : nameL l = true) : l.length ≤ 10 := by
  unfold nameL at h; simp at h; omega
theorem listR_in {Z : List Int} (h : Z.all inV = true) (hl : Z.length ≤ 64) : listR Z = textZ Z := by
  unfold listR; rw [fits_all h, decide_eq_true hl]; rfl
theorem fresh_b (w : World) (o : Obj) : Below w.heap.size w (w.alloc o) := (Below.refl _ _).alloc (Nat.le_refl _) _
/-- one name for a text behind a first byte string -/
theorem add_named (s t : ByteArray) (h : s.size + t.size ≤ 9223372036854775807) : ∃ S : ByteArray, S.data.toList = s.data.toList ++ t.data.toList ∧ S.size = s.size + t.size ∧ ∀ w, (Op.stringOp .add s t).run Tryd.prog w = .ok (.string S) w :=
  ⟨s ++ t, cat_data s t, cat_size s t, fun w => run_string_add_sum w s t h⟩
theorem textZ_le (Z : List Int) (hz : ∀ n ∈ Z, inI n) : (textZ Z).length ≤ 22 * Z.length + 1 := by
  by_cases h : Z = []
  · subst h; show (textZ []).length ≤ 1; decide
  · have h1 := joinK_le Z Z.length hz
    have e : joinK Z Z.length = textZ Z := by
      unfold textZ
      rw [if_neg (fun e => h (List.eq_nil_of_length_eq_zero e))]
      exact joinK_all _
    rw [e] at h1; omega
/-- an Id and so many numbers, as a text tells them -/
def namOf (p q : List UInt8) (m : Nat) : Option (List UInt8 × List Int) :=
  match readL q with
  | some Z => if Z.length = m then some (p, Z) else none
  | none => none
def namO (l : List UInt8) (m : Nat) : Option (List UInt8 × List Int) :=
  match splitL 32 l with
  | [p, q] => namOf p q m
  | _ => none
theorem namO_no {l : List UInt8} {m : Nat} (h : ∀ p q, splitL 32 l ≠ [p, q]) : namO l m = none := by
  unfold namO
  split
  · rename_i p q e; exact absurd e (h p q)
  · rfl
theorem namO_two {l p q : List UInt8} (m : Nat) (h : splitL 32 l = [p, q]) : namO l m = namOf p q m := by unfold namO; rw [h]
theorem namO_cut (l : List UInt8) (m : Nat) : namO l m = namOf (Lib.cut l [32]).1 (Lib.cut l [32]).2.1 m := by
  rcases cut_cases l with ⟨h1, h2⟩ | ⟨r, h1, h2 | h2⟩
  · rw [namO_no h2, h1]; unfold namOf; rw [readL_nil]
  · rw [namO_no h2.2, h1]; unfold namOf; rw [readL_blank (c := 32) (by decide) (by decide) (by decide) h2.1]
  · rw [namO_two m h2, h1]
theorem namOf_none {p q : List UInt8} {m : Nat} (h : readL q = none) : namOf p q m = none := by unfold namOf; rw [h]
theorem namOf_len {p q : List UInt8} {m : Nat} {Z : List Int} (h : readL q = some Z) (hl : Z.length ≠ m) : namOf p q m = none := by unfold namOf; rw [h]; exact if_neg hl
theorem namOf_yes {p q : List UInt8} {m : Nat} {Z : List Int} (h : readL q = some Z) (hl : Z.length = m) : namOf p q m = some (p, Z) := by unfold namOf; rw [h]; exact if_pos hl
theorem namO_len {l : List UInt8} {m : Nat} {p : List UInt8} {Z : List Int} (h : namO l m = some (p, Z)) : Z.length = m := by
  rw [namO_cut] at h
  unfold namOf at h
  split at h
  · split at h
    · cases h; assumption
    · cases h
  · cases h
theorem namO_id {l : List UInt8} {m : Nat} {p : List UInt8} {Z : List Int} (h : namO l m = some (p, Z)) : p.length ≤ l.length := by
  rw [namO_cut] at h
  have hp : (Lib.cut l [32]).1.length ≤ l.length := by
    unfold Lib.cut
    split
    · show (l.take _).length ≤ _; rw [List.length_take]; omega
    · exact Nat.le_refl _
  unfold namOf at h
  split at h
  · split at h
    · cases h; exact hp
    · cases h
  · cases h
/-- what a reader of an Id and numbers hands back: if it did not read, the Id and the row are any -/
def NamRet (o : Option (List UInt8 × List Int)) (w : World) (e : Ending) (w' : World) : Prop :=
  match o with
  | none => ∃ t v, e = .returned (.tuple #[.string t, v, .bool false]) ∧ Below w.heap.size w w'
  | some x => ∃ v, e = .returned (.tuple #[.string ⟨x.1.toArray⟩, v, .bool true]) ∧ w'.ownsRow w.heap.size 2 1 v x.2.length (x.2.map encI) ∧ Below w.heap.size w w'
theorem namRet_no {o : Option (List UInt8 × List Int)} (h : o = none) {t : ByteArray} {v : Value} {w w' : World} (hb : Below w.heap.size w w') : NamRet o w (.returned (.tuple #[.string t, v, .bool false])) w' := by subst h; exact ⟨t, v, rfl, hb⟩
theorem namRet_yes {o : Option (List UInt8 × List Int)} {p : List UInt8} {Z : List Int} (h : o = some (p, Z)) {A : ByteArray} (hA : A = ⟨p.toArray⟩) {v : Value} {w w' : World} {B : Nat} (hB : w.heap.size ≤ B) (ho : w'.ownsRow B 2 1 v Z.length (Z.map encI)) (hb : Below w.heap.size w w') : NamRet o w (.returned (.tuple #[.string A, v, .bool true])) w' := by
  subst h hA; exact ⟨v, rfl, own_low ho hB, hb⟩
/-- what a list of numbers hands back, opened -/
theorem lret_open {o : Option (List Int)} {w w' : World} {e : Ending} (h : LRet o w e w') (hz : ∀ Z, o = some Z → ∀ n ∈ Z, inI n) : (o = none ∧ e = .returned (.tuple #[.slice none 0 0, .bool false]) ∧ Below w.heap.size w w') ∨ ∃ Z v, o = some Z ∧ e = .returned (.tuple #[v, .bool true]) ∧ IntsAt w' v Z ∧ Below w.heap.size w w' := by
  cases o with
  | none => exact Or.inl ⟨rfl, h.1, h.2⟩
  | some Z =>
    obtain ⟨v, he, ho, hb⟩ := h
    exact Or.inr ⟨Z, v, rfl, he, ints_own ho (hz Z rfl), hb⟩
theorem readL_in {l : List UInt8} {Z : List Int} (h : readL l = some Z) : ∀ n ∈ Z, inI n := by
  unfold readL at h
  split at h
  · cases h; intro n hn; cases hn
  · split at h
    · cases h
    · intro n hn
      have := readParts_in h n hn
      unfold inI; omega
theorem readL_len {l : List UInt8} {Z : List Int} (h : readL l = some Z) : Z.length ≤ 64 := by
  unfold readL at h
  split at h
  · cases h; simp
  · split at h
    · cases h
    · have := readParts_len h; omega
theorem rowI_form {w : World} {B : Nat} {v : Value} {Z : List Int} (h : w.ownsRow B 2 1 v Z.length (Z.map encI)) : ∃ a cap, v = .slice a Z.length cap ∧ Z.length ≤ cap := by
  rcases h.2 with ⟨h1, h2⟩ | ⟨g, cap, cur, hv, hg, hb, hn, hcap, _, _⟩
  · exact ⟨none, 0, by rw [h1, h2], by omega⟩
  · exact ⟨_, cap, hv, hn⟩
theorem cut_any (s : ByteArray) (hs : s.size ≤ 1048576) : ∃ A B : ByteArray, A.data.toList = (Lib.cut s.data.toList [32]).1 ∧ B.data.toList = (Lib.cut s.data.toList [32]).2.1 ∧ A = ⟨(Lib.cut s.data.toList [32]).1.toArray⟩ ∧ A.size ≤ 1048576 ∧ B.size ≤ 1048576 ∧ ∃ b, Hid (∀ W, W.ShapedOpen Tryd.prog → Calls Tryd.prog 20 #[.string s, .string ⟨#[32]⟩] W fun e w' => e = .returned (.tuple #[.string A, .string B, .bool b]) ∧ ∃ n, w' = W.drewN n) := by
  have hsz : (Lib.cut s.data.toList [32]).1.length ≤ 1048576 ∧ (Lib.cut s.data.toList [32]).2.1.length ≤ 1048576 := by
    unfold Lib.cut
    split
    · exact ⟨by show (s.data.toList.take _).length ≤ _; rw [List.length_take, len_data]; omega, by show (s.data.toList.drop _).length ≤ _; rw [List.length_drop, len_data]; omega⟩
    · exact ⟨by rw [len_data]; omega, by simp⟩
  exact ⟨⟨(Lib.cut s.data.toList [32]).1.toArray⟩, ⟨(Lib.cut s.data.toList [32]).2.1.toArray⟩, rfl, rfl, rfl, by rw [← len_data]; exact hsz.1, by rw [← len_data]; exact hsz.2, (Lib.cut s.data.toList [32]).2.2, Lib.hid (fun W h => Tryd.strings_Cut_shaped s ⟨#[32]⟩ W h (by omega))⟩
theorem namOf_M (p q : List UInt8) (m : Nat) : namOf p q m = (readM q m).map (fun Z => (p, Z)) := by
  cases h : readL q with
  | none => rw [namOf_none h, readM_none h]; rfl
  | some Z =>
    by_cases hl : Z.length = m
    · rw [namOf_yes h hl, readM_yes h hl]; rfl
    · rw [namOf_len h hl, readM_len h hl]; rfl
set_option maxHeartbeats 1600000 in
theorem readNamed_any (s : ByteArray) (m : Nat) (hm : m ≤ 64) (w : World) (hs : s.size ≤ 1048576) (hT : TabP w) (hE : ErrsAt w) (hSh : w.ShapedOpen Tryd.prog) :
    Calls Tryd.prog 12 #[.string s, .int .i64 m] w (NamRet (namO s.data.toList m) w) := by
  obtain ⟨A, B, hA, hB, hA', hAs, hBs, bb, cC⟩ := cut_any s hs
  have hq := Lib.hid (namO_cut s.data.toList m)
  have cR0 := fun n => readNumbers_any B m (w.drewN n) (by omega) hBs (hT.below (belowN (Below.refl _ _) n)) (hE.below (belowN (Below.refl _ _) n)) (shape_below hSh (belowN (Below.refl _ _) n))
  rw [hB] at cR0
  cases ho : readM (Lib.cut s.data.toList [32]).2.1 m with
  | none =>
    have hr : Hid (namO s.data.toList m = none) := Lib.hid (by rw [hq.out, namOf_M, ho]; rfl)
    rw [ho] at cR0
    have cR := Lib.hid cR0
    clear cR0 ho hq hA hB hA'
    go_enter Tryd.func12, Tryd.ntmps12
    go_wp2_with fail
    refine (cC.out _ hSh).mono ?_
    rintro e w1 ⟨rfl, n, rfl⟩
    go_wp2_with fail
    refine (cR.out n).mono ?_
    rintro e w2 ⟨rfl, b2⟩
    have B2 := below2 (belowN (Below.refl _ _) n) b2
    go_wp2
    go_ret3
    exact namRet_no hr.out B2
  | some Z =>
    have hr : Hid (namO s.data.toList m = some ((Lib.cut s.data.toList [32]).1, Z)) := Lib.hid (by rw [hq.out, namOf_M, ho]; rfl)
    have hA2 := Lib.hid hA'
    rw [ho] at cR0
    have cR := Lib.hid cR0
    clear cR0 ho hq hA hB hA'
    go_enter Tryd.func12, Tryd.ntmps12
    go_wp2_with fail
    refine (cC.out _ hSh).mono ?_
    rintro e w1 ⟨rfl, n, rfl⟩
    go_wp2_with fail
    refine (cR.out n).mono ?_
    rintro e w2 ⟨v, rfl, o2, b2⟩
    obtain ⟨a, cap, rfl, hcap⟩ := rowI_form o2
    have B2 := below2 (belowN (Below.refl _ _) n) b2
    have o2' := Lib.hid o2
    clear o2 b2
    go_wp2
    go_ret3
    exact namRet_yes hr.out hA2.out (Nat.le_refl _) o2'.out B2
theorem rowS2 {w : World} {B : Nat} {v : Value} {a b : List UInt8} (h : w.ownsRow B 9 1 v 2 [encS a, encS b]) : ∃ g cap, v = .slice (some ⟨g, 0, none⟩) 2 cap ∧ 2 ≤ cap ∧ g < w.heap.size ∧ w.cell? ⟨g, 0, none⟩ = some (encS a) ∧ w.cell? ⟨g, 1, none⟩ = some (encS b) := by
  have h0 := h
  rcases h.2 with ⟨h1, h2⟩ | ⟨g, cap, cur, hv, hg, hb, hn, hcap, _, _⟩
  · omega
  · subst hv
    exact ⟨g, cap, rfl, hn, (h0.lt g rfl).2, by rw [h0.cellAt 0 (by omega)]; rfl, by rw [h0.cellAt 1 (by omega)]; rfl⟩
set_option maxHeartbeats 1600000 in
theorem l06Two_any (s : ByteArray) (m : Nat) (hm : m ≤ 64) (w : World) (hs : s.size ≤ 1048576) : Calls Tryd.prog 18 #[.string s, .int .i64 m] w (NamRet (namO s.data.toList m) w) := by
  have hc0 := fun W => l01Split_any s 32 W hs
  have hlen := splitL_len 32 s.data.toList
  rw [len_data] at hlen
  by_cases h2 : (splitL 32 s.data.toList).length = 2
  rotate_left
  · have hr : Hid (namO s.data.toList m = none) := Lib.hid (namO_no (by intro p q h; rw [h] at h2; exact h2 rfl))
    obtain ⟨M, hM⟩ : ∃ M, M = (splitL 32 s.data.toList).length := ⟨_, rfl⟩
    have hc : Hid (∀ W, Calls Tryd.prog 14 #[.string s, .int .u8 32] W fun e w' => ∃ a cap, e = .returned (.slice a M cap) ∧ M ≤ cap ∧ Below W.heap.size W w') := Lib.hid (fun W => (hc0 W).mono fun e w' h => by
      obtain ⟨v, he, ho, hb⟩ := h
      have hpos := splitL_pos 32 s.data.toList
      rcases row_open ho with ⟨_, h0⟩ | ⟨g, cap, rfl, _, _, hcap, _⟩
      · rw [h0] at hpos; exact absurd hpos (Nat.lt_irrefl 0)
      · exact ⟨_, cap, by rw [hM]; exact he, by rw [hM]; exact hcap, hb⟩)
    rw [← hM] at h2 hlen
    have t0 : ((M : Int) == 2) = false := by rw [beq_eq_false_iff_ne]; omega
    have u0 : ((M : Int) != 2) = true := by unfold bne; rw [t0]; rfl
    clear hM h2 hc0
    go_enter Tryd.func18, Tryd.ntmps18
    go_wp2_with fail
    refine (hc.out _).mono ?_
    rintro e w2 ⟨a, cap, rfl, hcap, b2⟩
    go_wp2
    go_ret3
    exact namRet_no hr.out b2
  obtain ⟨p, q, hpq⟩ : ∃ p q, splitL 32 s.data.toList = [p, q] := by
    match h : splitL 32 s.data.toList, h2 with
    | [p, q], _ => exact ⟨p, q, rfl⟩
  have hq := Lib.hid (namO_two m hpq)
  have hpl := fun x hx => part_len 32 _ s.data.toList (Nat.le_refl _) x hx
  rw [hpq] at hc0 hpl
  have lp := hpl p (by simp)
  have lq := hpl q (by simp)
  rw [len_data] at lp lq
  clear h2 hpq hpl hlen
  obtain ⟨A, hA⟩ : ∃ A : ByteArray, A = ⟨p.toArray⟩ := ⟨_, rfl⟩
  obtain ⟨B, hB⟩ : ∃ B : ByteArray, B = ⟨q.toArray⟩ := ⟨_, rfl⟩
  have hAl : A.data.toList = p := by rw [hA]
  have hBl : B.data.toList = q := by rw [hB]
  have hBs : B.size ≤ 1048576 := by rw [← len_data, hBl]; omega
  have cS : Hid (∀ W, Calls Tryd.prog 14 #[.string s, .int .u8 32] W fun e w' => ∃ g cap, e = .returned (.slice (some ⟨g, 0, none⟩) 2 cap) ∧ 2 ≤ cap ∧ g < w'.heap.size ∧ w'.cell? ⟨g, 0, none⟩ = some (.string A) ∧ w'.cell? ⟨g, 1, none⟩ = some (.string B) ∧ Below W.heap.size W w') := Lib.hid (fun W => (hc0 W).mono fun e w' h => by
    obtain ⟨v, he, ho, hb⟩ := h
    obtain ⟨g, cap, rfl, h1, h2, h3, h4⟩ := rowS2 ho
    exact ⟨g, cap, he, h1, h2, by rw [hA]; exact h3, by rw [hB]; exact h4, hb⟩)
  have cR0 := fun W => specReadList_any B W hBs
  rw [hBl] at cR0
  have hA2 := Lib.hid hA
  clear hc0 lp lq hAl hBl hB hA
  cases ho : readL q with
  | none =>
    have hr : Hid (namO s.data.toList m = none) := Lib.hid (by rw [hq.out, namOf_none ho])
    rw [ho] at cR0
    have cR := Lib.hid cR0
    clear cR0 ho hq
    go_enter Tryd.func18, Tryd.ntmps18
    go_wp2_with fail
    refine (cS.out _).mono ?_
    rintro e w1 ⟨h, hcap, rfl, hhc, hh, s0, s1, b1⟩
    go_wp2_with fail
    refine (cR.out _).mono ?_
    rintro e w2 ⟨rfl, b2⟩
    have B2 := below2 b1 b2
    go_wp2
    go_ret3
    exact namRet_no hr.out B2
  | some Z =>
    rw [ho] at cR0
    have cR := Lib.hid cR0
    have h64 := readL_len ho
    by_cases hl : Z.length = m
    · subst hl
      have hr : Hid (namO s.data.toList Z.length = some (p, Z)) := Lib.hid (by rw [hq.out, namOf_yes ho rfl])
      have t0 : ((Z.length : Int) == (Z.length : Int)) = true := by rw [beq_iff_eq]
      have u0 : ((Z.length : Int) != (Z.length : Int)) = false := by unfold bne; rw [t0]; rfl
      clear cR0 ho hq
      go_enter Tryd.func18, Tryd.ntmps18
      go_wp2_with fail
      refine (cS.out _).mono ?_
      rintro e w1 ⟨h, hcap, rfl, hhc, hh, s0, s1, b1⟩
      go_wp2_with fail
      refine (cR.out _).mono ?_
      rintro e w2 ⟨v, rfl, o2, b2⟩
      obtain ⟨a, cap, rfl, hcap⟩ := rowI_form o2
      have s2 := (b2.cell (p := ⟨h, 0, none⟩) hh).trans s0
      have hz1 := b1.size
      have B2 := below2 b1 b2
      have o2' := Lib.hid o2
      clear o2 b2 s0 s1 b1
      go_wp2
      go_ret3
      exact namRet_yes hr.out hA2.out hz1 o2'.out B2
    · have hr : Hid (namO s.data.toList m = none) := Lib.hid (by rw [hq.out, namOf_len ho hl])
      have t0 : ((Z.length : Int) == (m : Int)) = false := by rw [beq_eq_false_iff_ne]; omega
      have u0 : ((Z.length : Int) != (m : Int)) = true := by unfold bne; rw [t0]; rfl
      clear cR0 ho hq
      go_enter Tryd.func18, Tryd.ntmps18
      go_wp2_with fail
      refine (cS.out _).mono ?_
      rintro e w1 ⟨h, hcap, rfl, hhc, hh, s0, s1, b1⟩
      go_wp2_with fail
      refine (cR.out _).mono ?_
      rintro e w2 ⟨v, rfl, o2, b2⟩
      obtain ⟨a, cap, rfl, hcap⟩ := rowI_form o2
      have B2 := below2 b1 b2
      clear o2 b2
      go_wp2
      go_ret3
      exact namRet_no hr.out B2
end Go.Proofs.YtfcdhjbnlokinaaDoor
