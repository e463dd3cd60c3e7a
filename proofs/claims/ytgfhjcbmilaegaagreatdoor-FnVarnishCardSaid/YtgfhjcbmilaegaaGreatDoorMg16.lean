/-
  Texts that stand together: CtT, CtR, RootMath.
-/
import Derived.Deep.Cut
import Derived.Test.YtgfhjcbmilaegaaGreatDoorMg1
import Derived.Test.YtgfhjcbmilaegaaGreatDoorMg3
import Derived.Test.YtgfhjcbmilaegaaGreatDoorMg13
import Derived.Test.YtgfhjcbmilaegaaGreatDoorMg14
import Derived.Test.YtgfhjcbmilaegaaGreatDoorMg15
namespace Go.Proofs.YtgfhjcbmilaegaaGreatDoor
open Go.ChangeShapes Go.WideShapes Go.ChangeAt Go.RowKit Go.Deep
set_option linter.unusedVariables false
set_option linter.unusedSimpArgs false
set_option maxRecDepth 1000000
/-- the text -/
def ctT (x : Ct) : List UInt8 := if ctB x = true then x.id.data.toList ++ 32 :: (textZ [x.days, x.cover] ++ 32 :: textZ x.col) else []
theorem two_ints (W : World) (t : TypeId) (a b : Int) (i0 : inI a) (i1 : inI b) : IntsAt (W.alloc (.cells #[.int .i64 a, .int .i64 b] t)) (.slice (some ⟨W.heap.size, 0, none⟩) 2 2) [a, b] := by
  refine ⟨some ⟨W.heap.size, 0, none⟩, 2, rfl, Nat.le_refl 2, ?_, Or.inr ⟨W.heap.size, 0, rfl, by simp, ?_⟩⟩
  · intro n hn
    simp only [List.mem_cons, List.mem_nil_iff, or_false] at hn
    rcases hn with rfl | rfl <;> assumption
  · intro i hi
    rw [Nat.zero_add, World.cell?_alloc_mark]
    match i, hi with
    | 0, _ => rfl
    | 1, _ => rfl
/-- what the pieces of a valid coat's text are -/
theorem ct_pieces {s : ByteArray} {a b : Int} {L : List Int} (h : ctB ⟨s, a, b, L⟩ = true) : s.size ≤ 10 ∧ inI a ∧ inI b ∧ ([a, b] : List Int).all inV = true ∧ L.all inV = true ∧ L.length = 3 ∧ (textZ [a, b]).length ≤ 100 ∧ (textZ L).length ≤ 100 := by
  have hm := ctB_mk s a b L
  rw [h] at hm
  have h2 := hm.symm
  simp only [Bool.and_eq_true, inB_iff] at h2
  obtain ⟨⟨⟨h0, ha⟩, hb⟩, hc⟩ := h2
  obtain ⟨p, q, r, rfl, hp, hq, hr⟩ := colB_iff hc
  have i0 : inI a := ⟨by omega, by omega⟩
  have i1 : inI b := ⟨by omega, by omega⟩
  have l1 := textZ_le [a, b] (fun n hn => by simp only [List.mem_cons, List.mem_nil_iff, or_false] at hn; rcases hn with rfl | rfl <;> assumption)
  have l2 := textZ_le [p, q, r] (fun n hn => by simp only [List.mem_cons, List.mem_nil_iff, or_false] at hn; unfold inI; rcases hn with rfl | rfl | rfl <;> omega)
  simp at l1 l2
  refine ⟨by rw [← len_data]; exact name_le h0, i0, i1, ?_, ?_, rfl, by omega, by omega⟩
  · simp only [List.all_cons, List.all_nil, Bool.and_true, Bool.and_eq_true]
    refine ⟨?_, ?_⟩ <;> (unfold inV; rw [inB_iff]; omega)
  · simp only [List.all_cons, List.all_nil, Bool.and_true, Bool.and_eq_true]
    refine ⟨?_, ?_, ?_⟩ <;> (unfold inV; rw [inB_iff]; omega)
set_option maxHeartbeats 3200000 in
theorem implCoatText_any (s : ByteArray) (a b : Int) (u : Value) (L : List Int) (w : World) (hs : s.size ≤ maxLen) (hL : L.length ≤ maxLen) (hv : IntsAt w u L) (hT : TabP w) : Calls Tryz.prog 17 #[.agg #[.string s, .int .i64 a, .int .i64 b, u]] w fun e w' => e = .returned (.string ⟨(ctT ⟨s, a, b, L⟩).toArray⟩) ∧ Below w.heap.size w w' := by
  obtain ⟨q9, hB0, hsz⟩ := one_boxC w #[.string s, .int .i64 a, .int .i64 b, u] 36
  have hrng : (w.alloc (.cells #[.string s, .int .i64 a, .int .i64 b, u] 36)).rangeAt w.heap.size 0 [.string s, .int .i64 a, .int .i64 b, u] := fun j v hv => by rw [Nat.zero_add]; exact q9 j v (by simpa using hv)
  obtain ⟨W0, hW0⟩ : ∃ W0, W0 = w.alloc (.cells #[.string s, .int .i64 a, .int .i64 b, u] 36) := ⟨_, rfl⟩
  rw [← hW0] at hB0 hsz hrng
  clear q9
  have cV := isValidCt_any s a b u L hs hL W0 (hv.below hB0)
  cases hok : ctB ⟨s, a, b, L⟩
  · have hr : Hid (ctT ⟨s, a, b, L⟩ = []) := Lib.hid (by unfold ctT; rw [hok]; rfl)
    rw [hok] at cV
    replace cV := Lib.hid cV
    go_enter Tryz.func17, Tryz.ntmps17
    go_upto_region 1 with fail
    rw [← hW0]
    clear hW0
    go_wp2_with (first
      | (refine wpList_load_mid rfl _ _ rfl w.heap.size 0 rfl _ _ hrng Tryz.underlying36 rfl rfl ?_)
      | (go_at_call 29; (with_reducible refine cV.out.mono ?_); rintro e w1 ⟨rfl, b1⟩))
    go_ret
    exact ⟨by rw [hr.out]; rfl, below2 hB0 b1⟩
  obtain ⟨hs10, i0, i1, hZ, hZ2, hl3, le1, le2⟩ := ct_pieces hok
  obtain ⟨D, hD⟩ : ∃ D : ByteArray, D = ⟨(s.data.toList ++ 32 :: textZ [a, b]).toArray⟩ := ⟨_, rfl⟩
  obtain ⟨E, hE⟩ : ∃ E : ByteArray, E = ⟨(textZ L).toArray⟩ := ⟨_, rfl⟩
  have hDl : D.data.toList = s.data.toList ++ 32 :: textZ [a, b] := by rw [hD]
  have hEl : E.data.toList = textZ L := by rw [hE]
  have hDs : D.size ≤ 200 := by rw [← len_data, hDl]; simp [len_data]; omega
  have hEs : E.size ≤ 100 := by rw [← len_data, hEl]; exact le2
  obtain ⟨S1, hS1, hS1s, add1⟩ := add_named D ⟨#[32]⟩ (by show D.size + 1 ≤ _; omega)
  have hS1s' : S1.size ≤ 201 := by rw [hS1s]; show D.size + 1 ≤ 201; omega
  obtain ⟨S2, hS2, hS2s, add2⟩ := add_named S1 E (by omega)
  have hr : Hid (S2.data.toList = ctT ⟨s, a, b, L⟩) := Lib.hid (by unfold ctT; rw [if_pos hok, hS2, hS1, hDl, hEl]; simp)
  have cN : Hid (∀ W2 : World, Below w.heap.size w ((W2.alloc (.cells #[.int .i64 a, .int .i64 b] 2)).drew) → Calls Tryz.prog 38 #[.string s, .slice (some ⟨W2.heap.size, 0, none⟩) 2 2] ((W2.alloc (.cells #[.int .i64 a, .int .i64 b] 2)).drew) fun e w' => e = .returned (.string D) ∧ Below ((W2.alloc (.cells #[.int .i64 a, .int .i64 b] 2)).drew).heap.size ((W2.alloc (.cells #[.int .i64 a, .int .i64 b] 2)).drew) w') := Lib.hid (fun W2 hb => by
    have h1 := namedText_any s hs10 _ [a, b] hZ (by simp) ((W2.alloc (.cells #[.int .i64 a, .int .i64 b] 2)).drew) (two_ints W2 2 a b i0 i1) (hT.below hb)
    rw [hD]; exact h1)
  have cD : Hid (∀ W, Below w.heap.size w W → Calls Tryz.prog 39 #[u] W fun e w' => e = .returned (.string E) ∧ Below W.heap.size W w') := Lib.hid (fun W hb => by
    have := implListText_any u L W (by omega) (hv.below hb) (hT.below hb)
    rw [listR_in hZ2 (by omega)] at this
    rw [hE]; exact this)
  rw [hok] at cV
  replace cV := Lib.hid cV
  have hgw : Hid (∀ w1, Below W0.heap.size W0 w1 → (w1.cell? ⟨w.heap.size, 0, none⟩ = some (.string s) ∧ w1.cell? ⟨w.heap.size, 1, none⟩ = some (.int .i64 a) ∧ w1.cell? ⟨w.heap.size, 2, none⟩ = some (.int .i64 b) ∧ w1.cell? ⟨w.heap.size, 3, none⟩ = some u) ∧ Below w.heap.size w w1) := Lib.hid (fun w1 h1 => by
    have r := range_below hrng hsz h1
    exact ⟨⟨by simpa using r 0 _ rfl, by simpa using r 1 _ rfl, by simpa using r 2 _ rfl, by simpa using r 3 _ rfl⟩, below2 hB0 h1⟩)
  clear hD hE hDl hEl hDs hEs hS1 hS1s hS1s' hS2 hS2s le1 le2 hZ hZ2 hv hT i0 i1
  go_enter Tryz.func17, Tryz.ntmps17
  go_upto_region 1 with fail
  rw [← hW0]
  clear hW0
  go_upto_region 3 with (first
    | (refine wpList_load_mid rfl _ _ rfl w.heap.size 0 rfl _ _ hrng Tryz.underlying36 rfl rfl ?_)
    | (go_at_call 29; (with_reducible refine cV.out.mono ?_); rintro e w1 ⟨rfl, b1⟩))
  have hS := hgw.out w1 b1
  have keepH : Hid (∀ W1 W2, ((W1.cell? ⟨w.heap.size, 0, none⟩ = some (.string s) ∧ W1.cell? ⟨w.heap.size, 1, none⟩ = some (.int .i64 a) ∧ W1.cell? ⟨w.heap.size, 2, none⟩ = some (.int .i64 b) ∧ W1.cell? ⟨w.heap.size, 3, none⟩ = some u) ∧ Below w.heap.size w W1 ∧ w.heap.size < W1.heap.size) → Below W1.heap.size W1 W2 → ((W2.cell? ⟨w.heap.size, 0, none⟩ = some (.string s) ∧ W2.cell? ⟨w.heap.size, 1, none⟩ = some (.int .i64 a) ∧ W2.cell? ⟨w.heap.size, 2, none⟩ = some (.int .i64 b) ∧ W2.cell? ⟨w.heap.size, 3, none⟩ = some u) ∧ Below w.heap.size w W2 ∧ w.heap.size < W2.heap.size)) := Lib.hid (fun W1 W2 h1 h2 => by
    obtain ⟨⟨p0, p1, p2, p3⟩, hb, hl⟩ := h1
    exact ⟨⟨(bcell h2 _ _ hl).trans p0, (bcell h2 _ _ hl).trans p1, (bcell h2 _ _ hl).trans p2, (bcell h2 _ _ hl).trans p3⟩, below2 hb h2, Nat.lt_of_lt_of_le hl h2.size⟩)
  replace hS : ((w1.cell? ⟨w.heap.size, 0, none⟩ = some (.string s) ∧ w1.cell? ⟨w.heap.size, 1, none⟩ = some (.int .i64 a) ∧ w1.cell? ⟨w.heap.size, 2, none⟩ = some (.int .i64 b) ∧ w1.cell? ⟨w.heap.size, 3, none⟩ = some u) ∧ Below w.heap.size w w1 ∧ w.heap.size < w1.heap.size) := ⟨hS.1, hS.2, Nat.lt_of_lt_of_le hsz b1.size⟩
  clear hgw hrng hB0 hsz b1
  go_region_held3 (fun w' => ((w'.cell? ⟨w.heap.size, 0, none⟩ = some (.string s) ∧ w'.cell? ⟨w.heap.size, 1, none⟩ = some (.int .i64 a) ∧ w'.cell? ⟨w.heap.size, 2, none⟩ = some (.int .i64 b) ∧ w'.cell? ⟨w.heap.size, 3, none⟩ = some u) ∧ Below w.heap.size w w' ∧ w.heap.size < w'.heap.size))
    (first | exact ⟨hS.1, belowN hS.2.1 1, hS.2.2⟩ | exact keepH.out _ _ (by assumption) (fresh_b _ _) | exact keepH.out _ _ (by assumption) (belowN (fresh_b _ _) 1) | exact keepH.out w1 _ hS (belowN (fresh_b _ _) 1) | exact keepH.out _ _ (by assumption) (by assumption) | assumption)
    (first
      | (go_at_call 38; (with_reducible refine (cN.out _ (And.left (And.right (by assumption)))).mono ?_); rintro e w' ⟨rfl, hbel⟩)
      | (go_at_call 39; (with_reducible refine (cD.out _ (And.left (And.right (by assumption)))).mono ?_); rintro e w' ⟨rfl, hbel⟩))
  all_goals rename_i hHeld
  all_goals have hb2 := hHeld.2.1
  all_goals clear hHeld hS keepH
  all_goals go_wp2
  all_goals go_ret
  all_goals exact str_ret hr.out hb2
end Go.Proofs.YtgfhjcbmilaegaaGreatDoor
namespace Go.Proofs.YtgfhjcbmilaegaaGreatDoor
open Go.ChangeShapes Go.WideShapes Go.ChangeAt Go.RowKit Go.Deep
set_option linter.unusedVariables false
set_option linter.unusedSimpArgs false
set_option maxRecDepth 1000000
/-- the coat that three words tell -/
def ctOf (p q r : List UInt8) : Option Ct :=
  match readM q 2, readL r with
  | some Z, some C => if ctB ⟨⟨p.toArray⟩, Z.getD 0 0, Z.getD 1 0, C⟩ = true then some ⟨⟨p.toArray⟩, Z.getD 0 0, Z.getD 1 0, C⟩ else none
  | _, _ => none
def ctO (l : List UInt8) : Option Ct :=
  match splitL 32 l with
  | [p, q, r] => ctOf p q r
  | _ => none
theorem ctOf_q {p q r : List UInt8} (h : readM q 2 = none) : ctOf p q r = none := by unfold ctOf; rw [h]
theorem ctOf_r {p q r : List UInt8} (h : readL r = none) : ctOf p q r = none := by unfold ctOf; rw [h]; cases readM q 2 <;> rfl
theorem ctOf_yes {p q r : List UInt8} {Z C : List Int} (h : readM q 2 = some Z) (h2 : readL r = some C) : ctOf p q r = if ctB ⟨⟨p.toArray⟩, Z.getD 0 0, Z.getD 1 0, C⟩ = true then some ⟨⟨p.toArray⟩, Z.getD 0 0, Z.getD 1 0, C⟩ else none := by unfold ctOf; rw [h, h2]
theorem ctO_no {l : List UInt8} (h : (splitL 32 l).length ≠ 3) : ctO l = none := by
  unfold ctO
  split
  · rename_i p q r e; rw [e] at h; simp at h
  · rfl
theorem ctO_three {l p q r : List UInt8} (h : splitL 32 l = [p, q, r]) : ctO l = ctOf p q r := by unfold ctO; rw [h]
theorem readM_two {q : List UInt8} {Z : List Int} (h : readM q 2 = some Z) : ∃ a b, Z = [a, b] := by
  unfold readM at h
  split at h
  · split at h
    · cases h
      rename_i hl
      match Z, hl with
      | [a, b], _ => exact ⟨a, b, rfl⟩
    · cases h
  · cases h
/-- a text and its first blank -/
theorem cut_split (l : List UInt8) : ((Lib.cut l [32]).2.1 = [] ∧ splitL 32 l = [l]) ∨ splitL 32 l = (Lib.cut l [32]).1 :: splitL 32 (Lib.cut l [32]).2.1 := by
  by_cases hi : Lib.index l [32] = -1
  · left
    have hn := idx_none 32 l hi
    refine ⟨?_, splitL_miss 32 l hn⟩
    unfold Lib.cut; rw [hi]; rfl
  · right
    obtain ⟨i, hi'⟩ : ∃ i : Nat, Lib.index l [32] = i := ⟨(Lib.index l [32]).toNat, by have := Lib.index_ge l [32]; omega⟩
    obtain ⟨e, hx⟩ := idx_some 32 l i hi'
    have c1 : (Lib.cut l [32]).1 = l.take i := by unfold Lib.cut; rw [hi']; simp
    have c2 : (Lib.cut l [32]).2.1 = l.drop (i + 1) := by unfold Lib.cut; rw [hi']; simp
    rw [c1, c2]
    conv => lhs; rw [e]
    rw [splitL_hit 32 _ _ hx]
theorem cut_nil : (Lib.cut [] [32]).2.1 = [] := by decide
theorem ctO_cut (l : List UInt8) : ctO l = ctOf (Lib.cut l [32]).1 (Lib.cut (Lib.cut l [32]).2.1 [32]).1 (Lib.cut (Lib.cut l [32]).2.1 [32]).2.1 := by
  rcases cut_split l with ⟨h1, h2⟩ | h2
  · rw [ctO_no (by rw [h2]; simp), h1, ctOf_r (by rw [cut_nil]; exact readL_nil)]
  · rcases cut_split (Lib.cut l [32]).2.1 with ⟨h3, h4⟩ | h4
    · rw [ctO_no (by rw [h2, h4]; simp), h3, ctOf_r readL_nil]
    · by_cases hm : (32 : UInt8) ∈ (Lib.cut (Lib.cut l [32]).2.1 [32]).2.1
      · rw [ctOf_r (readL_blank (c := 32) (by decide) (by decide) (by decide) hm)]
        refine ctO_no ?_
        rw [h2, h4]
        rcases split_cases 32 (Lib.cut (Lib.cut l [32]).2.1 [32]).2.1 with ⟨_, h5⟩ | ⟨x, r, _, _, h5⟩
        · exact absurd rfl (h5 _ hm)
        · rw [h5]
          have := splitL_pos' 32 r
          rw [List.length_cons, List.length_cons, List.length_cons]; omega
      · have h5 := splitL_miss 32 (Lib.cut (Lib.cut l [32]).2.1 [32]).2.1 (fun c hc e => by subst e; exact hm hc)
        exact ctO_three (by rw [h2, h4, h5])
theorem cut_sizes {l : List UInt8} {M : Nat} (h : l.length ≤ M) : (Lib.cut l [32]).1.length ≤ M ∧ (Lib.cut l [32]).2.1.length ≤ M := by
  unfold Lib.cut
  split
  · exact ⟨by show (l.take _).length ≤ _; rw [List.length_take]; omega, by show (l.drop _).length ≤ _; rw [List.length_drop]; omega⟩
  · exact ⟨h, by simp⟩
/-- what a reader of a coat hands back -/
def CtRet (o : Option Ct) (w : World) (e : Ending) (w' : World) : Prop :=
  match o with
  | none => e = .returned (.tuple #[.agg #[.string ⟨#[]⟩, .int .i64 0, .int .i64 0, .slice none 0 0], .bool false]) ∧ Below w.heap.size w w'
  | some x => ∃ u, e = .returned (.tuple #[.agg #[.string x.id, .int .i64 x.days, .int .i64 x.cover, u], .bool true]) ∧ w'.ownsRow w.heap.size 2 1 u x.col.length (x.col.map encI) ∧ Below w.heap.size w w'
theorem own_kept8 {w w' : World} {B e size n : Nat} {v : Value} {xs : List Value} (h : w.ownsRow B e size v n xs) (hb : Below w.heap.size w w') : w'.ownsRow B e size v n xs := by
  refine ⟨h.1, ?_⟩
  rcases h.2 with h1 | ⟨g, cap, cur, hv, hg, hc, r⟩
  · exact Or.inl h1
  · exact Or.inr ⟨g, cap, cur, hv, hg, by rw [hb.block g (h.lt g (by rw [hv]; rfl)).2]; exact hc, r⟩
/-- the block of a result -/
def ResC (w : World) (g : Nat) : Prop := w.heap[g]? = some (.cells #[.string ⟨#[]⟩, .int .i64 0, .int .i64 0, .slice none 0 0] 36 (0, 0))
theorem ResC.below {w w' : World} {g : Nat} (h : ResC w g) (hb : Below w.heap.size w w') : ResC w' g := (hb.block g (Array.getElem?_eq_some_iff.1 h).1).trans h
theorem ResC.facts {w : World} {g : Nat} (h : ResC w g) : (w.cell? ⟨g, 0, none⟩ = some (.string ⟨#[]⟩) ∧ w.cell? ⟨g, 1, none⟩ = some (.int .i64 0) ∧ w.cell? ⟨g, 2, none⟩ = some (.int .i64 0) ∧ w.cell? ⟨g, 3, none⟩ = some (.slice none 0 0)) ∧ (w.frozen? ⟨g, 0, none⟩ = false ∧ w.frozen? ⟨g, 1, none⟩ = false ∧ w.frozen? ⟨g, 2, none⟩ = false ∧ w.frozen? ⟨g, 3, none⟩ = false) :=
  ⟨⟨cellB h 0 _ rfl, cellB h 1 _ rfl, cellB h 2 _ rfl, cellB h 3 _ rfl⟩, freeB h 0, freeB h 1, freeB h 2, freeB h 3⟩
theorem ResC.there {w : World} {g : Nat} (h : ResC w g) : w.there g 0 4 := fun j hj => by
  rw [Nat.zero_add]
  refine ⟨?_, freeB h j⟩
  rw [cellB h j ((#[.string ⟨#[]⟩, .int .i64 0, .int .i64 0, .slice none 0 0] : Array Value)[j]'(by simpa using hj)) (Array.getElem?_eq_getElem _)]; rfl
/-- the result is stored -/
theorem resC_end {w w3 w5 : World} {s : ByteArray} {a b : Int} {p : Option Addr} {n c : Nat} (th : w3.there w.heap.size 0 4) (hb : Below w.heap.size w w3) (hW : w3.setCells w.heap.size 0 [.string s, .int .i64 a, .int .i64 b, .slice p n c] = w5) :
    (w5.cell? ⟨w.heap.size, 0, none⟩ = some (.string s) ∧ w5.cell? ⟨w.heap.size, 1, none⟩ = some (.int .i64 a) ∧ w5.cell? ⟨w.heap.size, 2, none⟩ = some (.int .i64 b) ∧ w5.cell? ⟨w.heap.size, 3, none⟩ = some (.slice p n c)) ∧ w3.grownBy w5 (some w.heap.size) ∧ Below w.heap.size w w5 := by
  subst hW
  have hr := World.rangeAt_setCells_same w3 w.heap.size 0 [.string s, .int .i64 a, .int .i64 b, .slice p n c] th
  exact ⟨⟨by simpa using hr 0 _ rfl, by simpa using hr 1 _ rfl, by simpa using hr 2 _ rfl, by simpa using hr 3 _ rfl⟩, grownSets _ _ _ _, below_sets (Nat.le_refl _) _ _ _ hb⟩
theorem ints_row {w : World} {B : Nat} {v : Value} {a b : Int} (h : w.ownsRow B 2 1 v ([a, b] : List Int).length (([a, b] : List Int).map encI)) : ∃ g cap, v = .slice (some ⟨g, 0, none⟩) 2 cap ∧ B ≤ g ∧ g < w.heap.size ∧ w.cell? ⟨g, 0, none⟩ = some (.int .i64 a) ∧ w.cell? ⟨g, 1, none⟩ = some (.int .i64 b) := by
  have h0 := h
  rcases h.2 with ⟨h1, h2⟩ | ⟨g, cap, cur, hv, hg, hb, hn, hcap, _, _⟩
  · simp at h2
  · subst hv
    exact ⟨g, cap, rfl, hg, (h0.lt g rfl).2, by rw [h0.cellAt 0 (by simp)]; rfl, by rw [h0.cellAt 1 (by simp)]; rfl⟩
theorem words_row {w : World} {B : Nat} {v : Value} {p q r : List UInt8} (h : w.ownsRow B 9 1 v 3 [encS p, encS q, encS r]) : ∃ g cap, v = .slice (some ⟨g, 0, none⟩) 3 cap ∧ g < w.heap.size ∧ w.cell? ⟨g, 0, none⟩ = some (encS p) ∧ w.cell? ⟨g, 1, none⟩ = some (encS q) ∧ w.cell? ⟨g, 2, none⟩ = some (encS r) := by
  have h0 := h
  rcases h.2 with ⟨h1, h2⟩ | ⟨g, cap, cur, hv, hg, hb, hn, hcap, _, _⟩
  · omega
  · subst hv
    exact ⟨g, cap, rfl, (h0.lt g rfl).2, by rw [h0.cellAt 0 (by omega)]; rfl, by rw [h0.cellAt 1 (by omega)]; rfl, by rw [h0.cellAt 2 (by omega)]; rfl⟩
theorem lret_none {o : Option (List Int)} {w w' : World} {e : Ending} (h : LRet o w e w') (ho : o = none) : e = .returned (.tuple #[.slice none 0 0, .bool false]) ∧ Below w.heap.size w w' := by subst ho; exact h
theorem lret_some {o : Option (List Int)} {w w' : World} {e : Ending} {Z : List Int} (h : LRet o w e w') (ho : o = some Z) : ∃ v, e = .returned (.tuple #[v, .bool true]) ∧ w'.ownsRow w.heap.size 2 1 v Z.length (Z.map encI) ∧ Below w.heap.size w w' := by subst ho; exact h
set_option maxHeartbeats 3200000 in
theorem implReadCoat_any (s : ByteArray) (w : World) (hs : s.size ≤ 1048576) (hT : TabP w) (hE : ErrsAt w) (hSh : w.ShapedOpen Tryz.prog) :
    Calls Tryz.prog 16 #[.string s] w (CtRet (ctO s.data.toList) w) := by
  have hq := Lib.hid (ctO_cut s.data.toList)
  obtain ⟨A, R1, hA, hR1, hA', hAs, hR1s, bb1, cC1⟩ := cut_any s hs
  obtain ⟨B, R2, hB, hR2, hB', hBs, hR2s, bb2, cC2⟩ := cut_any R1 hR1s
  rw [hR1] at hB hR2
  have hf0 := fresh_b w (.cells #[.string ⟨#[]⟩, .int .i64 0, .int .i64 0, .slice none 0 0] 36)
  have hRes0 : ResC (w.alloc (.cells #[.string ⟨#[]⟩, .int .i64 0, .int .i64 0, .slice none 0 0] 36)) w.heap.size := heap_alloc_new _ _
  have cM0 := fun W (hb : Below w.heap.size w W) => readNumbers_any B 2 W (by decide) hBs (hT.below hb) (hE.below hb) (shape_below hSh hb)
  have cL0 := fun W (hb : Below w.heap.size w W) => implReadList_any R2 W hR2s (hT.below hb) (hE.below hb) (shape_below hSh hb)
  rw [hB] at cM0
  rw [hR2] at cL0
  have cD1 : Hid (∀ W, Below w.heap.size w W → Calls Tryz.prog 35 #[.string s, .string ⟨#[32]⟩] W fun e w' => e = .returned (.tuple #[.string A, .string R1, .bool bb1]) ∧ Below W.heap.size W w') := Lib.hid (fun W hb => (cC1.out W (shape_below hSh hb)).mono (by rintro e w' ⟨rfl, n, rfl⟩; exact ⟨rfl, belowN (Below.refl _ _) n⟩))
  have cD2 : Hid (∀ W, Below w.heap.size w W → Calls Tryz.prog 35 #[.string R1, .string ⟨#[32]⟩] W fun e w' => e = .returned (.tuple #[.string B, .string R2, .bool bb2]) ∧ Below W.heap.size W w') := Lib.hid (fun W hb => (cC2.out W (shape_below hSh hb)).mono (by rintro e w' ⟨rfl, n, rfl⟩; exact ⟨rfl, belowN (Below.refl _ _) n⟩))
  obtain ⟨p, hp⟩ : ∃ p, p = (Lib.cut s.data.toList [32]).1 := ⟨_, rfl⟩
  obtain ⟨q, hq9⟩ : ∃ q, q = (Lib.cut (Lib.cut s.data.toList [32]).2.1 [32]).1 := ⟨_, rfl⟩
  obtain ⟨r, hr9⟩ : ∃ r, r = (Lib.cut (Lib.cut s.data.toList [32]).2.1 [32]).2.1 := ⟨_, rfl⟩
  have hO : Hid (ctO s.data.toList = ctOf p q r) := Lib.hid (by rw [hq.out, hp, hq9, hr9])
  rw [← hq9] at cM0
  rw [← hr9] at cL0
  rw [← hp] at hA'
  have hAm : A.size ≤ maxLen := by unfold maxLen; omega
  have hA2 := Lib.hid hA'
  have hW0 := Lib.hid hRes0
  clear hq hp hq9 hr9 hA hB hR1 hR2 hB' hA' hBs hR2s hR1s cC1 cC2 hT hE hSh hRes0 hAs
  cases hM : readM q 2 with
  | none =>
    have cM := Lib.hid (fun W hb => (cM0 W hb).mono fun e w' h => lret_none h hM)
    cases hL : readL r with
    | none =>
      have cL := Lib.hid (fun W hb => (cL0 W hb).mono fun e w' h => lret_none h hL)
      have hr : Hid (ctO s.data.toList = none) := Lib.hid (by rw [hO.out]; exact ctOf_q hM)
      clear cM0 cL0
      go_enter Tryz.func16, Tryz.ntmps16
      go_wp2_with fail
      refine (cD1.out _ hf0).mono ?_
      rintro e w1 ⟨rfl, b1⟩
      have B1 := below2 hf0 b1
      go_wp2_with fail
      refine (cD2.out _ B1).mono ?_
      rintro e w2 ⟨rfl, b2⟩
      have B2 := below2 B1 b2
      have R2w := Lib.hid ((hW0.out.below b1).below b2)
      clear b1 b2 B1 hf0
      go_wp2_with fail
      refine (cM.out _ B2).mono ?_
      rintro e w3 ⟨rfl, b3⟩
      have B3 := below2 B2 b3
      have R3w := Lib.hid (R2w.out.below b3)
      clear b3
      go_wp2_with fail
      refine (cL.out _ B3).mono ?_
      rintro e w4 ⟨rfl, b4⟩
      have B4 := below2 B3 b4
      have R4w := Lib.hid (R3w.out.below b4)
      have th := (R4w.out).there
      have hb9 := B4
      go_wp2_with (refine wpList_store_mid rfl _ _ _ rfl w.heap.size 0 _ rfl rfl ?_ sizeCt (oneCt _ _ _ _ _ _) ?_; (exact th); generalize hW : World.setCells _ _ _ _ = w9; (have H := resC_end th hb9 hW); clear hW)
      obtain ⟨⟨c0, c1, c2, c3⟩, _, B9⟩ := H
      exact bodyPost_ret (v := .tuple #[.agg #[.string ⟨#[]⟩, .int .i64 0, .int .i64 0, .slice none 0 0], .bool false]) (by simp [results, Tryz.results16, go_sem, c0, c1, c2, c3]) rfl (by rw [hr.out]; exact ⟨rfl, B9⟩)
    | some C =>
      have cL := Lib.hid (fun W hb => (cL0 W hb).mono fun e w' h => lret_some h hL)
      have hr : Hid (ctO s.data.toList = none) := Lib.hid (by rw [hO.out]; exact ctOf_q hM)
      clear cM0 cL0
      go_enter Tryz.func16, Tryz.ntmps16
      go_wp2_with fail
      refine (cD1.out _ hf0).mono ?_
      rintro e w1 ⟨rfl, b1⟩
      have B1 := below2 hf0 b1
      go_wp2_with fail
      refine (cD2.out _ B1).mono ?_
      rintro e w2 ⟨rfl, b2⟩
      have B2 := below2 B1 b2
      have R2w := Lib.hid ((hW0.out.below b1).below b2)
      clear b1 b2 B1 hf0
      go_wp2_with fail
      refine (cM.out _ B2).mono ?_
      rintro e w3 ⟨rfl, b3⟩
      have B3 := below2 B2 b3
      have R3w := Lib.hid (R2w.out.below b3)
      clear b3
      go_wp2_with fail
      refine (cL.out _ B3).mono ?_
      rintro e w4 ⟨v4, rfl, o4, b4⟩
      obtain ⟨ax, cx, rfl⟩ := ownShape o4
      have B4 := below2 B3 b4
      have R4w := Lib.hid (R3w.out.below b4)
      have th := (R4w.out).there
      have hb9 := B4
      go_wp2_with (refine wpList_store_mid rfl _ _ _ rfl w.heap.size 0 _ rfl rfl ?_ sizeCt (oneCt _ _ _ _ _ _) ?_; (exact th); generalize hW : World.setCells _ _ _ _ = w9; (have H := resC_end th hb9 hW); clear hW)
      obtain ⟨⟨c0, c1, c2, c3⟩, _, B9⟩ := H
      exact bodyPost_ret (v := .tuple #[.agg #[.string ⟨#[]⟩, .int .i64 0, .int .i64 0, .slice none 0 0], .bool false]) (by simp [results, Tryz.results16, go_sem, c0, c1, c2, c3]) rfl (by rw [hr.out]; exact ⟨rfl, B9⟩)
  | some Z =>
    obtain ⟨a, b, rfl⟩ := readM_two hM
    have cM := Lib.hid (fun W hb => (cM0 W hb).mono fun e w' h => lret_some h hM)
    cases hL : readL r with
    | none =>
      have cL := Lib.hid (fun W hb => (cL0 W hb).mono fun e w' h => lret_none h hL)
      have hr : Hid (ctO s.data.toList = none) := Lib.hid (by rw [hO.out]; exact ctOf_r hL)
      clear cM0 cL0
      go_enter Tryz.func16, Tryz.ntmps16
      go_wp2_with fail
      refine (cD1.out _ hf0).mono ?_
      rintro e w1 ⟨rfl, b1⟩
      have B1 := below2 hf0 b1
      go_wp2_with fail
      refine (cD2.out _ B1).mono ?_
      rintro e w2 ⟨rfl, b2⟩
      have B2 := below2 B1 b2
      have R2w := Lib.hid ((hW0.out.below b1).below b2)
      clear b1 b2 B1 hf0
      go_wp2_with fail
      refine (cM.out _ B2).mono ?_
      rintro e w3 ⟨v3, rfl, o3, b3⟩
      obtain ⟨g3, c3x, rfl, hg3b, hg3, m0, m1⟩ := ints_row o3
      have B3 := below2 B2 b3
      have R3w := Lib.hid (R2w.out.below b3)
      clear b3
      go_wp2_with fail
      refine (cL.out _ B3).mono ?_
      rintro e w4 ⟨rfl, b4⟩
      have B4 := below2 B3 b4
      have R4w := Lib.hid (R3w.out.below b4)
      have th := (R4w.out).there
      have hb9 := B4
      go_wp2_with (refine wpList_store_mid rfl _ _ _ rfl w.heap.size 0 _ rfl rfl ?_ sizeCt (oneCt _ _ _ _ _ _) ?_; (exact th); generalize hW : World.setCells _ _ _ _ = w9; (have H := resC_end th hb9 hW); clear hW)
      obtain ⟨⟨c0, c1, c2, c3⟩, _, B9⟩ := H
      exact bodyPost_ret (v := .tuple #[.agg #[.string ⟨#[]⟩, .int .i64 0, .int .i64 0, .slice none 0 0], .bool false]) (by simp [results, Tryz.results16, go_sem, c0, c1, c2, c3]) rfl (by rw [hr.out]; exact ⟨rfl, B9⟩)
    | some C =>
      have cL := Lib.hid (fun W hb => (cL0 W hb).mono fun e w' h => lret_some h hL)
      have hCi := Lib.hid (readL_in hL)
      have hCl : C.length ≤ maxLen := by have := readL_len hL; unfold maxLen; omega
      have hq2 : Hid (ctO s.data.toList = if ctB ⟨A, a, b, C⟩ = true then some ⟨A, a, b, C⟩ else none) := Lib.hid (by rw [hO.out, ctOf_yes hM hL, hA2.out]; rfl)
      clear cM0 cL0 hM hL
      cases hv : ctB ⟨A, a, b, C⟩
      · have hr : Hid (ctO s.data.toList = none) := Lib.hid (by rw [hq2.out, hv]; rfl)
        go_enter Tryz.func16, Tryz.ntmps16
        go_wp2_with fail
        refine (cD1.out _ hf0).mono ?_
        rintro e w1 ⟨rfl, b1⟩
        have B1 := below2 hf0 b1
        go_wp2_with fail
        refine (cD2.out _ B1).mono ?_
        rintro e w2 ⟨rfl, b2⟩
        have B2 := below2 B1 b2
        have R2w := Lib.hid ((hW0.out.below b1).below b2)
        clear b1 b2 B1 hf0
        go_wp2_with fail
        refine (cM.out _ B2).mono ?_
        rintro e w3 ⟨v3, rfl, o3, b3⟩
        obtain ⟨g3, c3x, rfl, hg3b, hg3, m0, m1⟩ := ints_row o3
        have B3 := below2 B2 b3
        have R3w := Lib.hid (R2w.out.below b3)
        clear b3
        go_wp2_with fail
        refine (cL.out _ B3).mono ?_
        rintro e w4 ⟨v4, rfl, o4, b4⟩
        obtain ⟨ax, cx, rfl⟩ := ownShape o4
        have B4 := below2 B3 b4
        have R4w := Lib.hid (R3w.out.below b4)
        have n0 := (bcell b4 _ _ hg3).trans m0
        have n1 := (bcell b4 _ _ hg3).trans m1
        have hg4 := Nat.lt_of_lt_of_le hg3 b4.size
        have o4' := Lib.hid o4
        have hs3 : w.heap.size < w3.heap.size := (Array.getElem?_eq_some_iff.1 R3w.out).1
        have keepH : Hid (∀ W1 W2, ((W1.cell? ⟨g3, 0, none⟩ = some (.int .i64 a) ∧ W1.cell? ⟨g3, 1, none⟩ = some (.int .i64 b)) ∧ Below w4.heap.size w4 W1) → Below W1.heap.size W1 W2 → ((W2.cell? ⟨g3, 0, none⟩ = some (.int .i64 a) ∧ W2.cell? ⟨g3, 1, none⟩ = some (.int .i64 b)) ∧ Below w4.heap.size w4 W2)) := Lib.hid (fun W1 W2 h1 h2 => by
          obtain ⟨⟨p0, p1⟩, hb⟩ := h1
          have hl := Nat.lt_of_lt_of_le hg4 hb.size
          exact ⟨⟨(bcell h2 _ _ hl).trans p0, (bcell h2 _ _ hl).trans p1⟩, below2 hb h2⟩)
        have hS : ((w4.cell? ⟨g3, 0, none⟩ = some (.int .i64 a) ∧ w4.cell? ⟨g3, 1, none⟩ = some (.int .i64 b)) ∧ Below w4.heap.size w4 w4) := ⟨⟨n0, n1⟩, Below.refl _ _⟩
        have cV0 := fun W (hb : Below w4.heap.size w4 W) => isValidCt_any A a b (.slice ax C.length cx) C hAm hCl W (ints_own (own_kept8 o4'.out hb) hCi.out)
        rw [hv] at cV0
        have cV := Lib.hid cV0
        clear cV0 o4 m0 m1 n0 n1 b4 hg3 hg3b
        go_wp2
        go_region_held3 (fun w' => ((w'.cell? ⟨g3, 0, none⟩ = some (.int .i64 a) ∧ w'.cell? ⟨g3, 1, none⟩ = some (.int .i64 b)) ∧ Below w4.heap.size w4 w'))
          (first | exact ⟨hS.1, belowN hS.2 1⟩ | exact keepH.out _ _ (by assumption) (fresh_b _ _) | exact keepH.out _ _ (by assumption) (belowN (fresh_b _ _) 1) | exact keepH.out w4 _ hS (belowN (fresh_b _ _) 1) | exact keepH.out _ _ (by assumption) (by assumption) | assumption)
          (fail)
        all_goals rename_i hHeld
        have hB5 := hHeld.2
        have hX : ((w4.alloc (.cells #[.string A, .int .i64 a, .int .i64 b, .slice ax C.length cx] 36)).drew).heap[w4.heap.size]? = some (.cells #[.string A, .int .i64 a, .int .i64 b, .slice ax C.length cx] 36 (0, 0)) := heap_alloc_new _ _
        have hGx : w4.heap.size < ((w4.alloc (.cells #[.string A, .int .i64 a, .int .i64 b, .slice ax C.length cx] 36)).drew).heap.size := by simp
        clear hHeld hS keepH
        generalize (w4.alloc (.cells #[.string A, .int .i64 a, .int .i64 b, .slice ax C.length cx] 36)).drew = w5 at hB5 hX hGx ⊢
        have hR5 := R4w.out.below hB5
        have B5 := below2 B4 hB5
        have cW := Lib.hid (cV.out w5 hB5)
        have o5 := Lib.hid (own_kept8 o4'.out hB5)
        have hrX : w5.rangeAt w4.heap.size 0 [.string A, .int .i64 a, .int .i64 b, .slice ax C.length cx] := fun j v hv => by rw [Nat.zero_add]; exact cellB hX j v (by simpa using hv)
        go_upto_region 9 with (first | (refine wpList_load_mid rfl _ _ rfl w4.heap.size 0 rfl _ _ hrX Tryz.underlying36 rfl rfl ?_) | (go_at_call 29; (with_reducible refine cW.out.mono ?_); rintro e w6 ⟨rfl, b6⟩))
        have th := (hR5.below b6).there
        have hb9 := below2 B5 b6
        go_wp2_with (refine wpList_store_mid rfl _ _ _ rfl w.heap.size 0 _ rfl rfl ?_ sizeCt (oneCt _ _ _ _ _ _) ?_; (exact th); generalize hW : World.setCells _ _ _ _ = w9; (have H := resC_end th hb9 hW); clear hW)
        obtain ⟨⟨c0, c1, c2, c3⟩, _, B9⟩ := H
        exact bodyPost_ret (v := .tuple #[.agg #[.string ⟨#[]⟩, .int .i64 0, .int .i64 0, .slice none 0 0], .bool false]) (by simp [results, Tryz.results16, go_sem, c0, c1, c2, c3]) rfl (by rw [hr.out]; exact ⟨rfl, B9⟩)
      · have hr : Hid (ctO s.data.toList = some ⟨A, a, b, C⟩) := Lib.hid (by rw [hq2.out, if_pos hv])
        go_enter Tryz.func16, Tryz.ntmps16
        go_wp2_with fail
        refine (cD1.out _ hf0).mono ?_
        rintro e w1 ⟨rfl, b1⟩
        have B1 := below2 hf0 b1
        go_wp2_with fail
        refine (cD2.out _ B1).mono ?_
        rintro e w2 ⟨rfl, b2⟩
        have B2 := below2 B1 b2
        have R2w := Lib.hid ((hW0.out.below b1).below b2)
        clear b1 b2 B1 hf0
        go_wp2_with fail
        refine (cM.out _ B2).mono ?_
        rintro e w3 ⟨v3, rfl, o3, b3⟩
        obtain ⟨g3, c3x, rfl, hg3b, hg3, m0, m1⟩ := ints_row o3
        have B3 := below2 B2 b3
        have R3w := Lib.hid (R2w.out.below b3)
        clear b3
        go_wp2_with fail
        refine (cL.out _ B3).mono ?_
        rintro e w4 ⟨v4, rfl, o4, b4⟩
        obtain ⟨ax, cx, rfl⟩ := ownShape o4
        have B4 := below2 B3 b4
        have R4w := Lib.hid (R3w.out.below b4)
        have n0 := (bcell b4 _ _ hg3).trans m0
        have n1 := (bcell b4 _ _ hg3).trans m1
        have hg4 := Nat.lt_of_lt_of_le hg3 b4.size
        have o4' := Lib.hid o4
        have hs3 : w.heap.size < w3.heap.size := (Array.getElem?_eq_some_iff.1 R3w.out).1
        have keepH : Hid (∀ W1 W2, ((W1.cell? ⟨g3, 0, none⟩ = some (.int .i64 a) ∧ W1.cell? ⟨g3, 1, none⟩ = some (.int .i64 b)) ∧ Below w4.heap.size w4 W1) → Below W1.heap.size W1 W2 → ((W2.cell? ⟨g3, 0, none⟩ = some (.int .i64 a) ∧ W2.cell? ⟨g3, 1, none⟩ = some (.int .i64 b)) ∧ Below w4.heap.size w4 W2)) := Lib.hid (fun W1 W2 h1 h2 => by
          obtain ⟨⟨p0, p1⟩, hb⟩ := h1
          have hl := Nat.lt_of_lt_of_le hg4 hb.size
          exact ⟨⟨(bcell h2 _ _ hl).trans p0, (bcell h2 _ _ hl).trans p1⟩, below2 hb h2⟩)
        have hS : ((w4.cell? ⟨g3, 0, none⟩ = some (.int .i64 a) ∧ w4.cell? ⟨g3, 1, none⟩ = some (.int .i64 b)) ∧ Below w4.heap.size w4 w4) := ⟨⟨n0, n1⟩, Below.refl _ _⟩
        have cV0 := fun W (hb : Below w4.heap.size w4 W) => isValidCt_any A a b (.slice ax C.length cx) C hAm hCl W (ints_own (own_kept8 o4'.out hb) hCi.out)
        rw [hv] at cV0
        have cV := Lib.hid cV0
        clear cV0 o4 m0 m1 n0 n1 b4 hg3 hg3b
        go_wp2
        go_region_held3 (fun w' => ((w'.cell? ⟨g3, 0, none⟩ = some (.int .i64 a) ∧ w'.cell? ⟨g3, 1, none⟩ = some (.int .i64 b)) ∧ Below w4.heap.size w4 w'))
          (first | exact ⟨hS.1, belowN hS.2 1⟩ | exact keepH.out _ _ (by assumption) (fresh_b _ _) | exact keepH.out _ _ (by assumption) (belowN (fresh_b _ _) 1) | exact keepH.out w4 _ hS (belowN (fresh_b _ _) 1) | exact keepH.out _ _ (by assumption) (by assumption) | assumption)
          (fail)
        all_goals rename_i hHeld
        have hB5 := hHeld.2
        have hX : ((w4.alloc (.cells #[.string A, .int .i64 a, .int .i64 b, .slice ax C.length cx] 36)).drew).heap[w4.heap.size]? = some (.cells #[.string A, .int .i64 a, .int .i64 b, .slice ax C.length cx] 36 (0, 0)) := heap_alloc_new _ _
        have hGx : w4.heap.size < ((w4.alloc (.cells #[.string A, .int .i64 a, .int .i64 b, .slice ax C.length cx] 36)).drew).heap.size := by simp
        clear hHeld hS keepH
        generalize (w4.alloc (.cells #[.string A, .int .i64 a, .int .i64 b, .slice ax C.length cx] 36)).drew = w5 at hB5 hX hGx ⊢
        have hR5 := R4w.out.below hB5
        have B5 := below2 B4 hB5
        have cW := Lib.hid (cV.out w5 hB5)
        have o5 := Lib.hid (own_kept8 o4'.out hB5)
        have hrX : w5.rangeAt w4.heap.size 0 [.string A, .int .i64 a, .int .i64 b, .slice ax C.length cx] := fun j v hv => by rw [Nat.zero_add]; exact cellB hX j v (by simpa using hv)
        go_wp2_with (first | (refine wpList_load_mid rfl _ _ rfl w4.heap.size 0 rfl _ _ hrX Tryz.underlying36 rfl rfl ?_) | (refine wpList_load_mid rfl _ _ rfl w4.heap.size 0 rfl _ _ hrY Tryz.underlying36 rfl rfl ?_) | (go_at_call 29; (with_reducible refine cW.out.mono ?_); rintro e w6 ⟨rfl, b6⟩; have th := (hR5.below b6).there; have hb9 := below2 B5 b6; have hrY := range_below hrX hGx b6; have o6 := Lib.hid (own_kept8 o5.out b6)) | (refine wpList_store_mid rfl _ _ _ rfl w.heap.size 0 _ rfl rfl ?_ sizeCt (oneCt _ _ _ _ _ _) ?_; (exact th); generalize hW : World.setCells _ _ _ _ = w9; (have H := resC_end th hb9 hW); clear hW))
        obtain ⟨⟨c0, c1, c2, c3⟩, gr, B9⟩ := H
        have o9 := Lib.hid (o6.out.kept gr (by
          cases e : (Value.slice ax C.length cx).ownBlock with
          | none => exact Or.inl rfl
          | some b => right; intro hh; injection hh with hh; have := (o6.out.lt b e).1; omega))
        exact bodyPost_ret (v := .tuple #[.agg #[.string A, .int .i64 a, .int .i64 b, .slice ax C.length cx], .bool true]) (by simp [results, Tryz.results16, go_sem, c0, c1, c2, c3]) rfl (by rw [hr.out]; exact ⟨_, rfl, own_low o9.out (Nat.le_of_lt hs3), B9⟩)
end Go.Proofs.YtgfhjcbmilaegaaGreatDoor
namespace Go.Proofs.YtgfhjcbmilaegaaGreatDoor
def rootN : Nat → Nat
  | 0 => 0
  | n + 1 => if (rootN n + 1) * (rootN n + 1) ≤ n + 1 then rootN n + 1 else rootN n
theorem rootN_sq : ∀ n : Nat, rootN n * rootN n ≤ n ∧ n < (rootN n + 1) * (rootN n + 1)
  | 0 => by simp [rootN]
  | n + 1 => by
    have ih := rootN_sq n
    unfold rootN
    split
    · rename_i h
      refine ⟨h, ?_⟩
      have : (rootN n + 1 + 1) * (rootN n + 1 + 1) = (rootN n + 1) * (rootN n + 1) + 2 * (rootN n + 1) + 1 := by simp only [Nat.add_mul, Nat.mul_add]; omega
      omega
    · rename_i h
      exact ⟨by omega, by omega⟩
/-- the greatest r with r * r at most n; 0 where n is negative -/
def rootR (n : Int) : Int := rootN n.toNat
theorem sq_lt {a b : Int} (ha : 0 ≤ a) (hb : a ≤ b) : a * a ≤ b * b :=
  Int.mul_le_mul hb hb ha (by omega)
theorem rootR_eq (n r : Int) (hn : 0 ≤ n) (hr : 0 ≤ r) (h1 : r * r ≤ n) (h2 : n < (r + 1) * (r + 1)) : rootR n = r := by
  have h := rootN_sq n.toNat
  unfold rootR
  have e1 : ((rootN n.toNat * rootN n.toNat : Nat) : Int) ≤ n := by omega
  have e2 : n < (((rootN n.toNat + 1) * (rootN n.toNat + 1) : Nat) : Int) := by omega
  rw [Int.natCast_mul] at e1 e2
  rw [Int.natCast_add] at e2
  generalize hx : (rootN n.toNat : Int) = x at *
  have hx0 : 0 ≤ x := by omega
  rcases Int.lt_or_le x r with h | h
  · have := sq_lt (a := x + 1) (b := r) (by omega) (by omega)
    have e2' : n < (x + 1) * (x + 1) := e2
    omega
  · rcases Int.lt_or_le r x with g | g
    · have := sq_lt (a := r + 1) (b := x) (by omega) (by omega)
      omega
    · omega
theorem rootR_neg (n : Int) (hn : n < 0) : rootR n = 0 := by
  unfold rootR
  have : n.toNat = 0 := by omega
  rw [this]; rfl
/-- 2 to the k, kept whole -/
def pw (k : Nat) : Int := ((2 ^ k : Nat) : Int)
theorem pw_zero : pw 0 = 1 := rfl
theorem pw_succ (k : Nat) : pw (k + 1) = 2 * pw k := by
  unfold pw; rw [Nat.pow_succ, Int.natCast_mul]; omega
theorem pw_pos (k : Nat) : 0 < pw k := by
  unfold pw; have := Nat.two_pow_pos k; omega
theorem pw_le {i k : Nat} (h : i ≤ k) : pw i ≤ pw k := by
  unfold pw; have := Nat.pow_le_pow_right (n := 2) (by omega) h; omega
/-- the bit that is tried: 0 behind the last one -/
def bitK : Nat → Int
  | 0 => 0
  | k + 1 => pw k
theorem bitK_half (k : Nat) : bitK (k + 1) / 2 = bitK k := by
  cases k with
  | zero => rfl
  | succ k => show pw (k + 1) / 2 = pw k; rw [pw_succ]; omega
end Go.Proofs.YtgfhjcbmilaegaaGreatDoor
