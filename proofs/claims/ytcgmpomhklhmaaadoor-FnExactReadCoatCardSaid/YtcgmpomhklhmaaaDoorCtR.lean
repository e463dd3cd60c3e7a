/-
  Readers of coats: the program's and the model's contracts.
-/
import Derived.Test.YtcgmpomhklhmaaaDoorNam9
import Derived.Test.YtcgmpomhklhmaaaDoorReadNum
import Derived.Test.YtcgmpomhklhmaaaDoorCt
import Derived.Deep.Cut
namespace Go.Proofs.YtcgmpomhklhmaaaDoor
open Go.ChangeShapes Go.WideShapes Go.ChangeAt Go.RowKit Go.Deep
set_option linter.unusedVariables false
set_option linter.unusedSimpArgs false
set_option maxRecDepth 1000000
/-- the coat that three words tell -/
def ctOf (p q r : List UInt8) : Option Ct :=
  match readM q 2, readL r with
  | some Z, some C => if ctB ⟨⟨p.toArray⟩, Z.getD 0 0, Z.getD 1 0, C⟩ = true then some ⟨⟨p.toArray⟩, Z.getD 0 0, Z.getD 1 0, C⟩ else none
  | _, _ => none
def ctO (l : List UInt8) : Option Ct :=
  match splitL 32 l with
  | [p, q, r] => ctOf p q r
  | _ => none
theorem ctOf_q {p q r : List UInt8} (h : readM q 2 = none) : ctOf p q r = none := by unfold ctOf; rw [h]
theorem ctOf_r {p q r : List UInt8} (h : readL r = none) : ctOf p q r = none := by unfold ctOf; rw [h]; cases readM q 2 <;> rfl
theorem ctOf_yes {p q r : List UInt8} {Z C : List Int} (h : readM q 2 = some Z) (h2 : readL r = some C) : ctOf p q r = if ctB ⟨⟨p.toArray⟩, Z.getD 0 0, Z.getD 1 0, C⟩ = true then some ⟨⟨p.toArray⟩, Z.getD 0 0, Z.getD 1 0, C⟩ else none := by unfold ctOf; rw [h, h2]
theorem ctO_no {l : List UInt8} (h : (splitL 32 l).length ≠ 3) : ctO l = none := by
  unfold ctO
  split
  · rename_i p q r e; rw [e] at h; simp at h
  · rfl
theorem ctO_three {l p q r : List UInt8} (h : splitL 32 l = [p, q, r]) : ctO l = ctOf p q r := by unfold ctO; rw [h]
theorem readM_two {q : List UInt8} {Z : List Int} (h : readM q 2 = some Z) : ∃ a b, Z = [a, b] := by
  unfold readM at h
  split at h
  · split at h
    · cases h
      rename_i hl
      match Z, hl with
      | [a, b], _ => exact ⟨a, b, rfl⟩
    · cases h
  · cases h
/-- a text and its first blank -/
theorem cut_split (l : List UInt8) : ((Lib.cut l [32]).2.1 = [] ∧ splitL 32 l = [l]) ∨ splitL 32 l = (Lib.cut l [32]).1 :: splitL 32 (Lib.cut l [32]).2.1 := by
  by_cases hi : Lib.index l [32] = -1
  · left
    have hn := idx_none 32 l hi
    refine ⟨?_, splitL_miss 32 l hn⟩
    unfold Lib.cut; rw [hi]; rfl
  · right
    obtain ⟨i, hi'⟩ : ∃ i : Nat, Lib.index l [32] = i := ⟨(Lib.index l [32]).toNat, by have := Lib.index_ge l [32]; omega⟩
    obtain ⟨e, hx⟩ := idx_some 32 l i hi'
    have c1 : (Lib.cut l [32]).1 = l.take i := by unfold Lib.cut; rw [hi']; simp
    have c2 : (Lib.cut l [32]).2.1 = l.drop (i + 1) := by unfold Lib.cut; rw [hi']; simp
    rw [c1, c2]
    conv => lhs; rw [e]
    rw [splitL_hit 32 _ _ hx]
theorem cut_nil : (Lib.cut [] [32]).2.1 = [] := by decide
theorem ctO_cut (l : List UInt8) : ctO l = ctOf (Lib.cut l [32]).1 (Lib.cut (Lib.cut l [32]).2.1 [32]).1 (Lib.cut (Lib.cut l [32]).2.1 [32]).2.1 := by
  rcases cut_split l with ⟨h1, h2⟩ | h2
  · rw [ctO_no (by rw [h2]; simp), h1, ctOf_r (by rw [cut_nil]; exact readL_nil)]
  · rcases cut_split (Lib.cut l [32]).2.1 with ⟨h3, h4⟩ | h4
    · rw [ctO_no (by rw [h2, h4]; simp), h3, ctOf_r readL_nil]
    · by_cases hm : (32 : UInt8) ∈ (Lib.cut (Lib.cut l [32]).2.1 [32]).2.1
      · rw [ctOf_r (readL_blank (c := 32) (by decide) (by decide) (by decide) hm)]
        refine ctO_no ?_
        rw [h2, h4]
        rcases split_cases 32 (Lib.cut (Lib.cut l [32]).2.1 [32]).2.1 with ⟨_, h5⟩ | ⟨x, r, _, _, h5⟩
        · exact absurd rfl (h5 _ hm)
        · rw [h5]
          have := splitL_pos' 32 r
          rw [List.length_cons, List.length_cons, List.length_cons]; omega
      · have h5 := splitL_miss 32 (Lib.cut (Lib.cut l [32]).2.1 [32]).2.1 (fun c hc e => by subst e; exact hm hc)
        exact ctO_three (by rw [h2, h4, h5])
theorem cut_sizes {l : List UInt8} {M : Nat} (h : l.length ≤ M) : (Lib.cut l [32]).1.length ≤ M ∧ (Lib.cut l [32]).2.1.length ≤ M := by
  unfold Lib.cut
  split
  · exact ⟨by show (l.take _).length ≤ _; rw [List.length_take]; omega, by show (l.drop _).length ≤ _; rw [List.length_drop]; omega⟩
  · exact ⟨h, by simp⟩
/-- what a reader of a coat hands back -/
def CtRet (o : Option Ct) (w : World) (e : Ending) (w' : World) : Prop :=
  match o with
  | none => e = .returned (.tuple #[.agg #[.string ⟨#[]⟩, .int .i64 0, .int .i64 0, .slice none 0 0], .bool false]) ∧ Below w.heap.size w w'
  | some x => ∃ u, e = .returned (.tuple #[.agg #[.string x.id, .int .i64 x.days, .int .i64 x.cover, u], .bool true]) ∧ w'.ownsRow w.heap.size 2 1 u x.col.length (x.col.map encI) ∧ Below w.heap.size w w'
theorem own_kept8 {w w' : World} {B e size n : Nat} {v : Value} {xs : List Value} (h : w.ownsRow B e size v n xs) (hb : Below w.heap.size w w') : w'.ownsRow B e size v n xs := by
  refine ⟨h.1, ?_⟩
  rcases h.2 with h1 | ⟨g, cap, cur, hv, hg, hc, r⟩
  · exact Or.inl h1
  · exact Or.inr ⟨g, cap, cur, hv, hg, by rw [hb.block g (h.lt g (by rw [hv]; rfl)).2]; exact hc, r⟩
/-- the block of a result -/
def ResC (w : World) (g : Nat) : Prop := w.heap[g]? = some (.cells #[.string ⟨#[]⟩, .int .i64 0, .int .i64 0, .slice none 0 0] 27 (0, 0))
theorem ResC.below {w w' : World} {g : Nat} (h : ResC w g) (hb : Below w.heap.size w w') : ResC w' g := (hb.block g (Array.getElem?_eq_some_iff.1 h).1).trans h
theorem ResC.facts {w : World} {g : Nat} (h : ResC w g) : (w.cell? ⟨g, 0, none⟩ = some (.string ⟨#[]⟩) ∧ w.cell? ⟨g, 1, none⟩ = some (.int .i64 0) ∧ w.cell? ⟨g, 2, none⟩ = some (.int .i64 0) ∧ w.cell? ⟨g, 3, none⟩ = some (.slice none 0 0)) ∧ (w.frozen? ⟨g, 0, none⟩ = false ∧ w.frozen? ⟨g, 1, none⟩ = false ∧ w.frozen? ⟨g, 2, none⟩ = false ∧ w.frozen? ⟨g, 3, none⟩ = false) :=
  ⟨⟨cellB h 0 _ rfl, cellB h 1 _ rfl, cellB h 2 _ rfl, cellB h 3 _ rfl⟩, freeB h 0, freeB h 1, freeB h 2, freeB h 3⟩
theorem ResC.there {w : World} {g : Nat} (h : ResC w g) : w.there g 0 4 := fun j hj => by
  rw [Nat.zero_add]
  refine ⟨?_, freeB h j⟩
  rw [cellB h j ((#[.string ⟨#[]⟩, .int .i64 0, .int .i64 0, .slice none 0 0] : Array Value)[j]'(by simpa using hj)) (Array.getElem?_eq_getElem _)]; rfl
/-- the result is stored -/
theorem resC_end {w w3 w5 : World} {s : ByteArray} {a b : Int} {p : Option Addr} {n c : Nat} (th : w3.there w.heap.size 0 4) (hb : Below w.heap.size w w3) (hW : w3.setCells w.heap.size 0 [.string s, .int .i64 a, .int .i64 b, .slice p n c] = w5) :
    (w5.cell? ⟨w.heap.size, 0, none⟩ = some (.string s) ∧ w5.cell? ⟨w.heap.size, 1, none⟩ = some (.int .i64 a) ∧ w5.cell? ⟨w.heap.size, 2, none⟩ = some (.int .i64 b) ∧ w5.cell? ⟨w.heap.size, 3, none⟩ = some (.slice p n c)) ∧ w3.grownBy w5 (some w.heap.size) ∧ Below w.heap.size w w5 := by
  subst hW
  have hr := World.rangeAt_setCells_same w3 w.heap.size 0 [.string s, .int .i64 a, .int .i64 b, .slice p n c] th
  exact ⟨⟨by simpa using hr 0 _ rfl, by simpa using hr 1 _ rfl, by simpa using hr 2 _ rfl, by simpa using hr 3 _ rfl⟩, grownSets _ _ _ _, below_sets (Nat.le_refl _) _ _ _ hb⟩
theorem ints_row {w : World} {B : Nat} {v : Value} {a b : Int} (h : w.ownsRow B 2 1 v ([a, b] : List Int).length (([a, b] : List Int).map encI)) : ∃ g cap, v = .slice (some ⟨g, 0, none⟩) 2 cap ∧ B ≤ g ∧ g < w.heap.size ∧ w.cell? ⟨g, 0, none⟩ = some (.int .i64 a) ∧ w.cell? ⟨g, 1, none⟩ = some (.int .i64 b) := by
  have h0 := h
  rcases h.2 with ⟨h1, h2⟩ | ⟨g, cap, cur, hv, hg, hb, hn, hcap, _, _⟩
  · simp at h2
  · subst hv
    exact ⟨g, cap, rfl, hg, (h0.lt g rfl).2, by rw [h0.cellAt 0 (by simp)]; rfl, by rw [h0.cellAt 1 (by simp)]; rfl⟩
theorem words_row {w : World} {B : Nat} {v : Value} {p q r : List UInt8} (h : w.ownsRow B 9 1 v 3 [encS p, encS q, encS r]) : ∃ g cap, v = .slice (some ⟨g, 0, none⟩) 3 cap ∧ g < w.heap.size ∧ w.cell? ⟨g, 0, none⟩ = some (encS p) ∧ w.cell? ⟨g, 1, none⟩ = some (encS q) ∧ w.cell? ⟨g, 2, none⟩ = some (encS r) := by
  have h0 := h
  rcases h.2 with ⟨h1, h2⟩ | ⟨g, cap, cur, hv, hg, hb, hn, hcap, _, _⟩
  · omega
  · subst hv
    exact ⟨g, cap, rfl, (h0.lt g rfl).2, by rw [h0.cellAt 0 (by omega)]; rfl, by rw [h0.cellAt 1 (by omega)]; rfl, by rw [h0.cellAt 2 (by omega)]; rfl⟩
theorem lret_none {o : Option (List Int)} {w w' : World} {e : Ending} (h : LRet o w e w') (ho : o = none) : e = .returned (.tuple #[.slice none 0 0, .bool false]) ∧ Below w.heap.size w w' := by subst ho; exact h
theorem lret_some {o : Option (List Int)} {w w' : World} {e : Ending} {Z : List Int} (h : LRet o w e w') (ho : o = some Z) : ∃ v, e = .returned (.tuple #[v, .bool true]) ∧ w'.ownsRow w.heap.size 2 1 v Z.length (Z.map encI) ∧ Below w.heap.size w w' := by subst ho; exact h
set_option maxHeartbeats 3200000 in
theorem implReadCoat_any (s : ByteArray) (w : World) (hs : s.size ≤ 1048576) (hT : TabP w) (hE : ErrsAt w) (hSh : w.ShapedOpen Tryd.prog) :
    Calls Tryd.prog 11 #[.string s] w (CtRet (ctO s.data.toList) w) := by
  have hq := Lib.hid (ctO_cut s.data.toList)
  obtain ⟨A, R1, hA, hR1, hA', hAs, hR1s, bb1, cC1⟩ := cut_any s hs
  obtain ⟨B, R2, hB, hR2, hB', hBs, hR2s, bb2, cC2⟩ := cut_any R1 hR1s
  rw [hR1] at hB hR2
  have hf0 := fresh_b w (.cells #[.string ⟨#[]⟩, .int .i64 0, .int .i64 0, .slice none 0 0] 27)
  have hRes0 : ResC (w.alloc (.cells #[.string ⟨#[]⟩, .int .i64 0, .int .i64 0, .slice none 0 0] 27)) w.heap.size := heap_alloc_new _ _
  have cM0 := fun W (hb : Below w.heap.size w W) => readNumbers_any B 2 W (by decide) hBs (hT.below hb) (hE.below hb) (shape_below hSh hb)
  have cL0 := fun W (hb : Below w.heap.size w W) => implReadList_any R2 W hR2s (hT.below hb) (hE.below hb) (shape_below hSh hb)
  rw [hB] at cM0
  rw [hR2] at cL0
  have cD1 : Hid (∀ W, Below w.heap.size w W → Calls Tryd.prog 24 #[.string s, .string ⟨#[32]⟩] W fun e w' => e = .returned (.tuple #[.string A, .string R1, .bool bb1]) ∧ Below W.heap.size W w') := Lib.hid (fun W hb => (cC1.out W (shape_below hSh hb)).mono (by rintro e w' ⟨rfl, n, rfl⟩; exact ⟨rfl, belowN (Below.refl _ _) n⟩))
  have cD2 : Hid (∀ W, Below w.heap.size w W → Calls Tryd.prog 24 #[.string R1, .string ⟨#[32]⟩] W fun e w' => e = .returned (.tuple #[.string B, .string R2, .bool bb2]) ∧ Below W.heap.size W w') := Lib.hid (fun W hb => (cC2.out W (shape_below hSh hb)).mono (by rintro e w' ⟨rfl, n, rfl⟩; exact ⟨rfl, belowN (Below.refl _ _) n⟩))
  obtain ⟨p, hp⟩ : ∃ p, p = (Lib.cut s.data.toList [32]).1 := ⟨_, rfl⟩
  obtain ⟨q, hq9⟩ : ∃ q, q = (Lib.cut (Lib.cut s.data.toList [32]).2.1 [32]).1 := ⟨_, rfl⟩
  obtain ⟨r, hr9⟩ : ∃ r, r = (Lib.cut (Lib.cut s.data.toList [32]).2.1 [32]).2.1 := ⟨_, rfl⟩
  have hO : Hid (ctO s.data.toList = ctOf p q r) := Lib.hid (by rw [hq.out, hp, hq9, hr9])
  rw [← hq9] at cM0
  rw [← hr9] at cL0
  rw [← hp] at hA'
  have hAm : A.size ≤ maxLen := by unfold maxLen; omega
  have hA2 := Lib.hid hA'
  have hW0 := Lib.hid hRes0
  clear hq hp hq9 hr9 hA hB hR1 hR2 hB' hA' hBs hR2s hR1s cC1 cC2 hT hE hSh hRes0 hAs
  cases hM : readM q 2 with
  | none =>
    have cM := Lib.hid (fun W hb => (cM0 W hb).mono fun e w' h => lret_none h hM)
    cases hL : readL r with
    | none =>
      have cL := Lib.hid (fun W hb => (cL0 W hb).mono fun e w' h => lret_none h hL)
      have hr : Hid (ctO s.data.toList = none) := Lib.hid (by rw [hO.out]; exact ctOf_q hM)
      clear cM0 cL0
      go_enter Tryd.func11, Tryd.ntmps11
      go_wp2_with fail
      refine (cD1.out _ hf0).mono ?_
      rintro e w1 ⟨rfl, b1⟩
      have B1 := below2 hf0 b1
      go_wp2_with fail
      refine (cD2.out _ B1).mono ?_
      rintro e w2 ⟨rfl, b2⟩
      have B2 := below2 B1 b2
      have R2w := Lib.hid ((hW0.out.below b1).below b2)
      clear b1 b2 B1 hf0
      go_wp2_with fail
      refine (cM.out _ B2).mono ?_
      rintro e w3 ⟨rfl, b3⟩
      have B3 := below2 B2 b3
      have R3w := Lib.hid (R2w.out.below b3)
      clear b3
      go_wp2_with fail
      refine (cL.out _ B3).mono ?_
      rintro e w4 ⟨rfl, b4⟩
      have B4 := below2 B3 b4
      have R4w := Lib.hid (R3w.out.below b4)
      have th := (R4w.out).there
      have hb9 := B4
      go_wp2_with (refine wpList_store_mid rfl _ _ _ rfl w.heap.size 0 _ rfl rfl ?_ sizeCt (oneCt _ _ _ _ _ _) ?_; (exact th); generalize hW : World.setCells _ _ _ _ = w9; (have H := resC_end th hb9 hW); clear hW)
      obtain ⟨⟨c0, c1, c2, c3⟩, _, B9⟩ := H
      exact bodyPost_ret (v := .tuple #[.agg #[.string ⟨#[]⟩, .int .i64 0, .int .i64 0, .slice none 0 0], .bool false]) (by simp [results, Tryd.results11, go_sem, c0, c1, c2, c3]) rfl (by rw [hr.out]; exact ⟨rfl, B9⟩)
    | some C =>
      have cL := Lib.hid (fun W hb => (cL0 W hb).mono fun e w' h => lret_some h hL)
      have hr : Hid (ctO s.data.toList = none) := Lib.hid (by rw [hO.out]; exact ctOf_q hM)
      clear cM0 cL0
      go_enter Tryd.func11, Tryd.ntmps11
      go_wp2_with fail
      refine (cD1.out _ hf0).mono ?_
      rintro e w1 ⟨rfl, b1⟩
      have B1 := below2 hf0 b1
      go_wp2_with fail
      refine (cD2.out _ B1).mono ?_
      rintro e w2 ⟨rfl, b2⟩
      have B2 := below2 B1 b2
      have R2w := Lib.hid ((hW0.out.below b1).below b2)
      clear b1 b2 B1 hf0
      go_wp2_with fail
      refine (cM.out _ B2).mono ?_
      rintro e w3 ⟨rfl, b3⟩
      have B3 := below2 B2 b3
      have R3w := Lib.hid (R2w.out.below b3)
      clear b3
      go_wp2_with fail
      refine (cL.out _ B3).mono ?_
      rintro e w4 ⟨v4, rfl, o4, b4⟩
      obtain ⟨ax, cx, rfl⟩ := ownShape o4
      have B4 := below2 B3 b4
      have R4w := Lib.hid (R3w.out.below b4)
      have th := (R4w.out).there
      have hb9 := B4
      go_wp2_with (refine wpList_store_mid rfl _ _ _ rfl w.heap.size 0 _ rfl rfl ?_ sizeCt (oneCt _ _ _ _ _ _) ?_; (exact th); generalize hW : World.setCells _ _ _ _ = w9; (have H := resC_end th hb9 hW); clear hW)
      obtain ⟨⟨c0, c1, c2, c3⟩, _, B9⟩ := H
      exact bodyPost_ret (v := .tuple #[.agg #[.string ⟨#[]⟩, .int .i64 0, .int .i64 0, .slice none 0 0], .bool false]) (by simp [results, Tryd.results11, go_sem, c0, c1, c2, c3]) rfl (by rw [hr.out]; exact ⟨rfl, B9⟩)
  | some Z =>
    obtain ⟨a, b, rfl⟩ := readM_two hM
    have cM := Lib.hid (fun W hb => (cM0 W hb).mono fun e w' h => lret_some h hM)
    cases hL : readL r with
    | none =>
      have cL := Lib.hid (fun W hb => (cL0 W hb).mono fun e w' h => lret_none h hL)
      have hr : Hid (ctO s.data.toList = none) := Lib.hid (by rw [hO.out]; exact ctOf_r hL)
      clear cM0 cL0
      go_enter Tryd.func11, Tryd.ntmps11
      go_wp2_with fail
      refine (cD1.out _ hf0).mono ?_
      rintro e w1 ⟨rfl, b1⟩
      have B1 := below2 hf0 b1
      go_wp2_with fail
      refine (cD2.out _ B1).mono ?_
      rintro e w2 ⟨rfl, b2⟩
      have B2 := below2 B1 b2
      have R2w := Lib.hid ((hW0.out.below b1).below b2)
      clear b1 b2 B1 hf0
      go_wp2_with fail
      refine (cM.out _ B2).mono ?_
      rintro e w3 ⟨v3, rfl, o3, b3⟩
      obtain ⟨g3, c3x, rfl, hg3b, hg3, m0, m1⟩ := ints_row o3
      have B3 := below2 B2 b3
      have R3w := Lib.hid (R2w.out.below b3)
      clear b3
      go_wp2_with fail
      refine (cL.out _ B3).mono ?_
      rintro e w4 ⟨rfl, b4⟩
      have B4 := below2 B3 b4
      have R4w := Lib.hid (R3w.out.below b4)
      have th := (R4w.out).there
      have hb9 := B4
      go_wp2_with (refine wpList_store_mid rfl _ _ _ rfl w.heap.size 0 _ rfl rfl ?_ sizeCt (oneCt _ _ _ _ _ _) ?_; (exact th); generalize hW : World.setCells _ _ _ _ = w9; (have H := resC_end th hb9 hW); clear hW)
      obtain ⟨⟨c0, c1, c2, c3⟩, _, B9⟩ := H
      exact bodyPost_ret (v := .tuple #[.agg #[.string ⟨#[]⟩, .int .i64 0, .int .i64 0, .slice none 0 0], .bool false]) (by simp [results, Tryd.results11, go_sem, c0, c1, c2, c3]) rfl (by rw [hr.out]; exact ⟨rfl, B9⟩)
    | some C =>
      have cL := Lib.hid (fun W hb => (cL0 W hb).mono fun e w' h => lret_some h hL)
      have hCi := Lib.hid (readL_in hL)
      have hCl : C.length ≤ maxLen := by have := readL_len hL; unfold maxLen; omega
      have hq2 : Hid (ctO s.data.toList = if ctB ⟨A, a, b, C⟩ = true then some ⟨A, a, b, C⟩ else none) := Lib.hid (by rw [hO.out, ctOf_yes hM hL, hA2.out]; rfl)
      clear cM0 cL0 hM hL
      cases hv : ctB ⟨A, a, b, C⟩
      · have hr : Hid (ctO s.data.toList = none) := Lib.hid (by rw [hq2.out, hv]; rfl)
        go_enter Tryd.func11, Tryd.ntmps11
        go_wp2_with fail
        refine (cD1.out _ hf0).mono ?_
        rintro e w1 ⟨rfl, b1⟩
        have B1 := below2 hf0 b1
        go_wp2_with fail
        refine (cD2.out _ B1).mono ?_
        rintro e w2 ⟨rfl, b2⟩
        have B2 := below2 B1 b2
        have R2w := Lib.hid ((hW0.out.below b1).below b2)
        clear b1 b2 B1 hf0
        go_wp2_with fail
        refine (cM.out _ B2).mono ?_
        rintro e w3 ⟨v3, rfl, o3, b3⟩
        obtain ⟨g3, c3x, rfl, hg3b, hg3, m0, m1⟩ := ints_row o3
        have B3 := below2 B2 b3
        have R3w := Lib.hid (R2w.out.below b3)
        clear b3
        go_wp2_with fail
        refine (cL.out _ B3).mono ?_
        rintro e w4 ⟨v4, rfl, o4, b4⟩
        obtain ⟨ax, cx, rfl⟩ := ownShape o4
        have B4 := below2 B3 b4
        have R4w := Lib.hid (R3w.out.below b4)
        have n0 := (bcell b4 _ _ hg3).trans m0
        have n1 := (bcell b4 _ _ hg3).trans m1
        have hg4 := Nat.lt_of_lt_of_le hg3 b4.size
        have o4' := Lib.hid o4
        have hs3 : w.heap.size < w3.heap.size := (Array.getElem?_eq_some_iff.1 R3w.out).1
        have keepH : Hid (∀ W1 W2, ((W1.cell? ⟨g3, 0, none⟩ = some (.int .i64 a) ∧ W1.cell? ⟨g3, 1, none⟩ = some (.int .i64 b)) ∧ Below w4.heap.size w4 W1) → Below W1.heap.size W1 W2 → ((W2.cell? ⟨g3, 0, none⟩ = some (.int .i64 a) ∧ W2.cell? ⟨g3, 1, none⟩ = some (.int .i64 b)) ∧ Below w4.heap.size w4 W2)) := Lib.hid (fun W1 W2 h1 h2 => by
          obtain ⟨⟨p0, p1⟩, hb⟩ := h1
          have hl := Nat.lt_of_lt_of_le hg4 hb.size
          exact ⟨⟨(bcell h2 _ _ hl).trans p0, (bcell h2 _ _ hl).trans p1⟩, below2 hb h2⟩)
        have hS : ((w4.cell? ⟨g3, 0, none⟩ = some (.int .i64 a) ∧ w4.cell? ⟨g3, 1, none⟩ = some (.int .i64 b)) ∧ Below w4.heap.size w4 w4) := ⟨⟨n0, n1⟩, Below.refl _ _⟩
        have cV0 := fun W (hb : Below w4.heap.size w4 W) => isValidCt_any A a b (.slice ax C.length cx) C hAm hCl W (ints_own (own_kept8 o4'.out hb) hCi.out)
        rw [hv] at cV0
        have cV := Lib.hid cV0
        clear cV0 o4 m0 m1 n0 n1 b4 hg3 hg3b
        go_wp2
        go_region_held3 (fun w' => ((w'.cell? ⟨g3, 0, none⟩ = some (.int .i64 a) ∧ w'.cell? ⟨g3, 1, none⟩ = some (.int .i64 b)) ∧ Below w4.heap.size w4 w'))
          (first | exact ⟨hS.1, belowN hS.2 1⟩ | exact keepH.out _ _ (by assumption) (fresh_b _ _) | exact keepH.out _ _ (by assumption) (belowN (fresh_b _ _) 1) | exact keepH.out w4 _ hS (belowN (fresh_b _ _) 1) | exact keepH.out _ _ (by assumption) (by assumption) | assumption)
          (fail)
        all_goals rename_i hHeld
        have hB5 := hHeld.2
        have hX : ((w4.alloc (.cells #[.string A, .int .i64 a, .int .i64 b, .slice ax C.length cx] 27)).drew).heap[w4.heap.size]? = some (.cells #[.string A, .int .i64 a, .int .i64 b, .slice ax C.length cx] 27 (0, 0)) := heap_alloc_new _ _
        have hGx : w4.heap.size < ((w4.alloc (.cells #[.string A, .int .i64 a, .int .i64 b, .slice ax C.length cx] 27)).drew).heap.size := by simp
        clear hHeld hS keepH
        generalize (w4.alloc (.cells #[.string A, .int .i64 a, .int .i64 b, .slice ax C.length cx] 27)).drew = w5 at hB5 hX hGx ⊢
        have hR5 := R4w.out.below hB5
        have B5 := below2 B4 hB5
        have cW := Lib.hid (cV.out w5 hB5)
        have o5 := Lib.hid (own_kept8 o4'.out hB5)
        have hrX : w5.rangeAt w4.heap.size 0 [.string A, .int .i64 a, .int .i64 b, .slice ax C.length cx] := fun j v hv => by rw [Nat.zero_add]; exact cellB hX j v (by simpa using hv)
        go_upto_region 9 with (first | (refine wpList_load_mid rfl _ _ rfl w4.heap.size 0 rfl _ _ hrX Tryd.underlying27 rfl rfl ?_) | (go_at_call 18; (with_reducible refine cW.out.mono ?_); rintro e w6 ⟨rfl, b6⟩))
        have th := (hR5.below b6).there
        have hb9 := below2 B5 b6
        go_wp2_with (refine wpList_store_mid rfl _ _ _ rfl w.heap.size 0 _ rfl rfl ?_ sizeCt (oneCt _ _ _ _ _ _) ?_; (exact th); generalize hW : World.setCells _ _ _ _ = w9; (have H := resC_end th hb9 hW); clear hW)
        obtain ⟨⟨c0, c1, c2, c3⟩, _, B9⟩ := H
        exact bodyPost_ret (v := .tuple #[.agg #[.string ⟨#[]⟩, .int .i64 0, .int .i64 0, .slice none 0 0], .bool false]) (by simp [results, Tryd.results11, go_sem, c0, c1, c2, c3]) rfl (by rw [hr.out]; exact ⟨rfl, B9⟩)
      · have hr : Hid (ctO s.data.toList = some ⟨A, a, b, C⟩) := Lib.hid (by rw [hq2.out, if_pos hv])
        go_enter Tryd.func11, Tryd.ntmps11
        go_wp2_with fail
        refine (cD1.out _ hf0).mono ?_
        rintro e w1 ⟨rfl, b1⟩
        have B1 := below2 hf0 b1
        go_wp2_with fail
        refine (cD2.out _ B1).mono ?_
        rintro e w2 ⟨rfl, b2⟩
        have B2 := below2 B1 b2
        have R2w := Lib.hid ((hW0.out.below b1).below b2)
        clear b1 b2 B1 hf0
        go_wp2_with fail
        refine (cM.out _ B2).mono ?_
        rintro e w3 ⟨v3, rfl, o3, b3⟩
        obtain ⟨g3, c3x, rfl, hg3b, hg3, m0, m1⟩ := ints_row o3
        have B3 := below2 B2 b3
        have R3w := Lib.hid (R2w.out.below b3)
        clear b3
        go_wp2_with fail
        refine (cL.out _ B3).mono ?_
        rintro e w4 ⟨v4, rfl, o4, b4⟩
        obtain ⟨ax, cx, rfl⟩ := ownShape o4
        have B4 := below2 B3 b4
        have R4w := Lib.hid (R3w.out.below b4)
        have n0 := (bcell b4 _ _ hg3).trans m0
        have n1 := (bcell b4 _ _ hg3).trans m1
        have hg4 := Nat.lt_of_lt_of_le hg3 b4.size
        have o4' := Lib.hid o4
        have hs3 : w.heap.size < w3.heap.size := (Array.getElem?_eq_some_iff.1 R3w.out).1
        have keepH : Hid (∀ W1 W2, ((W1.cell? ⟨g3, 0, none⟩ = some (.int .i64 a) ∧ W1.cell? ⟨g3, 1, none⟩ = some (.int .i64 b)) ∧ Below w4.heap.size w4 W1) → Below W1.heap.size W1 W2 → ((W2.cell? ⟨g3, 0, none⟩ = some (.int .i64 a) ∧ W2.cell? ⟨g3, 1, none⟩ = some (.int .i64 b)) ∧ Below w4.heap.size w4 W2)) := Lib.hid (fun W1 W2 h1 h2 => by
          obtain ⟨⟨p0, p1⟩, hb⟩ := h1
          have hl := Nat.lt_of_lt_of_le hg4 hb.size
          exact ⟨⟨(bcell h2 _ _ hl).trans p0, (bcell h2 _ _ hl).trans p1⟩, below2 hb h2⟩)
        have hS : ((w4.cell? ⟨g3, 0, none⟩ = some (.int .i64 a) ∧ w4.cell? ⟨g3, 1, none⟩ = some (.int .i64 b)) ∧ Below w4.heap.size w4 w4) := ⟨⟨n0, n1⟩, Below.refl _ _⟩
        have cV0 := fun W (hb : Below w4.heap.size w4 W) => isValidCt_any A a b (.slice ax C.length cx) C hAm hCl W (ints_own (own_kept8 o4'.out hb) hCi.out)
        rw [hv] at cV0
        have cV := Lib.hid cV0
        clear cV0 o4 m0 m1 n0 n1 b4 hg3 hg3b
        go_wp2
        go_region_held3 (fun w' => ((w'.cell? ⟨g3, 0, none⟩ = some (.int .i64 a) ∧ w'.cell? ⟨g3, 1, none⟩ = some (.int .i64 b)) ∧ Below w4.heap.size w4 w'))
          (first | exact ⟨hS.1, belowN hS.2 1⟩ | exact keepH.out _ _ (by assumption) (fresh_b _ _) | exact keepH.out _ _ (by assumption) (belowN (fresh_b _ _) 1) | exact keepH.out w4 _ hS (belowN (fresh_b _ _) 1) | exact keepH.out _ _ (by assumption) (by assumption) | assumption)
          (fail)
        all_goals rename_i hHeld
        have hB5 := hHeld.2
        have hX : ((w4.alloc (.cells #[.string A, .int .i64 a, .int .i64 b, .slice ax C.length cx] 27)).drew).heap[w4.heap.size]? = some (.cells #[.string A, .int .i64 a, .int .i64 b, .slice ax C.length cx] 27 (0, 0)) := heap_alloc_new _ _
        have hGx : w4.heap.size < ((w4.alloc (.cells #[.string A, .int .i64 a, .int .i64 b, .slice ax C.length cx] 27)).drew).heap.size := by simp
        clear hHeld hS keepH
        generalize (w4.alloc (.cells #[.string A, .int .i64 a, .int .i64 b, .slice ax C.length cx] 27)).drew = w5 at hB5 hX hGx ⊢
        have hR5 := R4w.out.below hB5
        have B5 := below2 B4 hB5
        have cW := Lib.hid (cV.out w5 hB5)
        have o5 := Lib.hid (own_kept8 o4'.out hB5)
        have hrX : w5.rangeAt w4.heap.size 0 [.string A, .int .i64 a, .int .i64 b, .slice ax C.length cx] := fun j v hv => by rw [Nat.zero_add]; exact cellB hX j v (by simpa using hv)
        go_wp2_with (first | (refine wpList_load_mid rfl _ _ rfl w4.heap.size 0 rfl _ _ hrX Tryd.underlying27 rfl rfl ?_) | (refine wpList_load_mid rfl _ _ rfl w4.heap.size 0 rfl _ _ hrY Tryd.underlying27 rfl rfl ?_) | (go_at_call 18; (with_reducible refine cW.out.mono ?_); rintro e w6 ⟨rfl, b6⟩; have th := (hR5.below b6).there; have hb9 := below2 B5 b6; have hrY := range_below hrX hGx b6; have o6 := Lib.hid (own_kept8 o5.out b6)) | (refine wpList_store_mid rfl _ _ _ rfl w.heap.size 0 _ rfl rfl ?_ sizeCt (oneCt _ _ _ _ _ _) ?_; (exact th); generalize hW : World.setCells _ _ _ _ = w9; (have H := resC_end th hb9 hW); clear hW))
        obtain ⟨⟨c0, c1, c2, c3⟩, gr, B9⟩ := H
        have o9 := Lib.hid (o6.out.kept gr (by
          cases e : (Value.slice ax C.length cx).ownBlock with
          | none => exact Or.inl rfl
          | some b => right; intro hh; injection hh with hh; have := (o6.out.lt b e).1; omega))
        exact bodyPost_ret (v := .tuple #[.agg #[.string A, .int .i64 a, .int .i64 b, .slice ax C.length cx], .bool true]) (by simp [results, Tryd.results11, go_sem, c0, c1, c2, c3]) rfl (by rw [hr.out]; exact ⟨_, rfl, own_low o9.out (Nat.le_of_lt hs3), B9⟩)
end Go.Proofs.YtcgmpomhklhmaaaDoor
