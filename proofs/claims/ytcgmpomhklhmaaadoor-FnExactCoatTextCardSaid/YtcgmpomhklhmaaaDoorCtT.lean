/-
  Texts of coats: the program's and the model's contracts.
-/
import Derived.Test.YtcgmpomhklhmaaaDoorNam9
import Derived.Test.YtcgmpomhklhmaaaDoorListI
import Derived.Test.YtcgmpomhklhmaaaDoorCt
namespace Go.Proofs.YtcgmpomhklhmaaaDoor
open Go.ChangeShapes Go.WideShapes Go.ChangeAt Go.RowKit Go.Deep
set_option linter.unusedVariables false
set_option linter.unusedSimpArgs false
set_option maxRecDepth 1000000
/-- the text -/
def ctT (x : Ct) : List UInt8 := if ctB x = true then x.id.data.toList ++ 32 :: (textZ [x.days, x.cover] ++ 32 :: textZ x.col) else []
theorem two_ints (W : World) (t : TypeId) (a b : Int) (i0 : inI a) (i1 : inI b) : IntsAt (W.alloc (.cells #[.int .i64 a, .int .i64 b] t)) (.slice (some ⟨W.heap.size, 0, none⟩) 2 2) [a, b] := by
  refine ⟨some ⟨W.heap.size, 0, none⟩, 2, rfl, Nat.le_refl 2, ?_, Or.inr ⟨W.heap.size, 0, rfl, by simp, ?_⟩⟩
  · intro n hn
    simp only [List.mem_cons, List.mem_nil_iff, or_false] at hn
    rcases hn with rfl | rfl <;> assumption
  · intro i hi
    rw [Nat.zero_add, World.cell?_alloc_mark]
    match i, hi with
    | 0, _ => rfl
    | 1, _ => rfl
/-- what the pieces of a valid coat's text are -/
theorem ct_pieces {s : ByteArray} {a b : Int} {L : List Int} (h : ctB ⟨s, a, b, L⟩ = true) : s.size ≤ 10 ∧ inI a ∧ inI b ∧ ([a, b] : List Int).all inV = true ∧ L.all inV = true ∧ L.length = 3 ∧ (textZ [a, b]).length ≤ 100 ∧ (textZ L).length ≤ 100 := by
  have hm := ctB_mk s a b L
  rw [h] at hm
  have h2 := hm.symm
  simp only [Bool.and_eq_true, inB_iff] at h2
  obtain ⟨⟨⟨h0, ha⟩, hb⟩, hc⟩ := h2
  obtain ⟨p, q, r, rfl, hp, hq, hr⟩ := colB_iff hc
  have i0 : inI a := ⟨by omega, by omega⟩
  have i1 : inI b := ⟨by omega, by omega⟩
  have l1 := textZ_le [a, b] (fun n hn => by simp only [List.mem_cons, List.mem_nil_iff, or_false] at hn; rcases hn with rfl | rfl <;> assumption)
  have l2 := textZ_le [p, q, r] (fun n hn => by simp only [List.mem_cons, List.mem_nil_iff, or_false] at hn; unfold inI; rcases hn with rfl | rfl | rfl <;> omega)
  simp at l1 l2
  refine ⟨by rw [← len_data]; exact name_le h0, i0, i1, ?_, ?_, rfl, by omega, by omega⟩
  · simp only [List.all_cons, List.all_nil, Bool.and_true, Bool.and_eq_true]
    refine ⟨?_, ?_⟩ <;> (unfold inV; rw [inB_iff]; omega)
  · simp only [List.all_cons, List.all_nil, Bool.and_true, Bool.and_eq_true]
    refine ⟨?_, ?_, ?_⟩ <;> (unfold inV; rw [inB_iff]; omega)
set_option maxHeartbeats 3200000 in
theorem implCoatText_any (s : ByteArray) (a b : Int) (u : Value) (L : List Int) (w : World) (hs : s.size ≤ maxLen) (hL : L.length ≤ maxLen) (hv : IntsAt w u L) (hT : TabP w) : Calls Tryd.prog 8 #[.agg #[.string s, .int .i64 a, .int .i64 b, u]] w fun e w' => e = .returned (.string ⟨(ctT ⟨s, a, b, L⟩).toArray⟩) ∧ Below w.heap.size w w' := by
  obtain ⟨q9, hB0, hsz⟩ := one_boxC w #[.string s, .int .i64 a, .int .i64 b, u] 27
  have hrng : (w.alloc (.cells #[.string s, .int .i64 a, .int .i64 b, u] 27)).rangeAt w.heap.size 0 [.string s, .int .i64 a, .int .i64 b, u] := fun j v hv => by rw [Nat.zero_add]; exact q9 j v (by simpa using hv)
  obtain ⟨W0, hW0⟩ : ∃ W0, W0 = w.alloc (.cells #[.string s, .int .i64 a, .int .i64 b, u] 27) := ⟨_, rfl⟩
  rw [← hW0] at hB0 hsz hrng
  clear q9
  have cV := isValidCt_any s a b u L hs hL W0 (hv.below hB0)
  cases hok : ctB ⟨s, a, b, L⟩
  · have hr : Hid (ctT ⟨s, a, b, L⟩ = []) := Lib.hid (by unfold ctT; rw [hok]; rfl)
    rw [hok] at cV
    replace cV := Lib.hid cV
    go_enter Tryd.func8, Tryd.ntmps8
    go_upto_region 1 with fail
    rw [← hW0]
    clear hW0
    go_wp2_with (first
      | (refine wpList_load_mid rfl _ _ rfl w.heap.size 0 rfl _ _ hrng Tryd.underlying27 rfl rfl ?_)
      | (go_at_call 18; (with_reducible refine cV.out.mono ?_); rintro e w1 ⟨rfl, b1⟩))
    go_ret
    exact ⟨by rw [hr.out]; rfl, below2 hB0 b1⟩
  obtain ⟨hs10, i0, i1, hZ, hZ2, hl3, le1, le2⟩ := ct_pieces hok
  obtain ⟨D, hD⟩ : ∃ D : ByteArray, D = ⟨(s.data.toList ++ 32 :: textZ [a, b]).toArray⟩ := ⟨_, rfl⟩
  obtain ⟨E, hE⟩ : ∃ E : ByteArray, E = ⟨(textZ L).toArray⟩ := ⟨_, rfl⟩
  have hDl : D.data.toList = s.data.toList ++ 32 :: textZ [a, b] := by rw [hD]
  have hEl : E.data.toList = textZ L := by rw [hE]
  have hDs : D.size ≤ 200 := by rw [← len_data, hDl]; simp [len_data]; omega
  have hEs : E.size ≤ 100 := by rw [← len_data, hEl]; exact le2
  obtain ⟨S1, hS1, hS1s, add1⟩ := add_named D ⟨#[32]⟩ (by show D.size + 1 ≤ _; omega)
  have hS1s' : S1.size ≤ 201 := by rw [hS1s]; show D.size + 1 ≤ 201; omega
  obtain ⟨S2, hS2, hS2s, add2⟩ := add_named S1 E (by omega)
  have hr : Hid (S2.data.toList = ctT ⟨s, a, b, L⟩) := Lib.hid (by unfold ctT; rw [if_pos hok, hS2, hS1, hDl, hEl]; simp)
  have cN : Hid (∀ W2 : World, Below w.heap.size w ((W2.alloc (.cells #[.int .i64 a, .int .i64 b] 2)).drew) → Calls Tryd.prog 19 #[.string s, .slice (some ⟨W2.heap.size, 0, none⟩) 2 2] ((W2.alloc (.cells #[.int .i64 a, .int .i64 b] 2)).drew) fun e w' => e = .returned (.string D) ∧ Below ((W2.alloc (.cells #[.int .i64 a, .int .i64 b] 2)).drew).heap.size ((W2.alloc (.cells #[.int .i64 a, .int .i64 b] 2)).drew) w') := Lib.hid (fun W2 hb => by
    have h1 := namedText_any s hs10 _ [a, b] hZ (by simp) ((W2.alloc (.cells #[.int .i64 a, .int .i64 b] 2)).drew) (two_ints W2 2 a b i0 i1) (hT.below hb)
    rw [hD]; exact h1)
  have cD : Hid (∀ W, Below w.heap.size w W → Calls Tryd.prog 20 #[u] W fun e w' => e = .returned (.string E) ∧ Below W.heap.size W w') := Lib.hid (fun W hb => by
    have := implListText_any u L W (by omega) (hv.below hb) (hT.below hb)
    rw [listR_in hZ2 (by omega)] at this
    rw [hE]; exact this)
  rw [hok] at cV
  replace cV := Lib.hid cV
  have hgw : Hid (∀ w1, Below W0.heap.size W0 w1 → (w1.cell? ⟨w.heap.size, 0, none⟩ = some (.string s) ∧ w1.cell? ⟨w.heap.size, 1, none⟩ = some (.int .i64 a) ∧ w1.cell? ⟨w.heap.size, 2, none⟩ = some (.int .i64 b) ∧ w1.cell? ⟨w.heap.size, 3, none⟩ = some u) ∧ Below w.heap.size w w1) := Lib.hid (fun w1 h1 => by
    have r := range_below hrng hsz h1
    exact ⟨⟨by simpa using r 0 _ rfl, by simpa using r 1 _ rfl, by simpa using r 2 _ rfl, by simpa using r 3 _ rfl⟩, below2 hB0 h1⟩)
  clear hD hE hDl hEl hDs hEs hS1 hS1s hS1s' hS2 hS2s le1 le2 hZ hZ2 hv hT i0 i1
  go_enter Tryd.func8, Tryd.ntmps8
  go_upto_region 1 with fail
  rw [← hW0]
  clear hW0
  go_upto_region 3 with (first
    | (refine wpList_load_mid rfl _ _ rfl w.heap.size 0 rfl _ _ hrng Tryd.underlying27 rfl rfl ?_)
    | (go_at_call 18; (with_reducible refine cV.out.mono ?_); rintro e w1 ⟨rfl, b1⟩))
  have hS := hgw.out w1 b1
  have keepH : Hid (∀ W1 W2, ((W1.cell? ⟨w.heap.size, 0, none⟩ = some (.string s) ∧ W1.cell? ⟨w.heap.size, 1, none⟩ = some (.int .i64 a) ∧ W1.cell? ⟨w.heap.size, 2, none⟩ = some (.int .i64 b) ∧ W1.cell? ⟨w.heap.size, 3, none⟩ = some u) ∧ Below w.heap.size w W1 ∧ w.heap.size < W1.heap.size) → Below W1.heap.size W1 W2 → ((W2.cell? ⟨w.heap.size, 0, none⟩ = some (.string s) ∧ W2.cell? ⟨w.heap.size, 1, none⟩ = some (.int .i64 a) ∧ W2.cell? ⟨w.heap.size, 2, none⟩ = some (.int .i64 b) ∧ W2.cell? ⟨w.heap.size, 3, none⟩ = some u) ∧ Below w.heap.size w W2 ∧ w.heap.size < W2.heap.size)) := Lib.hid (fun W1 W2 h1 h2 => by
    obtain ⟨⟨p0, p1, p2, p3⟩, hb, hl⟩ := h1
    exact ⟨⟨(bcell h2 _ _ hl).trans p0, (bcell h2 _ _ hl).trans p1, (bcell h2 _ _ hl).trans p2, (bcell h2 _ _ hl).trans p3⟩, below2 hb h2, Nat.lt_of_lt_of_le hl h2.size⟩)
  replace hS : ((w1.cell? ⟨w.heap.size, 0, none⟩ = some (.string s) ∧ w1.cell? ⟨w.heap.size, 1, none⟩ = some (.int .i64 a) ∧ w1.cell? ⟨w.heap.size, 2, none⟩ = some (.int .i64 b) ∧ w1.cell? ⟨w.heap.size, 3, none⟩ = some u) ∧ Below w.heap.size w w1 ∧ w.heap.size < w1.heap.size) := ⟨hS.1, hS.2, Nat.lt_of_lt_of_le hsz b1.size⟩
  clear hgw hrng hB0 hsz b1
  go_region_held3 (fun w' => ((w'.cell? ⟨w.heap.size, 0, none⟩ = some (.string s) ∧ w'.cell? ⟨w.heap.size, 1, none⟩ = some (.int .i64 a) ∧ w'.cell? ⟨w.heap.size, 2, none⟩ = some (.int .i64 b) ∧ w'.cell? ⟨w.heap.size, 3, none⟩ = some u) ∧ Below w.heap.size w w' ∧ w.heap.size < w'.heap.size))
    (first | exact ⟨hS.1, belowN hS.2.1 1, hS.2.2⟩ | exact keepH.out _ _ (by assumption) (fresh_b _ _) | exact keepH.out _ _ (by assumption) (belowN (fresh_b _ _) 1) | exact keepH.out w1 _ hS (belowN (fresh_b _ _) 1) | exact keepH.out _ _ (by assumption) (by assumption) | assumption)
    (first
      | (go_at_call 19; (with_reducible refine (cN.out _ (And.left (And.right (by assumption)))).mono ?_); rintro e w' ⟨rfl, hbel⟩)
      | (go_at_call 20; (with_reducible refine (cD.out _ (And.left (And.right (by assumption)))).mono ?_); rintro e w' ⟨rfl, hbel⟩))
  all_goals rename_i hHeld
  all_goals have hb2 := hHeld.2.1
  all_goals clear hHeld hS keepH
  all_goals go_wp2
  all_goals go_ret
  all_goals exact str_ret hr.out hb2
set_option maxHeartbeats 3200000 in
theorem l13Text_any (s : ByteArray) (a b : Int) (u : Value) (L : List Int) (hok : ctB ⟨s, a, b, L⟩ = true) (w : World) (g : Nat) (hg : g < w.heap.size) (hat : CtAt w g 0 ⟨s, a, b, L⟩ u) : Calls Tryd.prog 16 #[.pointer (some ⟨g, 0, none⟩)] w fun e w' => e = .returned (.string ⟨(ctT ⟨s, a, b, L⟩).toArray⟩) ∧ Below w.heap.size w w' := by
  obtain ⟨hs10, i0, i1, hZ, hZ2, hl3, le1, le2⟩ := ct_pieces hok
  have hv := hat.2
  have hP := hat.1
  simp only [Nat.zero_add] at hP hv
  obtain ⟨D, hD⟩ : ∃ D : ByteArray, D = ⟨(textZ [a, b]).toArray⟩ := ⟨_, rfl⟩
  obtain ⟨E, hE⟩ : ∃ E : ByteArray, E = ⟨(textZ L).toArray⟩ := ⟨_, rfl⟩
  have hDl : D.data.toList = textZ [a, b] := by rw [hD]
  have hEl : E.data.toList = textZ L := by rw [hE]
  have hDs : D.size ≤ 100 := by rw [← len_data, hDl]; exact le1
  have hEs : E.size ≤ 100 := by rw [← len_data, hEl]; exact le2
  obtain ⟨S1, hS1, hS1s, add1⟩ := add_named s ⟨#[32]⟩ (by show s.size + 1 ≤ _; omega)
  have hS1s' : S1.size ≤ 11 := by rw [hS1s]; show s.size + 1 ≤ 11; omega
  obtain ⟨S2, hS2, hS2s, add2⟩ := add_named S1 D (by omega)
  obtain ⟨S3, hS3, hS3s, add3⟩ := add_named S2 ⟨#[32]⟩ (by show S2.size + 1 ≤ _; omega)
  have hS3s' : S3.size ≤ 200 := by rw [hS3s]; show S2.size + 1 ≤ 200; omega
  obtain ⟨S4, hS4, hS4s, add4⟩ := add_named S3 E (by omega)
  have hr : Hid (S4.data.toList = ctT ⟨s, a, b, L⟩) := Lib.hid (by unfold ctT; rw [if_pos hok, hS4, hS3, hS2, hS1, hDl, hEl]; simp)
  have cL : Hid (∀ W2 : World, Calls Tryd.prog 32 #[.slice (some ⟨W2.heap.size, 0, none⟩) 2 2] ((W2.alloc (.cells #[.int .i64 a, .int .i64 b] 2)).drew) fun e w' => e = .returned (.string D) ∧ Below ((W2.alloc (.cells #[.int .i64 a, .int .i64 b] 2)).drew).heap.size ((W2.alloc (.cells #[.int .i64 a, .int .i64 b] 2)).drew) w') := Lib.hid (fun W2 => by
    have := l01List_any (.slice (some ⟨W2.heap.size, 0, none⟩) 2 2) [a, b] ((W2.alloc (.cells #[.int .i64 a, .int .i64 b] 2)).drew) (by simp) (two_ints W2 2 a b i0 i1)
    rw [hD]; exact this)
  have cC : Hid (∀ W, Below w.heap.size w W → Calls Tryd.prog 32 #[u] W fun e w' => e = .returned (.string E) ∧ Below W.heap.size W w') := Lib.hid (fun W hb => by
    have := l01List_any u L W (by omega) (hv.below hb)
    rw [hE]; exact this)
  have keepH : Hid (∀ W1 W2, ((W1.cell? ⟨g, 0, none⟩ = some (.string s) ∧ W1.cell? ⟨g, 1, none⟩ = some (.int .i64 a) ∧ W1.cell? ⟨g, 2, none⟩ = some (.int .i64 b) ∧ W1.cell? ⟨g, 3, none⟩ = some u) ∧ Below w.heap.size w W1) → Below W1.heap.size W1 W2 → ((W2.cell? ⟨g, 0, none⟩ = some (.string s) ∧ W2.cell? ⟨g, 1, none⟩ = some (.int .i64 a) ∧ W2.cell? ⟨g, 2, none⟩ = some (.int .i64 b) ∧ W2.cell? ⟨g, 3, none⟩ = some u) ∧ Below w.heap.size w W2)) := Lib.hid (fun W1 W2 h1 h2 => by
    obtain ⟨⟨p0, p1, p2, p3⟩, hb⟩ := h1
    have hl := Nat.lt_of_lt_of_le hg hb.size
    exact ⟨⟨(bcell h2 _ _ hl).trans p0, (bcell h2 _ _ hl).trans p1, (bcell h2 _ _ hl).trans p2, (bcell h2 _ _ hl).trans p3⟩, below2 hb h2⟩)
  have hS : ((w.cell? ⟨g, 0, none⟩ = some (.string s) ∧ w.cell? ⟨g, 1, none⟩ = some (.int .i64 a) ∧ w.cell? ⟨g, 2, none⟩ = some (.int .i64 b) ∧ w.cell? ⟨g, 3, none⟩ = some u) ∧ Below w.heap.size w w) := ⟨hP, Below.refl _ _⟩
  clear hP hD hE hDl hEl hDs hEs hS1 hS1s hS1s' hS2 hS2s hS3 hS3s hS3s' hS4 hS4s le1 le2 i0 i1 hZ hZ2 hok hat hv
  go_enter Tryd.func16, Tryd.ntmps16
  go_wp2
  go_region_held3 (fun w' => ((w'.cell? ⟨g, 0, none⟩ = some (.string s) ∧ w'.cell? ⟨g, 1, none⟩ = some (.int .i64 a) ∧ w'.cell? ⟨g, 2, none⟩ = some (.int .i64 b) ∧ w'.cell? ⟨g, 3, none⟩ = some u) ∧ Below w.heap.size w w'))
    (first | exact ⟨hS.1, belowN hS.2 1⟩ | exact keepH.out _ _ (by assumption) (fresh_b _ _) | exact keepH.out _ _ (by assumption) (belowN (fresh_b _ _) 1) | exact keepH.out w _ hS (belowN (fresh_b _ _) 1) | exact keepH.out _ _ (by assumption) (by assumption) | assumption)
    (first
      | (go_at_call 32; (with_reducible refine (cL.out _).mono ?_); rintro e w' ⟨rfl, hbel⟩)
      | (go_at_call 32; (with_reducible refine (cC.out _ (And.right (by assumption))).mono ?_); rintro e w' ⟨rfl, hbel⟩))
  all_goals rename_i hHeld
  all_goals have hb2 := hHeld.2
  all_goals clear hHeld hS keepH
  all_goals go_wp2
  all_goals go_ret
  all_goals exact str_ret hr.out hb2
set_option maxHeartbeats 1600000 in
theorem specCoatText_any (s : ByteArray) (a b : Int) (u : Value) (L : List Int) (w : World) (hs : s.size ≤ maxLen) (hL : L.length ≤ maxLen) (hv : IntsAt w u L) : Calls Tryd.prog 6 #[.agg #[.string s, .int .i64 a, .int .i64 b, u]] w fun e w' => e = .returned (.string ⟨(ctT ⟨s, a, b, L⟩).toArray⟩) ∧ Below w.heap.size w w' := by
  obtain ⟨q9, hB0, hsz⟩ := one_boxC w #[.string s, .int .i64 a, .int .i64 b, u] 27
  have hat : CtAt (w.alloc (.cells #[.string s, .int .i64 a, .int .i64 b, u] 27)) w.heap.size 0 ⟨s, a, b, L⟩ u := ⟨⟨q9 0 _ rfl, q9 1 _ rfl, q9 2 _ rfl, q9 3 _ rfl⟩, hv.below hB0⟩
  have cV := l13One_any ⟨s, a, b, L⟩ u w.heap.size 0 hs hL _ hat
  have hB' := Lib.hid hB0
  cases hok : ctB ⟨s, a, b, L⟩
  · have hr : Hid (ctT ⟨s, a, b, L⟩ = []) := Lib.hid (by unfold ctT; rw [hok]; rfl)
    rw [hok] at cV
    replace cV := Lib.hid cV
    clear q9 hat hB0 hv
    go_enter Tryd.func6, Tryd.ntmps6
    go_wp2_with (go_at_call 15; (with_reducible refine cV.out.mono ?_); rintro e w1 ⟨rfl, rfl⟩)
    go_ret
    exact ⟨by rw [hr.out]; rfl, hB'.out⟩
  have cT := l13Text_any s a b u L hok _ w.heap.size hsz hat
  obtain ⟨D, hD⟩ : ∃ D : ByteArray, D = ⟨(ctT ⟨s, a, b, L⟩).toArray⟩ := ⟨_, rfl⟩
  rw [← hD] at cT ⊢
  rw [hok] at cV
  replace cV := Lib.hid cV
  replace cT := Lib.hid cT
  clear q9 hat hB0 hv hD
  go_enter Tryd.func6, Tryd.ntmps6
  go_wp2_with (first
    | (go_at_call 15; (with_reducible refine cV.out.mono ?_); rintro e w1 ⟨rfl, rfl⟩)
    | (go_at_call 16; (with_reducible refine cT.out.mono ?_); rintro e w2 ⟨rfl, b2⟩))
  go_ret
  exact ⟨rfl, below2 hB'.out b2⟩
end Go.Proofs.YtcgmpomhklhmaaaDoor
