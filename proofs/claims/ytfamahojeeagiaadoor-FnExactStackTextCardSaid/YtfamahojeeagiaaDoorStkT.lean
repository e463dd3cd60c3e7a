/-
  Contracts of the texts of stacks.
-/
import Derived.Test.YtfamahojeeagiaaDoorText3
import Derived.Test.YtfamahojeeagiaaDoorStkIn
import Derived.Test.YtfamahojeeagiaaDoorListI
import Derived.Deep.RegionHeld3
namespace Go.Proofs.YtfamahojeeagiaaDoor
open Go.ChangeShapes Go.WideShapes Go.ChangeAt Go.RowKit
set_option linter.unusedVariables false
set_option linter.unusedSimpArgs false
theorem two_ints (W : World) (t : TypeId) (a b : Int) (ha : inI a) (hb : inI b) :
    IntsAt (W.alloc (.cells #[.int .i64 a, .int .i64 b] t)) (.slice (some ⟨W.heap.size, 0, none⟩) 2 2) [a, b] := by
  refine ⟨some ⟨W.heap.size, 0, none⟩, 2, rfl, Nat.le_refl 2, ?_, Or.inr ⟨W.heap.size, 0, rfl, by simp, ?_⟩⟩
  · intro n hn
    simp only [List.mem_cons, List.mem_nil_iff, or_false] at hn
    rcases hn with rfl | rfl <;> assumption
  · intro i hi
    rw [Nat.zero_add, World.cell?_alloc_mark]
    match i, hi with
    | 0, _ => rfl
    | 1, _ => rfl
/-- the text of a stack -/
noncomputable def stkT (x : Stk) : List UInt8 := if stkB x = true then x.id.data.toList ++ 32 :: (textZ [x.moi, x.thk] ++ 32 :: dateT x.sin) else []
theorem name_le {l : List UInt8} (h : nameL l = true) : l.length ≤ 10 := by
  unfold nameL at h; simp at h; omega
theorem stkB_parts {s : ByteArray} {a b c : Int} (h : stkB ⟨s, a, b, c⟩ = true) : nameL s.data.toList = true ∧ (0 ≤ a ∧ a ≤ 1000) ∧ (10 ≤ b ∧ b ≤ 1000) ∧ (0 ≤ c ∧ c ≤ 36524) := by
  unfold stkB at h
  simp only [Bool.and_eq_true, inB_iff] at h
  exact ⟨h.1.1.1, h.1.1.2, h.1.2, h.2⟩
theorem listR_in {Z : List Int} (h : Z.all inV = true) (hl : Z.length ≤ 64) : listR Z = textZ Z := by
  unfold listR; rw [fits_all h, decide_eq_true hl]; rfl
theorem text2_le (a b : Int) (ha : inI a) (hb : inI b) : (textZ [a, b]).length ≤ 110 := by
  have h := joinK_le [a, b] 2 (by
    intro n hn
    simp only [List.mem_cons, List.mem_nil_iff, or_false] at hn
    rcases hn with rfl | rfl <;> assumption)
  have e : joinK [a, b] 2 = textZ [a, b] := by
    unfold textZ
    rw [if_neg (by simp)]
    exact joinK_all _
  rw [e] at h; omega
theorem fresh_b (w : World) (o : Obj) : Below w.heap.size w (w.alloc o) := (Below.refl _ _).alloc (Nat.le_refl _) _
theorem box_cells (s : ByteArray) (a b c : Int) (w w1 : World) (hb : Below (w.alloc (.cells #[.string s, .int .i64 a, .int .i64 b, .int .i64 c] 26)).heap.size (w.alloc (.cells #[.string s, .int .i64 a, .int .i64 b, .int .i64 c] 26)) w1) :
    (w1.cell? ⟨w.heap.size, 0, none⟩ = some (.string s) ∧ w1.cell? ⟨w.heap.size, 1, none⟩ = some (.int .i64 a) ∧ w1.cell? ⟨w.heap.size, 2, none⟩ = some (.int .i64 b) ∧ w1.cell? ⟨w.heap.size, 3, none⟩ = some (.int .i64 c)) :=
  have hl : w.heap.size < (w.alloc (.cells #[.string s, .int .i64 a, .int .i64 b, .int .i64 c] 26)).heap.size := by simp
  ⟨(hb.cell hl).trans (cellB (heap_alloc_new _ _) 0 _ rfl), (hb.cell hl).trans (cellB (heap_alloc_new _ _) 1 _ rfl), (hb.cell hl).trans (cellB (heap_alloc_new _ _) 2 _ rfl), (hb.cell hl).trans (cellB (heap_alloc_new _ _) 3 _ rfl)⟩
/-- one name for a text behind a first byte string -/
theorem add_named (s t : ByteArray) (h : s.size + t.size ≤ 9223372036854775807) : ∃ S : ByteArray, S.data.toList = s.data.toList ++ t.data.toList ∧ S.size = s.size + t.size ∧ ∀ w, (Op.stringOp .add s t).run Tryd.prog w = .ok (.string S) w :=
  ⟨s ++ t, cat_data s t, cat_size s t, fun w => run_string_add_sum w s t h⟩
theorem dateT_le {n : Int} (h0 : 0 ≤ n) (h1 : n ≤ 36524) : (dateT n).length ≤ 100 := by
  obtain ⟨⟨y1, y2⟩, ⟨m1, m2⟩, ⟨d1, d2⟩⟩ := date_bounds h0 h1
  unfold dateT; rw [if_pos ⟨h0, h1⟩]
  have l1 := padL_len 4 (dateN n).1 (by omega) (by omega) (by rw [show (10 ^ 4 : Nat) = 10000 from rfl]; omega)
  have l2 := padL_len 2 (dateN n).2.1 (by omega) (by omega) (by rw [show (10 ^ 2 : Nat) = 100 from rfl]; omega)
  have l3 := padL_len 2 (dateN n).2.2 (by omega) (by omega) (by rw [show (10 ^ 2 : Nat) = 100 from rfl]; omega)
  simp only [List.length_append, List.length_cons]
  omega
set_option maxHeartbeats 3200000 in
set_option maxRecDepth 1000000 in
theorem implStackText_any (s : ByteArray) (a b c : Int) (hs : s.size ≤ maxLen) (w : World) (hT : TabP w) : Calls Tryd.prog 8 #[.agg #[.string s, .int .i64 a, .int .i64 b, .int .i64 c]] w (StrRet (stkT ⟨s, a, b, c⟩) w) := by
  have cV0 : ∀ W, Calls Tryd.prog 22 #[.agg #[.string s, .int .i64 a, .int .i64 b, .int .i64 c]] W fun e w' => e = .returned (.bool (stkB ⟨s, a, b, c⟩)) ∧ Below W.heap.size W w' := fun W => isValid_any s a b c hs W
  have hf0 := fresh_b w (.cells #[.string s, .int .i64 a, .int .i64 b, .int .i64 c] 26)
  cases hv : stkB ⟨s, a, b, c⟩
  · have hr : Hid (stkT ⟨s, a, b, c⟩ = []) := Lib.hid (by unfold stkT; rw [hv]; rfl)
    rw [hv] at cV0
    have cV := Lib.hid cV0
    clear cV0
    go_enter Tryd.func8, Tryd.ntmps8
    go_wp2_with (go_at_call 22; (with_reducible refine (cV.out _).mono ?_); rintro e w1 ⟨rfl, b1⟩)
    go_ret
    exact str_ret hr.out.symm (hf0.trans (b1.mono hf0.size))
  · obtain ⟨h0, ⟨a1, a2⟩, ⟨b1', b2'⟩, ⟨c1', c2'⟩⟩ := stkB_parts hv
    have hs10 : s.size ≤ 10 := by rw [← len_data]; exact name_le h0
    have ia : inI a := ⟨by omega, by omega⟩
    have ib : inI b := ⟨by omega, by omega⟩
    have ic : inI c := ⟨by omega, by omega⟩
    have hZ : ([a, b] : List Int).all inV = true := by
      simp only [List.all_cons, List.all_nil, Bool.and_true, Bool.and_eq_true]
      refine ⟨?_, ?_⟩ <;> (unfold inV; rw [inB_iff]; omega)
    have hl := text2_le a b ia ib
    have hdl := dateT_le c1' c2'
    obtain ⟨D, hD⟩ : ∃ D : ByteArray, D = ⟨(textZ [a, b]).toArray⟩ := ⟨_, rfl⟩
    have hDl : D.data.toList = textZ [a, b] := by rw [hD]
    have hDs : D.size ≤ 110 := by rw [← len_data, hDl]; exact hl
    obtain ⟨E, hE⟩ : ∃ E : ByteArray, E = ⟨(dateT c).toArray⟩ := ⟨_, rfl⟩
    have hEl : E.data.toList = dateT c := by rw [hE]
    have hEs : E.size ≤ 100 := by rw [← len_data, hEl]; exact hdl
    obtain ⟨S1, hS1, hS1s, add1⟩ := add_named s ⟨#[32]⟩ (by show s.size + 1 ≤ _; omega)
    have hS1s' : S1.size ≤ 11 := by rw [hS1s]; show s.size + 1 ≤ 11; omega
    obtain ⟨S2, hS2, hS2s, add2⟩ := add_named S1 D (by omega)
    have hS2s' : S2.size ≤ 121 := by omega
    obtain ⟨S3, hS3, hS3s, add3⟩ := add_named S2 ⟨#[32]⟩ (by show S2.size + 1 ≤ _; omega)
    have hS3s' : S3.size ≤ 122 := by rw [hS3s]; show S2.size + 1 ≤ 122; omega
    obtain ⟨S4, hS4, hS4s, add4⟩ := add_named S3 E (by omega)
    have hr : Hid (S4.data.toList = stkT ⟨s, a, b, c⟩) := Lib.hid (by
      unfold stkT; rw [if_pos hv, hS4, hS3, hS2, hS1, hDl, hEl]; simp)
    have cD : Hid (∀ W v, TabP W → IntsAt W v [a, b] → Calls Tryd.prog 23 #[v] W fun e w' => e = .returned (.string D) ∧ Below W.heap.size W w') := Lib.hid (fun W v h1 h2 => by
      have := implListText_any v [a, b] W (by simp) h2 h1
      rw [listR_in hZ (by simp)] at this
      rw [hD]; exact this)
    have cE0 : ∀ W, TabP W → Calls Tryd.prog 24 #[.int .i64 c] W fun e w' => e = .returned (.string E) ∧ Below W.heap.size W w' := fun W h => by rw [hE]; exact implDateText_any c W h
    have cE0' := Lib.hid cE0
    rw [hv] at cV0
    have cV := Lib.hid cV0
    have hT' := Lib.hid hT
    have h5 := Lib.hid (fun W => two_ints W 2 a b ia ib)
    clear cV0 cE0 hT hD hDl hE hEl hS1 hS1s hS2 hS2s hS3 hS3s hS4 hS4s hZ hl hdl ia ib ic hv h0
    go_enter Tryd.func8, Tryd.ntmps8
    go_wp2_with (go_at_call 22; (with_reducible refine (cV.out _).mono ?_); rintro e w1 ⟨rfl, b1⟩)
    have hP := box_cells s a b c w w1 b1
    have B1 := hf0.trans (b1.mono hf0.size)
    have hBz : w.heap.size < w1.heap.size := Nat.lt_of_lt_of_le (by simp) b1.size
    have hTW : TabP w1 := hT'.out.below B1
    clear b1 hf0
    generalize hBB : w.heap.size = B at hP hBz ⊢
    have keep : ∀ W1 W2, ((W1.cell? ⟨B, 0, none⟩ = some (.string s) ∧ W1.cell? ⟨B, 1, none⟩ = some (.int .i64 a) ∧ W1.cell? ⟨B, 2, none⟩ = some (.int .i64 b) ∧ W1.cell? ⟨B, 3, none⟩ = some (.int .i64 c)) ∧ (Below w1.heap.size w1 W1 ∧ TabP W1)) → Below W1.heap.size W1 W2 → ((W2.cell? ⟨B, 0, none⟩ = some (.string s) ∧ W2.cell? ⟨B, 1, none⟩ = some (.int .i64 a) ∧ W2.cell? ⟨B, 2, none⟩ = some (.int .i64 b) ∧ W2.cell? ⟨B, 3, none⟩ = some (.int .i64 c)) ∧ (Below w1.heap.size w1 W2 ∧ TabP W2)) := fun W1 W2 h1 h2 => by
      obtain ⟨⟨p0, p1, p2, p3⟩, hb, ht⟩ := h1
      have hl := Nat.lt_of_lt_of_le hBz hb.size
      exact ⟨⟨(h2.cell hl).trans p0, (h2.cell hl).trans p1, (h2.cell hl).trans p2, (h2.cell hl).trans p3⟩, hb.trans (h2.mono hb.size), ht.below h2⟩
    have keepH := Lib.hid keep
    have hS : ((w1.cell? ⟨B, 0, none⟩ = some (.string s) ∧ w1.cell? ⟨B, 1, none⟩ = some (.int .i64 a) ∧ w1.cell? ⟨B, 2, none⟩ = some (.int .i64 b) ∧ w1.cell? ⟨B, 3, none⟩ = some (.int .i64 c)) ∧ (Below w1.heap.size w1 w1 ∧ TabP w1)) := ⟨hP, Below.refl _ _, hTW⟩
    have cL : Hid (∀ W2 : World, (((W2.alloc (.cells #[.int .i64 a, .int .i64 b] 2)).drew.cell? ⟨B, 0, none⟩ = some (.string s) ∧ (W2.alloc (.cells #[.int .i64 a, .int .i64 b] 2)).drew.cell? ⟨B, 1, none⟩ = some (.int .i64 a) ∧ (W2.alloc (.cells #[.int .i64 a, .int .i64 b] 2)).drew.cell? ⟨B, 2, none⟩ = some (.int .i64 b) ∧ (W2.alloc (.cells #[.int .i64 a, .int .i64 b] 2)).drew.cell? ⟨B, 3, none⟩ = some (.int .i64 c)) ∧ (Below w1.heap.size w1 (W2.alloc (.cells #[.int .i64 a, .int .i64 b] 2)).drew ∧ TabP (W2.alloc (.cells #[.int .i64 a, .int .i64 b] 2)).drew)) → Calls Tryd.prog 23 #[.slice (some ⟨W2.heap.size, 0, none⟩) 2 2] (W2.alloc (.cells #[.int .i64 a, .int .i64 b] 2)).drew fun e w' => e = .returned (.string D) ∧ Below (W2.alloc (.cells #[.int .i64 a, .int .i64 b] 2)).drew.heap.size (W2.alloc (.cells #[.int .i64 a, .int .i64 b] 2)).drew w') := Lib.hid (fun W2 h => cD.out _ _ h.2.2 (h5.out W2))
    have cE : Hid (∀ W : World, ((W.cell? ⟨B, 0, none⟩ = some (.string s) ∧ W.cell? ⟨B, 1, none⟩ = some (.int .i64 a) ∧ W.cell? ⟨B, 2, none⟩ = some (.int .i64 b) ∧ W.cell? ⟨B, 3, none⟩ = some (.int .i64 c)) ∧ (Below w1.heap.size w1 W ∧ TabP W)) → Calls Tryd.prog 24 #[.int .i64 c] W fun e w' => e = .returned (.string E) ∧ Below W.heap.size W w') := Lib.hid (fun W h => cE0'.out W h.2.2)
    clear keep hP hTW hBB cD h5 cE0'
    go_region_held3 (fun w' => ((w'.cell? ⟨B, 0, none⟩ = some (.string s) ∧ w'.cell? ⟨B, 1, none⟩ = some (.int .i64 a) ∧ w'.cell? ⟨B, 2, none⟩ = some (.int .i64 b) ∧ w'.cell? ⟨B, 3, none⟩ = some (.int .i64 c)) ∧ (Below w1.heap.size w1 w' ∧ TabP w')))
      (first | exact ⟨hS.1, belowN hS.2.1 1, hS.2.2⟩ | exact keepH.out _ _ (by assumption) (fresh_b _ _) | exact keepH.out _ _ (by assumption) (belowN (fresh_b _ _) 1) | exact keepH.out w1 _ hS (belowN (fresh_b _ _) 1) | exact keepH.out _ _ (by assumption) (by assumption) | assumption)
      (first | (go_at_call 23; (with_reducible refine (cL.out _ (by assumption)).mono ?_); rintro e w' ⟨rfl, hbel⟩) | (go_at_call 24; (with_reducible refine (cE.out _ (by assumption)).mono ?_); rintro e w' ⟨rfl, hbel⟩))
    rename_i hHeld
    have hb2 := B1.trans (hHeld.2.1.mono B1.size)
    clear hHeld hS keepH
    go_wp2
    go_ret
    exact str_ret hr.out hb2
end Go.Proofs.YtfamahojeeagiaaDoor
