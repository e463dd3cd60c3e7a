/-
  Texts of Peg: the program's and the model's contracts.
-/
import Derived.Test.YtilppdjjcgffiaaDoorNam9
import Derived.Test.YtilppdjjcgffiaaDoorPegIn
namespace Go.Proofs.YtilppdjjcgffiaaDoor
open Go.ChangeShapes Go.WideShapes Go.ChangeAt Go.RowKit
set_option linter.unusedVariables false
set_option linter.unusedSimpArgs false
set_option maxRecDepth 1000000
theorem peg_ints (W : World) (t : TypeId) (a b c : Int) (i0 : inI a) (i1 : inI b) (i2 : inI c) :
    IntsAt (W.alloc (.cells #[.int .i64 a, .int .i64 b, .int .i64 c] t)) (.slice (some ⟨W.heap.size, 0, none⟩) 3 3) [a, b, c] := by
  refine ⟨some ⟨W.heap.size, 0, none⟩, 3, rfl, Nat.le_refl 3, ?_, Or.inr ⟨W.heap.size, 0, rfl, by simp, ?_⟩⟩
  · intro n hn
    simp only [List.mem_cons, List.mem_nil_iff, or_false] at hn
    rcases hn with rfl | rfl | rfl <;> assumption
  · intro i hi
    rw [Nat.zero_add, World.cell?_alloc_mark]
    match i, hi with
    | 0, _ => rfl
    | 1, _ => rfl
    | 2, _ => rfl
/-- the text -/
def pegT (x : Peg) : List UInt8 := if pegB x = true then x.id.data.toList ++ 32 :: textZ [x.thk, x.len, x.tap] else []
theorem pegB_parts {s : ByteArray} {a b c : Int} (h : pegB ⟨s, a, b, c⟩ = true) : nameL s.data.toList = true ∧ (20 ≤ a ∧ a ≤ 200) ∧ (100 ≤ b ∧ b ≤ 1000) ∧ (10 ≤ c ∧ c ≤ 100) := by
  unfold pegB at h
  simp only [Bool.and_eq_true, inB_iff] at h
  obtain ⟨⟨⟨h0, h1⟩, h2⟩, h3⟩ := h
  exact ⟨h0, h1, h2, h3⟩
theorem peg_bx (s : ByteArray) (a b c : Int) (w w1 : World) (hb : Below (w.alloc (.cells #[.string s, .int .i64 a, .int .i64 b, .int .i64 c] 37)).heap.size (w.alloc (.cells #[.string s, .int .i64 a, .int .i64 b, .int .i64 c] 37)) w1) : (w1.cell? ⟨w.heap.size, 0, none⟩ = some (.string s) ∧ w1.cell? ⟨w.heap.size, 1, none⟩ = some (.int .i64 a) ∧ w1.cell? ⟨w.heap.size, 2, none⟩ = some (.int .i64 b) ∧ w1.cell? ⟨w.heap.size, 3, none⟩ = some (.int .i64 c)) :=
  have hl : w.heap.size < (w.alloc (.cells #[.string s, .int .i64 a, .int .i64 b, .int .i64 c] 37)).heap.size := by simp
  ⟨(hb.cell hl).trans (cellB (heap_alloc_new _ _) 0 _ rfl), (hb.cell hl).trans (cellB (heap_alloc_new _ _) 1 _ rfl), (hb.cell hl).trans (cellB (heap_alloc_new _ _) 2 _ rfl), (hb.cell hl).trans (cellB (heap_alloc_new _ _) 3 _ rfl)⟩
set_option maxHeartbeats 3200000 in
theorem implPegText_any (s : ByteArray) (a b c : Int) (hs : s.size ≤ maxLen) (w : World) (hT : TabP w) : Calls Tryd.prog 17 #[.agg #[.string s, .int .i64 a, .int .i64 b, .int .i64 c]] w (StrRet (pegT ⟨s, a, b, c⟩) w) := by
  have cV0 : ∀ W, Calls Tryd.prog 31 #[.agg #[.string s, .int .i64 a, .int .i64 b, .int .i64 c]] W fun e w' => e = .returned (.bool (pegB ⟨s, a, b, c⟩)) ∧ Below W.heap.size W w' := fun W => isValidPeg_any s a b c hs W
  have hf0 := fresh_b w (.cells #[.string s, .int .i64 a, .int .i64 b, .int .i64 c] 37)
  cases hv : pegB ⟨s, a, b, c⟩
  · have hr : Hid (pegT ⟨s, a, b, c⟩ = []) := Lib.hid (by unfold pegT; rw [hv]; rfl)
    rw [hv] at cV0
    have cV := Lib.hid cV0
    clear cV0
    go_enter Tryd.func17, Tryd.ntmps17
    go_wp2_with (go_at_call 31; (with_reducible refine (cV.out _).mono ?_); rintro e w1 ⟨rfl, b1⟩)
    go_ret
    exact str_ret hr.out.symm (hf0.trans (b1.mono hf0.size))
  · obtain ⟨h0, ⟨a1, a2⟩, ⟨b1, b2⟩, ⟨c1, c2⟩⟩ := pegB_parts hv
    have hs10 : s.size ≤ 10 := by rw [← len_data]; exact name_le h0
    have i0 : inI a := ⟨by omega, by omega⟩
    have i1 : inI b := ⟨by omega, by omega⟩
    have i2 : inI c := ⟨by omega, by omega⟩
    have hZ : ([a, b, c] : List Int).all inV = true := by
      simp only [List.all_cons, List.all_nil, Bool.and_true, Bool.and_eq_true]
      refine ⟨?_, ?_, ?_⟩ <;> (unfold inV; rw [inB_iff]; omega)
    obtain ⟨D, hD⟩ : ∃ D : ByteArray, D = ⟨(pegT ⟨s, a, b, c⟩).toArray⟩ := ⟨_, rfl⟩
    have hDl : D = ⟨(s.data.toList ++ 32 :: textZ [a, b, c]).toArray⟩ := by rw [hD]; unfold pegT; rw [if_pos hv]
    have cN : Hid (∀ W, Below w.heap.size w W → Calls Tryd.prog 32 #[.string s, .slice (some ⟨W.heap.size, 0, none⟩) 3 3] (W.alloc (.cells #[.int .i64 a, .int .i64 b, .int .i64 c] 2)) fun e w' => e = .returned (.string D) ∧ Below (W.alloc (.cells #[.int .i64 a, .int .i64 b, .int .i64 c] 2)).heap.size (W.alloc (.cells #[.int .i64 a, .int .i64 b, .int .i64 c] 2)) w') := Lib.hid (fun W hb => by
      have h1 := namedText_any s hs10 _ [a, b, c] hZ (by simp) (W.alloc (.cells #[.int .i64 a, .int .i64 b, .int .i64 c] 2)) (peg_ints W 2 a b c i0 i1 i2) (hT.below (hb.alloc hb.size _))
      rw [hDl]; exact h1)
    have hDr := Lib.hid hD
    rw [hv] at cV0
    have cV := Lib.hid cV0
    have hbx := Lib.hid (fun w1 hb => peg_bx s a b c w w1 hb)
    clear cV0 hT hD hDl hZ hv h0 i0 i1 i2
    go_enter Tryd.func17, Tryd.ntmps17
    go_wp2_with (first
      | (go_at_call 31; (with_reducible refine (cV.out _).mono ?_); rintro e w1 ⟨rfl, b1⟩; have hP := hbx.out w1 b1; have B1 := hf0.trans (b1.mono hf0.size); clear b1 hf0 hbx; obtain ⟨p0, p1, p2, p3⟩ := hP)
      | (go_at_call 32; (with_reducible refine (cN.out _ B1).mono ?_); rintro e w2 ⟨rfl, b2⟩))
    go_ret
    exact ⟨by rw [hDr.out]; rfl, B1.trans ((fresh_b _ _).trans (b2.mono (fresh_b w1 (.cells #[.int .i64 a, .int .i64 b, .int .i64 c] 2)).size) |>.mono B1.size)⟩
set_option maxHeartbeats 3200000 in
theorem l12Text_any (s : ByteArray) (a b c : Int) (hv : pegB ⟨s, a, b, c⟩ = true) (w : World) (g : Nat) (hg : g < w.heap.size) (hP : (w.cell? ⟨g, 0, none⟩ = some (.string s) ∧ w.cell? ⟨g, 1, none⟩ = some (.int .i64 a) ∧ w.cell? ⟨g, 2, none⟩ = some (.int .i64 b) ∧ w.cell? ⟨g, 3, none⟩ = some (.int .i64 c))) :
    Calls Tryd.prog 30 #[.pointer (some ⟨g, 0, none⟩)] w (StrRet (pegT ⟨s, a, b, c⟩) w) := by
  obtain ⟨h0, ⟨a1, a2⟩, ⟨b1, b2⟩, ⟨c1, c2⟩⟩ := pegB_parts hv
  have hs10 : s.size ≤ 10 := by rw [← len_data]; exact name_le h0
  have i0 : inI a := ⟨by omega, by omega⟩
  have i1 : inI b := ⟨by omega, by omega⟩
  have i2 : inI c := ⟨by omega, by omega⟩
  have hZ : ([a, b, c] : List Int).all inV = true := by
    simp only [List.all_cons, List.all_nil, Bool.and_true, Bool.and_eq_true]
    refine ⟨?_, ?_, ?_⟩ <;> (unfold inV; rw [inB_iff]; omega)
  obtain ⟨D, hD⟩ : ∃ D : ByteArray, D = ⟨(pegT ⟨s, a, b, c⟩).toArray⟩ := ⟨_, rfl⟩
  have hDl : D = ⟨(s.data.toList ++ 32 :: textZ [a, b, c]).toArray⟩ := by rw [hD]; unfold pegT; rw [if_pos hv]
  have hle := textZ_le [a, b, c] (fun n hn => by
    simp only [List.mem_cons, List.mem_nil_iff, or_false] at hn
    rcases hn with rfl | rfl | rfl <;> assumption)
  obtain ⟨E, hE⟩ : ∃ E : ByteArray, E = ⟨(textZ [a, b, c]).toArray⟩ := ⟨_, rfl⟩
  have hEl : E.data.toList = textZ [a, b, c] := by rw [hE]
  have hEs : E.size ≤ 2000 := by rw [← len_data, hEl]; simp at hle; omega
  obtain ⟨S1, hS1, hS1s, add1⟩ := add_named s ⟨#[32]⟩ (by show s.size + 1 ≤ _; omega)
  have hS1s' : S1.size ≤ 11 := by rw [hS1s]; show s.size + 1 ≤ 11; omega
  obtain ⟨S2, hS2, hS2s, add2⟩ := add_named S1 E (by omega)
  have hr : Hid (S2.data.toList = pegT ⟨s, a, b, c⟩) := Lib.hid (by
    unfold pegT; rw [if_pos hv, hS2, hS1, hEl, List.append_assoc]; rfl)
  have cL : Hid (∀ W2 : World, Calls Tryd.prog 48 #[.slice (some ⟨W2.heap.size, 0, none⟩) 3 3] ((W2.alloc (.cells #[.int .i64 a, .int .i64 b, .int .i64 c] 2)).drew) fun e w' => e = .returned (.string E) ∧ Below ((W2.alloc (.cells #[.int .i64 a, .int .i64 b, .int .i64 c] 2)).drew).heap.size ((W2.alloc (.cells #[.int .i64 a, .int .i64 b, .int .i64 c] 2)).drew) w') := Lib.hid (fun W2 => by
    have := l01List_any (.slice (some ⟨W2.heap.size, 0, none⟩) 3 3) [a, b, c] ((W2.alloc (.cells #[.int .i64 a, .int .i64 b, .int .i64 c] 2)).drew) (by simp) (peg_ints W2 2 a b c i0 i1 i2)
    rw [hE]; exact this)
  have keep : ∀ W1 W2, ((W1.cell? ⟨g, 0, none⟩ = some (.string s) ∧ W1.cell? ⟨g, 1, none⟩ = some (.int .i64 a) ∧ W1.cell? ⟨g, 2, none⟩ = some (.int .i64 b) ∧ W1.cell? ⟨g, 3, none⟩ = some (.int .i64 c)) ∧ Below w.heap.size w W1) → Below W1.heap.size W1 W2 → ((W2.cell? ⟨g, 0, none⟩ = some (.string s) ∧ W2.cell? ⟨g, 1, none⟩ = some (.int .i64 a) ∧ W2.cell? ⟨g, 2, none⟩ = some (.int .i64 b) ∧ W2.cell? ⟨g, 3, none⟩ = some (.int .i64 c)) ∧ Below w.heap.size w W2) := fun W1 W2 h1 h2 => by
    obtain ⟨⟨p0, p1, p2, p3⟩, hb⟩ := h1
    have hl := Nat.lt_of_lt_of_le hg hb.size
    exact ⟨⟨(h2.cell hl).trans p0, (h2.cell hl).trans p1, (h2.cell hl).trans p2, (h2.cell hl).trans p3⟩, hb.trans (h2.mono hb.size)⟩
  have keepH := Lib.hid keep
  have hS : ((w.cell? ⟨g, 0, none⟩ = some (.string s) ∧ w.cell? ⟨g, 1, none⟩ = some (.int .i64 a) ∧ w.cell? ⟨g, 2, none⟩ = some (.int .i64 b) ∧ w.cell? ⟨g, 3, none⟩ = some (.int .i64 c)) ∧ Below w.heap.size w w) := ⟨hP, Below.refl _ _⟩
  clear keep hP hD hDl hE hEl hS1 hS1s hS2 hS2s hle i0 i1 i2 hv h0 hZ
  go_enter Tryd.func30, Tryd.ntmps30
  go_wp2
  go_region_held3 (fun w' => ((w'.cell? ⟨g, 0, none⟩ = some (.string s) ∧ w'.cell? ⟨g, 1, none⟩ = some (.int .i64 a) ∧ w'.cell? ⟨g, 2, none⟩ = some (.int .i64 b) ∧ w'.cell? ⟨g, 3, none⟩ = some (.int .i64 c)) ∧ Below w.heap.size w w'))
    (first | exact ⟨hS.1, belowN hS.2 1⟩ | exact keepH.out _ _ (by assumption) (fresh_b _ _) | exact keepH.out _ _ (by assumption) (belowN (fresh_b _ _) 1) | exact keepH.out w _ hS (belowN (fresh_b _ _) 1) | exact keepH.out _ _ (by assumption) (by assumption) | assumption)
    (first | (go_at_call 48; (with_reducible refine (cL.out _).mono ?_); rintro e w' ⟨rfl, hbel⟩))
  rename_i hHeld
  have hb2 := hHeld.2
  clear hHeld hS keepH
  go_wp2
  go_ret
  exact str_ret hr.out hb2
set_option maxHeartbeats 1600000 in
theorem specPegText_any (s : ByteArray) (a b c : Int) (hs : s.size ≤ maxLen) (w : World) : Calls Tryd.prog 15 #[.agg #[.string s, .int .i64 a, .int .i64 b, .int .i64 c]] w (StrRet (pegT ⟨s, a, b, c⟩) w) := by
  have hf0 := fresh_b w (.cells #[.string s, .int .i64 a, .int .i64 b, .int .i64 c] 37)
  have hbx := peg_bx s a b c w _ (Below.refl _ _)
  have hat : PegAt (w.alloc (.cells #[.string s, .int .i64 a, .int .i64 b, .int .i64 c] 37)) w.heap.size 0 ⟨s, a, b, c⟩ := hbx
  have cO := l12One_any s a b c hs _ _ _ hat
  cases hv : pegB ⟨s, a, b, c⟩
  · have hr : Hid (pegT ⟨s, a, b, c⟩ = []) := Lib.hid (by unfold pegT; rw [hv]; rfl)
    rw [hv] at cO
    have cO' := Lib.hid cO
    clear cO hat hbx
    go_enter Tryd.func15, Tryd.ntmps15
    go_wp2_with (go_at_call 29; (with_reducible refine cO'.out.mono ?_); rintro e w1 ⟨rfl, rfl⟩)
    go_ret
    exact str_ret hr.out.symm hf0
  · rw [hv] at cO
    have cO' := Lib.hid cO
    have cT := Lib.hid (l12Text_any s a b c hv (w.alloc (.cells #[.string s, .int .i64 a, .int .i64 b, .int .i64 c] 37)) w.heap.size (by simp) hbx)
    clear cO hat hbx hv
    go_enter Tryd.func15, Tryd.ntmps15
    go_wp2_with (first
      | (go_at_call 29; (with_reducible refine cO'.out.mono ?_); rintro e w1 ⟨rfl, rfl⟩)
      | (go_at_call 30; (with_reducible refine cT.out.mono ?_); rintro e w1 ⟨rfl, b1⟩))
    go_ret
    exact ⟨rfl, hf0.trans (b1.mono hf0.size)⟩
end Go.Proofs.YtilppdjjcgffiaaDoor
