/-
  Texts of Plank: the program's and the model's contracts.
-/
import Derived.Test.YtkgbkjacicnljaaDoorNam
import Derived.Test.YtkgbkjacicnljaaDoorPlankIn
namespace Go.Proofs.YtkgbkjacicnljaaDoor
open Go.ChangeShapes Go.WideShapes Go.ChangeAt Go.RowKit
set_option linter.unusedVariables false
set_option linter.unusedSimpArgs false
set_option maxRecDepth 1000000
theorem plk_ints (W : World) (t : TypeId) (a b c d f : Int) (i0 : inI a) (i1 : inI b) (i2 : inI c) (i3 : inI d) (i4 : inI f) :
    IntsAt (W.alloc (.cells #[.int .i64 a, .int .i64 b, .int .i64 c, .int .i64 d, .int .i64 f] t)) (.slice (some ⟨W.heap.size, 0, none⟩) 5 5) [a, b, c, d, f] := by
  refine ⟨some ⟨W.heap.size, 0, none⟩, 5, rfl, Nat.le_refl 5, ?_, Or.inr ⟨W.heap.size, 0, rfl, by simp, ?_⟩⟩
  · intro n hn
    simp only [List.mem_cons, List.mem_nil_iff, or_false] at hn
    rcases hn with rfl | rfl | rfl | rfl | rfl <;> assumption
  · intro i hi
    rw [Nat.zero_add, World.cell?_alloc_mark]
    match i, hi with
    | 0, _ => rfl
    | 1, _ => rfl
    | 2, _ => rfl
    | 3, _ => rfl
    | 4, _ => rfl
/-- the text -/
def plkT (x : Plk) : List UInt8 := if plkB x = true then x.id.data.toList ++ 32 :: textZ [x.len, x.wid, x.thk, x.mas, x.rin] else []
theorem plkB_parts {s : ByteArray} {a b c d f : Int} (h : plkB ⟨s, a, b, c, d, f⟩ = true) : nameL s.data.toList = true ∧ (1 ≤ a ∧ a ≤ 2000) ∧ (1 ≤ b ∧ b ≤ 2000) ∧ (1 ≤ c ∧ c ≤ 2000) ∧ (1 ≤ d ∧ d ≤ 100000) ∧ (1 ≤ f ∧ f ≤ 500) := by
  unfold plkB at h
  simp only [Bool.and_eq_true, inB_iff] at h
  obtain ⟨⟨⟨⟨⟨h0, h1⟩, h2⟩, h3⟩, h4⟩, h5⟩ := h
  exact ⟨h0, h1, h2, h3, h4, h5⟩
theorem plk_bx (s : ByteArray) (a b c d f : Int) (w w1 : World) (hb : Below (w.alloc (.cells #[.string s, .int .i64 a, .int .i64 b, .int .i64 c, .int .i64 d, .int .i64 f] 26)).heap.size (w.alloc (.cells #[.string s, .int .i64 a, .int .i64 b, .int .i64 c, .int .i64 d, .int .i64 f] 26)) w1) : (w1.cell? ⟨w.heap.size, 0, none⟩ = some (.string s) ∧ w1.cell? ⟨w.heap.size, 1, none⟩ = some (.int .i64 a) ∧ w1.cell? ⟨w.heap.size, 2, none⟩ = some (.int .i64 b) ∧ w1.cell? ⟨w.heap.size, 3, none⟩ = some (.int .i64 c) ∧ w1.cell? ⟨w.heap.size, 4, none⟩ = some (.int .i64 d) ∧ w1.cell? ⟨w.heap.size, 5, none⟩ = some (.int .i64 f)) :=
  have hl : w.heap.size < (w.alloc (.cells #[.string s, .int .i64 a, .int .i64 b, .int .i64 c, .int .i64 d, .int .i64 f] 26)).heap.size := by simp
  ⟨(hb.cell hl).trans (cellB (heap_alloc_new _ _) 0 _ rfl), (hb.cell hl).trans (cellB (heap_alloc_new _ _) 1 _ rfl), (hb.cell hl).trans (cellB (heap_alloc_new _ _) 2 _ rfl), (hb.cell hl).trans (cellB (heap_alloc_new _ _) 3 _ rfl), (hb.cell hl).trans (cellB (heap_alloc_new _ _) 4 _ rfl), (hb.cell hl).trans (cellB (heap_alloc_new _ _) 5 _ rfl)⟩
set_option maxHeartbeats 3200000 in
theorem implPlankText_any (s : ByteArray) (a b c d f : Int) (hs : s.size ≤ maxLen) (w : World) (hT : TabP w) : Calls Tryd.prog 10 #[.agg #[.string s, .int .i64 a, .int .i64 b, .int .i64 c, .int .i64 d, .int .i64 f]] w (StrRet (plkT ⟨s, a, b, c, d, f⟩) w) := by
  have cV0 : ∀ W, Calls Tryd.prog 23 #[.agg #[.string s, .int .i64 a, .int .i64 b, .int .i64 c, .int .i64 d, .int .i64 f]] W fun e w' => e = .returned (.bool (plkB ⟨s, a, b, c, d, f⟩)) ∧ Below W.heap.size W w' := fun W => implValidPlank_any s a b c d f hs W
  have hf0 := fresh_b w (.cells #[.string s, .int .i64 a, .int .i64 b, .int .i64 c, .int .i64 d, .int .i64 f] 26)
  cases hv : plkB ⟨s, a, b, c, d, f⟩
  · have hr : Hid (plkT ⟨s, a, b, c, d, f⟩ = []) := Lib.hid (by unfold plkT; rw [hv]; rfl)
    rw [hv] at cV0
    have cV := Lib.hid cV0
    clear cV0
    go_enter Tryd.func10, Tryd.ntmps10
    go_wp2_with (go_at_call 23; (with_reducible refine (cV.out _).mono ?_); rintro e w1 ⟨rfl, b1⟩)
    go_ret
    exact str_ret hr.out.symm (hf0.trans (b1.mono hf0.size))
  · obtain ⟨h0, ⟨a1, a2⟩, ⟨b1, b2⟩, ⟨c1, c2⟩, ⟨d1, d2⟩, ⟨f1, f2⟩⟩ := plkB_parts hv
    have hs10 : s.size ≤ 10 := by rw [← len_data]; exact name_le h0
    have i0 : inI a := ⟨by omega, by omega⟩
    have i1 : inI b := ⟨by omega, by omega⟩
    have i2 : inI c := ⟨by omega, by omega⟩
    have i3 : inI d := ⟨by omega, by omega⟩
    have i4 : inI f := ⟨by omega, by omega⟩
    have hZ : ([a, b, c, d, f] : List Int).all inV = true := by
      simp only [List.all_cons, List.all_nil, Bool.and_true, Bool.and_eq_true]
      refine ⟨?_, ?_, ?_, ?_, ?_⟩ <;> (unfold inV; rw [inB_iff]; omega)
    obtain ⟨D, hD⟩ : ∃ D : ByteArray, D = ⟨(plkT ⟨s, a, b, c, d, f⟩).toArray⟩ := ⟨_, rfl⟩
    have hDl : D = ⟨(s.data.toList ++ 32 :: textZ [a, b, c, d, f]).toArray⟩ := by rw [hD]; unfold plkT; rw [if_pos hv]
    have cN : Hid (∀ W, Below w.heap.size w W → Calls Tryd.prog 24 #[.string s, .slice (some ⟨W.heap.size, 0, none⟩) 5 5] (W.alloc (.cells #[.int .i64 a, .int .i64 b, .int .i64 c, .int .i64 d, .int .i64 f] 2)) fun e w' => e = .returned (.string D) ∧ Below (W.alloc (.cells #[.int .i64 a, .int .i64 b, .int .i64 c, .int .i64 d, .int .i64 f] 2)).heap.size (W.alloc (.cells #[.int .i64 a, .int .i64 b, .int .i64 c, .int .i64 d, .int .i64 f] 2)) w') := Lib.hid (fun W hb => by
      have h1 := namedText_any s hs10 _ [a, b, c, d, f] hZ (by simp) (W.alloc (.cells #[.int .i64 a, .int .i64 b, .int .i64 c, .int .i64 d, .int .i64 f] 2)) (plk_ints W 2 a b c d f i0 i1 i2 i3 i4) (hT.below (hb.alloc hb.size _))
      rw [hDl]; exact h1)
    have hDr := Lib.hid hD
    rw [hv] at cV0
    have cV := Lib.hid cV0
    have hbx := Lib.hid (fun w1 hb => plk_bx s a b c d f w w1 hb)
    clear cV0 hT hD hDl hZ hv h0 i0 i1 i2 i3 i4
    go_enter Tryd.func10, Tryd.ntmps10
    go_wp2_with (first
      | (go_at_call 23; (with_reducible refine (cV.out _).mono ?_); rintro e w1 ⟨rfl, b1⟩; have hP := hbx.out w1 b1; have B1 := hf0.trans (b1.mono hf0.size); clear b1 hf0 hbx; obtain ⟨p0, p1, p2, p3, p4, p5⟩ := hP)
      | (go_at_call 24; (with_reducible refine (cN.out _ B1).mono ?_); rintro e w2 ⟨rfl, b2⟩))
    go_ret
    exact ⟨by rw [hDr.out]; rfl, B1.trans ((fresh_b _ _).trans (b2.mono (fresh_b w1 (.cells #[.int .i64 a, .int .i64 b, .int .i64 c, .int .i64 d, .int .i64 f] 2)).size) |>.mono B1.size)⟩
set_option maxHeartbeats 3200000 in
theorem l03Text_any (s : ByteArray) (a b c d f : Int) (hv : plkB ⟨s, a, b, c, d, f⟩ = true) (w : World) (g : Nat) (hg : g < w.heap.size) (hP : (w.cell? ⟨g, 0, none⟩ = some (.string s) ∧ w.cell? ⟨g, 1, none⟩ = some (.int .i64 a) ∧ w.cell? ⟨g, 2, none⟩ = some (.int .i64 b) ∧ w.cell? ⟨g, 3, none⟩ = some (.int .i64 c) ∧ w.cell? ⟨g, 4, none⟩ = some (.int .i64 d) ∧ w.cell? ⟨g, 5, none⟩ = some (.int .i64 f))) :
    Calls Tryd.prog 22 #[.pointer (some ⟨g, 0, none⟩)] w (StrRet (plkT ⟨s, a, b, c, d, f⟩) w) := by
  obtain ⟨h0, ⟨a1, a2⟩, ⟨b1, b2⟩, ⟨c1, c2⟩, ⟨d1, d2⟩, ⟨f1, f2⟩⟩ := plkB_parts hv
  have hs10 : s.size ≤ 10 := by rw [← len_data]; exact name_le h0
  have i0 : inI a := ⟨by omega, by omega⟩
  have i1 : inI b := ⟨by omega, by omega⟩
  have i2 : inI c := ⟨by omega, by omega⟩
  have i3 : inI d := ⟨by omega, by omega⟩
  have i4 : inI f := ⟨by omega, by omega⟩
  have hZ : ([a, b, c, d, f] : List Int).all inV = true := by
    simp only [List.all_cons, List.all_nil, Bool.and_true, Bool.and_eq_true]
    refine ⟨?_, ?_, ?_, ?_, ?_⟩ <;> (unfold inV; rw [inB_iff]; omega)
  obtain ⟨D, hD⟩ : ∃ D : ByteArray, D = ⟨(plkT ⟨s, a, b, c, d, f⟩).toArray⟩ := ⟨_, rfl⟩
  have hDl : D = ⟨(s.data.toList ++ 32 :: textZ [a, b, c, d, f]).toArray⟩ := by rw [hD]; unfold plkT; rw [if_pos hv]
  have hle := textZ_le [a, b, c, d, f] (fun n hn => by
    simp only [List.mem_cons, List.mem_nil_iff, or_false] at hn
    rcases hn with rfl | rfl | rfl | rfl | rfl <;> assumption)
  obtain ⟨E, hE⟩ : ∃ E : ByteArray, E = ⟨(textZ [a, b, c, d, f]).toArray⟩ := ⟨_, rfl⟩
  have hEl : E.data.toList = textZ [a, b, c, d, f] := by rw [hE]
  have hEs : E.size ≤ 2000 := by rw [← len_data, hEl]; simp at hle; omega
  obtain ⟨S1, hS1, hS1s, add1⟩ := add_named s ⟨#[32]⟩ (by show s.size + 1 ≤ _; omega)
  have hS1s' : S1.size ≤ 11 := by rw [hS1s]; show s.size + 1 ≤ 11; omega
  obtain ⟨S2, hS2, hS2s, add2⟩ := add_named S1 E (by omega)
  have hr : Hid (S2.data.toList = plkT ⟨s, a, b, c, d, f⟩) := Lib.hid (by
    unfold plkT; rw [if_pos hv, hS2, hS1, hEl, List.append_assoc]; rfl)
  have cL : Hid (∀ W2 : World, Calls Tryd.prog 35 #[.slice (some ⟨W2.heap.size, 0, none⟩) 5 5] ((W2.alloc (.cells #[.int .i64 a, .int .i64 b, .int .i64 c, .int .i64 d, .int .i64 f] 2)).drew) fun e w' => e = .returned (.string E) ∧ Below ((W2.alloc (.cells #[.int .i64 a, .int .i64 b, .int .i64 c, .int .i64 d, .int .i64 f] 2)).drew).heap.size ((W2.alloc (.cells #[.int .i64 a, .int .i64 b, .int .i64 c, .int .i64 d, .int .i64 f] 2)).drew) w') := Lib.hid (fun W2 => by
    have := l01List_any (.slice (some ⟨W2.heap.size, 0, none⟩) 5 5) [a, b, c, d, f] ((W2.alloc (.cells #[.int .i64 a, .int .i64 b, .int .i64 c, .int .i64 d, .int .i64 f] 2)).drew) (by simp) (plk_ints W2 2 a b c d f i0 i1 i2 i3 i4)
    rw [hE]; exact this)
  have keep : ∀ W1 W2, ((W1.cell? ⟨g, 0, none⟩ = some (.string s) ∧ W1.cell? ⟨g, 1, none⟩ = some (.int .i64 a) ∧ W1.cell? ⟨g, 2, none⟩ = some (.int .i64 b) ∧ W1.cell? ⟨g, 3, none⟩ = some (.int .i64 c) ∧ W1.cell? ⟨g, 4, none⟩ = some (.int .i64 d) ∧ W1.cell? ⟨g, 5, none⟩ = some (.int .i64 f)) ∧ Below w.heap.size w W1) → Below W1.heap.size W1 W2 → ((W2.cell? ⟨g, 0, none⟩ = some (.string s) ∧ W2.cell? ⟨g, 1, none⟩ = some (.int .i64 a) ∧ W2.cell? ⟨g, 2, none⟩ = some (.int .i64 b) ∧ W2.cell? ⟨g, 3, none⟩ = some (.int .i64 c) ∧ W2.cell? ⟨g, 4, none⟩ = some (.int .i64 d) ∧ W2.cell? ⟨g, 5, none⟩ = some (.int .i64 f)) ∧ Below w.heap.size w W2) := fun W1 W2 h1 h2 => by
    obtain ⟨⟨p0, p1, p2, p3, p4, p5⟩, hb⟩ := h1
    have hl := Nat.lt_of_lt_of_le hg hb.size
    exact ⟨⟨(h2.cell hl).trans p0, (h2.cell hl).trans p1, (h2.cell hl).trans p2, (h2.cell hl).trans p3, (h2.cell hl).trans p4, (h2.cell hl).trans p5⟩, hb.trans (h2.mono hb.size)⟩
  have keepH := Lib.hid keep
  have hS : ((w.cell? ⟨g, 0, none⟩ = some (.string s) ∧ w.cell? ⟨g, 1, none⟩ = some (.int .i64 a) ∧ w.cell? ⟨g, 2, none⟩ = some (.int .i64 b) ∧ w.cell? ⟨g, 3, none⟩ = some (.int .i64 c) ∧ w.cell? ⟨g, 4, none⟩ = some (.int .i64 d) ∧ w.cell? ⟨g, 5, none⟩ = some (.int .i64 f)) ∧ Below w.heap.size w w) := ⟨hP, Below.refl _ _⟩
  clear keep hP hD hDl hE hEl hS1 hS1s hS2 hS2s hle i0 i1 i2 i3 i4 hv h0 hZ
  go_enter Tryd.func22, Tryd.ntmps22
  go_wp2
  go_region_held3 (fun w' => ((w'.cell? ⟨g, 0, none⟩ = some (.string s) ∧ w'.cell? ⟨g, 1, none⟩ = some (.int .i64 a) ∧ w'.cell? ⟨g, 2, none⟩ = some (.int .i64 b) ∧ w'.cell? ⟨g, 3, none⟩ = some (.int .i64 c) ∧ w'.cell? ⟨g, 4, none⟩ = some (.int .i64 d) ∧ w'.cell? ⟨g, 5, none⟩ = some (.int .i64 f)) ∧ Below w.heap.size w w'))
    (first | exact ⟨hS.1, belowN hS.2 1⟩ | exact keepH.out _ _ (by assumption) (fresh_b _ _) | exact keepH.out _ _ (by assumption) (belowN (fresh_b _ _) 1) | exact keepH.out w _ hS (belowN (fresh_b _ _) 1) | exact keepH.out _ _ (by assumption) (by assumption) | assumption)
    (first | (go_at_call 35; (with_reducible refine (cL.out _).mono ?_); rintro e w' ⟨rfl, hbel⟩))
  rename_i hHeld
  have hb2 := hHeld.2
  clear hHeld hS keepH
  go_wp2
  go_ret
  exact str_ret hr.out hb2
set_option maxHeartbeats 1600000 in
theorem specPlankText_any (s : ByteArray) (a b c d f : Int) (hs : s.size ≤ maxLen) (w : World) : Calls Tryd.prog 8 #[.agg #[.string s, .int .i64 a, .int .i64 b, .int .i64 c, .int .i64 d, .int .i64 f]] w (StrRet (plkT ⟨s, a, b, c, d, f⟩) w) := by
  have hf0 := fresh_b w (.cells #[.string s, .int .i64 a, .int .i64 b, .int .i64 c, .int .i64 d, .int .i64 f] 26)
  have hbx := plk_bx s a b c d f w _ (Below.refl _ _)
  have hat : PlkAt (w.alloc (.cells #[.string s, .int .i64 a, .int .i64 b, .int .i64 c, .int .i64 d, .int .i64 f] 26)) w.heap.size 0 ⟨s, a, b, c, d, f⟩ := hbx
  have cO := l03One_any s a b c d f hs _ _ _ hat
  cases hv : plkB ⟨s, a, b, c, d, f⟩
  · have hr : Hid (plkT ⟨s, a, b, c, d, f⟩ = []) := Lib.hid (by unfold plkT; rw [hv]; rfl)
    rw [hv] at cO
    have cO' := Lib.hid cO
    clear cO hat hbx
    go_enter Tryd.func8, Tryd.ntmps8
    go_wp2_with (go_at_call 21; (with_reducible refine cO'.out.mono ?_); rintro e w1 ⟨rfl, rfl⟩)
    go_ret
    exact str_ret hr.out.symm hf0
  · rw [hv] at cO
    have cO' := Lib.hid cO
    have cT := Lib.hid (l03Text_any s a b c d f hv (w.alloc (.cells #[.string s, .int .i64 a, .int .i64 b, .int .i64 c, .int .i64 d, .int .i64 f] 26)) w.heap.size (by simp) hbx)
    clear cO hat hbx hv
    go_enter Tryd.func8, Tryd.ntmps8
    go_wp2_with (first
      | (go_at_call 21; (with_reducible refine cO'.out.mono ?_); rintro e w1 ⟨rfl, rfl⟩)
      | (go_at_call 22; (with_reducible refine cT.out.mono ?_); rintro e w1 ⟨rfl, b1⟩))
    go_ret
    exact ⟨rfl, hf0.trans (b1.mono hf0.size)⟩
end Go.Proofs.YtkgbkjacicnljaaDoor
