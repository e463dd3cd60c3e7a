/-
  Contracts of the model's texts of stacks.
-/
import Derived.Test.YtfamahojeeagiaaDoorStkT
namespace Go.Proofs.YtfamahojeeagiaaDoor
open Go.ChangeShapes Go.WideShapes Go.ChangeAt Go.RowKit
set_option linter.unusedVariables false
set_option linter.unusedSimpArgs false
set_option maxHeartbeats 3200000 in
set_option maxRecDepth 1000000 in
theorem l04Text_any (s : ByteArray) (a b c : Int) (hv : stkB ⟨s, a, b, c⟩ = true) (w : World) (g : Nat) (hg : g < w.heap.size) (hP : (w.cell? ⟨g, 0, none⟩ = some (.string s) ∧ w.cell? ⟨g, 1, none⟩ = some (.int .i64 a) ∧ w.cell? ⟨g, 2, none⟩ = some (.int .i64 b) ∧ w.cell? ⟨g, 3, none⟩ = some (.int .i64 c))) :
    Calls Tryd.prog 21 #[.pointer (some ⟨g, 0, none⟩)] w (StrRet (stkT ⟨s, a, b, c⟩) w) := by
  obtain ⟨h0, ⟨a1, a2⟩, ⟨b1', b2'⟩, ⟨c1', c2'⟩⟩ := stkB_parts hv
  have hs10 : s.size ≤ 10 := by rw [← len_data]; exact name_le h0
  have ia : inI a := ⟨by omega, by omega⟩
  have ib : inI b := ⟨by omega, by omega⟩
  have ic : inI c := ⟨by omega, by omega⟩
  have hZ : ([a, b] : List Int).all inV = true := by
    simp only [List.all_cons, List.all_nil, Bool.and_true, Bool.and_eq_true]
    refine ⟨?_, ?_⟩ <;> (unfold inV; rw [inB_iff]; omega)
  have hl := text2_le a b ia ib
  have hdl := dateT_le c1' c2'
  obtain ⟨D, hD⟩ : ∃ D : ByteArray, D = ⟨(textZ [a, b]).toArray⟩ := ⟨_, rfl⟩
  have hDl : D.data.toList = textZ [a, b] := by rw [hD]
  have hDs : D.size ≤ 110 := by rw [← len_data, hDl]; exact hl
  obtain ⟨E, hE⟩ : ∃ E : ByteArray, E = ⟨(dateT c).toArray⟩ := ⟨_, rfl⟩
  have hEl : E.data.toList = dateT c := by rw [hE]
  have hEs : E.size ≤ 100 := by rw [← len_data, hEl]; exact hdl
  obtain ⟨S1, hS1, hS1s, add1⟩ := add_named s ⟨#[32]⟩ (by show s.size + 1 ≤ _; omega)
  have hS1s' : S1.size ≤ 11 := by rw [hS1s]; show s.size + 1 ≤ 11; omega
  obtain ⟨S2, hS2, hS2s, add2⟩ := add_named S1 D (by omega)
  have hS2s' : S2.size ≤ 121 := by omega
  obtain ⟨S3, hS3, hS3s, add3⟩ := add_named S2 ⟨#[32]⟩ (by show S2.size + 1 ≤ _; omega)
  have hS3s' : S3.size ≤ 122 := by rw [hS3s]; show S2.size + 1 ≤ 122; omega
  obtain ⟨S4, hS4, hS4s, add4⟩ := add_named S3 E (by omega)
  have hr : Hid (S4.data.toList = stkT ⟨s, a, b, c⟩) := Lib.hid (by
    unfold stkT; rw [if_pos hv, hS4, hS3, hS2, hS1, hDl, hEl]; simp)
  have cD : Hid (∀ W v, IntsAt W v [a, b] → Calls Tryd.prog 48 #[v] W fun e w' => e = .returned (.string D) ∧ Below W.heap.size W w') := Lib.hid (fun W v h2 => by
    have := l01List_any v [a, b] W (by simp) h2
    rw [hD]; exact this)
  have h5 := Lib.hid (fun W => two_ints W 2 a b ia ib)
  have keep : ∀ W1 W2, ((W1.cell? ⟨g, 0, none⟩ = some (.string s) ∧ W1.cell? ⟨g, 1, none⟩ = some (.int .i64 a) ∧ W1.cell? ⟨g, 2, none⟩ = some (.int .i64 b) ∧ W1.cell? ⟨g, 3, none⟩ = some (.int .i64 c)) ∧ Below w.heap.size w W1) → Below W1.heap.size W1 W2 → ((W2.cell? ⟨g, 0, none⟩ = some (.string s) ∧ W2.cell? ⟨g, 1, none⟩ = some (.int .i64 a) ∧ W2.cell? ⟨g, 2, none⟩ = some (.int .i64 b) ∧ W2.cell? ⟨g, 3, none⟩ = some (.int .i64 c)) ∧ Below w.heap.size w W2) := fun W1 W2 h1 h2 => by
    obtain ⟨⟨p0, p1, p2, p3⟩, hb⟩ := h1
    have hl := Nat.lt_of_lt_of_le hg hb.size
    exact ⟨⟨(h2.cell hl).trans p0, (h2.cell hl).trans p1, (h2.cell hl).trans p2, (h2.cell hl).trans p3⟩, hb.trans (h2.mono hb.size)⟩
  have keepH := Lib.hid keep
  have hS : ((w.cell? ⟨g, 0, none⟩ = some (.string s) ∧ w.cell? ⟨g, 1, none⟩ = some (.int .i64 a) ∧ w.cell? ⟨g, 2, none⟩ = some (.int .i64 b) ∧ w.cell? ⟨g, 3, none⟩ = some (.int .i64 c)) ∧ Below w.heap.size w w) := ⟨hP, Below.refl _ _⟩
  have cL : Hid (∀ W2 : World, Calls Tryd.prog 48 #[.slice (some ⟨W2.heap.size, 0, none⟩) 2 2] (W2.alloc (.cells #[.int .i64 a, .int .i64 b] 2)).drew fun e w' => e = .returned (.string D) ∧ Below (W2.alloc (.cells #[.int .i64 a, .int .i64 b] 2)).drew.heap.size (W2.alloc (.cells #[.int .i64 a, .int .i64 b] 2)).drew w') := Lib.hid (fun W2 => cD.out _ _ (h5.out W2))
  have cE : Hid (∀ W, Calls Tryd.prog 49 #[.int .i64 c] W fun e w' => e = .returned (.string E) ∧ Below W.heap.size W w') := Lib.hid (fun W => by rw [hE]; exact l02Text_any c c1' c2' W)
  clear keep hP cD h5 hD hDl hE hEl hS1 hS1s hS2 hS2s hS3 hS3s hS4 hS4s hl hdl ia ib ic hZ hv h0
  go_enter Tryd.func21, Tryd.ntmps21
  go_wp2
  go_region_held3 (fun w' => ((w'.cell? ⟨g, 0, none⟩ = some (.string s) ∧ w'.cell? ⟨g, 1, none⟩ = some (.int .i64 a) ∧ w'.cell? ⟨g, 2, none⟩ = some (.int .i64 b) ∧ w'.cell? ⟨g, 3, none⟩ = some (.int .i64 c)) ∧ Below w.heap.size w w'))
    (first | exact ⟨hS.1, belowN hS.2 1⟩ | exact keepH.out _ _ (by assumption) (fresh_b _ _) | exact keepH.out _ _ (by assumption) (belowN (fresh_b _ _) 1) | exact keepH.out w _ hS (belowN (fresh_b _ _) 1) | exact keepH.out _ _ (by assumption) (by assumption) | assumption)
    (first | (go_at_call 48; (with_reducible refine (cL.out _).mono ?_); rintro e w' ⟨rfl, hbel⟩) | (go_at_call 49; (with_reducible refine (cE.out _).mono ?_); rintro e w' ⟨rfl, hbel⟩))
  rename_i hHeld
  have hb2 := hHeld.2
  clear hHeld hS keepH
  go_wp2
  go_ret
  exact str_ret hr.out hb2
set_option maxHeartbeats 1600000 in
theorem specStackText_any (s : ByteArray) (a b c : Int) (hs : s.size ≤ maxLen) (w : World) : Calls Tryd.prog 6 #[.agg #[.string s, .int .i64 a, .int .i64 b, .int .i64 c]] w (StrRet (stkT ⟨s, a, b, c⟩) w) := by
  have hf0 := fresh_b w (.cells #[.string s, .int .i64 a, .int .i64 b, .int .i64 c] 26)
  have hbx := box_cells s a b c w _ (Below.refl _ _)
  have hat : StkAt (w.alloc (.cells #[.string s, .int .i64 a, .int .i64 b, .int .i64 c] 26)) w.heap.size 0 ⟨s, a, b, c⟩ := hbx
  have cO := l04One_any s a b c hs _ _ _ hat
  cases hv : stkB ⟨s, a, b, c⟩
  · have hr : Hid (stkT ⟨s, a, b, c⟩ = []) := Lib.hid (by unfold stkT; rw [hv]; rfl)
    rw [hv] at cO
    have cO' := Lib.hid cO
    clear cO hat hbx
    go_enter Tryd.func6, Tryd.ntmps6
    go_wp2_with (go_at_call 20; (with_reducible refine cO'.out.mono ?_); rintro e w1 ⟨rfl, rfl⟩)
    go_ret
    exact str_ret hr.out.symm hf0
  · rw [hv] at cO
    have cO' := Lib.hid cO
    have cT := Lib.hid (l04Text_any s a b c hv (w.alloc (.cells #[.string s, .int .i64 a, .int .i64 b, .int .i64 c] 26)) w.heap.size (by simp) hbx)
    clear cO hat hbx hv
    go_enter Tryd.func6, Tryd.ntmps6
    go_wp2_with (first
      | (go_at_call 20; (with_reducible refine cO'.out.mono ?_); rintro e w1 ⟨rfl, rfl⟩)
      | (go_at_call 21; (with_reducible refine cT.out.mono ?_); rintro e w1 ⟨rfl, b1⟩))
    go_ret
    exact ⟨rfl, hf0.trans (b1.mono hf0.size)⟩
end Go.Proofs.YtfamahojeeagiaaDoor
