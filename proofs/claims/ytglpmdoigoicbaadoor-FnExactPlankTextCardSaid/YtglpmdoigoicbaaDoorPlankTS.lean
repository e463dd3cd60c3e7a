/-
  Contracts of the model's texts of planks.
-/
import Derived.Test.YtglpmdoigoicbaaDoorPlankT
namespace Go.Proofs.YtglpmdoigoicbaaDoor
open Go.ChangeShapes Go.WideShapes Go.ChangeAt Go.RowKit
set_option linter.unusedVariables false
set_option linter.unusedSimpArgs false
set_option maxHeartbeats 3200000 in
set_option maxRecDepth 1000000 in
theorem l03Text_any (s : ByteArray) (a b c d f : Int) (hv : plkB ⟨s, a, b, c, d, f⟩ = true) (w : World) (g : Nat) (hg : g < w.heap.size) (hP : (w.cell? ⟨g, 0, none⟩ = some (.string s) ∧ w.cell? ⟨g, 1, none⟩ = some (.int .i64 a) ∧ w.cell? ⟨g, 2, none⟩ = some (.int .i64 b) ∧ w.cell? ⟨g, 3, none⟩ = some (.int .i64 c) ∧ w.cell? ⟨g, 4, none⟩ = some (.int .i64 d) ∧ w.cell? ⟨g, 5, none⟩ = some (.int .i64 f))) :
    Calls Tryd.prog 76 #[.pointer (some ⟨g, 0, none⟩)] w (StrRet (plkT ⟨s, a, b, c, d, f⟩) w) := by
  obtain ⟨h0, ⟨a1, a2⟩, ⟨b1', b2'⟩, ⟨c1', c2'⟩, ⟨d1, d2⟩, ⟨f1, f2⟩⟩ := plkB_parts hv
  have hs10 : s.size ≤ 10 := by rw [← len_data]; exact name_le h0
  have ia : inI a := ⟨by omega, by omega⟩
  have ib : inI b := ⟨by omega, by omega⟩
  have ic : inI c := ⟨by omega, by omega⟩
  have id' : inI d := ⟨by omega, by omega⟩
  have if' : inI f := ⟨by omega, by omega⟩
  have hl := text5_le a b c d f ia ib ic id' if'
  obtain ⟨D, hD⟩ : ∃ D : ByteArray, D = ⟨(textZ [a, b, c, d, f]).toArray⟩ := ⟨_, rfl⟩
  have hDl : D.data.toList = textZ [a, b, c, d, f] := by rw [hD]
  have hDs : D.size ≤ 110 := by rw [← len_data, hDl]; exact hl
  have cD : Hid (∀ W v, IntsAt W v [a, b, c, d, f] → Calls Tryd.prog 98 #[v] W fun e w' => e = .returned (.string D) ∧ Below W.heap.size W w') := Lib.hid (fun W v h2 => by
    have := l01List_any v [a, b, c, d, f] W (by simp) h2
    rw [hD]; exact this)
  obtain ⟨S1, hS1, hS1s, add1⟩ := add_named s ⟨#[32]⟩ (by show s.size + 1 ≤ _; omega)
  have hS1s' : S1.size ≤ 11 := by rw [hS1s]; show s.size + 1 ≤ 11; omega
  obtain ⟨S2, hS2, hS2s, add2⟩ := add_named S1 D (by omega)
  have hr : Hid (S2.data.toList = plkT ⟨s, a, b, c, d, f⟩) := Lib.hid (by
    unfold plkT; rw [if_pos hv, hS2, hS1, hDl, List.append_assoc]; rfl)
  have h5 := Lib.hid (fun W => five_ints W 2 a b c d f ia ib ic id' if')
  have keep : ∀ W1 W2, ((W1.cell? ⟨g, 0, none⟩ = some (.string s) ∧ W1.cell? ⟨g, 1, none⟩ = some (.int .i64 a) ∧ W1.cell? ⟨g, 2, none⟩ = some (.int .i64 b) ∧ W1.cell? ⟨g, 3, none⟩ = some (.int .i64 c) ∧ W1.cell? ⟨g, 4, none⟩ = some (.int .i64 d) ∧ W1.cell? ⟨g, 5, none⟩ = some (.int .i64 f)) ∧ Below w.heap.size w W1) → Below W1.heap.size W1 W2 → ((W2.cell? ⟨g, 0, none⟩ = some (.string s) ∧ W2.cell? ⟨g, 1, none⟩ = some (.int .i64 a) ∧ W2.cell? ⟨g, 2, none⟩ = some (.int .i64 b) ∧ W2.cell? ⟨g, 3, none⟩ = some (.int .i64 c) ∧ W2.cell? ⟨g, 4, none⟩ = some (.int .i64 d) ∧ W2.cell? ⟨g, 5, none⟩ = some (.int .i64 f)) ∧ Below w.heap.size w W2) := fun W1 W2 h1 h2 => by
    obtain ⟨⟨p0, p1, p2, p3, p4, p5⟩, hb⟩ := h1
    have hl := Nat.lt_of_lt_of_le hg hb.size
    exact ⟨⟨(h2.cell hl).trans p0, (h2.cell hl).trans p1, (h2.cell hl).trans p2, (h2.cell hl).trans p3, (h2.cell hl).trans p4, (h2.cell hl).trans p5⟩, hb.trans (h2.mono hb.size)⟩
  have keepH := Lib.hid keep
  have hS : (w.cell? ⟨g, 0, none⟩ = some (.string s) ∧ w.cell? ⟨g, 1, none⟩ = some (.int .i64 a) ∧ w.cell? ⟨g, 2, none⟩ = some (.int .i64 b) ∧ w.cell? ⟨g, 3, none⟩ = some (.int .i64 c) ∧ w.cell? ⟨g, 4, none⟩ = some (.int .i64 d) ∧ w.cell? ⟨g, 5, none⟩ = some (.int .i64 f)) ∧ Below w.heap.size w w := ⟨hP, Below.refl _ _⟩
  have cL : Hid (∀ W2 : World, Calls Tryd.prog 98 #[.slice (some ⟨W2.heap.size, 0, none⟩) 5 5] ((W2.alloc (.cells #[.int .i64 a, .int .i64 b, .int .i64 c, .int .i64 d, .int .i64 f] 2)).drew) fun e w' => e = .returned (.string D) ∧ Below ((W2.alloc (.cells #[.int .i64 a, .int .i64 b, .int .i64 c, .int .i64 d, .int .i64 f] 2)).drew).heap.size ((W2.alloc (.cells #[.int .i64 a, .int .i64 b, .int .i64 c, .int .i64 d, .int .i64 f] 2)).drew) w') := Lib.hid (fun W2 => cD.out _ _ (h5.out W2))
  clear keep hP cD h5 hD hDl hS1 hS1s hS2 hS2s hl ia ib ic id' if' hv h0
  go_enter Tryd.func76, Tryd.ntmps76
  go_wp2
  go_region_held3 (fun w' => ((w'.cell? ⟨g, 0, none⟩ = some (.string s) ∧ w'.cell? ⟨g, 1, none⟩ = some (.int .i64 a) ∧ w'.cell? ⟨g, 2, none⟩ = some (.int .i64 b) ∧ w'.cell? ⟨g, 3, none⟩ = some (.int .i64 c) ∧ w'.cell? ⟨g, 4, none⟩ = some (.int .i64 d) ∧ w'.cell? ⟨g, 5, none⟩ = some (.int .i64 f)) ∧ Below w.heap.size w w'))
    (first | exact ⟨hS.1, belowN hS.2 1⟩ | exact keepH.out _ _ (by assumption) (fresh_b _ _) | exact keepH.out _ _ (by assumption) (belowN (fresh_b _ _) 1) | exact keepH.out w _ hS (belowN (fresh_b _ _) 1) | exact keepH.out _ _ (by assumption) (by assumption) | assumption)
    (first | (go_at_call 98; (with_reducible refine (cL.out _).mono ?_); rintro e w' ⟨rfl, hbel⟩))
  rename_i hHeld
  have hb2 := hHeld.2
  clear hHeld hS keepH
  go_wp2
  go_ret
  exact str_ret hr.out hb2
set_option maxHeartbeats 1600000 in
theorem specPlankText_any (s : ByteArray) (a b c d f : Int) (hs : s.size ≤ maxLen) (w : World) : Calls Tryd.prog 36 #[.agg #[.string s, .int .i64 a, .int .i64 b, .int .i64 c, .int .i64 d, .int .i64 f]] w (StrRet (plkT ⟨s, a, b, c, d, f⟩) w) := by
  have hf0 := fresh_b w (.cells #[.string s, .int .i64 a, .int .i64 b, .int .i64 c, .int .i64 d, .int .i64 f] 35)
  have hbx := box_cells s a b c d f w _ (Below.refl _ _)
  have hat : PlkAt (w.alloc (.cells #[.string s, .int .i64 a, .int .i64 b, .int .i64 c, .int .i64 d, .int .i64 f] 35)) w.heap.size 0 ⟨s, a, b, c, d, f⟩ := hbx
  have cO := l03One_any s a b c d f hs _ _ _ hat
  cases hv : plkB ⟨s, a, b, c, d, f⟩
  · have hr : Hid (plkT ⟨s, a, b, c, d, f⟩ = []) := Lib.hid (by unfold plkT; rw [hv]; rfl)
    rw [hv] at cO
    have cO' := Lib.hid cO
    clear cO hat hbx
    go_enter Tryd.func36, Tryd.ntmps36
    go_wp2_with (go_at_call 75; (with_reducible refine cO'.out.mono ?_); rintro e w1 ⟨rfl, rfl⟩)
    go_ret
    exact str_ret hr.out.symm hf0
  · rw [hv] at cO
    have cO' := Lib.hid cO
    have cT := Lib.hid (l03Text_any s a b c d f hv (w.alloc (.cells #[.string s, .int .i64 a, .int .i64 b, .int .i64 c, .int .i64 d, .int .i64 f] 35)) w.heap.size (by simp) hbx)
    clear cO hat hbx hv
    go_enter Tryd.func36, Tryd.ntmps36
    go_wp2_with (first
      | (go_at_call 75; (with_reducible refine cO'.out.mono ?_); rintro e w1 ⟨rfl, rfl⟩)
      | (go_at_call 76; (with_reducible refine cT.out.mono ?_); rintro e w1 ⟨rfl, b1⟩))
    go_ret
    exact ⟨rfl, hf0.trans (b1.mono hf0.size)⟩
end Go.Proofs.YtglpmdoigoicbaaDoor
