/-
  Contracts of the texts of planks.
-/
import Derived.Test.YtglpmdoigoicbaaDoorText
import Derived.Test.YtglpmdoigoicbaaDoorPlank
import Derived.Test.YtglpmdoigoicbaaDoorListI
import Derived.Deep.RegionHeld3
namespace Go.Proofs.YtglpmdoigoicbaaDoor
open Go.ChangeShapes Go.WideShapes Go.ChangeAt Go.RowKit
set_option linter.unusedVariables false
set_option linter.unusedSimpArgs false
theorem five_ints (W : World) (t : TypeId) (a b x y z : Int) (ha : inI a) (hb : inI b) (hx : inI x) (hy : inI y) (hz : inI z) :
    IntsAt (W.alloc (.cells #[.int .i64 a, .int .i64 b, .int .i64 x, .int .i64 y, .int .i64 z] t)) (.slice (some ⟨W.heap.size, 0, none⟩) 5 5) [a, b, x, y, z] := by
  refine ⟨some ⟨W.heap.size, 0, none⟩, 5, rfl, Nat.le_refl 5, ?_, Or.inr ⟨W.heap.size, 0, rfl, by simp, ?_⟩⟩
  · intro n hn
    simp only [List.mem_cons, List.mem_nil_iff, or_false] at hn
    rcases hn with rfl | rfl | rfl | rfl | rfl <;> assumption
  · intro i hi
    rw [Nat.zero_add, World.cell?_alloc_mark]
    match i, hi with
    | 0, _ => rfl
    | 1, _ => rfl
    | 2, _ => rfl
    | 3, _ => rfl
    | 4, _ => rfl
/-- the text of a plank -/
def plkT (x : Plk) : List UInt8 := if plkB x = true then x.id.data.toList ++ 32 :: textZ [x.len, x.wid, x.thk, x.mas, x.rin] else []
theorem name_le {l : List UInt8} (h : nameL l = true) : l.length ≤ 10 := by
  unfold nameL at h; simp at h; omega
theorem plkB_parts {s : ByteArray} {a b c d f : Int} (h : plkB ⟨s, a, b, c, d, f⟩ = true) : nameL s.data.toList = true ∧ (1 ≤ a ∧ a ≤ 2000) ∧ (1 ≤ b ∧ b ≤ 2000) ∧ (1 ≤ c ∧ c ≤ 2000) ∧ (1 ≤ d ∧ d ≤ 100000) ∧ (1 ≤ f ∧ f ≤ 500) := by
  unfold plkB at h
  simp only [Bool.and_eq_true, inB_iff] at h
  obtain ⟨⟨⟨⟨⟨h0, h1⟩, h2⟩, h3⟩, h4⟩, h5⟩ := h
  exact ⟨h0, h1, h2, h3, h4, h5⟩
theorem listR_in {Z : List Int} (h : Z.all inV = true) (hl : Z.length ≤ 64) : listR Z = textZ Z := by
  unfold listR; rw [fits_all h, decide_eq_true hl]; rfl
theorem text5_le (a b c d f : Int) (ha : inI a) (hb : inI b) (hc : inI c) (hd : inI d) (hf : inI f) : (textZ [a, b, c, d, f]).length ≤ 110 := by
  have h := joinK_le [a, b, c, d, f] 5 (by
    intro n hn
    simp only [List.mem_cons, List.mem_nil_iff, or_false] at hn
    rcases hn with rfl | rfl | rfl | rfl | rfl <;> assumption)
  have e : joinK [a, b, c, d, f] 5 = textZ [a, b, c, d, f] := by
    unfold textZ
    rw [if_neg (by simp)]
    exact joinK_all _
  rw [e] at h; omega
theorem fresh_b (w : World) (o : Obj) : Below w.heap.size w (w.alloc o) := (Below.refl _ _).alloc (Nat.le_refl _) _
theorem box_cells (s : ByteArray) (a b c d f : Int) (w w1 : World) (hb : Below (w.alloc (.cells #[.string s, .int .i64 a, .int .i64 b, .int .i64 c, .int .i64 d, .int .i64 f] 35)).heap.size (w.alloc (.cells #[.string s, .int .i64 a, .int .i64 b, .int .i64 c, .int .i64 d, .int .i64 f] 35)) w1) :
    w1.cell? ⟨w.heap.size, 0, none⟩ = some (.string s) ∧ w1.cell? ⟨w.heap.size, 1, none⟩ = some (.int .i64 a) ∧ w1.cell? ⟨w.heap.size, 2, none⟩ = some (.int .i64 b) ∧ w1.cell? ⟨w.heap.size, 3, none⟩ = some (.int .i64 c) ∧ w1.cell? ⟨w.heap.size, 4, none⟩ = some (.int .i64 d) ∧ w1.cell? ⟨w.heap.size, 5, none⟩ = some (.int .i64 f) :=
  have hl : w.heap.size < (w.alloc (.cells #[.string s, .int .i64 a, .int .i64 b, .int .i64 c, .int .i64 d, .int .i64 f] 35)).heap.size := by simp
  ⟨(hb.cell hl).trans (cellB (heap_alloc_new _ _) 0 _ rfl), (hb.cell hl).trans (cellB (heap_alloc_new _ _) 1 _ rfl), (hb.cell hl).trans (cellB (heap_alloc_new _ _) 2 _ rfl), (hb.cell hl).trans (cellB (heap_alloc_new _ _) 3 _ rfl), (hb.cell hl).trans (cellB (heap_alloc_new _ _) 4 _ rfl), (hb.cell hl).trans (cellB (heap_alloc_new _ _) 5 _ rfl)⟩
/-- one name for a text behind a first byte string -/
theorem add_named (s t : ByteArray) (h : s.size + t.size ≤ 9223372036854775807) : ∃ S : ByteArray, S.data.toList = s.data.toList ++ t.data.toList ∧ S.size = s.size + t.size ∧ ∀ w, (Op.stringOp .add s t).run Tryd.prog w = .ok (.string S) w :=
  ⟨s ++ t, cat_data s t, cat_size s t, fun w => run_string_add_sum w s t h⟩
set_option maxHeartbeats 3200000 in
set_option maxRecDepth 1000000 in
theorem implPlankText_any (s : ByteArray) (a b c d f : Int) (hs : s.size ≤ maxLen) (w : World) (hT : TabP w) : Calls Tryd.prog 38 #[.agg #[.string s, .int .i64 a, .int .i64 b, .int .i64 c, .int .i64 d, .int .i64 f]] w (StrRet (plkT ⟨s, a, b, c, d, f⟩) w) := by
  have cV0 : ∀ W, Calls Tryd.prog 77 #[.agg #[.string s, .int .i64 a, .int .i64 b, .int .i64 c, .int .i64 d, .int .i64 f]] W fun e w' => e = .returned (.bool (plkB ⟨s, a, b, c, d, f⟩)) ∧ Below W.heap.size W w' := fun W => implValidPlank_any s a b c d f hs W
  have hf0 := fresh_b w (.cells #[.string s, .int .i64 a, .int .i64 b, .int .i64 c, .int .i64 d, .int .i64 f] 35)
  cases hv : plkB ⟨s, a, b, c, d, f⟩
  · have hr : Hid (plkT ⟨s, a, b, c, d, f⟩ = []) := Lib.hid (by unfold plkT; rw [hv]; rfl)
    rw [hv] at cV0
    have cV := Lib.hid cV0
    clear cV0
    go_enter Tryd.func38, Tryd.ntmps38
    go_wp2_with (go_at_call 77; (with_reducible refine (cV.out _).mono ?_); rintro e w1 ⟨rfl, b1⟩)
    go_ret
    exact str_ret hr.out.symm (hf0.trans (b1.mono hf0.size))
  · obtain ⟨h0, ⟨a1, a2⟩, ⟨b1', b2'⟩, ⟨c1', c2'⟩, ⟨d1, d2⟩, ⟨f1, f2⟩⟩ := plkB_parts hv
    have hs10 : s.size ≤ 10 := by rw [← len_data]; exact name_le h0
    have ia : inI a := ⟨by omega, by omega⟩
    have ib : inI b := ⟨by omega, by omega⟩
    have ic : inI c := ⟨by omega, by omega⟩
    have id' : inI d := ⟨by omega, by omega⟩
    have if' : inI f := ⟨by omega, by omega⟩
    have hZ : ([a, b, c, d, f] : List Int).all inV = true := by
      simp only [List.all_cons, List.all_nil, Bool.and_true, Bool.and_eq_true]
      refine ⟨?_, ?_, ?_, ?_, ?_⟩ <;> (unfold inV; rw [inB_iff]; omega)
    have hl := text5_le a b c d f ia ib ic id' if'
    obtain ⟨D, hD⟩ : ∃ D : ByteArray, D = ⟨(textZ [a, b, c, d, f]).toArray⟩ := ⟨_, rfl⟩
    have hDl : D.data.toList = textZ [a, b, c, d, f] := by rw [hD]
    have hDs : D.size ≤ 110 := by rw [← len_data, hDl]; exact hl
    have cD : Hid (∀ W v, TabP W → IntsAt W v [a, b, c, d, f] → Calls Tryd.prog 78 #[v] W fun e w' => e = .returned (.string D) ∧ Below W.heap.size W w') := Lib.hid (fun W v h1 h2 => by
      have := implListText_any v [a, b, c, d, f] W (by simp) h2 h1
      rw [listR_in hZ (by simp)] at this
      rw [hD]; exact this)
    obtain ⟨S1, hS1, hS1s, add1⟩ := add_named s ⟨#[32]⟩ (by show s.size + 1 ≤ _; omega)
    have hS1s' : S1.size ≤ 11 := by rw [hS1s]; show s.size + 1 ≤ 11; omega
    obtain ⟨S2, hS2, hS2s, add2⟩ := add_named S1 D (by omega)
    have hr : Hid (S2.data.toList = plkT ⟨s, a, b, c, d, f⟩) := Lib.hid (by
      unfold plkT; rw [if_pos hv, hS2, hS1, hDl, List.append_assoc]; rfl)
    rw [hv] at cV0
    have cV := Lib.hid cV0
    have hT' := Lib.hid hT
    have h5 := Lib.hid (fun W => five_ints W 2 a b c d f ia ib ic id' if')
    clear cV0 hT hD hDl hS1 hS1s hS2 hS2s hZ hl ia ib ic id' if' hv h0
    go_enter Tryd.func38, Tryd.ntmps38
    go_wp2_with (go_at_call 77; (with_reducible refine (cV.out _).mono ?_); rintro e w1 ⟨rfl, b1⟩)
    have hP := box_cells s a b c d f w w1 b1
    have B1 := hf0.trans (b1.mono hf0.size)
    have hBz : w.heap.size < w1.heap.size := Nat.lt_of_lt_of_le (by simp) b1.size
    have hTW : TabP w1 := hT'.out.below B1
    clear b1 hf0
    generalize hBB : w.heap.size = B at hP hBz ⊢
    have keep : ∀ W1 W2, ((W1.cell? ⟨B, 0, none⟩ = some (.string s) ∧ W1.cell? ⟨B, 1, none⟩ = some (.int .i64 a) ∧ W1.cell? ⟨B, 2, none⟩ = some (.int .i64 b) ∧ W1.cell? ⟨B, 3, none⟩ = some (.int .i64 c) ∧ W1.cell? ⟨B, 4, none⟩ = some (.int .i64 d) ∧ W1.cell? ⟨B, 5, none⟩ = some (.int .i64 f)) ∧ (Below w1.heap.size w1 W1 ∧ TabP W1)) → Below W1.heap.size W1 W2 → ((W2.cell? ⟨B, 0, none⟩ = some (.string s) ∧ W2.cell? ⟨B, 1, none⟩ = some (.int .i64 a) ∧ W2.cell? ⟨B, 2, none⟩ = some (.int .i64 b) ∧ W2.cell? ⟨B, 3, none⟩ = some (.int .i64 c) ∧ W2.cell? ⟨B, 4, none⟩ = some (.int .i64 d) ∧ W2.cell? ⟨B, 5, none⟩ = some (.int .i64 f)) ∧ (Below w1.heap.size w1 W2 ∧ TabP W2)) := fun W1 W2 h1 h2 => by
      obtain ⟨⟨p0, p1, p2, p3, p4, p5⟩, hb, ht⟩ := h1
      have hl := Nat.lt_of_lt_of_le hBz hb.size
      exact ⟨⟨(h2.cell hl).trans p0, (h2.cell hl).trans p1, (h2.cell hl).trans p2, (h2.cell hl).trans p3, (h2.cell hl).trans p4, (h2.cell hl).trans p5⟩, hb.trans (h2.mono hb.size), ht.below h2⟩
    have keepH := Lib.hid keep
    have hS : (w1.cell? ⟨B, 0, none⟩ = some (.string s) ∧ w1.cell? ⟨B, 1, none⟩ = some (.int .i64 a) ∧ w1.cell? ⟨B, 2, none⟩ = some (.int .i64 b) ∧ w1.cell? ⟨B, 3, none⟩ = some (.int .i64 c) ∧ w1.cell? ⟨B, 4, none⟩ = some (.int .i64 d) ∧ w1.cell? ⟨B, 5, none⟩ = some (.int .i64 f)) ∧ (Below w1.heap.size w1 w1 ∧ TabP w1) := ⟨hP, Below.refl _ _, hTW⟩
    have cL : Hid (∀ W2 : World, (((W2.alloc (.cells #[.int .i64 a, .int .i64 b, .int .i64 c, .int .i64 d, .int .i64 f] 2)).drew.cell? ⟨B, 0, none⟩ = some (.string s) ∧ (W2.alloc (.cells #[.int .i64 a, .int .i64 b, .int .i64 c, .int .i64 d, .int .i64 f] 2)).drew.cell? ⟨B, 1, none⟩ = some (.int .i64 a) ∧ (W2.alloc (.cells #[.int .i64 a, .int .i64 b, .int .i64 c, .int .i64 d, .int .i64 f] 2)).drew.cell? ⟨B, 2, none⟩ = some (.int .i64 b) ∧ (W2.alloc (.cells #[.int .i64 a, .int .i64 b, .int .i64 c, .int .i64 d, .int .i64 f] 2)).drew.cell? ⟨B, 3, none⟩ = some (.int .i64 c) ∧ (W2.alloc (.cells #[.int .i64 a, .int .i64 b, .int .i64 c, .int .i64 d, .int .i64 f] 2)).drew.cell? ⟨B, 4, none⟩ = some (.int .i64 d) ∧ (W2.alloc (.cells #[.int .i64 a, .int .i64 b, .int .i64 c, .int .i64 d, .int .i64 f] 2)).drew.cell? ⟨B, 5, none⟩ = some (.int .i64 f)) ∧ (Below w1.heap.size w1 (W2.alloc (.cells #[.int .i64 a, .int .i64 b, .int .i64 c, .int .i64 d, .int .i64 f] 2)).drew ∧ TabP (W2.alloc (.cells #[.int .i64 a, .int .i64 b, .int .i64 c, .int .i64 d, .int .i64 f] 2)).drew)) → Calls Tryd.prog 78 #[.slice (some ⟨W2.heap.size, 0, none⟩) 5 5] (W2.alloc (.cells #[.int .i64 a, .int .i64 b, .int .i64 c, .int .i64 d, .int .i64 f] 2)).drew fun e w' => e = .returned (.string D) ∧ Below (W2.alloc (.cells #[.int .i64 a, .int .i64 b, .int .i64 c, .int .i64 d, .int .i64 f] 2)).drew.heap.size (W2.alloc (.cells #[.int .i64 a, .int .i64 b, .int .i64 c, .int .i64 d, .int .i64 f] 2)).drew w') := Lib.hid (fun W2 h => cD.out _ _ h.2.2 (h5.out W2))
    clear keep hP hTW hBB cD h5
    go_region_held3 (fun w' => ((w'.cell? ⟨B, 0, none⟩ = some (.string s) ∧ w'.cell? ⟨B, 1, none⟩ = some (.int .i64 a) ∧ w'.cell? ⟨B, 2, none⟩ = some (.int .i64 b) ∧ w'.cell? ⟨B, 3, none⟩ = some (.int .i64 c) ∧ w'.cell? ⟨B, 4, none⟩ = some (.int .i64 d) ∧ w'.cell? ⟨B, 5, none⟩ = some (.int .i64 f)) ∧ (Below w1.heap.size w1 w' ∧ TabP w')))
      (first | exact ⟨hS.1, belowN hS.2.1 1, hS.2.2⟩ | exact keepH.out _ _ (by assumption) (fresh_b _ _) | exact keepH.out _ _ (by assumption) (belowN (fresh_b _ _) 1) | exact keepH.out w1 _ hS (belowN (fresh_b _ _) 1) | exact keepH.out _ _ (by assumption) (by assumption) | assumption)
      (first | (go_at_call 78; (with_reducible refine (cL.out _ (by assumption)).mono ?_); rintro e w' ⟨rfl, hbel⟩))
    rename_i hHeld
    have hb2 := B1.trans (hHeld.2.1.mono B1.size)
    clear hHeld hS keepH
    go_wp2
    go_ret
    exact str_ret hr.out hb2
end Go.Proofs.YtglpmdoigoicbaaDoor
