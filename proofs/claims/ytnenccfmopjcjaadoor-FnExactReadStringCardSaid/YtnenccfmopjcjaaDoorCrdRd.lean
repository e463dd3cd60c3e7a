/-
  Readers of Cord: the program's and the model's contracts.
-/
import Derived.Test.YtnenccfmopjcjaaDoorCrdX
import Derived.Test.YtnenccfmopjcjaaDoorReadList
import Derived.Test.YtnenccfmopjcjaaDoorReadNum
namespace Go.Proofs.YtnenccfmopjcjaaDoor
open Go.ChangeShapes Go.WideShapes Go.ChangeAt Go.RowKit Go.Deep
set_option linter.unusedVariables false
set_option linter.unusedSimpArgs false
set_option maxRecDepth 1000000
/-- the Cord with a text -/
def crdO (l : List UInt8) : Option Crd :=
  match readL l with
  | some [a, b, c, d] => if crdB ⟨a, b, c, d⟩ = true then some ⟨a, b, c, d⟩ else none
  | _ => none
def crdVal (o : Option Crd) : Value :=
  match o with
  | none => .tuple #[.agg #[.int .i64 0, .int .i64 0, .int .i64 0, .int .i64 0], .bool false]
  | some x => .tuple #[.agg #[.int .i64 x.pit, .int .i64 x.len, .int .i64 x.gau, .int .i64 x.str], .bool true]
theorem crdO_no {l : List UInt8} (h : readL l = none) : crdO l = none := by unfold crdO; rw [h]
theorem crdO_len {l : List UInt8} {Z : List Int} (h : readL l = some Z) (hl : Z.length ≠ 4) : crdO l = none := by
  unfold crdO
  rw [h]
  match Z, hl with
  | [], _ => rfl
  | [_], _ => rfl
  | [_, _], _ => rfl
  | [_, _, _], _ => rfl
  | [a, b, c, d], hl => exact absurd rfl hl
  | _ :: _ :: _ :: _ :: _ :: _, _ => rfl
theorem crdO_yes {l : List UInt8} {a b c d : Int} (h : readL l = some [a, b, c, d]) : crdO l = if crdB ⟨a, b, c, d⟩ = true then some ⟨a, b, c, d⟩ else none := by unfold crdO; rw [h]
/-- the block of a result -/
def CrdRes (w : World) (g : Nat) : Prop := w.heap[g]? = some (.cells #[.int .i64 0, .int .i64 0, .int .i64 0, .int .i64 0] 23 (0, 0))
theorem CrdRes.facts {w : World} {g : Nat} (h : CrdRes w g) : (w.cell? ⟨g, 0, none⟩ = some (.int .i64 0) ∧ w.cell? ⟨g, 1, none⟩ = some (.int .i64 0) ∧ w.cell? ⟨g, 2, none⟩ = some (.int .i64 0) ∧ w.cell? ⟨g, 3, none⟩ = some (.int .i64 0)) ∧ (w.frozen? ⟨g, 0, none⟩ = false ∧ w.frozen? ⟨g, 1, none⟩ = false ∧ w.frozen? ⟨g, 2, none⟩ = false ∧ w.frozen? ⟨g, 3, none⟩ = false) :=
  ⟨⟨cellB h 0 _ rfl, cellB h 1 _ rfl, cellB h 2 _ rfl, cellB h 3 _ rfl⟩, freeB h 0, freeB h 1, freeB h 2, freeB h 3⟩
theorem CrdRes.below {w w' : World} {g : Nat} (h : CrdRes w g) (hb : Below w.heap.size w w') : CrdRes w' g := by
  have hl : g < w.heap.size := (Array.getElem?_eq_some_iff.1 h).1
  exact (hb.block g hl).trans h
theorem CrdRes.start (w : World) : CrdRes (w.alloc (.cells #[.int .i64 0, .int .i64 0, .int .i64 0, .int .i64 0] 23)) w.heap.size := heap_alloc_new _ _
theorem crd_row {w : World} {B : Nat} {v : Value} {a b c d : Int} (h : w.ownsRow B 2 1 v ([a, b, c, d] : List Int).length (([a, b, c, d] : List Int).map encI)) : ∃ g cap, v = .slice (some ⟨g, 0, none⟩) 4 cap ∧ 4 ≤ cap ∧ g < w.heap.size ∧ (w.cell? ⟨g, 0, none⟩ = some (.int .i64 a) ∧ w.cell? ⟨g, 1, none⟩ = some (.int .i64 b) ∧ w.cell? ⟨g, 2, none⟩ = some (.int .i64 c) ∧ w.cell? ⟨g, 3, none⟩ = some (.int .i64 d)) := by
  have h0 := h
  rcases h.2 with ⟨h1, h2⟩ | ⟨g, cap, cur, hv, hg, hb, hn, hcap, _, _⟩
  · simp at h2
  · subst hv
    exact ⟨g, cap, rfl, hn, (h0.lt g rfl).2, by rw [h0.cellAt 0 (by simp)]; rfl, by rw [h0.cellAt 1 (by simp)]; rfl, by rw [h0.cellAt 2 (by simp)]; rfl, by rw [h0.cellAt 3 (by simp)]; rfl⟩
theorem crd_seven {Z : List Int} (h : Z.length = 4) : ∃ a b c d, Z = [a, b, c, d] := by
  match Z, h with
  | [a, b, c, d], _ => exact ⟨a, b, c, d, rfl⟩
theorem crd_bx (a : Int) (b : Int) (c : Int) (d : Int) (w w' : World) (hb : Below (w.alloc (.cells #[.int .i64 a, .int .i64 b, .int .i64 c, .int .i64 d] 23)).heap.size (w.alloc (.cells #[.int .i64 a, .int .i64 b, .int .i64 c, .int .i64 d] 23)) w') : (w'.cell? ⟨w.heap.size, 0, none⟩ = some (.int .i64 a) ∧ w'.cell? ⟨w.heap.size, 1, none⟩ = some (.int .i64 b) ∧ w'.cell? ⟨w.heap.size, 2, none⟩ = some (.int .i64 c) ∧ w'.cell? ⟨w.heap.size, 3, none⟩ = some (.int .i64 d)) := by
  have h := (hb.block w.heap.size (by simp)).trans (heap_alloc_new w (.cells #[.int .i64 a, .int .i64 b, .int .i64 c, .int .i64 d] 23))
  exact ⟨cellB h 0 _ rfl, cellB h 1 _ rfl, cellB h 2 _ rfl, cellB h 3 _ rfl⟩
theorem crdO_noM {l : List UInt8} (h : readM l 4 = none) : crdO l = none := by
  rcases readM_no h with h | ⟨Z, h, hl⟩
  · exact crdO_no h
  · exact crdO_len h hl
set_option maxHeartbeats 3200000 in
theorem implReadString_any (s : ByteArray) (w : World) (hs : s.size ≤ 1048576) (hT : TabP w) (hE : ErrsAt w) (hSh : w.ShapedOpen Tryd.prog) :
    Calls Tryd.prog 5 #[.string s] w fun e w' => e = .returned (crdVal (crdO s.data.toList)) ∧ Below w.heap.size w w' := by
  have hf0 := fresh_n w (.cells #[.int .i64 0, .int .i64 0, .int .i64 0, .int .i64 0] 23)
  have hR0 := Lib.hid (CrdRes.start w)
  have cN0 : Calls Tryd.prog 9 #[.string s, .int .i64 4] (w.alloc (.cells #[.int .i64 0, .int .i64 0, .int .i64 0, .int .i64 0] 23)) (LRet (readM s.data.toList 4) (w.alloc (.cells #[.int .i64 0, .int .i64 0, .int .i64 0, .int .i64 0] 23))) := readNumbers_any s 4 _ (by omega) hs (hT.below hf0) (hE.below hf0) (shape_below hSh hf0)
  cases ho : readM s.data.toList 4 with
  | none =>
    have hr : Hid (crdVal (crdO s.data.toList) = .tuple #[.agg #[.int .i64 0, .int .i64 0, .int .i64 0, .int .i64 0], .bool false]) := Lib.hid (by rw [crdO_noM ho]; rfl)
    rw [ho] at cN0
    have cN : Hid (Calls Tryd.prog 9 #[.string s, .int .i64 4] (w.alloc (.cells #[.int .i64 0, .int .i64 0, .int .i64 0, .int .i64 0] 23)) fun e w' => e = .returned (.tuple #[.slice none 0 0, .bool false]) ∧ Below (w.alloc (.cells #[.int .i64 0, .int .i64 0, .int .i64 0, .int .i64 0] 23)).heap.size (w.alloc (.cells #[.int .i64 0, .int .i64 0, .int .i64 0, .int .i64 0] 23)) w') := Lib.hid cN0
    clear cN0 ho
    go_enter Tryd.func5, Tryd.ntmps5
    go_wp2_with fail
    refine cN.out.mono ?_
    rintro e w2 ⟨rfl, b2⟩
    have B2 := hf0.trans (b2.mono hf0.size)
    have hR2 := hR0.out.below b2
    clear b2 hf0
    obtain ⟨⟨c0, c1, c2, c3⟩, f0, f1, f2, f3⟩ := hR2.facts
    go_wp2
    exact bodyPost_ret (v := .tuple #[.agg #[.int .i64 0, .int .i64 0, .int .i64 0, .int .i64 0], .bool false]) (by simp [results, Tryd.results5, go_sem, c0, c1, c2, c3, f0, f1, f2, f3]) rfl ⟨by rw [hr.out], ((((B2.setCell (p := ⟨w.heap.size, 0, none⟩) (Nat.le_refl _) _).setCell (p := ⟨w.heap.size, 1, none⟩) (Nat.le_refl _) _).setCell (p := ⟨w.heap.size, 2, none⟩) (Nat.le_refl _) _).setCell (p := ⟨w.heap.size, 3, none⟩) (Nat.le_refl _) _)⟩
  | some Z =>
    obtain ⟨ho', hl⟩ := readM_some ho
    obtain ⟨a, b, c, d, rfl⟩ := crd_seven hl
    have hq2 : Hid (crdO s.data.toList = if crdB ⟨a, b, c, d⟩ = true then some ⟨a, b, c, d⟩ else none) := Lib.hid (crdO_yes ho')
    rw [ho] at cN0
    have cN : Hid (Calls Tryd.prog 9 #[.string s, .int .i64 4] (w.alloc (.cells #[.int .i64 0, .int .i64 0, .int .i64 0, .int .i64 0] 23)) fun e w' => ∃ g cap, e = .returned (.tuple #[.slice (some ⟨g, 0, none⟩) 4 cap, .bool true]) ∧ 4 ≤ cap ∧ g < w'.heap.size ∧ (w'.cell? ⟨g, 0, none⟩ = some (.int .i64 a) ∧ w'.cell? ⟨g, 1, none⟩ = some (.int .i64 b) ∧ w'.cell? ⟨g, 2, none⟩ = some (.int .i64 c) ∧ w'.cell? ⟨g, 3, none⟩ = some (.int .i64 d)) ∧ Below (w.alloc (.cells #[.int .i64 0, .int .i64 0, .int .i64 0, .int .i64 0] 23)).heap.size (w.alloc (.cells #[.int .i64 0, .int .i64 0, .int .i64 0, .int .i64 0] 23)) w') := Lib.hid (cN0.mono fun e w' h => by
      obtain ⟨v, he, hown, hb⟩ := h
      obtain ⟨g, cap, rfl, k1, k2, k3⟩ := crd_row hown
      exact ⟨g, cap, he, k1, k2, k3, hb⟩)
    have cV0 : ∀ W, Calls Tryd.prog 10 #[.agg #[.int .i64 a, .int .i64 b, .int .i64 c, .int .i64 d]] W fun e w' => e = .returned (.bool (crdB ⟨a, b, c, d⟩)) ∧ Below W.heap.size W w' := fun W => implValidString_any a b c d W
    clear cN0 ho hl ho'
    cases hv : crdB ⟨a, b, c, d⟩
    · have hr : Hid (crdVal (crdO s.data.toList) = .tuple #[.agg #[.int .i64 0, .int .i64 0, .int .i64 0, .int .i64 0], .bool false]) := Lib.hid (by rw [hq2.out, hv]; rfl)
      rw [hv] at cV0
      have cV := Lib.hid cV0
      clear cV0
      clear hq2
      go_enter Tryd.func5, Tryd.ntmps5
      go_wp2_with fail
      refine cN.out.mono ?_
      rintro e w2 ⟨g, lcap, rfl, hlc, hg, hP, b2⟩
      have B2 := hf0.trans (b2.mono hf0.size)
      have hR2 := hR0.out.below b2
      clear b2 hf0
      have keep : ∀ W1 W2, ((W1.cell? ⟨g, 0, none⟩ = some (.int .i64 a) ∧ W1.cell? ⟨g, 1, none⟩ = some (.int .i64 b) ∧ W1.cell? ⟨g, 2, none⟩ = some (.int .i64 c) ∧ W1.cell? ⟨g, 3, none⟩ = some (.int .i64 d)) ∧ (CrdRes W1 w.heap.size ∧ Below w2.heap.size w2 W1)) → Below W1.heap.size W1 W2 → ((W2.cell? ⟨g, 0, none⟩ = some (.int .i64 a) ∧ W2.cell? ⟨g, 1, none⟩ = some (.int .i64 b) ∧ W2.cell? ⟨g, 2, none⟩ = some (.int .i64 c) ∧ W2.cell? ⟨g, 3, none⟩ = some (.int .i64 d)) ∧ (CrdRes W2 w.heap.size ∧ Below w2.heap.size w2 W2)) := fun W1 W2 h1 h2 => by
        obtain ⟨⟨p0, p1, p2, p3⟩, hr, hb⟩ := h1
        have hl := Nat.lt_of_lt_of_le hg hb.size
        exact ⟨⟨(h2.cell hl).trans p0, (h2.cell hl).trans p1, (h2.cell hl).trans p2, (h2.cell hl).trans p3⟩, hr.below h2, hb.trans (h2.mono hb.size)⟩
      have keepH := Lib.hid keep
      have hS : ((w2.cell? ⟨g, 0, none⟩ = some (.int .i64 a) ∧ w2.cell? ⟨g, 1, none⟩ = some (.int .i64 b) ∧ w2.cell? ⟨g, 2, none⟩ = some (.int .i64 c) ∧ w2.cell? ⟨g, 3, none⟩ = some (.int .i64 d)) ∧ (CrdRes w2 w.heap.size ∧ Below w2.heap.size w2 w2)) := ⟨hP, hR2, Below.refl _ _⟩
      clear keep hP hR2
      go_wp2
      go_region_held3 (fun w' => ((w'.cell? ⟨g, 0, none⟩ = some (.int .i64 a) ∧ w'.cell? ⟨g, 1, none⟩ = some (.int .i64 b) ∧ w'.cell? ⟨g, 2, none⟩ = some (.int .i64 c) ∧ w'.cell? ⟨g, 3, none⟩ = some (.int .i64 d)) ∧ (CrdRes w' w.heap.size ∧ Below w2.heap.size w2 w')))
        (first | exact ⟨hS.1, hS.2.1, belowN hS.2.2 1⟩ | exact keepH.out _ _ (by assumption) (fresh_n _ _) | exact keepH.out _ _ (by assumption) (belowN (fresh_n _ _) 1) | exact keepH.out w2 _ hS (belowN (fresh_n _ _) 1) | exact keepH.out _ _ (by assumption) (by assumption) | assumption)
        (fail)
      rename_i hHeld
      have hRx := hHeld.2.1
      have hBx := B2.trans (hHeld.2.2.mono B2.size)
      have hPx : ((w2.alloc (.cells #[.int .i64 a, .int .i64 b, .int .i64 c, .int .i64 d] 23)).drew.cell? ⟨w2.heap.size, 0, none⟩ = some (.int .i64 a) ∧ (w2.alloc (.cells #[.int .i64 a, .int .i64 b, .int .i64 c, .int .i64 d] 23)).drew.cell? ⟨w2.heap.size, 1, none⟩ = some (.int .i64 b) ∧ (w2.alloc (.cells #[.int .i64 a, .int .i64 b, .int .i64 c, .int .i64 d] 23)).drew.cell? ⟨w2.heap.size, 2, none⟩ = some (.int .i64 c) ∧ (w2.alloc (.cells #[.int .i64 a, .int .i64 b, .int .i64 c, .int .i64 d] 23)).drew.cell? ⟨w2.heap.size, 3, none⟩ = some (.int .i64 d)) := crd_bx a b c d w2 _ (belowN (Below.refl _ (w2.alloc (.cells #[.int .i64 a, .int .i64 b, .int .i64 c, .int .i64 d] 23))) 1)
      have hGx : w2.heap.size < (w2.alloc (.cells #[.int .i64 a, .int .i64 b, .int .i64 c, .int .i64 d] 23)).drew.heap.size := by simp
      clear hHeld hS keepH B2
      generalize (w2.alloc (.cells #[.int .i64 a, .int .i64 b, .int .i64 c, .int .i64 d] 23)).drew = w4 at hRx hBx hPx hGx ⊢
      generalize w2.heap.size = G at hPx hGx ⊢
      obtain ⟨x0, x1, x2, x3⟩ := hPx
      go_wp2_with fail
      refine (cV.out _).mono ?_
      rintro e w5 ⟨rfl, b5⟩
      have B2 := hBx.trans (b5.mono hBx.size)
      have hR5 := hRx.below b5
      have y0 := (b5.cell (p := ⟨G, 0, none⟩) hGx).trans x0
      have y1 := (b5.cell (p := ⟨G, 1, none⟩) hGx).trans x1
      have y2 := (b5.cell (p := ⟨G, 2, none⟩) hGx).trans x2
      have y3 := (b5.cell (p := ⟨G, 3, none⟩) hGx).trans x3
      clear x0 x1 x2 x3 b5 hRx hBx hGx
      obtain ⟨⟨c0, c1, c2, c3⟩, f0, f1, f2, f3⟩ := hR5.facts
      go_wp2
      exact bodyPost_ret (v := .tuple #[.agg #[.int .i64 0, .int .i64 0, .int .i64 0, .int .i64 0], .bool false]) (by simp [results, Tryd.results5, go_sem, c0, c1, c2, c3, f0, f1, f2, f3]) rfl ⟨by rw [hr.out], ((((B2.setCell (p := ⟨w.heap.size, 0, none⟩) (Nat.le_refl _) _).setCell (p := ⟨w.heap.size, 1, none⟩) (Nat.le_refl _) _).setCell (p := ⟨w.heap.size, 2, none⟩) (Nat.le_refl _) _).setCell (p := ⟨w.heap.size, 3, none⟩) (Nat.le_refl _) _)⟩
    · have hr : Hid (crdVal (crdO s.data.toList) = .tuple #[.agg #[.int .i64 a, .int .i64 b, .int .i64 c, .int .i64 d], .bool true]) := Lib.hid (by rw [hq2.out, if_pos hv]; rfl)
      rw [hv] at cV0
      have cV := Lib.hid cV0
      clear cV0
      clear hq2
      go_enter Tryd.func5, Tryd.ntmps5
      go_wp2_with fail
      refine cN.out.mono ?_
      rintro e w2 ⟨g, lcap, rfl, hlc, hg, hP, b2⟩
      have B2 := hf0.trans (b2.mono hf0.size)
      have hR2 := hR0.out.below b2
      clear b2 hf0
      have keep : ∀ W1 W2, ((W1.cell? ⟨g, 0, none⟩ = some (.int .i64 a) ∧ W1.cell? ⟨g, 1, none⟩ = some (.int .i64 b) ∧ W1.cell? ⟨g, 2, none⟩ = some (.int .i64 c) ∧ W1.cell? ⟨g, 3, none⟩ = some (.int .i64 d)) ∧ (CrdRes W1 w.heap.size ∧ Below w2.heap.size w2 W1)) → Below W1.heap.size W1 W2 → ((W2.cell? ⟨g, 0, none⟩ = some (.int .i64 a) ∧ W2.cell? ⟨g, 1, none⟩ = some (.int .i64 b) ∧ W2.cell? ⟨g, 2, none⟩ = some (.int .i64 c) ∧ W2.cell? ⟨g, 3, none⟩ = some (.int .i64 d)) ∧ (CrdRes W2 w.heap.size ∧ Below w2.heap.size w2 W2)) := fun W1 W2 h1 h2 => by
        obtain ⟨⟨p0, p1, p2, p3⟩, hr, hb⟩ := h1
        have hl := Nat.lt_of_lt_of_le hg hb.size
        exact ⟨⟨(h2.cell hl).trans p0, (h2.cell hl).trans p1, (h2.cell hl).trans p2, (h2.cell hl).trans p3⟩, hr.below h2, hb.trans (h2.mono hb.size)⟩
      have keepH := Lib.hid keep
      have hS : ((w2.cell? ⟨g, 0, none⟩ = some (.int .i64 a) ∧ w2.cell? ⟨g, 1, none⟩ = some (.int .i64 b) ∧ w2.cell? ⟨g, 2, none⟩ = some (.int .i64 c) ∧ w2.cell? ⟨g, 3, none⟩ = some (.int .i64 d)) ∧ (CrdRes w2 w.heap.size ∧ Below w2.heap.size w2 w2)) := ⟨hP, hR2, Below.refl _ _⟩
      clear keep hP hR2
      go_wp2
      go_region_held3 (fun w' => ((w'.cell? ⟨g, 0, none⟩ = some (.int .i64 a) ∧ w'.cell? ⟨g, 1, none⟩ = some (.int .i64 b) ∧ w'.cell? ⟨g, 2, none⟩ = some (.int .i64 c) ∧ w'.cell? ⟨g, 3, none⟩ = some (.int .i64 d)) ∧ (CrdRes w' w.heap.size ∧ Below w2.heap.size w2 w')))
        (first | exact ⟨hS.1, hS.2.1, belowN hS.2.2 1⟩ | exact keepH.out _ _ (by assumption) (fresh_n _ _) | exact keepH.out _ _ (by assumption) (belowN (fresh_n _ _) 1) | exact keepH.out w2 _ hS (belowN (fresh_n _ _) 1) | exact keepH.out _ _ (by assumption) (by assumption) | assumption)
        (fail)
      rename_i hHeld
      have hRx := hHeld.2.1
      have hBx := B2.trans (hHeld.2.2.mono B2.size)
      have hPx : ((w2.alloc (.cells #[.int .i64 a, .int .i64 b, .int .i64 c, .int .i64 d] 23)).drew.cell? ⟨w2.heap.size, 0, none⟩ = some (.int .i64 a) ∧ (w2.alloc (.cells #[.int .i64 a, .int .i64 b, .int .i64 c, .int .i64 d] 23)).drew.cell? ⟨w2.heap.size, 1, none⟩ = some (.int .i64 b) ∧ (w2.alloc (.cells #[.int .i64 a, .int .i64 b, .int .i64 c, .int .i64 d] 23)).drew.cell? ⟨w2.heap.size, 2, none⟩ = some (.int .i64 c) ∧ (w2.alloc (.cells #[.int .i64 a, .int .i64 b, .int .i64 c, .int .i64 d] 23)).drew.cell? ⟨w2.heap.size, 3, none⟩ = some (.int .i64 d)) := crd_bx a b c d w2 _ (belowN (Below.refl _ (w2.alloc (.cells #[.int .i64 a, .int .i64 b, .int .i64 c, .int .i64 d] 23))) 1)
      have hGx : w2.heap.size < (w2.alloc (.cells #[.int .i64 a, .int .i64 b, .int .i64 c, .int .i64 d] 23)).drew.heap.size := by simp
      clear hHeld hS keepH B2
      generalize (w2.alloc (.cells #[.int .i64 a, .int .i64 b, .int .i64 c, .int .i64 d] 23)).drew = w4 at hRx hBx hPx hGx ⊢
      generalize w2.heap.size = G at hPx hGx ⊢
      obtain ⟨x0, x1, x2, x3⟩ := hPx
      go_wp2_with fail
      refine (cV.out _).mono ?_
      rintro e w5 ⟨rfl, b5⟩
      have B2 := hBx.trans (b5.mono hBx.size)
      have hR5 := hRx.below b5
      have y0 := (b5.cell (p := ⟨G, 0, none⟩) hGx).trans x0
      have y1 := (b5.cell (p := ⟨G, 1, none⟩) hGx).trans x1
      have y2 := (b5.cell (p := ⟨G, 2, none⟩) hGx).trans x2
      have y3 := (b5.cell (p := ⟨G, 3, none⟩) hGx).trans x3
      clear x0 x1 x2 x3 b5 hRx hBx hGx
      obtain ⟨⟨c0, c1, c2, c3⟩, f0, f1, f2, f3⟩ := hR5.facts
      go_wp2
      exact bodyPost_ret (v := .tuple #[.agg #[.int .i64 a, .int .i64 b, .int .i64 c, .int .i64 d], .bool true]) (by simp [results, Tryd.results5, go_sem, c0, c1, c2, c3, f0, f1, f2, f3]) rfl ⟨by rw [hr.out], ((((B2.setCell (p := ⟨w.heap.size, 0, none⟩) (Nat.le_refl _) _).setCell (p := ⟨w.heap.size, 1, none⟩) (Nat.le_refl _) _).setCell (p := ⟨w.heap.size, 2, none⟩) (Nat.le_refl _) _).setCell (p := ⟨w.heap.size, 3, none⟩) (Nat.le_refl _) _)⟩
set_option maxHeartbeats 3200000 in
theorem specReadString_any (s : ByteArray) (w : World) (hs : s.size ≤ 1048576)  :
    Calls Tryd.prog 4 #[.string s] w fun e w' => e = .returned (crdVal (crdO s.data.toList)) ∧ Below w.heap.size w w' := by
  have hf0 := fresh_n w (.cells #[.int .i64 0, .int .i64 0, .int .i64 0, .int .i64 0] 23)
  have hR0 := Lib.hid (CrdRes.start w)
  have cN0 : Calls Tryd.prog 7 #[.string s] (w.alloc (.cells #[.int .i64 0, .int .i64 0, .int .i64 0, .int .i64 0] 23)) (LRet (readL s.data.toList) (w.alloc (.cells #[.int .i64 0, .int .i64 0, .int .i64 0, .int .i64 0] 23))) := specReadList_any s _ hs
  cases ho : readL s.data.toList with
  | none =>
    have hr : Hid (crdVal (crdO s.data.toList) = .tuple #[.agg #[.int .i64 0, .int .i64 0, .int .i64 0, .int .i64 0], .bool false]) := Lib.hid (by rw [crdO_no ho]; rfl)
    rw [ho] at cN0
    have cN : Hid (Calls Tryd.prog 7 #[.string s] (w.alloc (.cells #[.int .i64 0, .int .i64 0, .int .i64 0, .int .i64 0] 23)) fun e w' => e = .returned (.tuple #[.slice none 0 0, .bool false]) ∧ Below (w.alloc (.cells #[.int .i64 0, .int .i64 0, .int .i64 0, .int .i64 0] 23)).heap.size (w.alloc (.cells #[.int .i64 0, .int .i64 0, .int .i64 0, .int .i64 0] 23)) w') := Lib.hid cN0
    clear cN0 ho
    go_enter Tryd.func4, Tryd.ntmps4
    go_wp2_with fail
    refine cN.out.mono ?_
    rintro e w2 ⟨rfl, b2⟩
    have B2 := hf0.trans (b2.mono hf0.size)
    have hR2 := hR0.out.below b2
    clear b2 hf0
    obtain ⟨⟨c0, c1, c2, c3⟩, f0, f1, f2, f3⟩ := hR2.facts
    go_wp2
    exact bodyPost_ret (v := .tuple #[.agg #[.int .i64 0, .int .i64 0, .int .i64 0, .int .i64 0], .bool false]) (by simp [results, Tryd.results4, go_sem, c0, c1, c2, c3, f0, f1, f2, f3]) rfl ⟨by rw [hr.out], ((((B2.setCell (p := ⟨w.heap.size, 0, none⟩) (Nat.le_refl _) _).setCell (p := ⟨w.heap.size, 1, none⟩) (Nat.le_refl _) _).setCell (p := ⟨w.heap.size, 2, none⟩) (Nat.le_refl _) _).setCell (p := ⟨w.heap.size, 3, none⟩) (Nat.le_refl _) _)⟩
  | some Z =>
    by_cases hl : Z.length = 4
    rotate_left
    · have hr : Hid (crdVal (crdO s.data.toList) = .tuple #[.agg #[.int .i64 0, .int .i64 0, .int .i64 0, .int .i64 0], .bool false]) := Lib.hid (by rw [crdO_len ho hl]; rfl)
      rw [ho] at cN0
      have cN : Hid (Calls Tryd.prog 7 #[.string s] (w.alloc (.cells #[.int .i64 0, .int .i64 0, .int .i64 0, .int .i64 0] 23)) fun e w' => ∃ a cap, e = .returned (.tuple #[.slice a Z.length cap, .bool true]) ∧ Below (w.alloc (.cells #[.int .i64 0, .int .i64 0, .int .i64 0, .int .i64 0] 23)).heap.size (w.alloc (.cells #[.int .i64 0, .int .i64 0, .int .i64 0, .int .i64 0] 23)) w') := Lib.hid (cN0.mono fun e w' h => by
        obtain ⟨v, he, hown, hb⟩ := h
        obtain ⟨a, cap, rfl⟩ := own_shapeN hown
        exact ⟨a, cap, he, hb⟩)
      have hn4 : ((Z.length : Int) == 4) = false := by simpa using (show ¬ (Z.length : Int) = 4 by omega)
      have hn5 : ((Z.length : Int) != 4) = true := by simp [bne, hn4]
      clear cN0 ho hl
      go_enter Tryd.func4, Tryd.ntmps4
      go_wp2_with fail
      refine cN.out.mono ?_
      rintro e w2 ⟨za, zc, rfl, b2⟩
      have B2 := hf0.trans (b2.mono hf0.size)
      have hR2 := hR0.out.below b2
      clear b2 hf0
      obtain ⟨⟨c0, c1, c2, c3⟩, f0, f1, f2, f3⟩ := hR2.facts
      go_wp2
      exact bodyPost_ret (v := .tuple #[.agg #[.int .i64 0, .int .i64 0, .int .i64 0, .int .i64 0], .bool false]) (by simp [results, Tryd.results4, go_sem, c0, c1, c2, c3, f0, f1, f2, f3]) rfl ⟨by rw [hr.out], ((((B2.setCell (p := ⟨w.heap.size, 0, none⟩) (Nat.le_refl _) _).setCell (p := ⟨w.heap.size, 1, none⟩) (Nat.le_refl _) _).setCell (p := ⟨w.heap.size, 2, none⟩) (Nat.le_refl _) _).setCell (p := ⟨w.heap.size, 3, none⟩) (Nat.le_refl _) _)⟩
    obtain ⟨a, b, c, d, rfl⟩ := crd_seven hl
    have hq2 : Hid (crdO s.data.toList = if crdB ⟨a, b, c, d⟩ = true then some ⟨a, b, c, d⟩ else none) := Lib.hid (crdO_yes ho)
    rw [ho] at cN0
    have cN : Hid (Calls Tryd.prog 7 #[.string s] (w.alloc (.cells #[.int .i64 0, .int .i64 0, .int .i64 0, .int .i64 0] 23)) fun e w' => ∃ g cap, e = .returned (.tuple #[.slice (some ⟨g, 0, none⟩) 4 cap, .bool true]) ∧ 4 ≤ cap ∧ g < w'.heap.size ∧ (w'.cell? ⟨g, 0, none⟩ = some (.int .i64 a) ∧ w'.cell? ⟨g, 1, none⟩ = some (.int .i64 b) ∧ w'.cell? ⟨g, 2, none⟩ = some (.int .i64 c) ∧ w'.cell? ⟨g, 3, none⟩ = some (.int .i64 d)) ∧ Below (w.alloc (.cells #[.int .i64 0, .int .i64 0, .int .i64 0, .int .i64 0] 23)).heap.size (w.alloc (.cells #[.int .i64 0, .int .i64 0, .int .i64 0, .int .i64 0] 23)) w') := Lib.hid (cN0.mono fun e w' h => by
      obtain ⟨v, he, hown, hb⟩ := h
      obtain ⟨g, cap, rfl, k1, k2, k3⟩ := crd_row hown
      exact ⟨g, cap, he, k1, k2, k3, hb⟩)
    clear cN0 ho hl
    cases hv : crdB ⟨a, b, c, d⟩
    · have hr : Hid (crdVal (crdO s.data.toList) = .tuple #[.agg #[.int .i64 0, .int .i64 0, .int .i64 0, .int .i64 0], .bool false]) := Lib.hid (by rw [hq2.out, hv]; rfl)
      clear hq2
      go_enter Tryd.func4, Tryd.ntmps4
      go_wp2_with fail
      refine cN.out.mono ?_
      rintro e w2 ⟨g, lcap, rfl, hlc, hg, hP, b2⟩
      have B2 := hf0.trans (b2.mono hf0.size)
      have hR2 := hR0.out.below b2
      clear b2 hf0
      have keep : ∀ W1 W2, ((W1.cell? ⟨g, 0, none⟩ = some (.int .i64 a) ∧ W1.cell? ⟨g, 1, none⟩ = some (.int .i64 b) ∧ W1.cell? ⟨g, 2, none⟩ = some (.int .i64 c) ∧ W1.cell? ⟨g, 3, none⟩ = some (.int .i64 d)) ∧ (CrdRes W1 w.heap.size ∧ Below w2.heap.size w2 W1)) → Below W1.heap.size W1 W2 → ((W2.cell? ⟨g, 0, none⟩ = some (.int .i64 a) ∧ W2.cell? ⟨g, 1, none⟩ = some (.int .i64 b) ∧ W2.cell? ⟨g, 2, none⟩ = some (.int .i64 c) ∧ W2.cell? ⟨g, 3, none⟩ = some (.int .i64 d)) ∧ (CrdRes W2 w.heap.size ∧ Below w2.heap.size w2 W2)) := fun W1 W2 h1 h2 => by
        obtain ⟨⟨p0, p1, p2, p3⟩, hr, hb⟩ := h1
        have hl := Nat.lt_of_lt_of_le hg hb.size
        exact ⟨⟨(h2.cell hl).trans p0, (h2.cell hl).trans p1, (h2.cell hl).trans p2, (h2.cell hl).trans p3⟩, hr.below h2, hb.trans (h2.mono hb.size)⟩
      have keepH := Lib.hid keep
      have hS : ((w2.cell? ⟨g, 0, none⟩ = some (.int .i64 a) ∧ w2.cell? ⟨g, 1, none⟩ = some (.int .i64 b) ∧ w2.cell? ⟨g, 2, none⟩ = some (.int .i64 c) ∧ w2.cell? ⟨g, 3, none⟩ = some (.int .i64 d)) ∧ (CrdRes w2 w.heap.size ∧ Below w2.heap.size w2 w2)) := ⟨hP, hR2, Below.refl _ _⟩
      clear keep hP hR2
      go_wp2
      go_region_held3 (fun w' => ((w'.cell? ⟨g, 0, none⟩ = some (.int .i64 a) ∧ w'.cell? ⟨g, 1, none⟩ = some (.int .i64 b) ∧ w'.cell? ⟨g, 2, none⟩ = some (.int .i64 c) ∧ w'.cell? ⟨g, 3, none⟩ = some (.int .i64 d)) ∧ (CrdRes w' w.heap.size ∧ Below w2.heap.size w2 w')))
        (first | exact ⟨hS.1, hS.2.1, belowN hS.2.2 1⟩ | exact keepH.out _ _ (by assumption) (fresh_n _ _) | exact keepH.out _ _ (by assumption) (belowN (fresh_n _ _) 1) | exact keepH.out w2 _ hS (belowN (fresh_n _ _) 1) | exact keepH.out _ _ (by assumption) (by assumption) | assumption)
        (fail)
      rename_i hHeld
      have hRx := hHeld.2.1
      have hBx := B2.trans (hHeld.2.2.mono B2.size)
      have hPx : ((w2.alloc (.cells #[.int .i64 a, .int .i64 b, .int .i64 c, .int .i64 d] 23)).drew.cell? ⟨w2.heap.size, 0, none⟩ = some (.int .i64 a) ∧ (w2.alloc (.cells #[.int .i64 a, .int .i64 b, .int .i64 c, .int .i64 d] 23)).drew.cell? ⟨w2.heap.size, 1, none⟩ = some (.int .i64 b) ∧ (w2.alloc (.cells #[.int .i64 a, .int .i64 b, .int .i64 c, .int .i64 d] 23)).drew.cell? ⟨w2.heap.size, 2, none⟩ = some (.int .i64 c) ∧ (w2.alloc (.cells #[.int .i64 a, .int .i64 b, .int .i64 c, .int .i64 d] 23)).drew.cell? ⟨w2.heap.size, 3, none⟩ = some (.int .i64 d)) := crd_bx a b c d w2 _ (belowN (Below.refl _ (w2.alloc (.cells #[.int .i64 a, .int .i64 b, .int .i64 c, .int .i64 d] 23))) 1)
      have hGx : w2.heap.size < (w2.alloc (.cells #[.int .i64 a, .int .i64 b, .int .i64 c, .int .i64 d] 23)).drew.heap.size := by simp
      clear hHeld hS keepH B2
      generalize (w2.alloc (.cells #[.int .i64 a, .int .i64 b, .int .i64 c, .int .i64 d] 23)).drew = w4 at hRx hBx hPx hGx ⊢
      generalize w2.heap.size = G at hPx hGx ⊢
      have hat : CrdAt w4 G 0 ⟨a, b, c, d⟩ := hPx
      have cO := l09One_any a b c d w4 G 0 hat
      rw [hv] at cO
      have cO' := Lib.hid cO
      clear hat cO
      obtain ⟨y0, y1, y2, y3⟩ := hPx
      go_wp2_with fail
      refine cO'.out.mono ?_
      rintro e _ ⟨rfl, rfl⟩
      have B2 := hBx
      obtain ⟨⟨c0, c1, c2, c3⟩, f0, f1, f2, f3⟩ := hRx.facts
      clear hBx hRx
      go_wp2
      exact bodyPost_ret (v := .tuple #[.agg #[.int .i64 0, .int .i64 0, .int .i64 0, .int .i64 0], .bool false]) (by simp [results, Tryd.results4, go_sem, c0, c1, c2, c3, f0, f1, f2, f3]) rfl ⟨by rw [hr.out], ((((B2.setCell (p := ⟨w.heap.size, 0, none⟩) (Nat.le_refl _) _).setCell (p := ⟨w.heap.size, 1, none⟩) (Nat.le_refl _) _).setCell (p := ⟨w.heap.size, 2, none⟩) (Nat.le_refl _) _).setCell (p := ⟨w.heap.size, 3, none⟩) (Nat.le_refl _) _)⟩
    · have hr : Hid (crdVal (crdO s.data.toList) = .tuple #[.agg #[.int .i64 a, .int .i64 b, .int .i64 c, .int .i64 d], .bool true]) := Lib.hid (by rw [hq2.out, if_pos hv]; rfl)
      clear hq2
      go_enter Tryd.func4, Tryd.ntmps4
      go_wp2_with fail
      refine cN.out.mono ?_
      rintro e w2 ⟨g, lcap, rfl, hlc, hg, hP, b2⟩
      have B2 := hf0.trans (b2.mono hf0.size)
      have hR2 := hR0.out.below b2
      clear b2 hf0
      have keep : ∀ W1 W2, ((W1.cell? ⟨g, 0, none⟩ = some (.int .i64 a) ∧ W1.cell? ⟨g, 1, none⟩ = some (.int .i64 b) ∧ W1.cell? ⟨g, 2, none⟩ = some (.int .i64 c) ∧ W1.cell? ⟨g, 3, none⟩ = some (.int .i64 d)) ∧ (CrdRes W1 w.heap.size ∧ Below w2.heap.size w2 W1)) → Below W1.heap.size W1 W2 → ((W2.cell? ⟨g, 0, none⟩ = some (.int .i64 a) ∧ W2.cell? ⟨g, 1, none⟩ = some (.int .i64 b) ∧ W2.cell? ⟨g, 2, none⟩ = some (.int .i64 c) ∧ W2.cell? ⟨g, 3, none⟩ = some (.int .i64 d)) ∧ (CrdRes W2 w.heap.size ∧ Below w2.heap.size w2 W2)) := fun W1 W2 h1 h2 => by
        obtain ⟨⟨p0, p1, p2, p3⟩, hr, hb⟩ := h1
        have hl := Nat.lt_of_lt_of_le hg hb.size
        exact ⟨⟨(h2.cell hl).trans p0, (h2.cell hl).trans p1, (h2.cell hl).trans p2, (h2.cell hl).trans p3⟩, hr.below h2, hb.trans (h2.mono hb.size)⟩
      have keepH := Lib.hid keep
      have hS : ((w2.cell? ⟨g, 0, none⟩ = some (.int .i64 a) ∧ w2.cell? ⟨g, 1, none⟩ = some (.int .i64 b) ∧ w2.cell? ⟨g, 2, none⟩ = some (.int .i64 c) ∧ w2.cell? ⟨g, 3, none⟩ = some (.int .i64 d)) ∧ (CrdRes w2 w.heap.size ∧ Below w2.heap.size w2 w2)) := ⟨hP, hR2, Below.refl _ _⟩
      clear keep hP hR2
      go_wp2
      go_region_held3 (fun w' => ((w'.cell? ⟨g, 0, none⟩ = some (.int .i64 a) ∧ w'.cell? ⟨g, 1, none⟩ = some (.int .i64 b) ∧ w'.cell? ⟨g, 2, none⟩ = some (.int .i64 c) ∧ w'.cell? ⟨g, 3, none⟩ = some (.int .i64 d)) ∧ (CrdRes w' w.heap.size ∧ Below w2.heap.size w2 w')))
        (first | exact ⟨hS.1, hS.2.1, belowN hS.2.2 1⟩ | exact keepH.out _ _ (by assumption) (fresh_n _ _) | exact keepH.out _ _ (by assumption) (belowN (fresh_n _ _) 1) | exact keepH.out w2 _ hS (belowN (fresh_n _ _) 1) | exact keepH.out _ _ (by assumption) (by assumption) | assumption)
        (fail)
      rename_i hHeld
      have hRx := hHeld.2.1
      have hBx := B2.trans (hHeld.2.2.mono B2.size)
      have hPx : ((w2.alloc (.cells #[.int .i64 a, .int .i64 b, .int .i64 c, .int .i64 d] 23)).drew.cell? ⟨w2.heap.size, 0, none⟩ = some (.int .i64 a) ∧ (w2.alloc (.cells #[.int .i64 a, .int .i64 b, .int .i64 c, .int .i64 d] 23)).drew.cell? ⟨w2.heap.size, 1, none⟩ = some (.int .i64 b) ∧ (w2.alloc (.cells #[.int .i64 a, .int .i64 b, .int .i64 c, .int .i64 d] 23)).drew.cell? ⟨w2.heap.size, 2, none⟩ = some (.int .i64 c) ∧ (w2.alloc (.cells #[.int .i64 a, .int .i64 b, .int .i64 c, .int .i64 d] 23)).drew.cell? ⟨w2.heap.size, 3, none⟩ = some (.int .i64 d)) := crd_bx a b c d w2 _ (belowN (Below.refl _ (w2.alloc (.cells #[.int .i64 a, .int .i64 b, .int .i64 c, .int .i64 d] 23))) 1)
      have hGx : w2.heap.size < (w2.alloc (.cells #[.int .i64 a, .int .i64 b, .int .i64 c, .int .i64 d] 23)).drew.heap.size := by simp
      clear hHeld hS keepH B2
      generalize (w2.alloc (.cells #[.int .i64 a, .int .i64 b, .int .i64 c, .int .i64 d] 23)).drew = w4 at hRx hBx hPx hGx ⊢
      generalize w2.heap.size = G at hPx hGx ⊢
      have hat : CrdAt w4 G 0 ⟨a, b, c, d⟩ := hPx
      have cO := l09One_any a b c d w4 G 0 hat
      rw [hv] at cO
      have cO' := Lib.hid cO
      clear hat cO
      obtain ⟨y0, y1, y2, y3⟩ := hPx
      go_wp2_with fail
      refine cO'.out.mono ?_
      rintro e _ ⟨rfl, rfl⟩
      have B2 := hBx
      obtain ⟨⟨c0, c1, c2, c3⟩, f0, f1, f2, f3⟩ := hRx.facts
      clear hBx hRx
      go_wp2
      exact bodyPost_ret (v := .tuple #[.agg #[.int .i64 a, .int .i64 b, .int .i64 c, .int .i64 d], .bool true]) (by simp [results, Tryd.results4, go_sem, c0, c1, c2, c3, f0, f1, f2, f3]) rfl ⟨by rw [hr.out], ((((B2.setCell (p := ⟨w.heap.size, 0, none⟩) (Nat.le_refl _) _).setCell (p := ⟨w.heap.size, 1, none⟩) (Nat.le_refl _) _).setCell (p := ⟨w.heap.size, 2, none⟩) (Nat.le_refl _) _).setCell (p := ⟨w.heap.size, 3, none⟩) (Nat.le_refl _) _)⟩
end Go.Proofs.YtnenccfmopjcjaaDoor
