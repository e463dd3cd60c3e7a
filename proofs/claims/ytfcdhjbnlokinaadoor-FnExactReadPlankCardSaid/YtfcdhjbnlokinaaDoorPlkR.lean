/-
  Readers of Plank: the program's and the model's contracts.
-/
import Derived.Test.YtfcdhjbnlokinaaDoorPlkT
namespace Go.Proofs.YtfcdhjbnlokinaaDoor
open Go.ChangeShapes Go.WideShapes Go.ChangeAt Go.RowKit
set_option linter.unusedVariables false
set_option linter.unusedSimpArgs false
set_option maxRecDepth 1000000
/-- the Plank with a text -/
def plkO (l : List UInt8) : Option Plk :=
  match namO l 5 with
  | some (p, [a, b, c, d, f]) => if plkB ⟨⟨p.toArray⟩, a, b, c, d, f⟩ = true then some ⟨⟨p.toArray⟩, a, b, c, d, f⟩ else none
  | _ => none
def plkVal (o : Option Plk) : Value :=
  match o with
  | none => .tuple #[.agg #[.string ⟨#[]⟩, .int .i64 0, .int .i64 0, .int .i64 0, .int .i64 0, .int .i64 0], .bool false]
  | some x => .tuple #[.agg #[.string x.id, .int .i64 x.len, .int .i64 x.wid, .int .i64 x.thk, .int .i64 x.mas, .int .i64 x.rin], .bool true]
theorem plkO_no {l : List UInt8} (h : namO l 5 = none) : plkO l = none := by unfold plkO; rw [h]
theorem plkO_yes {l p : List UInt8} {a b c d f : Int} (h : namO l 5 = some (p, [a, b, c, d, f])) : plkO l = if plkB ⟨⟨p.toArray⟩, a, b, c, d, f⟩ = true then some ⟨⟨p.toArray⟩, a, b, c, d, f⟩ else none := by unfold plkO; rw [h]
/-- the block of a result -/
def PlkRes (w : World) (g : Nat) : Prop := w.heap[g]? = some (.cells #[.string ⟨#[]⟩, .int .i64 0, .int .i64 0, .int .i64 0, .int .i64 0, .int .i64 0] 29 (0, 0))
theorem PlkRes.facts {w : World} {g : Nat} (h : PlkRes w g) : (w.cell? ⟨g, 0, none⟩ = some (.string ⟨#[]⟩) ∧ w.cell? ⟨g, 1, none⟩ = some (.int .i64 0) ∧ w.cell? ⟨g, 2, none⟩ = some (.int .i64 0) ∧ w.cell? ⟨g, 3, none⟩ = some (.int .i64 0) ∧ w.cell? ⟨g, 4, none⟩ = some (.int .i64 0) ∧ w.cell? ⟨g, 5, none⟩ = some (.int .i64 0)) ∧ (w.frozen? ⟨g, 0, none⟩ = false ∧ w.frozen? ⟨g, 1, none⟩ = false ∧ w.frozen? ⟨g, 2, none⟩ = false ∧ w.frozen? ⟨g, 3, none⟩ = false ∧ w.frozen? ⟨g, 4, none⟩ = false ∧ w.frozen? ⟨g, 5, none⟩ = false) :=
  ⟨⟨cellB h 0 _ rfl, cellB h 1 _ rfl, cellB h 2 _ rfl, cellB h 3 _ rfl, cellB h 4 _ rfl, cellB h 5 _ rfl⟩, freeB h 0, freeB h 1, freeB h 2, freeB h 3, freeB h 4, freeB h 5⟩
theorem PlkRes.below {w w' : World} {g : Nat} (h : PlkRes w g) (hb : Below w.heap.size w w') : PlkRes w' g := by
  have hl : g < w.heap.size := (Array.getElem?_eq_some_iff.1 h).1
  exact (hb.block g hl).trans h
theorem PlkRes.start (w : World) : PlkRes (w.alloc (.cells #[.string ⟨#[]⟩, .int .i64 0, .int .i64 0, .int .i64 0, .int .i64 0, .int .i64 0] 29)) w.heap.size := heap_alloc_new _ _
theorem plk_row {w : World} {B : Nat} {v : Value} {a b c d f : Int} (h : w.ownsRow B 2 1 v ([a, b, c, d, f] : List Int).length (([a, b, c, d, f] : List Int).map encI)) : ∃ g cap, v = .slice (some ⟨g, 0, none⟩) 5 cap ∧ 5 ≤ cap ∧ g < w.heap.size ∧ (w.cell? ⟨g, 0, none⟩ = some (.int .i64 a) ∧ w.cell? ⟨g, 1, none⟩ = some (.int .i64 b) ∧ w.cell? ⟨g, 2, none⟩ = some (.int .i64 c) ∧ w.cell? ⟨g, 3, none⟩ = some (.int .i64 d) ∧ w.cell? ⟨g, 4, none⟩ = some (.int .i64 f)) := by
  have h0 := h
  rcases h.2 with ⟨h1, h2⟩ | ⟨g, cap, cur, hv, hg, hb, hn, hcap, _, _⟩
  · simp at h2
  · subst hv
    exact ⟨g, cap, rfl, hn, (h0.lt g rfl).2, by rw [h0.cellAt 0 (by simp)]; rfl, by rw [h0.cellAt 1 (by simp)]; rfl, by rw [h0.cellAt 2 (by simp)]; rfl, by rw [h0.cellAt 3 (by simp)]; rfl, by rw [h0.cellAt 4 (by simp)]; rfl⟩
theorem plk_seven {Z : List Int} (h : Z.length = 5) : ∃ a b c d f, Z = [a, b, c, d, f] := by
  match Z, h with
  | [a, b, c, d, f], _ => exact ⟨a, b, c, d, f, rfl⟩
set_option maxHeartbeats 3200000 in
theorem implReadPlank_any (s : ByteArray) (w : World) (hs : s.size ≤ 1048576) (hT : TabP w) (hE : ErrsAt w) (hSh : w.ShapedOpen Tryd.prog) :
    Calls Tryd.prog 9 #[.string s] w fun e w' => e = .returned (plkVal (plkO s.data.toList)) ∧ Below w.heap.size w w' := by
  have hf0 := fresh_b w (.cells #[.string ⟨#[]⟩, .int .i64 0, .int .i64 0, .int .i64 0, .int .i64 0, .int .i64 0] 29)
  have hR0 := Lib.hid (PlkRes.start w)
  have cN0 : Calls Tryd.prog 12 #[.string s, .int .i64 ((5 : Nat) : Int)] (w.alloc (.cells #[.string ⟨#[]⟩, .int .i64 0, .int .i64 0, .int .i64 0, .int .i64 0, .int .i64 0] 29)) (NamRet (namO s.data.toList 5) (w.alloc (.cells #[.string ⟨#[]⟩, .int .i64 0, .int .i64 0, .int .i64 0, .int .i64 0, .int .i64 0] 29))) := readNamed_any s 5 (by decide) _ hs (hT.below hf0) (hE.below hf0) (shape_below hSh hf0)
  cases ho : namO s.data.toList 5 with
  | none =>
    have hr : Hid (plkVal (plkO s.data.toList) = .tuple #[.agg #[.string ⟨#[]⟩, .int .i64 0, .int .i64 0, .int .i64 0, .int .i64 0, .int .i64 0], .bool false]) := Lib.hid (by rw [plkO_no ho]; rfl)
    rw [ho] at cN0
    have cN : Hid (Calls Tryd.prog 12 #[.string s, .int .i64 5] (w.alloc (.cells #[.string ⟨#[]⟩, .int .i64 0, .int .i64 0, .int .i64 0, .int .i64 0, .int .i64 0] 29)) fun e w' => ∃ t v, e = .returned (.tuple #[.string t, v, .bool false]) ∧ Below (w.alloc (.cells #[.string ⟨#[]⟩, .int .i64 0, .int .i64 0, .int .i64 0, .int .i64 0, .int .i64 0] 29)).heap.size (w.alloc (.cells #[.string ⟨#[]⟩, .int .i64 0, .int .i64 0, .int .i64 0, .int .i64 0, .int .i64 0] 29)) w') := Lib.hid cN0
    clear cN0 ho
    go_enter Tryd.func9, Tryd.ntmps9
    go_wp2_with fail
    refine cN.out.mono ?_
    rintro e w2 ⟨nt, nv, rfl, b2⟩
    have B2 := hf0.trans (b2.mono hf0.size)
    have hR2 := hR0.out.below b2
    clear b2 hf0
    obtain ⟨⟨c0, c1, c2, c3, c4, c5⟩, f0, f1, f2, f3, f4, f5⟩ := hR2.facts
    go_wp2
    exact bodyPost_ret (v := .tuple #[.agg #[.string ⟨#[]⟩, .int .i64 0, .int .i64 0, .int .i64 0, .int .i64 0, .int .i64 0], .bool false]) (by simp [results, Tryd.results9, go_sem, c0, c1, c2, c3, c4, c5, f0, f1, f2, f3, f4, f5]) rfl ⟨by rw [hr.out], ((((((B2.setCell (p := ⟨w.heap.size, 0, none⟩) (Nat.le_refl _) _).setCell (p := ⟨w.heap.size, 1, none⟩) (Nat.le_refl _) _).setCell (p := ⟨w.heap.size, 2, none⟩) (Nat.le_refl _) _).setCell (p := ⟨w.heap.size, 3, none⟩) (Nat.le_refl _) _).setCell (p := ⟨w.heap.size, 4, none⟩) (Nat.le_refl _) _).setCell (p := ⟨w.heap.size, 5, none⟩) (Nat.le_refl _) _)⟩
  | some x =>
    obtain ⟨p, Z⟩ := x
    obtain ⟨a, b, c, d, f, rfl⟩ := plk_seven (namO_len ho)
    have hpl := namO_id ho
    rw [len_data] at hpl
    obtain ⟨A, hA⟩ : ∃ A : ByteArray, A = ⟨p.toArray⟩ := ⟨_, rfl⟩
    have hAm : A.size ≤ maxLen := by unfold maxLen; rw [← len_data, hA]; show p.length ≤ _; omega
    have hq2 : Hid (plkO s.data.toList = if plkB ⟨A, a, b, c, d, f⟩ = true then some ⟨A, a, b, c, d, f⟩ else none) := Lib.hid (by rw [plkO_yes ho, hA])
    rw [ho] at cN0
    have cN : Hid (Calls Tryd.prog 12 #[.string s, .int .i64 5] (w.alloc (.cells #[.string ⟨#[]⟩, .int .i64 0, .int .i64 0, .int .i64 0, .int .i64 0, .int .i64 0] 29)) fun e w' => ∃ g cap, e = .returned (.tuple #[.string A, .slice (some ⟨g, 0, none⟩) 5 cap, .bool true]) ∧ 5 ≤ cap ∧ g < w'.heap.size ∧ (w'.cell? ⟨g, 0, none⟩ = some (.int .i64 a) ∧ w'.cell? ⟨g, 1, none⟩ = some (.int .i64 b) ∧ w'.cell? ⟨g, 2, none⟩ = some (.int .i64 c) ∧ w'.cell? ⟨g, 3, none⟩ = some (.int .i64 d) ∧ w'.cell? ⟨g, 4, none⟩ = some (.int .i64 f)) ∧ Below (w.alloc (.cells #[.string ⟨#[]⟩, .int .i64 0, .int .i64 0, .int .i64 0, .int .i64 0, .int .i64 0] 29)).heap.size (w.alloc (.cells #[.string ⟨#[]⟩, .int .i64 0, .int .i64 0, .int .i64 0, .int .i64 0, .int .i64 0] 29)) w') := Lib.hid (cN0.mono fun e w' h => by
      obtain ⟨v, he, hown, hb⟩ := h
      obtain ⟨g, cap, rfl, k1, k2, k3⟩ := plk_row hown
      exact ⟨g, cap, by rw [hA]; exact he, k1, k2, k3, hb⟩)
    have cV0 : ∀ W, Calls Tryd.prog 17 #[.agg #[.string A, .int .i64 a, .int .i64 b, .int .i64 c, .int .i64 d, .int .i64 f]] W fun e w' => e = .returned (.bool (plkB ⟨A, a, b, c, d, f⟩)) ∧ Below W.heap.size W w' := fun W => implValidPlank_any A a b c d f hAm W
    clear cN0 ho hA hpl
    cases hv : plkB ⟨A, a, b, c, d, f⟩
    · have hr : Hid (plkVal (plkO s.data.toList) = .tuple #[.agg #[.string ⟨#[]⟩, .int .i64 0, .int .i64 0, .int .i64 0, .int .i64 0, .int .i64 0], .bool false]) := Lib.hid (by rw [hq2.out, hv]; rfl)
      rw [hv] at cV0
      have cV := Lib.hid cV0
      clear cV0
      clear hq2
      go_enter Tryd.func9, Tryd.ntmps9
      go_wp2_with fail
      refine cN.out.mono ?_
      rintro e w2 ⟨g, lcap, rfl, hlc, hg, hP, b2⟩
      have B2 := hf0.trans (b2.mono hf0.size)
      have hR2 := hR0.out.below b2
      clear b2 hf0
      have keep : ∀ W1 W2, ((W1.cell? ⟨g, 0, none⟩ = some (.int .i64 a) ∧ W1.cell? ⟨g, 1, none⟩ = some (.int .i64 b) ∧ W1.cell? ⟨g, 2, none⟩ = some (.int .i64 c) ∧ W1.cell? ⟨g, 3, none⟩ = some (.int .i64 d) ∧ W1.cell? ⟨g, 4, none⟩ = some (.int .i64 f)) ∧ (PlkRes W1 w.heap.size ∧ Below w2.heap.size w2 W1)) → Below W1.heap.size W1 W2 → ((W2.cell? ⟨g, 0, none⟩ = some (.int .i64 a) ∧ W2.cell? ⟨g, 1, none⟩ = some (.int .i64 b) ∧ W2.cell? ⟨g, 2, none⟩ = some (.int .i64 c) ∧ W2.cell? ⟨g, 3, none⟩ = some (.int .i64 d) ∧ W2.cell? ⟨g, 4, none⟩ = some (.int .i64 f)) ∧ (PlkRes W2 w.heap.size ∧ Below w2.heap.size w2 W2)) := fun W1 W2 h1 h2 => by
        obtain ⟨⟨p0, p1, p2, p3, p4⟩, hr, hb⟩ := h1
        have hl := Nat.lt_of_lt_of_le hg hb.size
        exact ⟨⟨(h2.cell hl).trans p0, (h2.cell hl).trans p1, (h2.cell hl).trans p2, (h2.cell hl).trans p3, (h2.cell hl).trans p4⟩, hr.below h2, hb.trans (h2.mono hb.size)⟩
      have keepH := Lib.hid keep
      have hS : ((w2.cell? ⟨g, 0, none⟩ = some (.int .i64 a) ∧ w2.cell? ⟨g, 1, none⟩ = some (.int .i64 b) ∧ w2.cell? ⟨g, 2, none⟩ = some (.int .i64 c) ∧ w2.cell? ⟨g, 3, none⟩ = some (.int .i64 d) ∧ w2.cell? ⟨g, 4, none⟩ = some (.int .i64 f)) ∧ (PlkRes w2 w.heap.size ∧ Below w2.heap.size w2 w2)) := ⟨hP, hR2, Below.refl _ _⟩
      clear keep hP hR2
      go_wp2
      go_region_held3 (fun w' => ((w'.cell? ⟨g, 0, none⟩ = some (.int .i64 a) ∧ w'.cell? ⟨g, 1, none⟩ = some (.int .i64 b) ∧ w'.cell? ⟨g, 2, none⟩ = some (.int .i64 c) ∧ w'.cell? ⟨g, 3, none⟩ = some (.int .i64 d) ∧ w'.cell? ⟨g, 4, none⟩ = some (.int .i64 f)) ∧ (PlkRes w' w.heap.size ∧ Below w2.heap.size w2 w')))
        (first | exact ⟨hS.1, hS.2.1, belowN hS.2.2 1⟩ | exact keepH.out _ _ (by assumption) (fresh_b _ _) | exact keepH.out _ _ (by assumption) (belowN (fresh_b _ _) 1) | exact keepH.out w2 _ hS (belowN (fresh_b _ _) 1) | exact keepH.out _ _ (by assumption) (by assumption) | assumption)
        (fail)
      rename_i hHeld
      have hRx := hHeld.2.1
      have hBx := B2.trans (hHeld.2.2.mono B2.size)
      have hPx : ((w2.alloc (.cells #[.string A, .int .i64 a, .int .i64 b, .int .i64 c, .int .i64 d, .int .i64 f] 29)).drew.cell? ⟨w2.heap.size, 0, none⟩ = some (.string A) ∧ (w2.alloc (.cells #[.string A, .int .i64 a, .int .i64 b, .int .i64 c, .int .i64 d, .int .i64 f] 29)).drew.cell? ⟨w2.heap.size, 1, none⟩ = some (.int .i64 a) ∧ (w2.alloc (.cells #[.string A, .int .i64 a, .int .i64 b, .int .i64 c, .int .i64 d, .int .i64 f] 29)).drew.cell? ⟨w2.heap.size, 2, none⟩ = some (.int .i64 b) ∧ (w2.alloc (.cells #[.string A, .int .i64 a, .int .i64 b, .int .i64 c, .int .i64 d, .int .i64 f] 29)).drew.cell? ⟨w2.heap.size, 3, none⟩ = some (.int .i64 c) ∧ (w2.alloc (.cells #[.string A, .int .i64 a, .int .i64 b, .int .i64 c, .int .i64 d, .int .i64 f] 29)).drew.cell? ⟨w2.heap.size, 4, none⟩ = some (.int .i64 d) ∧ (w2.alloc (.cells #[.string A, .int .i64 a, .int .i64 b, .int .i64 c, .int .i64 d, .int .i64 f] 29)).drew.cell? ⟨w2.heap.size, 5, none⟩ = some (.int .i64 f)) := plk_bx A a b c d f w2 _ (belowN (Below.refl _ (w2.alloc (.cells #[.string A, .int .i64 a, .int .i64 b, .int .i64 c, .int .i64 d, .int .i64 f] 29))) 1)
      have hGx : w2.heap.size < (w2.alloc (.cells #[.string A, .int .i64 a, .int .i64 b, .int .i64 c, .int .i64 d, .int .i64 f] 29)).drew.heap.size := by simp
      clear hHeld hS keepH B2
      generalize (w2.alloc (.cells #[.string A, .int .i64 a, .int .i64 b, .int .i64 c, .int .i64 d, .int .i64 f] 29)).drew = w4 at hRx hBx hPx hGx ⊢
      generalize w2.heap.size = G at hPx hGx ⊢
      obtain ⟨x0, x1, x2, x3, x4, x5⟩ := hPx
      go_wp2_with fail
      refine (cV.out _).mono ?_
      rintro e w5 ⟨rfl, b5⟩
      have B2 := hBx.trans (b5.mono hBx.size)
      have hR5 := hRx.below b5
      have y0 := (b5.cell (p := ⟨G, 0, none⟩) hGx).trans x0
      have y1 := (b5.cell (p := ⟨G, 1, none⟩) hGx).trans x1
      have y2 := (b5.cell (p := ⟨G, 2, none⟩) hGx).trans x2
      have y3 := (b5.cell (p := ⟨G, 3, none⟩) hGx).trans x3
      have y4 := (b5.cell (p := ⟨G, 4, none⟩) hGx).trans x4
      have y5 := (b5.cell (p := ⟨G, 5, none⟩) hGx).trans x5
      clear x0 x1 x2 x3 x4 x5 b5 hRx hBx hGx
      obtain ⟨⟨c0, c1, c2, c3, c4, c5⟩, f0, f1, f2, f3, f4, f5⟩ := hR5.facts
      go_wp2
      exact bodyPost_ret (v := .tuple #[.agg #[.string ⟨#[]⟩, .int .i64 0, .int .i64 0, .int .i64 0, .int .i64 0, .int .i64 0], .bool false]) (by simp [results, Tryd.results9, go_sem, c0, c1, c2, c3, c4, c5, f0, f1, f2, f3, f4, f5]) rfl ⟨by rw [hr.out], ((((((B2.setCell (p := ⟨w.heap.size, 0, none⟩) (Nat.le_refl _) _).setCell (p := ⟨w.heap.size, 1, none⟩) (Nat.le_refl _) _).setCell (p := ⟨w.heap.size, 2, none⟩) (Nat.le_refl _) _).setCell (p := ⟨w.heap.size, 3, none⟩) (Nat.le_refl _) _).setCell (p := ⟨w.heap.size, 4, none⟩) (Nat.le_refl _) _).setCell (p := ⟨w.heap.size, 5, none⟩) (Nat.le_refl _) _)⟩
    · have hr : Hid (plkVal (plkO s.data.toList) = .tuple #[.agg #[.string A, .int .i64 a, .int .i64 b, .int .i64 c, .int .i64 d, .int .i64 f], .bool true]) := Lib.hid (by rw [hq2.out, if_pos hv]; rfl)
      rw [hv] at cV0
      have cV := Lib.hid cV0
      clear cV0
      clear hq2
      go_enter Tryd.func9, Tryd.ntmps9
      go_wp2_with fail
      refine cN.out.mono ?_
      rintro e w2 ⟨g, lcap, rfl, hlc, hg, hP, b2⟩
      have B2 := hf0.trans (b2.mono hf0.size)
      have hR2 := hR0.out.below b2
      clear b2 hf0
      have keep : ∀ W1 W2, ((W1.cell? ⟨g, 0, none⟩ = some (.int .i64 a) ∧ W1.cell? ⟨g, 1, none⟩ = some (.int .i64 b) ∧ W1.cell? ⟨g, 2, none⟩ = some (.int .i64 c) ∧ W1.cell? ⟨g, 3, none⟩ = some (.int .i64 d) ∧ W1.cell? ⟨g, 4, none⟩ = some (.int .i64 f)) ∧ (PlkRes W1 w.heap.size ∧ Below w2.heap.size w2 W1)) → Below W1.heap.size W1 W2 → ((W2.cell? ⟨g, 0, none⟩ = some (.int .i64 a) ∧ W2.cell? ⟨g, 1, none⟩ = some (.int .i64 b) ∧ W2.cell? ⟨g, 2, none⟩ = some (.int .i64 c) ∧ W2.cell? ⟨g, 3, none⟩ = some (.int .i64 d) ∧ W2.cell? ⟨g, 4, none⟩ = some (.int .i64 f)) ∧ (PlkRes W2 w.heap.size ∧ Below w2.heap.size w2 W2)) := fun W1 W2 h1 h2 => by
        obtain ⟨⟨p0, p1, p2, p3, p4⟩, hr, hb⟩ := h1
        have hl := Nat.lt_of_lt_of_le hg hb.size
        exact ⟨⟨(h2.cell hl).trans p0, (h2.cell hl).trans p1, (h2.cell hl).trans p2, (h2.cell hl).trans p3, (h2.cell hl).trans p4⟩, hr.below h2, hb.trans (h2.mono hb.size)⟩
      have keepH := Lib.hid keep
      have hS : ((w2.cell? ⟨g, 0, none⟩ = some (.int .i64 a) ∧ w2.cell? ⟨g, 1, none⟩ = some (.int .i64 b) ∧ w2.cell? ⟨g, 2, none⟩ = some (.int .i64 c) ∧ w2.cell? ⟨g, 3, none⟩ = some (.int .i64 d) ∧ w2.cell? ⟨g, 4, none⟩ = some (.int .i64 f)) ∧ (PlkRes w2 w.heap.size ∧ Below w2.heap.size w2 w2)) := ⟨hP, hR2, Below.refl _ _⟩
      clear keep hP hR2
      go_wp2
      go_region_held3 (fun w' => ((w'.cell? ⟨g, 0, none⟩ = some (.int .i64 a) ∧ w'.cell? ⟨g, 1, none⟩ = some (.int .i64 b) ∧ w'.cell? ⟨g, 2, none⟩ = some (.int .i64 c) ∧ w'.cell? ⟨g, 3, none⟩ = some (.int .i64 d) ∧ w'.cell? ⟨g, 4, none⟩ = some (.int .i64 f)) ∧ (PlkRes w' w.heap.size ∧ Below w2.heap.size w2 w')))
        (first | exact ⟨hS.1, hS.2.1, belowN hS.2.2 1⟩ | exact keepH.out _ _ (by assumption) (fresh_b _ _) | exact keepH.out _ _ (by assumption) (belowN (fresh_b _ _) 1) | exact keepH.out w2 _ hS (belowN (fresh_b _ _) 1) | exact keepH.out _ _ (by assumption) (by assumption) | assumption)
        (fail)
      rename_i hHeld
      have hRx := hHeld.2.1
      have hBx := B2.trans (hHeld.2.2.mono B2.size)
      have hPx : ((w2.alloc (.cells #[.string A, .int .i64 a, .int .i64 b, .int .i64 c, .int .i64 d, .int .i64 f] 29)).drew.cell? ⟨w2.heap.size, 0, none⟩ = some (.string A) ∧ (w2.alloc (.cells #[.string A, .int .i64 a, .int .i64 b, .int .i64 c, .int .i64 d, .int .i64 f] 29)).drew.cell? ⟨w2.heap.size, 1, none⟩ = some (.int .i64 a) ∧ (w2.alloc (.cells #[.string A, .int .i64 a, .int .i64 b, .int .i64 c, .int .i64 d, .int .i64 f] 29)).drew.cell? ⟨w2.heap.size, 2, none⟩ = some (.int .i64 b) ∧ (w2.alloc (.cells #[.string A, .int .i64 a, .int .i64 b, .int .i64 c, .int .i64 d, .int .i64 f] 29)).drew.cell? ⟨w2.heap.size, 3, none⟩ = some (.int .i64 c) ∧ (w2.alloc (.cells #[.string A, .int .i64 a, .int .i64 b, .int .i64 c, .int .i64 d, .int .i64 f] 29)).drew.cell? ⟨w2.heap.size, 4, none⟩ = some (.int .i64 d) ∧ (w2.alloc (.cells #[.string A, .int .i64 a, .int .i64 b, .int .i64 c, .int .i64 d, .int .i64 f] 29)).drew.cell? ⟨w2.heap.size, 5, none⟩ = some (.int .i64 f)) := plk_bx A a b c d f w2 _ (belowN (Below.refl _ (w2.alloc (.cells #[.string A, .int .i64 a, .int .i64 b, .int .i64 c, .int .i64 d, .int .i64 f] 29))) 1)
      have hGx : w2.heap.size < (w2.alloc (.cells #[.string A, .int .i64 a, .int .i64 b, .int .i64 c, .int .i64 d, .int .i64 f] 29)).drew.heap.size := by simp
      clear hHeld hS keepH B2
      generalize (w2.alloc (.cells #[.string A, .int .i64 a, .int .i64 b, .int .i64 c, .int .i64 d, .int .i64 f] 29)).drew = w4 at hRx hBx hPx hGx ⊢
      generalize w2.heap.size = G at hPx hGx ⊢
      obtain ⟨x0, x1, x2, x3, x4, x5⟩ := hPx
      go_wp2_with fail
      refine (cV.out _).mono ?_
      rintro e w5 ⟨rfl, b5⟩
      have B2 := hBx.trans (b5.mono hBx.size)
      have hR5 := hRx.below b5
      have y0 := (b5.cell (p := ⟨G, 0, none⟩) hGx).trans x0
      have y1 := (b5.cell (p := ⟨G, 1, none⟩) hGx).trans x1
      have y2 := (b5.cell (p := ⟨G, 2, none⟩) hGx).trans x2
      have y3 := (b5.cell (p := ⟨G, 3, none⟩) hGx).trans x3
      have y4 := (b5.cell (p := ⟨G, 4, none⟩) hGx).trans x4
      have y5 := (b5.cell (p := ⟨G, 5, none⟩) hGx).trans x5
      clear x0 x1 x2 x3 x4 x5 b5 hRx hBx hGx
      obtain ⟨⟨c0, c1, c2, c3, c4, c5⟩, f0, f1, f2, f3, f4, f5⟩ := hR5.facts
      go_wp2
      exact bodyPost_ret (v := .tuple #[.agg #[.string A, .int .i64 a, .int .i64 b, .int .i64 c, .int .i64 d, .int .i64 f], .bool true]) (by simp [results, Tryd.results9, go_sem, c0, c1, c2, c3, c4, c5, f0, f1, f2, f3, f4, f5]) rfl ⟨by rw [hr.out], ((((((B2.setCell (p := ⟨w.heap.size, 0, none⟩) (Nat.le_refl _) _).setCell (p := ⟨w.heap.size, 1, none⟩) (Nat.le_refl _) _).setCell (p := ⟨w.heap.size, 2, none⟩) (Nat.le_refl _) _).setCell (p := ⟨w.heap.size, 3, none⟩) (Nat.le_refl _) _).setCell (p := ⟨w.heap.size, 4, none⟩) (Nat.le_refl _) _).setCell (p := ⟨w.heap.size, 5, none⟩) (Nat.le_refl _) _)⟩
end Go.Proofs.YtfcdhjbnlokinaaDoor
