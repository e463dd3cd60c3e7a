/-
  Readers of Rib: the program's and the model's contracts.
-/
import Derived.Test.YtfcdhjbnlokinaaDoorRibT
namespace Go.Proofs.YtfcdhjbnlokinaaDoor
open Go.ChangeShapes Go.WideShapes Go.ChangeAt Go.RowKit
set_option linter.unusedVariables false
set_option linter.unusedSimpArgs false
set_option maxRecDepth 1000000
/-- the Rib with a text -/
def ribO (l : List UInt8) : Option Rib :=
  match namO l 2 with
  | some (p, [a, b]) => if ribB ⟨⟨p.toArray⟩, a, b⟩ = true then some ⟨⟨p.toArray⟩, a, b⟩ else none
  | _ => none
def ribVal (o : Option Rib) : Value :=
  match o with
  | none => .tuple #[.agg #[.string ⟨#[]⟩, .int .i64 0, .int .i64 0], .bool false]
  | some x => .tuple #[.agg #[.string x.id, .int .i64 x.len, .int .i64 x.hgt], .bool true]
theorem ribO_no {l : List UInt8} (h : namO l 2 = none) : ribO l = none := by unfold ribO; rw [h]
theorem ribO_yes {l p : List UInt8} {a b : Int} (h : namO l 2 = some (p, [a, b])) : ribO l = if ribB ⟨⟨p.toArray⟩, a, b⟩ = true then some ⟨⟨p.toArray⟩, a, b⟩ else none := by unfold ribO; rw [h]
/-- the block of a result -/
def RibRes (w : World) (g : Nat) : Prop := w.heap[g]? = some (.cells #[.string ⟨#[]⟩, .int .i64 0, .int .i64 0] 23 (0, 0))
theorem RibRes.facts {w : World} {g : Nat} (h : RibRes w g) : (w.cell? ⟨g, 0, none⟩ = some (.string ⟨#[]⟩) ∧ w.cell? ⟨g, 1, none⟩ = some (.int .i64 0) ∧ w.cell? ⟨g, 2, none⟩ = some (.int .i64 0)) ∧ (w.frozen? ⟨g, 0, none⟩ = false ∧ w.frozen? ⟨g, 1, none⟩ = false ∧ w.frozen? ⟨g, 2, none⟩ = false) :=
  ⟨⟨cellB h 0 _ rfl, cellB h 1 _ rfl, cellB h 2 _ rfl⟩, freeB h 0, freeB h 1, freeB h 2⟩
theorem RibRes.below {w w' : World} {g : Nat} (h : RibRes w g) (hb : Below w.heap.size w w') : RibRes w' g := by
  have hl : g < w.heap.size := (Array.getElem?_eq_some_iff.1 h).1
  exact (hb.block g hl).trans h
theorem RibRes.start (w : World) : RibRes (w.alloc (.cells #[.string ⟨#[]⟩, .int .i64 0, .int .i64 0] 23)) w.heap.size := heap_alloc_new _ _
theorem rib_row {w : World} {B : Nat} {v : Value} {a b : Int} (h : w.ownsRow B 2 1 v ([a, b] : List Int).length (([a, b] : List Int).map encI)) : ∃ g cap, v = .slice (some ⟨g, 0, none⟩) 2 cap ∧ 2 ≤ cap ∧ g < w.heap.size ∧ (w.cell? ⟨g, 0, none⟩ = some (.int .i64 a) ∧ w.cell? ⟨g, 1, none⟩ = some (.int .i64 b)) := by
  have h0 := h
  rcases h.2 with ⟨h1, h2⟩ | ⟨g, cap, cur, hv, hg, hb, hn, hcap, _, _⟩
  · simp at h2
  · subst hv
    exact ⟨g, cap, rfl, hn, (h0.lt g rfl).2, by rw [h0.cellAt 0 (by simp)]; rfl, by rw [h0.cellAt 1 (by simp)]; rfl⟩
theorem rib_seven {Z : List Int} (h : Z.length = 2) : ∃ a b, Z = [a, b] := by
  match Z, h with
  | [a, b], _ => exact ⟨a, b, rfl⟩
set_option maxHeartbeats 3200000 in
theorem implReadRib_any (s : ByteArray) (w : World) (hs : s.size ≤ 1048576) (hT : TabP w) (hE : ErrsAt w) (hSh : w.ShapedOpen Tryd.prog) :
    Calls Tryd.prog 6 #[.string s] w fun e w' => e = .returned (ribVal (ribO s.data.toList)) ∧ Below w.heap.size w w' := by
  have hf0 := fresh_b w (.cells #[.string ⟨#[]⟩, .int .i64 0, .int .i64 0] 23)
  have hR0 := Lib.hid (RibRes.start w)
  have cN0 : Calls Tryd.prog 12 #[.string s, .int .i64 ((2 : Nat) : Int)] (w.alloc (.cells #[.string ⟨#[]⟩, .int .i64 0, .int .i64 0] 23)) (NamRet (namO s.data.toList 2) (w.alloc (.cells #[.string ⟨#[]⟩, .int .i64 0, .int .i64 0] 23))) := readNamed_any s 2 (by decide) _ hs (hT.below hf0) (hE.below hf0) (shape_below hSh hf0)
  cases ho : namO s.data.toList 2 with
  | none =>
    have hr : Hid (ribVal (ribO s.data.toList) = .tuple #[.agg #[.string ⟨#[]⟩, .int .i64 0, .int .i64 0], .bool false]) := Lib.hid (by rw [ribO_no ho]; rfl)
    rw [ho] at cN0
    have cN : Hid (Calls Tryd.prog 12 #[.string s, .int .i64 2] (w.alloc (.cells #[.string ⟨#[]⟩, .int .i64 0, .int .i64 0] 23)) fun e w' => ∃ t v, e = .returned (.tuple #[.string t, v, .bool false]) ∧ Below (w.alloc (.cells #[.string ⟨#[]⟩, .int .i64 0, .int .i64 0] 23)).heap.size (w.alloc (.cells #[.string ⟨#[]⟩, .int .i64 0, .int .i64 0] 23)) w') := Lib.hid cN0
    clear cN0 ho
    go_enter Tryd.func6, Tryd.ntmps6
    go_wp2_with fail
    refine cN.out.mono ?_
    rintro e w2 ⟨nt, nv, rfl, b2⟩
    have B2 := hf0.trans (b2.mono hf0.size)
    have hR2 := hR0.out.below b2
    clear b2 hf0
    obtain ⟨⟨c0, c1, c2⟩, f0, f1, f2⟩ := hR2.facts
    go_wp2
    exact bodyPost_ret (v := .tuple #[.agg #[.string ⟨#[]⟩, .int .i64 0, .int .i64 0], .bool false]) (by simp [results, Tryd.results6, go_sem, c0, c1, c2, f0, f1, f2]) rfl ⟨by rw [hr.out], (((B2.setCell (p := ⟨w.heap.size, 0, none⟩) (Nat.le_refl _) _).setCell (p := ⟨w.heap.size, 1, none⟩) (Nat.le_refl _) _).setCell (p := ⟨w.heap.size, 2, none⟩) (Nat.le_refl _) _)⟩
  | some x =>
    obtain ⟨p, Z⟩ := x
    obtain ⟨a, b, rfl⟩ := rib_seven (namO_len ho)
    have hpl := namO_id ho
    rw [len_data] at hpl
    obtain ⟨A, hA⟩ : ∃ A : ByteArray, A = ⟨p.toArray⟩ := ⟨_, rfl⟩
    have hAm : A.size ≤ maxLen := by unfold maxLen; rw [← len_data, hA]; show p.length ≤ _; omega
    have hq2 : Hid (ribO s.data.toList = if ribB ⟨A, a, b⟩ = true then some ⟨A, a, b⟩ else none) := Lib.hid (by rw [ribO_yes ho, hA])
    rw [ho] at cN0
    have cN : Hid (Calls Tryd.prog 12 #[.string s, .int .i64 2] (w.alloc (.cells #[.string ⟨#[]⟩, .int .i64 0, .int .i64 0] 23)) fun e w' => ∃ g cap, e = .returned (.tuple #[.string A, .slice (some ⟨g, 0, none⟩) 2 cap, .bool true]) ∧ 2 ≤ cap ∧ g < w'.heap.size ∧ (w'.cell? ⟨g, 0, none⟩ = some (.int .i64 a) ∧ w'.cell? ⟨g, 1, none⟩ = some (.int .i64 b)) ∧ Below (w.alloc (.cells #[.string ⟨#[]⟩, .int .i64 0, .int .i64 0] 23)).heap.size (w.alloc (.cells #[.string ⟨#[]⟩, .int .i64 0, .int .i64 0] 23)) w') := Lib.hid (cN0.mono fun e w' h => by
      obtain ⟨v, he, hown, hb⟩ := h
      obtain ⟨g, cap, rfl, k1, k2, k3⟩ := rib_row hown
      exact ⟨g, cap, by rw [hA]; exact he, k1, k2, k3, hb⟩)
    have cV0 : ∀ W, Calls Tryd.prog 13 #[.agg #[.string A, .int .i64 a, .int .i64 b]] W fun e w' => e = .returned (.bool (ribB ⟨A, a, b⟩)) ∧ Below W.heap.size W w' := fun W => isValidRib_any A a b hAm W
    clear cN0 ho hA hpl
    cases hv : ribB ⟨A, a, b⟩
    · have hr : Hid (ribVal (ribO s.data.toList) = .tuple #[.agg #[.string ⟨#[]⟩, .int .i64 0, .int .i64 0], .bool false]) := Lib.hid (by rw [hq2.out, hv]; rfl)
      rw [hv] at cV0
      have cV := Lib.hid cV0
      clear cV0
      clear hq2
      go_enter Tryd.func6, Tryd.ntmps6
      go_wp2_with fail
      refine cN.out.mono ?_
      rintro e w2 ⟨g, lcap, rfl, hlc, hg, hP, b2⟩
      have B2 := hf0.trans (b2.mono hf0.size)
      have hR2 := hR0.out.below b2
      clear b2 hf0
      have keep : ∀ W1 W2, ((W1.cell? ⟨g, 0, none⟩ = some (.int .i64 a) ∧ W1.cell? ⟨g, 1, none⟩ = some (.int .i64 b)) ∧ (RibRes W1 w.heap.size ∧ Below w2.heap.size w2 W1)) → Below W1.heap.size W1 W2 → ((W2.cell? ⟨g, 0, none⟩ = some (.int .i64 a) ∧ W2.cell? ⟨g, 1, none⟩ = some (.int .i64 b)) ∧ (RibRes W2 w.heap.size ∧ Below w2.heap.size w2 W2)) := fun W1 W2 h1 h2 => by
        obtain ⟨⟨p0, p1⟩, hr, hb⟩ := h1
        have hl := Nat.lt_of_lt_of_le hg hb.size
        exact ⟨⟨(h2.cell hl).trans p0, (h2.cell hl).trans p1⟩, hr.below h2, hb.trans (h2.mono hb.size)⟩
      have keepH := Lib.hid keep
      have hS : ((w2.cell? ⟨g, 0, none⟩ = some (.int .i64 a) ∧ w2.cell? ⟨g, 1, none⟩ = some (.int .i64 b)) ∧ (RibRes w2 w.heap.size ∧ Below w2.heap.size w2 w2)) := ⟨hP, hR2, Below.refl _ _⟩
      clear keep hP hR2
      go_wp2
      go_region_held3 (fun w' => ((w'.cell? ⟨g, 0, none⟩ = some (.int .i64 a) ∧ w'.cell? ⟨g, 1, none⟩ = some (.int .i64 b)) ∧ (RibRes w' w.heap.size ∧ Below w2.heap.size w2 w')))
        (first | exact ⟨hS.1, hS.2.1, belowN hS.2.2 1⟩ | exact keepH.out _ _ (by assumption) (fresh_b _ _) | exact keepH.out _ _ (by assumption) (belowN (fresh_b _ _) 1) | exact keepH.out w2 _ hS (belowN (fresh_b _ _) 1) | exact keepH.out _ _ (by assumption) (by assumption) | assumption)
        (fail)
      rename_i hHeld
      have hRx := hHeld.2.1
      have hBx := B2.trans (hHeld.2.2.mono B2.size)
      have hPx : ((w2.alloc (.cells #[.string A, .int .i64 a, .int .i64 b] 23)).drew.cell? ⟨w2.heap.size, 0, none⟩ = some (.string A) ∧ (w2.alloc (.cells #[.string A, .int .i64 a, .int .i64 b] 23)).drew.cell? ⟨w2.heap.size, 1, none⟩ = some (.int .i64 a) ∧ (w2.alloc (.cells #[.string A, .int .i64 a, .int .i64 b] 23)).drew.cell? ⟨w2.heap.size, 2, none⟩ = some (.int .i64 b)) := rib_bx A a b w2 _ (belowN (Below.refl _ (w2.alloc (.cells #[.string A, .int .i64 a, .int .i64 b] 23))) 1)
      have hGx : w2.heap.size < (w2.alloc (.cells #[.string A, .int .i64 a, .int .i64 b] 23)).drew.heap.size := by simp
      clear hHeld hS keepH B2
      generalize (w2.alloc (.cells #[.string A, .int .i64 a, .int .i64 b] 23)).drew = w4 at hRx hBx hPx hGx ⊢
      generalize w2.heap.size = G at hPx hGx ⊢
      obtain ⟨x0, x1, x2⟩ := hPx
      go_wp2_with fail
      refine (cV.out _).mono ?_
      rintro e w5 ⟨rfl, b5⟩
      have B2 := hBx.trans (b5.mono hBx.size)
      have hR5 := hRx.below b5
      have y0 := (b5.cell (p := ⟨G, 0, none⟩) hGx).trans x0
      have y1 := (b5.cell (p := ⟨G, 1, none⟩) hGx).trans x1
      have y2 := (b5.cell (p := ⟨G, 2, none⟩) hGx).trans x2
      clear x0 x1 x2 b5 hRx hBx hGx
      obtain ⟨⟨c0, c1, c2⟩, f0, f1, f2⟩ := hR5.facts
      go_wp2
      exact bodyPost_ret (v := .tuple #[.agg #[.string ⟨#[]⟩, .int .i64 0, .int .i64 0], .bool false]) (by simp [results, Tryd.results6, go_sem, c0, c1, c2, f0, f1, f2]) rfl ⟨by rw [hr.out], (((B2.setCell (p := ⟨w.heap.size, 0, none⟩) (Nat.le_refl _) _).setCell (p := ⟨w.heap.size, 1, none⟩) (Nat.le_refl _) _).setCell (p := ⟨w.heap.size, 2, none⟩) (Nat.le_refl _) _)⟩
    · have hr : Hid (ribVal (ribO s.data.toList) = .tuple #[.agg #[.string A, .int .i64 a, .int .i64 b], .bool true]) := Lib.hid (by rw [hq2.out, if_pos hv]; rfl)
      rw [hv] at cV0
      have cV := Lib.hid cV0
      clear cV0
      clear hq2
      go_enter Tryd.func6, Tryd.ntmps6
      go_wp2_with fail
      refine cN.out.mono ?_
      rintro e w2 ⟨g, lcap, rfl, hlc, hg, hP, b2⟩
      have B2 := hf0.trans (b2.mono hf0.size)
      have hR2 := hR0.out.below b2
      clear b2 hf0
      have keep : ∀ W1 W2, ((W1.cell? ⟨g, 0, none⟩ = some (.int .i64 a) ∧ W1.cell? ⟨g, 1, none⟩ = some (.int .i64 b)) ∧ (RibRes W1 w.heap.size ∧ Below w2.heap.size w2 W1)) → Below W1.heap.size W1 W2 → ((W2.cell? ⟨g, 0, none⟩ = some (.int .i64 a) ∧ W2.cell? ⟨g, 1, none⟩ = some (.int .i64 b)) ∧ (RibRes W2 w.heap.size ∧ Below w2.heap.size w2 W2)) := fun W1 W2 h1 h2 => by
        obtain ⟨⟨p0, p1⟩, hr, hb⟩ := h1
        have hl := Nat.lt_of_lt_of_le hg hb.size
        exact ⟨⟨(h2.cell hl).trans p0, (h2.cell hl).trans p1⟩, hr.below h2, hb.trans (h2.mono hb.size)⟩
      have keepH := Lib.hid keep
      have hS : ((w2.cell? ⟨g, 0, none⟩ = some (.int .i64 a) ∧ w2.cell? ⟨g, 1, none⟩ = some (.int .i64 b)) ∧ (RibRes w2 w.heap.size ∧ Below w2.heap.size w2 w2)) := ⟨hP, hR2, Below.refl _ _⟩
      clear keep hP hR2
      go_wp2
      go_region_held3 (fun w' => ((w'.cell? ⟨g, 0, none⟩ = some (.int .i64 a) ∧ w'.cell? ⟨g, 1, none⟩ = some (.int .i64 b)) ∧ (RibRes w' w.heap.size ∧ Below w2.heap.size w2 w')))
        (first | exact ⟨hS.1, hS.2.1, belowN hS.2.2 1⟩ | exact keepH.out _ _ (by assumption) (fresh_b _ _) | exact keepH.out _ _ (by assumption) (belowN (fresh_b _ _) 1) | exact keepH.out w2 _ hS (belowN (fresh_b _ _) 1) | exact keepH.out _ _ (by assumption) (by assumption) | assumption)
        (fail)
      rename_i hHeld
      have hRx := hHeld.2.1
      have hBx := B2.trans (hHeld.2.2.mono B2.size)
      have hPx : ((w2.alloc (.cells #[.string A, .int .i64 a, .int .i64 b] 23)).drew.cell? ⟨w2.heap.size, 0, none⟩ = some (.string A) ∧ (w2.alloc (.cells #[.string A, .int .i64 a, .int .i64 b] 23)).drew.cell? ⟨w2.heap.size, 1, none⟩ = some (.int .i64 a) ∧ (w2.alloc (.cells #[.string A, .int .i64 a, .int .i64 b] 23)).drew.cell? ⟨w2.heap.size, 2, none⟩ = some (.int .i64 b)) := rib_bx A a b w2 _ (belowN (Below.refl _ (w2.alloc (.cells #[.string A, .int .i64 a, .int .i64 b] 23))) 1)
      have hGx : w2.heap.size < (w2.alloc (.cells #[.string A, .int .i64 a, .int .i64 b] 23)).drew.heap.size := by simp
      clear hHeld hS keepH B2
      generalize (w2.alloc (.cells #[.string A, .int .i64 a, .int .i64 b] 23)).drew = w4 at hRx hBx hPx hGx ⊢
      generalize w2.heap.size = G at hPx hGx ⊢
      obtain ⟨x0, x1, x2⟩ := hPx
      go_wp2_with fail
      refine (cV.out _).mono ?_
      rintro e w5 ⟨rfl, b5⟩
      have B2 := hBx.trans (b5.mono hBx.size)
      have hR5 := hRx.below b5
      have y0 := (b5.cell (p := ⟨G, 0, none⟩) hGx).trans x0
      have y1 := (b5.cell (p := ⟨G, 1, none⟩) hGx).trans x1
      have y2 := (b5.cell (p := ⟨G, 2, none⟩) hGx).trans x2
      clear x0 x1 x2 b5 hRx hBx hGx
      obtain ⟨⟨c0, c1, c2⟩, f0, f1, f2⟩ := hR5.facts
      go_wp2
      exact bodyPost_ret (v := .tuple #[.agg #[.string A, .int .i64 a, .int .i64 b], .bool true]) (by simp [results, Tryd.results6, go_sem, c0, c1, c2, f0, f1, f2]) rfl ⟨by rw [hr.out], (((B2.setCell (p := ⟨w.heap.size, 0, none⟩) (Nat.le_refl _) _).setCell (p := ⟨w.heap.size, 1, none⟩) (Nat.le_refl _) _).setCell (p := ⟨w.heap.size, 2, none⟩) (Nat.le_refl _) _)⟩
set_option maxHeartbeats 3200000 in
theorem l06Read_any (s : ByteArray) (w : World) (hs : s.size ≤ 1048576)  :
    Calls Tryd.prog 11 #[.string s] w fun e w' => e = .returned (ribVal (ribO s.data.toList)) ∧ Below w.heap.size w w' := by
  have hf0 := fresh_b w (.cells #[.string ⟨#[]⟩, .int .i64 0, .int .i64 0] 23)
  have hR0 := Lib.hid (RibRes.start w)
  have cN0 : Calls Tryd.prog 18 #[.string s, .int .i64 ((2 : Nat) : Int)] (w.alloc (.cells #[.string ⟨#[]⟩, .int .i64 0, .int .i64 0] 23)) (NamRet (namO s.data.toList 2) (w.alloc (.cells #[.string ⟨#[]⟩, .int .i64 0, .int .i64 0] 23))) := l06Two_any s 2 (by decide) _ hs
  cases ho : namO s.data.toList 2 with
  | none =>
    have hr : Hid (ribVal (ribO s.data.toList) = .tuple #[.agg #[.string ⟨#[]⟩, .int .i64 0, .int .i64 0], .bool false]) := Lib.hid (by rw [ribO_no ho]; rfl)
    rw [ho] at cN0
    have cN : Hid (Calls Tryd.prog 18 #[.string s, .int .i64 2] (w.alloc (.cells #[.string ⟨#[]⟩, .int .i64 0, .int .i64 0] 23)) fun e w' => ∃ t v, e = .returned (.tuple #[.string t, v, .bool false]) ∧ Below (w.alloc (.cells #[.string ⟨#[]⟩, .int .i64 0, .int .i64 0] 23)).heap.size (w.alloc (.cells #[.string ⟨#[]⟩, .int .i64 0, .int .i64 0] 23)) w') := Lib.hid cN0
    clear cN0 ho
    go_enter Tryd.func11, Tryd.ntmps11
    go_wp2_with fail
    refine cN.out.mono ?_
    rintro e w2 ⟨nt, nv, rfl, b2⟩
    have B2 := hf0.trans (b2.mono hf0.size)
    have hR2 := hR0.out.below b2
    clear b2 hf0
    obtain ⟨⟨c0, c1, c2⟩, f0, f1, f2⟩ := hR2.facts
    go_wp2
    exact bodyPost_ret (v := .tuple #[.agg #[.string ⟨#[]⟩, .int .i64 0, .int .i64 0], .bool false]) (by simp [results, Tryd.results11, go_sem, c0, c1, c2, f0, f1, f2]) rfl ⟨by rw [hr.out], (((B2.setCell (p := ⟨w.heap.size, 0, none⟩) (Nat.le_refl _) _).setCell (p := ⟨w.heap.size, 1, none⟩) (Nat.le_refl _) _).setCell (p := ⟨w.heap.size, 2, none⟩) (Nat.le_refl _) _)⟩
  | some x =>
    obtain ⟨p, Z⟩ := x
    obtain ⟨a, b, rfl⟩ := rib_seven (namO_len ho)
    have hpl := namO_id ho
    rw [len_data] at hpl
    obtain ⟨A, hA⟩ : ∃ A : ByteArray, A = ⟨p.toArray⟩ := ⟨_, rfl⟩
    have hAm : A.size ≤ maxLen := by unfold maxLen; rw [← len_data, hA]; show p.length ≤ _; omega
    have hq2 : Hid (ribO s.data.toList = if ribB ⟨A, a, b⟩ = true then some ⟨A, a, b⟩ else none) := Lib.hid (by rw [ribO_yes ho, hA])
    rw [ho] at cN0
    have cN : Hid (Calls Tryd.prog 18 #[.string s, .int .i64 2] (w.alloc (.cells #[.string ⟨#[]⟩, .int .i64 0, .int .i64 0] 23)) fun e w' => ∃ g cap, e = .returned (.tuple #[.string A, .slice (some ⟨g, 0, none⟩) 2 cap, .bool true]) ∧ 2 ≤ cap ∧ g < w'.heap.size ∧ (w'.cell? ⟨g, 0, none⟩ = some (.int .i64 a) ∧ w'.cell? ⟨g, 1, none⟩ = some (.int .i64 b)) ∧ Below (w.alloc (.cells #[.string ⟨#[]⟩, .int .i64 0, .int .i64 0] 23)).heap.size (w.alloc (.cells #[.string ⟨#[]⟩, .int .i64 0, .int .i64 0] 23)) w') := Lib.hid (cN0.mono fun e w' h => by
      obtain ⟨v, he, hown, hb⟩ := h
      obtain ⟨g, cap, rfl, k1, k2, k3⟩ := rib_row hown
      exact ⟨g, cap, by rw [hA]; exact he, k1, k2, k3, hb⟩)
    clear cN0 ho hA hpl
    cases hv : ribB ⟨A, a, b⟩
    · have hr : Hid (ribVal (ribO s.data.toList) = .tuple #[.agg #[.string ⟨#[]⟩, .int .i64 0, .int .i64 0], .bool false]) := Lib.hid (by rw [hq2.out, hv]; rfl)
      clear hq2
      go_enter Tryd.func11, Tryd.ntmps11
      go_wp2_with fail
      refine cN.out.mono ?_
      rintro e w2 ⟨g, lcap, rfl, hlc, hg, hP, b2⟩
      have B2 := hf0.trans (b2.mono hf0.size)
      have hR2 := hR0.out.below b2
      clear b2 hf0
      have keep : ∀ W1 W2, ((W1.cell? ⟨g, 0, none⟩ = some (.int .i64 a) ∧ W1.cell? ⟨g, 1, none⟩ = some (.int .i64 b)) ∧ (RibRes W1 w.heap.size ∧ Below w2.heap.size w2 W1)) → Below W1.heap.size W1 W2 → ((W2.cell? ⟨g, 0, none⟩ = some (.int .i64 a) ∧ W2.cell? ⟨g, 1, none⟩ = some (.int .i64 b)) ∧ (RibRes W2 w.heap.size ∧ Below w2.heap.size w2 W2)) := fun W1 W2 h1 h2 => by
        obtain ⟨⟨p0, p1⟩, hr, hb⟩ := h1
        have hl := Nat.lt_of_lt_of_le hg hb.size
        exact ⟨⟨(h2.cell hl).trans p0, (h2.cell hl).trans p1⟩, hr.below h2, hb.trans (h2.mono hb.size)⟩
      have keepH := Lib.hid keep
      have hS : ((w2.cell? ⟨g, 0, none⟩ = some (.int .i64 a) ∧ w2.cell? ⟨g, 1, none⟩ = some (.int .i64 b)) ∧ (RibRes w2 w.heap.size ∧ Below w2.heap.size w2 w2)) := ⟨hP, hR2, Below.refl _ _⟩
      clear keep hP hR2
      go_wp2
      go_region_held3 (fun w' => ((w'.cell? ⟨g, 0, none⟩ = some (.int .i64 a) ∧ w'.cell? ⟨g, 1, none⟩ = some (.int .i64 b)) ∧ (RibRes w' w.heap.size ∧ Below w2.heap.size w2 w')))
        (first | exact ⟨hS.1, hS.2.1, belowN hS.2.2 1⟩ | exact keepH.out _ _ (by assumption) (fresh_b _ _) | exact keepH.out _ _ (by assumption) (belowN (fresh_b _ _) 1) | exact keepH.out w2 _ hS (belowN (fresh_b _ _) 1) | exact keepH.out _ _ (by assumption) (by assumption) | assumption)
        (fail)
      rename_i hHeld
      have hRx := hHeld.2.1
      have hBx := B2.trans (hHeld.2.2.mono B2.size)
      have hPx : ((w2.alloc (.cells #[.string A, .int .i64 a, .int .i64 b] 23)).drew.cell? ⟨w2.heap.size, 0, none⟩ = some (.string A) ∧ (w2.alloc (.cells #[.string A, .int .i64 a, .int .i64 b] 23)).drew.cell? ⟨w2.heap.size, 1, none⟩ = some (.int .i64 a) ∧ (w2.alloc (.cells #[.string A, .int .i64 a, .int .i64 b] 23)).drew.cell? ⟨w2.heap.size, 2, none⟩ = some (.int .i64 b)) := rib_bx A a b w2 _ (belowN (Below.refl _ (w2.alloc (.cells #[.string A, .int .i64 a, .int .i64 b] 23))) 1)
      have hGx : w2.heap.size < (w2.alloc (.cells #[.string A, .int .i64 a, .int .i64 b] 23)).drew.heap.size := by simp
      clear hHeld hS keepH B2
      generalize (w2.alloc (.cells #[.string A, .int .i64 a, .int .i64 b] 23)).drew = w4 at hRx hBx hPx hGx ⊢
      generalize w2.heap.size = G at hPx hGx ⊢
      have hat : RibAt w4 G 0 ⟨A, a, b⟩ := hPx
      have cO := l06One_any A a b hAm w4 G 0 hat
      rw [hv] at cO
      have cO' := Lib.hid cO
      clear hat cO
      obtain ⟨y0, y1, y2⟩ := hPx
      go_wp2_with fail
      refine cO'.out.mono ?_
      rintro e _ ⟨rfl, rfl⟩
      have B2 := hBx
      obtain ⟨⟨c0, c1, c2⟩, f0, f1, f2⟩ := hRx.facts
      clear hBx hRx
      go_wp2
      exact bodyPost_ret (v := .tuple #[.agg #[.string ⟨#[]⟩, .int .i64 0, .int .i64 0], .bool false]) (by simp [results, Tryd.results11, go_sem, c0, c1, c2, f0, f1, f2]) rfl ⟨by rw [hr.out], (((B2.setCell (p := ⟨w.heap.size, 0, none⟩) (Nat.le_refl _) _).setCell (p := ⟨w.heap.size, 1, none⟩) (Nat.le_refl _) _).setCell (p := ⟨w.heap.size, 2, none⟩) (Nat.le_refl _) _)⟩
    · have hr : Hid (ribVal (ribO s.data.toList) = .tuple #[.agg #[.string A, .int .i64 a, .int .i64 b], .bool true]) := Lib.hid (by rw [hq2.out, if_pos hv]; rfl)
      clear hq2
      go_enter Tryd.func11, Tryd.ntmps11
      go_wp2_with fail
      refine cN.out.mono ?_
      rintro e w2 ⟨g, lcap, rfl, hlc, hg, hP, b2⟩
      have B2 := hf0.trans (b2.mono hf0.size)
      have hR2 := hR0.out.below b2
      clear b2 hf0
      have keep : ∀ W1 W2, ((W1.cell? ⟨g, 0, none⟩ = some (.int .i64 a) ∧ W1.cell? ⟨g, 1, none⟩ = some (.int .i64 b)) ∧ (RibRes W1 w.heap.size ∧ Below w2.heap.size w2 W1)) → Below W1.heap.size W1 W2 → ((W2.cell? ⟨g, 0, none⟩ = some (.int .i64 a) ∧ W2.cell? ⟨g, 1, none⟩ = some (.int .i64 b)) ∧ (RibRes W2 w.heap.size ∧ Below w2.heap.size w2 W2)) := fun W1 W2 h1 h2 => by
        obtain ⟨⟨p0, p1⟩, hr, hb⟩ := h1
        have hl := Nat.lt_of_lt_of_le hg hb.size
        exact ⟨⟨(h2.cell hl).trans p0, (h2.cell hl).trans p1⟩, hr.below h2, hb.trans (h2.mono hb.size)⟩
      have keepH := Lib.hid keep
      have hS : ((w2.cell? ⟨g, 0, none⟩ = some (.int .i64 a) ∧ w2.cell? ⟨g, 1, none⟩ = some (.int .i64 b)) ∧ (RibRes w2 w.heap.size ∧ Below w2.heap.size w2 w2)) := ⟨hP, hR2, Below.refl _ _⟩
      clear keep hP hR2
      go_wp2
      go_region_held3 (fun w' => ((w'.cell? ⟨g, 0, none⟩ = some (.int .i64 a) ∧ w'.cell? ⟨g, 1, none⟩ = some (.int .i64 b)) ∧ (RibRes w' w.heap.size ∧ Below w2.heap.size w2 w')))
        (first | exact ⟨hS.1, hS.2.1, belowN hS.2.2 1⟩ | exact keepH.out _ _ (by assumption) (fresh_b _ _) | exact keepH.out _ _ (by assumption) (belowN (fresh_b _ _) 1) | exact keepH.out w2 _ hS (belowN (fresh_b _ _) 1) | exact keepH.out _ _ (by assumption) (by assumption) | assumption)
        (fail)
      rename_i hHeld
      have hRx := hHeld.2.1
      have hBx := B2.trans (hHeld.2.2.mono B2.size)
      have hPx : ((w2.alloc (.cells #[.string A, .int .i64 a, .int .i64 b] 23)).drew.cell? ⟨w2.heap.size, 0, none⟩ = some (.string A) ∧ (w2.alloc (.cells #[.string A, .int .i64 a, .int .i64 b] 23)).drew.cell? ⟨w2.heap.size, 1, none⟩ = some (.int .i64 a) ∧ (w2.alloc (.cells #[.string A, .int .i64 a, .int .i64 b] 23)).drew.cell? ⟨w2.heap.size, 2, none⟩ = some (.int .i64 b)) := rib_bx A a b w2 _ (belowN (Below.refl _ (w2.alloc (.cells #[.string A, .int .i64 a, .int .i64 b] 23))) 1)
      have hGx : w2.heap.size < (w2.alloc (.cells #[.string A, .int .i64 a, .int .i64 b] 23)).drew.heap.size := by simp
      clear hHeld hS keepH B2
      generalize (w2.alloc (.cells #[.string A, .int .i64 a, .int .i64 b] 23)).drew = w4 at hRx hBx hPx hGx ⊢
      generalize w2.heap.size = G at hPx hGx ⊢
      have hat : RibAt w4 G 0 ⟨A, a, b⟩ := hPx
      have cO := l06One_any A a b hAm w4 G 0 hat
      rw [hv] at cO
      have cO' := Lib.hid cO
      clear hat cO
      obtain ⟨y0, y1, y2⟩ := hPx
      go_wp2_with fail
      refine cO'.out.mono ?_
      rintro e _ ⟨rfl, rfl⟩
      have B2 := hBx
      obtain ⟨⟨c0, c1, c2⟩, f0, f1, f2⟩ := hRx.facts
      clear hBx hRx
      go_wp2
      exact bodyPost_ret (v := .tuple #[.agg #[.string A, .int .i64 a, .int .i64 b], .bool true]) (by simp [results, Tryd.results11, go_sem, c0, c1, c2, f0, f1, f2]) rfl ⟨by rw [hr.out], (((B2.setCell (p := ⟨w.heap.size, 0, none⟩) (Nat.le_refl _) _).setCell (p := ⟨w.heap.size, 1, none⟩) (Nat.le_refl _) _).setCell (p := ⟨w.heap.size, 2, none⟩) (Nat.le_refl _) _)⟩
set_option maxHeartbeats 1600000 in
theorem specReadRib_any (s : ByteArray) (w : World) (hs : s.size ≤ 1048576) :
    Calls Tryd.prog 5 #[.string s] w fun e w' => e = .returned (ribVal (ribO s.data.toList)) ∧ Below w.heap.size w w' := by
  have hf0 := fresh_b w (.cells #[.string ⟨#[]⟩, .int .i64 0, .int .i64 0] 23)
  have hR0 := Lib.hid (RibRes.start w)
  have cN0 := l06Read_any s (w.alloc (.cells #[.string ⟨#[]⟩, .int .i64 0, .int .i64 0] 23)) hs
  cases ho : ribO s.data.toList with
  | none =>
    rw [ho] at cN0
    have hr : Hid (ribVal none = .tuple #[.agg #[.string ⟨#[]⟩, .int .i64 0, .int .i64 0], .bool false]) := Lib.hid rfl
    have cN : Hid (Calls Tryd.prog 11 #[.string s] (w.alloc (.cells #[.string ⟨#[]⟩, .int .i64 0, .int .i64 0] 23)) fun e w' => e = .returned (.tuple #[.agg #[.string ⟨#[]⟩, .int .i64 0, .int .i64 0], .bool false]) ∧ Below (w.alloc (.cells #[.string ⟨#[]⟩, .int .i64 0, .int .i64 0] 23)).heap.size (w.alloc (.cells #[.string ⟨#[]⟩, .int .i64 0, .int .i64 0] 23)) w') := Lib.hid cN0
    clear cN0 ho
    go_enter Tryd.func5, Tryd.ntmps5
    go_wp2_with fail
    refine cN.out.mono ?_
    rintro e w2 ⟨rfl, b2⟩
    have B2 := hf0.trans (b2.mono hf0.size)
    have hR2 := hR0.out.below b2
    clear b2 hf0
    obtain ⟨⟨c0, c1, c2⟩, f0, f1, f2⟩ := hR2.facts
    go_wp2
    exact bodyPost_ret (v := .tuple #[.agg #[.string ⟨#[]⟩, .int .i64 0, .int .i64 0], .bool false]) (by simp [results, Tryd.results5, go_sem, c0, c1, c2, f0, f1, f2]) rfl ⟨by rw [hr.out], (((B2.setCell (p := ⟨w.heap.size, 0, none⟩) (Nat.le_refl _) _).setCell (p := ⟨w.heap.size, 1, none⟩) (Nat.le_refl _) _).setCell (p := ⟨w.heap.size, 2, none⟩) (Nat.le_refl _) _)⟩
  | some x =>
    obtain ⟨A, a, b⟩ := x
    rw [ho] at cN0
    have hr : Hid (ribVal (some ⟨A, a, b⟩) = .tuple #[.agg #[.string A, .int .i64 a, .int .i64 b], .bool true]) := Lib.hid rfl
    have cN : Hid (Calls Tryd.prog 11 #[.string s] (w.alloc (.cells #[.string ⟨#[]⟩, .int .i64 0, .int .i64 0] 23)) fun e w' => e = .returned (.tuple #[.agg #[.string A, .int .i64 a, .int .i64 b], .bool true]) ∧ Below (w.alloc (.cells #[.string ⟨#[]⟩, .int .i64 0, .int .i64 0] 23)).heap.size (w.alloc (.cells #[.string ⟨#[]⟩, .int .i64 0, .int .i64 0] 23)) w') := Lib.hid cN0
    clear cN0 ho
    go_enter Tryd.func5, Tryd.ntmps5
    go_wp2_with fail
    refine cN.out.mono ?_
    rintro e w2 ⟨rfl, b2⟩
    have B2 := hf0.trans (b2.mono hf0.size)
    have hR2 := hR0.out.below b2
    clear b2 hf0
    obtain ⟨⟨c0, c1, c2⟩, f0, f1, f2⟩ := hR2.facts
    go_wp2
    exact bodyPost_ret (v := .tuple #[.agg #[.string A, .int .i64 a, .int .i64 b], .bool true]) (by simp [results, Tryd.results5, go_sem, c0, c1, c2, f0, f1, f2]) rfl ⟨by rw [hr.out], (((B2.setCell (p := ⟨w.heap.size, 0, none⟩) (Nat.le_refl _) _).setCell (p := ⟨w.heap.size, 1, none⟩) (Nat.le_refl _) _).setCell (p := ⟨w.heap.size, 2, none⟩) (Nat.le_refl _) _)⟩
end Go.Proofs.YtfcdhjbnlokinaaDoor
