/-
  Contracts of the model's reader of planks.
-/
import Derived.Test.YtfcdhjbnlokinaaDoorPlkR
import Derived.Test.YtfcdhjbnlokinaaDoorReadList
namespace Go.Proofs.YtfcdhjbnlokinaaDoor
open Go.ChangeShapes Go.WideShapes Go.ChangeAt Go.RowKit
set_option linter.unusedVariables false
set_option linter.unusedSimpArgs false
set_option maxHeartbeats 3200000 in
set_option maxRecDepth 1000000 in
theorem specReadPlank_any (s : ByteArray) (w : World) (hs : s.size ≤ 1048576) :
    Calls Tryd.prog 8 #[.string s] w fun e w' => e = .returned (plkVal (plkO s.data.toList)) ∧ Below w.heap.size w w' := by
  have hc0 := fun W => l01Split_any s 32 W hs
  have hlen := splitL_len 32 s.data.toList
  rw [len_data] at hlen
  have hf0 := fresh_b w (.cells #[.string ⟨#[]⟩, .int .i64 0, .int .i64 0, .int .i64 0, .int .i64 0, .int .i64 0] 29)
  have hR0 := Lib.hid (PlkRes.start w)
  by_cases h2 : (splitL 32 s.data.toList).length = 2
  rotate_left
  · have hr : Hid (plkVal (plkO s.data.toList) = .tuple #[.agg #[.string ⟨#[]⟩, .int .i64 0, .int .i64 0, .int .i64 0, .int .i64 0, .int .i64 0], .bool false]) := Lib.hid (by rw [plkO_no (namO_no (by intro p q h; rw [h] at h2; exact h2 rfl))]; rfl)
    obtain ⟨M, hM⟩ : ∃ M, M = (splitL 32 s.data.toList).length := ⟨_, rfl⟩
    have hc : Hid (∀ W, Calls Tryd.prog 14 #[.string s, .int .u8 32] W fun e w' => ∃ a cap, e = .returned (.slice a M cap) ∧ M ≤ cap ∧ Below W.heap.size W w') := Lib.hid (fun W => (hc0 W).mono fun e w' h => by
      obtain ⟨v, he, ho, hb⟩ := h
      have hpos := splitL_pos 32 s.data.toList
      rcases row_open ho with ⟨_, h0⟩ | ⟨g, cap, rfl, _, _, hcap, _⟩
      · rw [h0] at hpos; exact absurd hpos (Nat.lt_irrefl 0)
      · exact ⟨_, cap, by rw [hM]; exact he, by rw [hM]; exact hcap, hb⟩)
    rw [← hM] at h2 hlen
    have t0 : ((M : Int) == 2) = false := by rw [beq_eq_false_iff_ne]; omega
    have u0 : ((M : Int) != 2) = true := by unfold bne; rw [t0]; rfl
    clear hM h2 hc0
    go_enter Tryd.func8, Tryd.ntmps8
    go_wp2_with fail
    refine (hc.out _).mono ?_
    rintro e w2 ⟨a, cap, rfl, hcap, b2⟩
    have B2 := hf0.trans (b2.mono hf0.size)
    have hR2 := hR0.out.below b2
    clear b2 hf0
    obtain ⟨⟨c0, c1, c2, c3, c4, c5⟩, f0, f1, f2, f3, f4, f5⟩ := hR2.facts
    go_wp2
    exact bodyPost_ret (v := .tuple #[.agg #[.string ⟨#[]⟩, .int .i64 0, .int .i64 0, .int .i64 0, .int .i64 0, .int .i64 0], .bool false]) (by simp [results, Tryd.results8, go_sem, c0, c1, c2, c3, c4, c5, f0, f1, f2, f3, f4, f5]) rfl ⟨by rw [hr.out], ((((((B2.setCell (p := ⟨w.heap.size, 0, none⟩) (Nat.le_refl _) _).setCell (p := ⟨w.heap.size, 1, none⟩) (Nat.le_refl _) _).setCell (p := ⟨w.heap.size, 2, none⟩) (Nat.le_refl _) _).setCell (p := ⟨w.heap.size, 3, none⟩) (Nat.le_refl _) _).setCell (p := ⟨w.heap.size, 4, none⟩) (Nat.le_refl _) _).setCell (p := ⟨w.heap.size, 5, none⟩) (Nat.le_refl _) _)⟩
  obtain ⟨p, q, hpq⟩ : ∃ p q, splitL 32 s.data.toList = [p, q] := by
    match h : splitL 32 s.data.toList, h2 with
    | [p, q], _ => exact ⟨p, q, rfl⟩
  have hq := Lib.hid (namO_two 5 hpq)
  have hpl := fun x hx => part_len 32 _ s.data.toList (Nat.le_refl _) x hx
  rw [hpq] at hc0 hpl
  have lp := hpl p (by simp)
  have lq := hpl q (by simp)
  rw [len_data] at lp lq
  clear h2 hpq hpl hlen
  obtain ⟨A, hA⟩ : ∃ A : ByteArray, A = ⟨p.toArray⟩ := ⟨_, rfl⟩
  obtain ⟨B, hB⟩ : ∃ B : ByteArray, B = ⟨q.toArray⟩ := ⟨_, rfl⟩
  have hAl : A.data.toList = p := by rw [hA]
  have hBl : B.data.toList = q := by rw [hB]
  have hAm : A.size ≤ maxLen := by unfold maxLen; rw [← len_data, hAl]; omega
  have hBs : B.size ≤ 1048576 := by rw [← len_data, hBl]; omega
  have cS : Hid (∀ W, Calls Tryd.prog 14 #[.string s, .int .u8 32] W fun e w' => ∃ g cap, e = .returned (.slice (some ⟨g, 0, none⟩) 2 cap) ∧ 2 ≤ cap ∧ g < w'.heap.size ∧ w'.cell? ⟨g, 0, none⟩ = some (.string A) ∧ w'.cell? ⟨g, 1, none⟩ = some (.string B) ∧ Below W.heap.size W w') := Lib.hid (fun W => (hc0 W).mono fun e w' h => by
    obtain ⟨v, he, ho, hb⟩ := h
    obtain ⟨g, cap, rfl, h1, h2, h3, h4⟩ := rowS2 ho
    exact ⟨g, cap, he, h1, h2, by rw [hA]; exact h3, by rw [hB]; exact h4, hb⟩)
  have cR0 := fun W => (specReadList_any B W hBs).mono fun e w' h => lret_open (o := readL B.data.toList) h (fun Z h => readL_in h)
  rw [hBl] at cR0
  clear hc0 lp lq hAl
  cases ho : readL q with
  | none =>
    have hr : Hid (plkVal (plkO s.data.toList) = .tuple #[.agg #[.string ⟨#[]⟩, .int .i64 0, .int .i64 0, .int .i64 0, .int .i64 0, .int .i64 0], .bool false]) := Lib.hid (by rw [plkO_no (by rw [hq.out, namOf_none ho])]; rfl)
    have cR : Hid (∀ W, Calls Tryd.prog 15 #[.string B] W fun e w' => e = .returned (.tuple #[.slice none 0 0, .bool false]) ∧ Below W.heap.size W w') := Lib.hid (fun W => (cR0 W).mono fun e w' h => by
      rcases h with ⟨_, h4, h5⟩ | ⟨Z, v, h4, _⟩
      · exact ⟨h4, h5⟩
      · rw [ho] at h4; cases h4)
    clear cR0 ho hq hA hB hBl
    go_enter Tryd.func8, Tryd.ntmps8
    go_wp2_with fail
    refine (cS.out _).mono ?_
    rintro e w1 ⟨h, hcap, rfl, hhc, hh, s0, s1, b1⟩
    have B1 := hf0.trans (b1.mono hf0.size)
    have hR1 := hR0.out.below b1
    clear b1 hf0
    go_wp2_with fail
    refine (cR.out _).mono ?_
    rintro e w2 ⟨rfl, b2⟩
    have B2 := B1.trans (b2.mono B1.size)
    have hR2 := hR1.below b2
    have hh2 : h < w2.heap.size := Nat.lt_of_lt_of_le hh b2.size
    have s0' := (b2.cell (p := ⟨h, 0, none⟩) hh).trans s0
    clear s0 s1 b2 B1 hR1
    obtain ⟨⟨c0, c1, c2, c3, c4, c5⟩, f0, f1, f2, f3, f4, f5⟩ := hR2.facts
    go_wp2
    exact bodyPost_ret (v := .tuple #[.agg #[.string ⟨#[]⟩, .int .i64 0, .int .i64 0, .int .i64 0, .int .i64 0, .int .i64 0], .bool false]) (by simp [results, Tryd.results8, go_sem, c0, c1, c2, c3, c4, c5, f0, f1, f2, f3, f4, f5]) rfl ⟨by rw [hr.out], ((((((B2.setCell (p := ⟨w.heap.size, 0, none⟩) (Nat.le_refl _) _).setCell (p := ⟨w.heap.size, 1, none⟩) (Nat.le_refl _) _).setCell (p := ⟨w.heap.size, 2, none⟩) (Nat.le_refl _) _).setCell (p := ⟨w.heap.size, 3, none⟩) (Nat.le_refl _) _).setCell (p := ⟨w.heap.size, 4, none⟩) (Nat.le_refl _) _).setCell (p := ⟨w.heap.size, 5, none⟩) (Nat.le_refl _) _)⟩
  | some Z =>
    by_cases h5 : Z.length = 5
    rotate_left
    · have hr : Hid (plkVal (plkO s.data.toList) = .tuple #[.agg #[.string ⟨#[]⟩, .int .i64 0, .int .i64 0, .int .i64 0, .int .i64 0, .int .i64 0], .bool false]) := Lib.hid (by rw [plkO_no (by rw [hq.out, namOf_len ho h5])]; rfl)
      obtain ⟨N, hN⟩ : ∃ N, N = Z.length := ⟨_, rfl⟩
      have cR : Hid (∀ W, Calls Tryd.prog 15 #[.string B] W fun e w' => ∃ a cap, e = .returned (.tuple #[.slice a N cap, .bool true]) ∧ N ≤ cap ∧ Below W.heap.size W w') := Lib.hid (fun W => (cR0 W).mono fun e w' h => by
        rcases h with ⟨h4, _⟩ | ⟨Z', v, h4, h6, h7, h8⟩
        · rw [ho] at h4; cases h4
        · rw [ho] at h4; cases h4
          obtain ⟨a, cap, rfl, hc, _⟩ := h7
          exact ⟨a, cap, by rw [hN]; exact h6, by rw [hN]; exact hc, h8⟩)
      have hN64 : N ≤ 64 := by rw [hN]; exact readL_len ho
      have t0 : ((N : Int) == 5) = false := by rw [beq_eq_false_iff_ne]; omega
      have u0 : ((N : Int) != 5) = true := by unfold bne; rw [t0]; rfl
      clear cR0 ho hq hA hB hBl hN h5
      go_enter Tryd.func8, Tryd.ntmps8
      go_wp2_with fail
      refine (cS.out _).mono ?_
      rintro e w1 ⟨h, hcap, rfl, hhc, hh, s0, s1, b1⟩
      have B1 := hf0.trans (b1.mono hf0.size)
      have hR1 := hR0.out.below b1
      clear b1 hf0
      go_wp2_with fail
      refine (cR.out _).mono ?_
      rintro e w2 ⟨la, lcap, rfl, hlc, b2⟩
      have B2 := B1.trans (b2.mono B1.size)
      have hR2 := hR1.below b2
      have hh2 : h < w2.heap.size := Nat.lt_of_lt_of_le hh b2.size
      have s0' := (b2.cell (p := ⟨h, 0, none⟩) hh).trans s0
      clear s0 s1 b2 B1 hR1
      obtain ⟨⟨c0, c1, c2, c3, c4, c5⟩, f0, f1, f2, f3, f4, f5⟩ := hR2.facts
      go_wp2
      exact bodyPost_ret (v := .tuple #[.agg #[.string ⟨#[]⟩, .int .i64 0, .int .i64 0, .int .i64 0, .int .i64 0, .int .i64 0], .bool false]) (by simp [results, Tryd.results8, go_sem, c0, c1, c2, c3, c4, c5, f0, f1, f2, f3, f4, f5]) rfl ⟨by rw [hr.out], ((((((B2.setCell (p := ⟨w.heap.size, 0, none⟩) (Nat.le_refl _) _).setCell (p := ⟨w.heap.size, 1, none⟩) (Nat.le_refl _) _).setCell (p := ⟨w.heap.size, 2, none⟩) (Nat.le_refl _) _).setCell (p := ⟨w.heap.size, 3, none⟩) (Nat.le_refl _) _).setCell (p := ⟨w.heap.size, 4, none⟩) (Nat.le_refl _) _).setCell (p := ⟨w.heap.size, 5, none⟩) (Nat.le_refl _) _)⟩
    obtain ⟨a, b, c, d, f, rfl⟩ : ∃ a b c d f, Z = [a, b, c, d, f] := by
      match Z, h5 with
      | [a, b, c, d, f], _ => exact ⟨a, b, c, d, f, rfl⟩
    have hq2 : Hid (plkO s.data.toList = if plkB ⟨A, a, b, c, d, f⟩ = true then some ⟨A, a, b, c, d, f⟩ else none) := Lib.hid (by rw [plkO_yes (hq.out.trans (namOf_yes ho h5)), hA])
    have cR : Hid (∀ W, Calls Tryd.prog 15 #[.string B] W fun e w' => ∃ g cap, e = .returned (.tuple #[.slice (some ⟨g, 0, none⟩) 5 cap, .bool true]) ∧ 5 ≤ cap ∧ g < w'.heap.size ∧ (w'.cell? ⟨g, 0, none⟩ = some (.int .i64 a) ∧ w'.cell? ⟨g, 1, none⟩ = some (.int .i64 b) ∧ w'.cell? ⟨g, 2, none⟩ = some (.int .i64 c) ∧ w'.cell? ⟨g, 3, none⟩ = some (.int .i64 d) ∧ w'.cell? ⟨g, 4, none⟩ = some (.int .i64 f)) ∧ Below W.heap.size W w') := Lib.hid (fun W => (specReadList_any B W hBs).mono fun e w' h => by
      rw [hBl, ho] at h
      obtain ⟨v, he, hown, hb⟩ := h
      obtain ⟨g, cap, rfl, k1, k2, k3⟩ := plk_row hown
      exact ⟨g, cap, he, k1, k2, k3, hb⟩)
    clear cR0 ho hq hA hB hBl h5
    cases hv : plkB ⟨A, a, b, c, d, f⟩
    · have hr : Hid (plkVal (plkO s.data.toList) = .tuple #[.agg #[.string ⟨#[]⟩, .int .i64 0, .int .i64 0, .int .i64 0, .int .i64 0, .int .i64 0], .bool false]) := Lib.hid (by rw [hq2.out, hv]; rfl)
      clear hq2
      go_enter Tryd.func8, Tryd.ntmps8
      go_wp2_with fail
      refine (cS.out _).mono ?_
      rintro e w1 ⟨h, hcap, rfl, hhc, hh, s0, s1, b1⟩
      have B1 := hf0.trans (b1.mono hf0.size)
      have hR1 := hR0.out.below b1
      clear b1 hf0
      go_wp2_with fail
      refine (cR.out _).mono ?_
      rintro e w2 ⟨g, lcap, rfl, hlc, hg, hP, b2⟩
      have B2 := B1.trans (b2.mono B1.size)
      have hR2 := hR1.below b2
      have hh2 : h < w2.heap.size := Nat.lt_of_lt_of_le hh b2.size
      have s0' := (b2.cell (p := ⟨h, 0, none⟩) hh).trans s0
      clear s0 s1 b2 B1 hR1
      have keep : ∀ W1 W2, ((W1.cell? ⟨h, 0, none⟩ = some (.string A) ∧ W1.cell? ⟨g, 0, none⟩ = some (.int .i64 a) ∧ W1.cell? ⟨g, 1, none⟩ = some (.int .i64 b) ∧ W1.cell? ⟨g, 2, none⟩ = some (.int .i64 c) ∧ W1.cell? ⟨g, 3, none⟩ = some (.int .i64 d) ∧ W1.cell? ⟨g, 4, none⟩ = some (.int .i64 f)) ∧ (PlkRes W1 w.heap.size ∧ Below w2.heap.size w2 W1)) → Below W1.heap.size W1 W2 → ((W2.cell? ⟨h, 0, none⟩ = some (.string A) ∧ W2.cell? ⟨g, 0, none⟩ = some (.int .i64 a) ∧ W2.cell? ⟨g, 1, none⟩ = some (.int .i64 b) ∧ W2.cell? ⟨g, 2, none⟩ = some (.int .i64 c) ∧ W2.cell? ⟨g, 3, none⟩ = some (.int .i64 d) ∧ W2.cell? ⟨g, 4, none⟩ = some (.int .i64 f)) ∧ (PlkRes W2 w.heap.size ∧ Below w2.heap.size w2 W2)) := fun W1 W2 h1 h2 => by
        obtain ⟨⟨p5, p0, p1, p2, p3, p4⟩, hr, hb⟩ := h1
        have hl := Nat.lt_of_lt_of_le hg hb.size
        have hl2 := Nat.lt_of_lt_of_le hh2 hb.size
        exact ⟨⟨(h2.cell hl2).trans p5, (h2.cell hl).trans p0, (h2.cell hl).trans p1, (h2.cell hl).trans p2, (h2.cell hl).trans p3, (h2.cell hl).trans p4⟩, hr.below h2, hb.trans (h2.mono hb.size)⟩
      have keepH := Lib.hid keep
      have hS : (w2.cell? ⟨h, 0, none⟩ = some (.string A) ∧ w2.cell? ⟨g, 0, none⟩ = some (.int .i64 a) ∧ w2.cell? ⟨g, 1, none⟩ = some (.int .i64 b) ∧ w2.cell? ⟨g, 2, none⟩ = some (.int .i64 c) ∧ w2.cell? ⟨g, 3, none⟩ = some (.int .i64 d) ∧ w2.cell? ⟨g, 4, none⟩ = some (.int .i64 f)) ∧ (PlkRes w2 w.heap.size ∧ Below w2.heap.size w2 w2) := ⟨⟨s0', hP⟩, hR2, Below.refl _ _⟩
      clear keep hP hR2 s0'
      go_wp2
      go_region_held3 (fun w' => ((w'.cell? ⟨h, 0, none⟩ = some (.string A) ∧ w'.cell? ⟨g, 0, none⟩ = some (.int .i64 a) ∧ w'.cell? ⟨g, 1, none⟩ = some (.int .i64 b) ∧ w'.cell? ⟨g, 2, none⟩ = some (.int .i64 c) ∧ w'.cell? ⟨g, 3, none⟩ = some (.int .i64 d) ∧ w'.cell? ⟨g, 4, none⟩ = some (.int .i64 f)) ∧ (PlkRes w' w.heap.size ∧ Below w2.heap.size w2 w')))
        (first | exact ⟨hS.1, hS.2.1, belowN hS.2.2 1⟩ | exact keepH.out _ _ (by assumption) (fresh_b _ _) | exact keepH.out _ _ (by assumption) (belowN (fresh_b _ _) 1) | exact keepH.out w2 _ hS (belowN (fresh_b _ _) 1) | exact keepH.out _ _ (by assumption) (by assumption) | assumption)
        (fail)
      rename_i hHeld
      have hRx := hHeld.2.1
      have hBx := B2.trans (hHeld.2.2.mono B2.size)
      have hPx : ((w2.alloc (.cells #[.string A, .int .i64 a, .int .i64 b, .int .i64 c, .int .i64 d, .int .i64 f] 29)).drew.cell? ⟨w2.heap.size, 0, none⟩ = some (.string A) ∧ (w2.alloc (.cells #[.string A, .int .i64 a, .int .i64 b, .int .i64 c, .int .i64 d, .int .i64 f] 29)).drew.cell? ⟨w2.heap.size, 1, none⟩ = some (.int .i64 a) ∧ (w2.alloc (.cells #[.string A, .int .i64 a, .int .i64 b, .int .i64 c, .int .i64 d, .int .i64 f] 29)).drew.cell? ⟨w2.heap.size, 2, none⟩ = some (.int .i64 b) ∧ (w2.alloc (.cells #[.string A, .int .i64 a, .int .i64 b, .int .i64 c, .int .i64 d, .int .i64 f] 29)).drew.cell? ⟨w2.heap.size, 3, none⟩ = some (.int .i64 c) ∧ (w2.alloc (.cells #[.string A, .int .i64 a, .int .i64 b, .int .i64 c, .int .i64 d, .int .i64 f] 29)).drew.cell? ⟨w2.heap.size, 4, none⟩ = some (.int .i64 d) ∧ (w2.alloc (.cells #[.string A, .int .i64 a, .int .i64 b, .int .i64 c, .int .i64 d, .int .i64 f] 29)).drew.cell? ⟨w2.heap.size, 5, none⟩ = some (.int .i64 f)) := plk_bx A a b c d f w2 _ (belowN (Below.refl _ (w2.alloc (.cells #[.string A, .int .i64 a, .int .i64 b, .int .i64 c, .int .i64 d, .int .i64 f] 29))) 1)
      clear hHeld hS keepH B2 hh2
      generalize (w2.alloc (.cells #[.string A, .int .i64 a, .int .i64 b, .int .i64 c, .int .i64 d, .int .i64 f] 29)).drew = w4 at hRx hBx hPx ⊢
      generalize w2.heap.size = G at hPx ⊢
      have hat : PlkAt w4 G 0 ⟨A, a, b, c, d, f⟩ := hPx
      have cO := l03One_any A a b c d f hAm w4 G 0 hat
      rw [hv] at cO
      have cO' := Lib.hid cO
      clear hat cO
      obtain ⟨y0, y1, y2, y3, y4, y5⟩ := hPx
      go_wp2_with fail
      refine cO'.out.mono ?_
      rintro e _ ⟨rfl, rfl⟩
      have B2 := hBx
      obtain ⟨⟨c0, c1, c2, c3, c4, c5⟩, f0, f1, f2, f3, f4, f5⟩ := hRx.facts
      clear hBx hRx
      go_wp2
      exact bodyPost_ret (v := .tuple #[.agg #[.string ⟨#[]⟩, .int .i64 0, .int .i64 0, .int .i64 0, .int .i64 0, .int .i64 0], .bool false]) (by simp [results, Tryd.results8, go_sem, c0, c1, c2, c3, c4, c5, f0, f1, f2, f3, f4, f5]) rfl ⟨by rw [hr.out], ((((((B2.setCell (p := ⟨w.heap.size, 0, none⟩) (Nat.le_refl _) _).setCell (p := ⟨w.heap.size, 1, none⟩) (Nat.le_refl _) _).setCell (p := ⟨w.heap.size, 2, none⟩) (Nat.le_refl _) _).setCell (p := ⟨w.heap.size, 3, none⟩) (Nat.le_refl _) _).setCell (p := ⟨w.heap.size, 4, none⟩) (Nat.le_refl _) _).setCell (p := ⟨w.heap.size, 5, none⟩) (Nat.le_refl _) _)⟩
    · have hr : Hid (plkVal (plkO s.data.toList) = .tuple #[.agg #[.string A, .int .i64 a, .int .i64 b, .int .i64 c, .int .i64 d, .int .i64 f], .bool true]) := Lib.hid (by rw [hq2.out, if_pos hv]; rfl)
      clear hq2
      go_enter Tryd.func8, Tryd.ntmps8
      go_wp2_with fail
      refine (cS.out _).mono ?_
      rintro e w1 ⟨h, hcap, rfl, hhc, hh, s0, s1, b1⟩
      have B1 := hf0.trans (b1.mono hf0.size)
      have hR1 := hR0.out.below b1
      clear b1 hf0
      go_wp2_with fail
      refine (cR.out _).mono ?_
      rintro e w2 ⟨g, lcap, rfl, hlc, hg, hP, b2⟩
      have B2 := B1.trans (b2.mono B1.size)
      have hR2 := hR1.below b2
      have hh2 : h < w2.heap.size := Nat.lt_of_lt_of_le hh b2.size
      have s0' := (b2.cell (p := ⟨h, 0, none⟩) hh).trans s0
      clear s0 s1 b2 B1 hR1
      have keep : ∀ W1 W2, ((W1.cell? ⟨h, 0, none⟩ = some (.string A) ∧ W1.cell? ⟨g, 0, none⟩ = some (.int .i64 a) ∧ W1.cell? ⟨g, 1, none⟩ = some (.int .i64 b) ∧ W1.cell? ⟨g, 2, none⟩ = some (.int .i64 c) ∧ W1.cell? ⟨g, 3, none⟩ = some (.int .i64 d) ∧ W1.cell? ⟨g, 4, none⟩ = some (.int .i64 f)) ∧ (PlkRes W1 w.heap.size ∧ Below w2.heap.size w2 W1)) → Below W1.heap.size W1 W2 → ((W2.cell? ⟨h, 0, none⟩ = some (.string A) ∧ W2.cell? ⟨g, 0, none⟩ = some (.int .i64 a) ∧ W2.cell? ⟨g, 1, none⟩ = some (.int .i64 b) ∧ W2.cell? ⟨g, 2, none⟩ = some (.int .i64 c) ∧ W2.cell? ⟨g, 3, none⟩ = some (.int .i64 d) ∧ W2.cell? ⟨g, 4, none⟩ = some (.int .i64 f)) ∧ (PlkRes W2 w.heap.size ∧ Below w2.heap.size w2 W2)) := fun W1 W2 h1 h2 => by
        obtain ⟨⟨p5, p0, p1, p2, p3, p4⟩, hr, hb⟩ := h1
        have hl := Nat.lt_of_lt_of_le hg hb.size
        have hl2 := Nat.lt_of_lt_of_le hh2 hb.size
        exact ⟨⟨(h2.cell hl2).trans p5, (h2.cell hl).trans p0, (h2.cell hl).trans p1, (h2.cell hl).trans p2, (h2.cell hl).trans p3, (h2.cell hl).trans p4⟩, hr.below h2, hb.trans (h2.mono hb.size)⟩
      have keepH := Lib.hid keep
      have hS : (w2.cell? ⟨h, 0, none⟩ = some (.string A) ∧ w2.cell? ⟨g, 0, none⟩ = some (.int .i64 a) ∧ w2.cell? ⟨g, 1, none⟩ = some (.int .i64 b) ∧ w2.cell? ⟨g, 2, none⟩ = some (.int .i64 c) ∧ w2.cell? ⟨g, 3, none⟩ = some (.int .i64 d) ∧ w2.cell? ⟨g, 4, none⟩ = some (.int .i64 f)) ∧ (PlkRes w2 w.heap.size ∧ Below w2.heap.size w2 w2) := ⟨⟨s0', hP⟩, hR2, Below.refl _ _⟩
      clear keep hP hR2 s0'
      go_wp2
      go_region_held3 (fun w' => ((w'.cell? ⟨h, 0, none⟩ = some (.string A) ∧ w'.cell? ⟨g, 0, none⟩ = some (.int .i64 a) ∧ w'.cell? ⟨g, 1, none⟩ = some (.int .i64 b) ∧ w'.cell? ⟨g, 2, none⟩ = some (.int .i64 c) ∧ w'.cell? ⟨g, 3, none⟩ = some (.int .i64 d) ∧ w'.cell? ⟨g, 4, none⟩ = some (.int .i64 f)) ∧ (PlkRes w' w.heap.size ∧ Below w2.heap.size w2 w')))
        (first | exact ⟨hS.1, hS.2.1, belowN hS.2.2 1⟩ | exact keepH.out _ _ (by assumption) (fresh_b _ _) | exact keepH.out _ _ (by assumption) (belowN (fresh_b _ _) 1) | exact keepH.out w2 _ hS (belowN (fresh_b _ _) 1) | exact keepH.out _ _ (by assumption) (by assumption) | assumption)
        (fail)
      rename_i hHeld
      have hRx := hHeld.2.1
      have hBx := B2.trans (hHeld.2.2.mono B2.size)
      have hPx : ((w2.alloc (.cells #[.string A, .int .i64 a, .int .i64 b, .int .i64 c, .int .i64 d, .int .i64 f] 29)).drew.cell? ⟨w2.heap.size, 0, none⟩ = some (.string A) ∧ (w2.alloc (.cells #[.string A, .int .i64 a, .int .i64 b, .int .i64 c, .int .i64 d, .int .i64 f] 29)).drew.cell? ⟨w2.heap.size, 1, none⟩ = some (.int .i64 a) ∧ (w2.alloc (.cells #[.string A, .int .i64 a, .int .i64 b, .int .i64 c, .int .i64 d, .int .i64 f] 29)).drew.cell? ⟨w2.heap.size, 2, none⟩ = some (.int .i64 b) ∧ (w2.alloc (.cells #[.string A, .int .i64 a, .int .i64 b, .int .i64 c, .int .i64 d, .int .i64 f] 29)).drew.cell? ⟨w2.heap.size, 3, none⟩ = some (.int .i64 c) ∧ (w2.alloc (.cells #[.string A, .int .i64 a, .int .i64 b, .int .i64 c, .int .i64 d, .int .i64 f] 29)).drew.cell? ⟨w2.heap.size, 4, none⟩ = some (.int .i64 d) ∧ (w2.alloc (.cells #[.string A, .int .i64 a, .int .i64 b, .int .i64 c, .int .i64 d, .int .i64 f] 29)).drew.cell? ⟨w2.heap.size, 5, none⟩ = some (.int .i64 f)) := plk_bx A a b c d f w2 _ (belowN (Below.refl _ (w2.alloc (.cells #[.string A, .int .i64 a, .int .i64 b, .int .i64 c, .int .i64 d, .int .i64 f] 29))) 1)
      clear hHeld hS keepH B2 hh2
      generalize (w2.alloc (.cells #[.string A, .int .i64 a, .int .i64 b, .int .i64 c, .int .i64 d, .int .i64 f] 29)).drew = w4 at hRx hBx hPx ⊢
      generalize w2.heap.size = G at hPx ⊢
      have hat : PlkAt w4 G 0 ⟨A, a, b, c, d, f⟩ := hPx
      have cO := l03One_any A a b c d f hAm w4 G 0 hat
      rw [hv] at cO
      have cO' := Lib.hid cO
      clear hat cO
      obtain ⟨y0, y1, y2, y3, y4, y5⟩ := hPx
      go_wp2_with fail
      refine cO'.out.mono ?_
      rintro e _ ⟨rfl, rfl⟩
      have B2 := hBx
      obtain ⟨⟨c0, c1, c2, c3, c4, c5⟩, f0, f1, f2, f3, f4, f5⟩ := hRx.facts
      clear hBx hRx
      go_wp2
      exact bodyPost_ret (v := .tuple #[.agg #[.string A, .int .i64 a, .int .i64 b, .int .i64 c, .int .i64 d, .int .i64 f], .bool true]) (by simp [results, Tryd.results8, go_sem, c0, c1, c2, c3, c4, c5, f0, f1, f2, f3, f4, f5]) rfl ⟨by rw [hr.out], ((((((B2.setCell (p := ⟨w.heap.size, 0, none⟩) (Nat.le_refl _) _).setCell (p := ⟨w.heap.size, 1, none⟩) (Nat.le_refl _) _).setCell (p := ⟨w.heap.size, 2, none⟩) (Nat.le_refl _) _).setCell (p := ⟨w.heap.size, 3, none⟩) (Nat.le_refl _) _).setCell (p := ⟨w.heap.size, 4, none⟩) (Nat.le_refl _) _).setCell (p := ⟨w.heap.size, 5, none⟩) (Nat.le_refl _) _)⟩
end Go.Proofs.YtfcdhjbnlokinaaDoor
