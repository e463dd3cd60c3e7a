/-
  Contracts of the model's reader of stacks.
-/
import Derived.Test.YtjgpckocmjolmaaGreatDoorStkR
import Derived.Test.YtjgpckocmjolmaaGreatDoorReadsS
import Derived.Test.YtjgpckocmjolmaaGreatDoorReadList
namespace Go.Proofs.YtjgpckocmjolmaaGreatDoor
open Go.ChangeShapes Go.WideShapes Go.ChangeAt Go.RowKit
set_option linter.unusedVariables false
set_option linter.unusedSimpArgs false
theorem rowS3 {w : World} {B : Nat} {v : Value} {a b c : List UInt8} (h : w.ownsRow B 9 1 v 3 [encS a, encS b, encS c]) : ∃ g cap, v = .slice (some ⟨g, 0, none⟩) 3 cap ∧ 3 ≤ cap ∧ g < w.heap.size ∧ w.cell? ⟨g, 0, none⟩ = some (encS a) ∧ w.cell? ⟨g, 1, none⟩ = some (encS b) ∧ w.cell? ⟨g, 2, none⟩ = some (encS c) := by
  have h0 := h
  rcases h.2 with ⟨h1, h2⟩ | ⟨g, cap, cur, hv, hg, hb, hn, hcap, _, _⟩
  · omega
  · subst hv
    exact ⟨g, cap, rfl, hn, (h0.lt g rfl).2, by rw [h0.cellAt 0 (by omega)]; rfl, by rw [h0.cellAt 1 (by omega)]; rfl, by rw [h0.cellAt 2 (by omega)]; rfl⟩
set_option maxHeartbeats 3200000 in
set_option maxRecDepth 1000000 in
theorem l04Read_any (s : ByteArray) (w : World) (hs : s.size ≤ 1048576) :
    Calls Tryz.prog 7 #[.string s] w fun e w' => e = .returned (stkVal (stkO s.data.toList)) ∧ Below w.heap.size w w' := by
  have hlen := splitL_len 32 s.data.toList
  rw [len_data] at hlen
  have hf0 := fresh_b w (.cells #[.string ⟨#[]⟩, .int .i64 0, .int .i64 0, .int .i64 0] 23)
  have hR0 := Lib.hid (ResAt.start w)
  have hc0 := fun W => l01Split_any s 32 W hs
  by_cases h3 : (splitL 32 s.data.toList).length = 3
  rotate_left
  · have hr : Hid (stkVal (stkO s.data.toList) = .tuple #[.agg #[.string ⟨#[]⟩, .int .i64 0, .int .i64 0, .int .i64 0], .bool false]) := Lib.hid (by rw [stkO_no h3]; rfl)
    obtain ⟨M, hM⟩ : ∃ M, M = (splitL 32 s.data.toList).length := ⟨_, rfl⟩
    have hMn : M ≠ 3 := by rw [hM]; exact h3
    have hM4 : M ≤ s.size + 1 := by rw [hM]; exact hlen
    have cS : Hid (∀ W, Calls Tryz.prog 12 #[.string s, .int .u8 32] W fun e w' => ∃ a cap, e = .returned (.slice a M cap) ∧ M ≤ cap ∧ Below W.heap.size W w') := Lib.hid (fun W => (hc0 W).mono fun e w' h => by
      obtain ⟨v, he, ho, hb⟩ := h
      have hpos := splitL_pos 32 s.data.toList
      rcases row_open ho with ⟨_, h0⟩ | ⟨g, cap, rfl, _, _, hcap, _⟩
      · rw [h0] at hpos; exact absurd hpos (Nat.lt_irrefl 0)
      · exact ⟨_, cap, by rw [hM]; exact he, by rw [hM]; exact hcap, hb⟩)
    clear hM
    have t0 : ((M : Int) == 3) = false := by rw [beq_eq_false_iff_ne]; omega
    have u0 : ((M : Int) != 3) = true := by unfold bne; rw [t0]; rfl
    clear hc0 h3 hMn hlen
    go_enter Tryz.func7, Tryz.ntmps7
    go_wp2_with fail
    refine (cS.out _).mono ?_
    rintro e w2 ⟨a, cap, rfl, hcap, b2⟩
    have B9 := hf0.trans (b2.mono hf0.size)
    have hR2 := hR0.out.below b2
    clear b2 hf0
    obtain ⟨⟨c0, c1, c2, c3⟩, f0, f1, f2, f3⟩ := hR2.facts
    go_wp2
    exact bodyPost_ret (v := .tuple #[.agg #[.string ⟨#[]⟩, .int .i64 0, .int .i64 0, .int .i64 0], .bool false]) (by simp [results, Tryz.results7, go_sem, c0, c1, c2, c3, f0, f1, f2, f3]) rfl ⟨by rw [hr.out], ((((B9.setCell (p := ⟨w.heap.size, 0, none⟩) (Nat.le_refl _) _).setCell (p := ⟨w.heap.size, 1, none⟩) (Nat.le_refl _) _).setCell (p := ⟨w.heap.size, 2, none⟩) (Nat.le_refl _) _).setCell (p := ⟨w.heap.size, 3, none⟩) (Nat.le_refl _) _)⟩
  obtain ⟨p, q, r, hpq⟩ : ∃ p q r, splitL 32 s.data.toList = [p, q, r] := by
    match h : splitL 32 s.data.toList, h3 with
    | [p, q, r], _ => exact ⟨p, q, r, rfl⟩
  have hq := Lib.hid (stkO_three hpq)
  have hpl := fun x hx => part_len 32 _ s.data.toList (Nat.le_refl _) x hx
  rw [hpq] at hc0
  rw [hpq] at hpl
  have lp := hpl p (by simp)
  have lq := hpl q (by simp)
  have lr := hpl r (by simp)
  rw [len_data] at lp lq lr
  clear h3 hpq hpl hlen
  obtain ⟨A, hA⟩ : ∃ A : ByteArray, A = ⟨p.toArray⟩ := ⟨_, rfl⟩
  obtain ⟨B, hB⟩ : ∃ B : ByteArray, B = ⟨q.toArray⟩ := ⟨_, rfl⟩
  obtain ⟨C, hC⟩ : ∃ C : ByteArray, C = ⟨r.toArray⟩ := ⟨_, rfl⟩
  have hAl : A.data.toList = p := by rw [hA]
  have hBl : B.data.toList = q := by rw [hB]
  have hCl : C.data.toList = r := by rw [hC]
  have hAm : A.size ≤ maxLen := by unfold maxLen; rw [← len_data, hAl]; omega
  have hBs : B.size ≤ 1048576 := by rw [← len_data, hBl]; omega
  have hCs : C.size ≤ 1048576 := by rw [← len_data, hCl]; omega
  have cS : Hid (∀ W, Calls Tryz.prog 12 #[.string s, .int .u8 32] W fun e w' => ∃ g cap, e = .returned (.slice (some ⟨g, 0, none⟩) 3 cap) ∧ 3 ≤ cap ∧ g < w'.heap.size ∧ w'.cell? ⟨g, 0, none⟩ = some (.string A) ∧ w'.cell? ⟨g, 1, none⟩ = some (.string B) ∧ w'.cell? ⟨g, 2, none⟩ = some (.string C) ∧ Below W.heap.size W w') := Lib.hid (fun W => (hc0 W).mono fun e w' h => by
    obtain ⟨v, he, ho, hb⟩ := h
    obtain ⟨g, cap, rfl, h1, h2, h3, h4, h5⟩ := rowS3 ho
    exact ⟨g, cap, he, h1, h2, by rw [hA]; exact h3, by rw [hB]; exact h4, by rw [hC]; exact h5, hb⟩)
  have cR0 := fun W => (specReadList_any B W hBs).mono fun e w' h => lret_open (o := readL B.data.toList) h (fun Z h => readL_in h)
  have cD0 := fun W => l02Read_any C hCs W
  rw [hBl] at cR0
  rw [hCl] at cD0
  have cR2 : ∀ a b, readL q = some [a, b] → ∀ W, Calls Tryz.prog 13 #[.string B] W fun e w' => ∃ g cap, e = .returned (.tuple #[.slice (some ⟨g, 0, none⟩) 2 cap, .bool true]) ∧ 2 ≤ cap ∧ g < w'.heap.size ∧ (w'.cell? ⟨g, 0, none⟩ = some (.int .i64 a) ∧ w'.cell? ⟨g, 1, none⟩ = some (.int .i64 b)) ∧ Below W.heap.size W w' := fun a b ho W => (specReadList_any B W hBs).mono fun e w' h => by
    rw [hBl, ho] at h
    obtain ⟨v, he, hown, hb⟩ := h
    obtain ⟨g, cap, rfl, k1, k2, k3⟩ := row_ab hown
    exact ⟨g, cap, he, k1, k2, k3, hb⟩
  clear hc0 lp lq lr hAl hBl hCl
  cases ho : readL q with
  | none =>
    have hr : Hid (stkVal (stkO s.data.toList) = .tuple #[.agg #[.string ⟨#[]⟩, .int .i64 0, .int .i64 0, .int .i64 0], .bool false]) := Lib.hid (by rw [hq.out, stkOf_list ho]; rfl)
    have cR : Hid (∀ W, Calls Tryz.prog 13 #[.string B] W fun e w' => e = .returned (.tuple #[.slice none 0 0, .bool false]) ∧ Below W.heap.size W w') := Lib.hid (fun W => (cR0 W).mono fun e w' h => by
      rcases h with ⟨_, h4, h5⟩ | ⟨Z, v, h4, _⟩
      · exact ⟨h4, h5⟩
      · rw [ho] at h4; cases h4)
    obtain ⟨d, bb, hdb⟩ : ∃ d bb, optV (dateR r) = .tuple #[.int .i64 d, .bool bb] := by
      cases dateR r with
      | none => exact ⟨0, false, rfl⟩
      | some n => exact ⟨n, true, rfl⟩
    rw [hdb] at cD0
    have cD := Lib.hid cD0
    clear cD0 cR0 cR2 ho hq hA hB hC hdb
    cases bb
    · go_enter Tryz.func7, Tryz.ntmps7
      go_wp2_with fail
      refine (cS.out _).mono ?_
      rintro e w1 ⟨h, hcap, rfl, hhc, hh, s0, s1, s2, b1⟩
      have B1 := hf0.trans (b1.mono hf0.size)
      have hR1 := hR0.out.below b1
      clear b1 hf0
      go_wp2_with fail
      refine (cR.out _).mono ?_
      rintro e w2 ⟨rfl, b2⟩
      have B2 := B1.trans (b2.mono B1.size)
      have hR2 := hR1.below b2
      have hh2 : h < w2.heap.size := Nat.lt_of_lt_of_le hh b2.size
      have s0' := (b2.cell (p := ⟨h, 0, none⟩) hh).trans s0
      have s2' := (b2.cell (p := ⟨h, 2, none⟩) hh).trans s2
      clear s0 s1 s2 b2 B1 hR1
      go_wp2_with fail
      refine (cD.out _).mono ?_
      rintro e w3 ⟨rfl, b3⟩
      have B3 := B2.trans (b3.mono B2.size)
      have hR3 := hR2.below b3
      have hh3 : h < w3.heap.size := Nat.lt_of_lt_of_le hh2 b3.size
      have s0 := (b3.cell (p := ⟨h, 0, none⟩) hh2).trans s0'
      clear s0' s2' b3 B2 hR2
      have B9 := B3
      obtain ⟨⟨c0, c1, c2, c3⟩, f0, f1, f2, f3⟩ := hR3.facts
      go_wp2
      exact bodyPost_ret (v := .tuple #[.agg #[.string ⟨#[]⟩, .int .i64 0, .int .i64 0, .int .i64 0], .bool false]) (by simp [results, Tryz.results7, go_sem, c0, c1, c2, c3, f0, f1, f2, f3]) rfl ⟨by rw [hr.out], ((((B9.setCell (p := ⟨w.heap.size, 0, none⟩) (Nat.le_refl _) _).setCell (p := ⟨w.heap.size, 1, none⟩) (Nat.le_refl _) _).setCell (p := ⟨w.heap.size, 2, none⟩) (Nat.le_refl _) _).setCell (p := ⟨w.heap.size, 3, none⟩) (Nat.le_refl _) _)⟩
    · go_enter Tryz.func7, Tryz.ntmps7
      go_wp2_with fail
      refine (cS.out _).mono ?_
      rintro e w1 ⟨h, hcap, rfl, hhc, hh, s0, s1, s2, b1⟩
      have B1 := hf0.trans (b1.mono hf0.size)
      have hR1 := hR0.out.below b1
      clear b1 hf0
      go_wp2_with fail
      refine (cR.out _).mono ?_
      rintro e w2 ⟨rfl, b2⟩
      have B2 := B1.trans (b2.mono B1.size)
      have hR2 := hR1.below b2
      have hh2 : h < w2.heap.size := Nat.lt_of_lt_of_le hh b2.size
      have s0' := (b2.cell (p := ⟨h, 0, none⟩) hh).trans s0
      have s2' := (b2.cell (p := ⟨h, 2, none⟩) hh).trans s2
      clear s0 s1 s2 b2 B1 hR1
      go_wp2_with fail
      refine (cD.out _).mono ?_
      rintro e w3 ⟨rfl, b3⟩
      have B3 := B2.trans (b3.mono B2.size)
      have hR3 := hR2.below b3
      have hh3 : h < w3.heap.size := Nat.lt_of_lt_of_le hh2 b3.size
      have s0 := (b3.cell (p := ⟨h, 0, none⟩) hh2).trans s0'
      clear s0' s2' b3 B2 hR2
      have B9 := B3
      obtain ⟨⟨c0, c1, c2, c3⟩, f0, f1, f2, f3⟩ := hR3.facts
      go_wp2
      exact bodyPost_ret (v := .tuple #[.agg #[.string ⟨#[]⟩, .int .i64 0, .int .i64 0, .int .i64 0], .bool false]) (by simp [results, Tryz.results7, go_sem, c0, c1, c2, c3, f0, f1, f2, f3]) rfl ⟨by rw [hr.out], ((((B9.setCell (p := ⟨w.heap.size, 0, none⟩) (Nat.le_refl _) _).setCell (p := ⟨w.heap.size, 1, none⟩) (Nat.le_refl _) _).setCell (p := ⟨w.heap.size, 2, none⟩) (Nat.le_refl _) _).setCell (p := ⟨w.heap.size, 3, none⟩) (Nat.le_refl _) _)⟩
  | some Z =>
    cases hd : dateR r with
    | none =>
      have hr : Hid (stkVal (stkO s.data.toList) = .tuple #[.agg #[.string ⟨#[]⟩, .int .i64 0, .int .i64 0, .int .i64 0], .bool false]) := Lib.hid (by rw [hq.out, stkOf_date hd]; rfl)
      obtain ⟨N, hN⟩ : ∃ N, N = Z.length := ⟨_, rfl⟩
      have cR : Hid (∀ W, Calls Tryz.prog 13 #[.string B] W fun e w' => ∃ a cap, e = .returned (.tuple #[.slice a N cap, .bool true]) ∧ N ≤ cap ∧ Below W.heap.size W w') := Lib.hid (fun W => (cR0 W).mono fun e w' h => by
        rcases h with ⟨h4, _⟩ | ⟨Z', v, h4, h6, h7, h8⟩
        · rw [ho] at h4; cases h4
        · rw [ho] at h4; cases h4
          obtain ⟨a, cap, rfl, hc, _⟩ := h7
          exact ⟨a, cap, by rw [hN]; exact h6, by rw [hN]; exact hc, h8⟩)
      have hN64 : N ≤ 64 := by rw [hN]; exact readL_len ho
      rw [hd] at cD0
      have cD : Hid (∀ W, Calls Tryz.prog 14 #[.string C] W fun e w' => e = .returned (.tuple #[.int .i64 0, .bool false]) ∧ Below W.heap.size W w') := Lib.hid cD0
      clear cD0 cR0 cR2 ho hq hA hB hC hN hd
      go_enter Tryz.func7, Tryz.ntmps7
      go_wp2_with fail
      refine (cS.out _).mono ?_
      rintro e w1 ⟨h, hcap, rfl, hhc, hh, s0, s1, s2, b1⟩
      have B1 := hf0.trans (b1.mono hf0.size)
      have hR1 := hR0.out.below b1
      clear b1 hf0
      go_wp2_with fail
      refine (cR.out _).mono ?_
      rintro e w2 ⟨la, lcap, rfl, hlc, b2⟩
      have B2 := B1.trans (b2.mono B1.size)
      have hR2 := hR1.below b2
      have hh2 : h < w2.heap.size := Nat.lt_of_lt_of_le hh b2.size
      have s0' := (b2.cell (p := ⟨h, 0, none⟩) hh).trans s0
      have s2' := (b2.cell (p := ⟨h, 2, none⟩) hh).trans s2
      clear s0 s1 s2 b2 B1 hR1
      go_wp2_with fail
      refine (cD.out _).mono ?_
      rintro e w3 ⟨rfl, b3⟩
      have B3 := B2.trans (b3.mono B2.size)
      have hR3 := hR2.below b3
      have hh3 : h < w3.heap.size := Nat.lt_of_lt_of_le hh2 b3.size
      have s0 := (b3.cell (p := ⟨h, 0, none⟩) hh2).trans s0'
      clear s0' s2' b3 B2 hR2
      have B9 := B3
      obtain ⟨⟨c0, c1, c2, c3⟩, f0, f1, f2, f3⟩ := hR3.facts
      go_wp2
      exact bodyPost_ret (v := .tuple #[.agg #[.string ⟨#[]⟩, .int .i64 0, .int .i64 0, .int .i64 0], .bool false]) (by simp [results, Tryz.results7, go_sem, c0, c1, c2, c3, f0, f1, f2, f3]) rfl ⟨by rw [hr.out], ((((B9.setCell (p := ⟨w.heap.size, 0, none⟩) (Nat.le_refl _) _).setCell (p := ⟨w.heap.size, 1, none⟩) (Nat.le_refl _) _).setCell (p := ⟨w.heap.size, 2, none⟩) (Nat.le_refl _) _).setCell (p := ⟨w.heap.size, 3, none⟩) (Nat.le_refl _) _)⟩
    | some c =>
      rw [hd] at cD0
      have cD : Hid (∀ W, Calls Tryz.prog 14 #[.string C] W fun e w' => e = .returned (.tuple #[.int .i64 c, .bool true]) ∧ Below W.heap.size W w') := Lib.hid cD0
      clear cD0
      by_cases h5 : Z.length = 2
      rotate_left
      · have hr : Hid (stkVal (stkO s.data.toList) = .tuple #[.agg #[.string ⟨#[]⟩, .int .i64 0, .int .i64 0, .int .i64 0], .bool false]) := Lib.hid (by rw [hq.out, stkOf_two ho h5]; rfl)
        obtain ⟨N, hN⟩ : ∃ N, N = Z.length := ⟨_, rfl⟩
        have cR : Hid (∀ W, Calls Tryz.prog 13 #[.string B] W fun e w' => ∃ a cap, e = .returned (.tuple #[.slice a N cap, .bool true]) ∧ N ≤ cap ∧ Below W.heap.size W w') := Lib.hid (fun W => (cR0 W).mono fun e w' h => by
          rcases h with ⟨h4, _⟩ | ⟨Z', v, h4, h6, h7, h8⟩
          · rw [ho] at h4; cases h4
          · rw [ho] at h4; cases h4
            obtain ⟨a, cap, rfl, hc, _⟩ := h7
            exact ⟨a, cap, by rw [hN]; exact h6, by rw [hN]; exact hc, h8⟩)
        have hN64 : N ≤ 64 := by rw [hN]; exact readL_len ho
        have t0 : ((N : Int) == 2) = false := by rw [beq_eq_false_iff_ne]; omega
        have u0 : ((N : Int) != 2) = true := by unfold bne; rw [t0]; rfl
        clear cR0 cR2 ho hq hA hB hC hN h5 hd
        go_enter Tryz.func7, Tryz.ntmps7
        go_wp2_with fail
        refine (cS.out _).mono ?_
        rintro e w1 ⟨h, hcap, rfl, hhc, hh, s0, s1, s2, b1⟩
        have B1 := hf0.trans (b1.mono hf0.size)
        have hR1 := hR0.out.below b1
        clear b1 hf0
        go_wp2_with fail
        refine (cR.out _).mono ?_
        rintro e w2 ⟨la, lcap, rfl, hlc, b2⟩
        have B2 := B1.trans (b2.mono B1.size)
        have hR2 := hR1.below b2
        have hh2 : h < w2.heap.size := Nat.lt_of_lt_of_le hh b2.size
        have s0' := (b2.cell (p := ⟨h, 0, none⟩) hh).trans s0
        have s2' := (b2.cell (p := ⟨h, 2, none⟩) hh).trans s2
        clear s0 s1 s2 b2 B1 hR1
        go_wp2_with fail
        refine (cD.out _).mono ?_
        rintro e w3 ⟨rfl, b3⟩
        have B3 := B2.trans (b3.mono B2.size)
        have hR3 := hR2.below b3
        have hh3 : h < w3.heap.size := Nat.lt_of_lt_of_le hh2 b3.size
        have s0 := (b3.cell (p := ⟨h, 0, none⟩) hh2).trans s0'
        clear s0' s2' b3 B2 hR2
        have B9 := B3
        obtain ⟨⟨c0, c1, c2, c3⟩, f0, f1, f2, f3⟩ := hR3.facts
        go_wp2
        exact bodyPost_ret (v := .tuple #[.agg #[.string ⟨#[]⟩, .int .i64 0, .int .i64 0, .int .i64 0], .bool false]) (by simp [results, Tryz.results7, go_sem, c0, c1, c2, c3, f0, f1, f2, f3]) rfl ⟨by rw [hr.out], ((((B9.setCell (p := ⟨w.heap.size, 0, none⟩) (Nat.le_refl _) _).setCell (p := ⟨w.heap.size, 1, none⟩) (Nat.le_refl _) _).setCell (p := ⟨w.heap.size, 2, none⟩) (Nat.le_refl _) _).setCell (p := ⟨w.heap.size, 3, none⟩) (Nat.le_refl _) _)⟩
      obtain ⟨a, b, rfl⟩ : ∃ a b, Z = [a, b] := by
        match Z, h5 with
        | [a, b], _ => exact ⟨a, b, rfl⟩
      have hq2 : Hid (stkO s.data.toList = if stkB ⟨A, a, b, c⟩ = true then some ⟨A, a, b, c⟩ else none) := Lib.hid (by rw [hq.out, stkOf_yes ho hd, hA])
      have cR := Lib.hid (cR2 a b ho)
      clear cR0 cR2 ho hq hA hB hC h5 hd
      cases hv : stkB ⟨A, a, b, c⟩
      · have hr : Hid (stkVal (stkO s.data.toList) = .tuple #[.agg #[.string ⟨#[]⟩, .int .i64 0, .int .i64 0, .int .i64 0], .bool false]) := Lib.hid (by rw [hq2.out, hv]; rfl)
        clear hq2
        go_enter Tryz.func7, Tryz.ntmps7
        go_wp2_with fail
        refine (cS.out _).mono ?_
        rintro e w1 ⟨h, hcap, rfl, hhc, hh, s0, s1, s2, b1⟩
        have B1 := hf0.trans (b1.mono hf0.size)
        have hR1 := hR0.out.below b1
        clear b1 hf0
        go_wp2_with fail
        refine (cR.out _).mono ?_
        rintro e w2 ⟨g, lcap, rfl, hlc, hg, hP, b2⟩
        have B2 := B1.trans (b2.mono B1.size)
        have hR2 := hR1.below b2
        have hh2 : h < w2.heap.size := Nat.lt_of_lt_of_le hh b2.size
        have s0' := (b2.cell (p := ⟨h, 0, none⟩) hh).trans s0
        have s2' := (b2.cell (p := ⟨h, 2, none⟩) hh).trans s2
        clear s0 s1 s2 b2 B1 hR1
        go_wp2_with fail
        refine (cD.out _).mono ?_
        rintro e w3 ⟨rfl, b3⟩
        have B3 := B2.trans (b3.mono B2.size)
        have hR3 := hR2.below b3
        have hh3 : h < w3.heap.size := Nat.lt_of_lt_of_le hh2 b3.size
        have s0 := (b3.cell (p := ⟨h, 0, none⟩) hh2).trans s0'
        have hg3 : g < w3.heap.size := Nat.lt_of_lt_of_le hg b3.size
        have g0 := (b3.cell (p := ⟨g, 0, none⟩) hg).trans hP.1
        have g1 := (b3.cell (p := ⟨g, 1, none⟩) hg).trans hP.2
        clear s0' s2' b3 B2 hR2 hP hg hh2
        have keep : ∀ W1 W2, ((W1.cell? ⟨h, 0, none⟩ = some (.string A) ∧ W1.cell? ⟨g, 0, none⟩ = some (.int .i64 a) ∧ W1.cell? ⟨g, 1, none⟩ = some (.int .i64 b)) ∧ (ResAt W1 w.heap.size ∧ Below w3.heap.size w3 W1)) → Below W1.heap.size W1 W2 → ((W2.cell? ⟨h, 0, none⟩ = some (.string A) ∧ W2.cell? ⟨g, 0, none⟩ = some (.int .i64 a) ∧ W2.cell? ⟨g, 1, none⟩ = some (.int .i64 b)) ∧ (ResAt W2 w.heap.size ∧ Below w3.heap.size w3 W2)) := fun W1 W2 h1 h2 => by
          obtain ⟨⟨p5, p0, p1⟩, hr, hb⟩ := h1
          have hl := Nat.lt_of_lt_of_le hg3 hb.size
          have hl2 := Nat.lt_of_lt_of_le hh3 hb.size
          exact ⟨⟨(h2.cell hl2).trans p5, (h2.cell hl).trans p0, (h2.cell hl).trans p1⟩, hr.below h2, hb.trans (h2.mono hb.size)⟩
        have keepH := Lib.hid keep
        have hS : (w3.cell? ⟨h, 0, none⟩ = some (.string A) ∧ w3.cell? ⟨g, 0, none⟩ = some (.int .i64 a) ∧ w3.cell? ⟨g, 1, none⟩ = some (.int .i64 b)) ∧ (ResAt w3 w.heap.size ∧ Below w3.heap.size w3 w3) := ⟨⟨s0, g0, g1⟩, hR3, Below.refl _ _⟩
        clear keep g0 g1 hR3 s0
        go_wp2
        go_region_held3 (fun w' => ((w'.cell? ⟨h, 0, none⟩ = some (.string A) ∧ w'.cell? ⟨g, 0, none⟩ = some (.int .i64 a) ∧ w'.cell? ⟨g, 1, none⟩ = some (.int .i64 b)) ∧ (ResAt w' w.heap.size ∧ Below w3.heap.size w3 w')))
          (first | exact ⟨hS.1, hS.2.1, belowN hS.2.2 1⟩ | exact keepH.out _ _ (by assumption) (fresh_b _ _) | exact keepH.out _ _ (by assumption) (belowN (fresh_b _ _) 1) | exact keepH.out w3 _ hS (belowN (fresh_b _ _) 1) | exact keepH.out _ _ (by assumption) (by assumption) | assumption)
          (fail)
        rename_i hHeld
        have hRx := hHeld.2.1
        have hBx := B3.trans (hHeld.2.2.mono B3.size)
        have hPx : ((w3.alloc (.cells #[.string A, .int .i64 a, .int .i64 b, .int .i64 c] 23)).drew.cell? ⟨w3.heap.size, 0, none⟩ = some (.string A) ∧ (w3.alloc (.cells #[.string A, .int .i64 a, .int .i64 b, .int .i64 c] 23)).drew.cell? ⟨w3.heap.size, 1, none⟩ = some (.int .i64 a) ∧ (w3.alloc (.cells #[.string A, .int .i64 a, .int .i64 b, .int .i64 c] 23)).drew.cell? ⟨w3.heap.size, 2, none⟩ = some (.int .i64 b) ∧ (w3.alloc (.cells #[.string A, .int .i64 a, .int .i64 b, .int .i64 c] 23)).drew.cell? ⟨w3.heap.size, 3, none⟩ = some (.int .i64 c)) := box_cells A a b c w3 _ (belowN (Below.refl _ (w3.alloc (.cells #[.string A, .int .i64 a, .int .i64 b, .int .i64 c] 23))) 1)
        have hGx : w3.heap.size < (w3.alloc (.cells #[.string A, .int .i64 a, .int .i64 b, .int .i64 c] 23)).drew.heap.size := by simp
        clear hHeld hS keepH B3
        generalize (w3.alloc (.cells #[.string A, .int .i64 a, .int .i64 b, .int .i64 c] 23)).drew = w4 at hRx hBx hPx hGx ⊢
        generalize w3.heap.size = G at hPx hGx ⊢
        have hat : StkAt w4 G 0 ⟨A, a, b, c⟩ := hPx
        have cO := l04One_any A a b c hAm w4 G 0 hat
        rw [hv] at cO
        have cO' := Lib.hid cO
        clear hat cO
        obtain ⟨y0, y1, y2, y3⟩ := hPx
        go_wp2_with fail
        refine cO'.out.mono ?_
        rintro e _ ⟨rfl, rfl⟩
        have B9 := hBx
        obtain ⟨⟨c0, c1, c2, c3⟩, f0, f1, f2, f3⟩ := hRx.facts
        clear hBx hRx
        go_wp2
        exact bodyPost_ret (v := .tuple #[.agg #[.string ⟨#[]⟩, .int .i64 0, .int .i64 0, .int .i64 0], .bool false]) (by simp [results, Tryz.results7, go_sem, c0, c1, c2, c3, f0, f1, f2, f3]) rfl ⟨by rw [hr.out], ((((B9.setCell (p := ⟨w.heap.size, 0, none⟩) (Nat.le_refl _) _).setCell (p := ⟨w.heap.size, 1, none⟩) (Nat.le_refl _) _).setCell (p := ⟨w.heap.size, 2, none⟩) (Nat.le_refl _) _).setCell (p := ⟨w.heap.size, 3, none⟩) (Nat.le_refl _) _)⟩
      · have hr : Hid (stkVal (stkO s.data.toList) = .tuple #[.agg #[.string A, .int .i64 a, .int .i64 b, .int .i64 c], .bool true]) := Lib.hid (by rw [hq2.out, if_pos hv]; rfl)
        clear hq2
        go_enter Tryz.func7, Tryz.ntmps7
        go_wp2_with fail
        refine (cS.out _).mono ?_
        rintro e w1 ⟨h, hcap, rfl, hhc, hh, s0, s1, s2, b1⟩
        have B1 := hf0.trans (b1.mono hf0.size)
        have hR1 := hR0.out.below b1
        clear b1 hf0
        go_wp2_with fail
        refine (cR.out _).mono ?_
        rintro e w2 ⟨g, lcap, rfl, hlc, hg, hP, b2⟩
        have B2 := B1.trans (b2.mono B1.size)
        have hR2 := hR1.below b2
        have hh2 : h < w2.heap.size := Nat.lt_of_lt_of_le hh b2.size
        have s0' := (b2.cell (p := ⟨h, 0, none⟩) hh).trans s0
        have s2' := (b2.cell (p := ⟨h, 2, none⟩) hh).trans s2
        clear s0 s1 s2 b2 B1 hR1
        go_wp2_with fail
        refine (cD.out _).mono ?_
        rintro e w3 ⟨rfl, b3⟩
        have B3 := B2.trans (b3.mono B2.size)
        have hR3 := hR2.below b3
        have hh3 : h < w3.heap.size := Nat.lt_of_lt_of_le hh2 b3.size
        have s0 := (b3.cell (p := ⟨h, 0, none⟩) hh2).trans s0'
        have hg3 : g < w3.heap.size := Nat.lt_of_lt_of_le hg b3.size
        have g0 := (b3.cell (p := ⟨g, 0, none⟩) hg).trans hP.1
        have g1 := (b3.cell (p := ⟨g, 1, none⟩) hg).trans hP.2
        clear s0' s2' b3 B2 hR2 hP hg hh2
        have keep : ∀ W1 W2, ((W1.cell? ⟨h, 0, none⟩ = some (.string A) ∧ W1.cell? ⟨g, 0, none⟩ = some (.int .i64 a) ∧ W1.cell? ⟨g, 1, none⟩ = some (.int .i64 b)) ∧ (ResAt W1 w.heap.size ∧ Below w3.heap.size w3 W1)) → Below W1.heap.size W1 W2 → ((W2.cell? ⟨h, 0, none⟩ = some (.string A) ∧ W2.cell? ⟨g, 0, none⟩ = some (.int .i64 a) ∧ W2.cell? ⟨g, 1, none⟩ = some (.int .i64 b)) ∧ (ResAt W2 w.heap.size ∧ Below w3.heap.size w3 W2)) := fun W1 W2 h1 h2 => by
          obtain ⟨⟨p5, p0, p1⟩, hr, hb⟩ := h1
          have hl := Nat.lt_of_lt_of_le hg3 hb.size
          have hl2 := Nat.lt_of_lt_of_le hh3 hb.size
          exact ⟨⟨(h2.cell hl2).trans p5, (h2.cell hl).trans p0, (h2.cell hl).trans p1⟩, hr.below h2, hb.trans (h2.mono hb.size)⟩
        have keepH := Lib.hid keep
        have hS : (w3.cell? ⟨h, 0, none⟩ = some (.string A) ∧ w3.cell? ⟨g, 0, none⟩ = some (.int .i64 a) ∧ w3.cell? ⟨g, 1, none⟩ = some (.int .i64 b)) ∧ (ResAt w3 w.heap.size ∧ Below w3.heap.size w3 w3) := ⟨⟨s0, g0, g1⟩, hR3, Below.refl _ _⟩
        clear keep g0 g1 hR3 s0
        go_wp2
        go_region_held3 (fun w' => ((w'.cell? ⟨h, 0, none⟩ = some (.string A) ∧ w'.cell? ⟨g, 0, none⟩ = some (.int .i64 a) ∧ w'.cell? ⟨g, 1, none⟩ = some (.int .i64 b)) ∧ (ResAt w' w.heap.size ∧ Below w3.heap.size w3 w')))
          (first | exact ⟨hS.1, hS.2.1, belowN hS.2.2 1⟩ | exact keepH.out _ _ (by assumption) (fresh_b _ _) | exact keepH.out _ _ (by assumption) (belowN (fresh_b _ _) 1) | exact keepH.out w3 _ hS (belowN (fresh_b _ _) 1) | exact keepH.out _ _ (by assumption) (by assumption) | assumption)
          (fail)
        rename_i hHeld
        have hRx := hHeld.2.1
        have hBx := B3.trans (hHeld.2.2.mono B3.size)
        have hPx : ((w3.alloc (.cells #[.string A, .int .i64 a, .int .i64 b, .int .i64 c] 23)).drew.cell? ⟨w3.heap.size, 0, none⟩ = some (.string A) ∧ (w3.alloc (.cells #[.string A, .int .i64 a, .int .i64 b, .int .i64 c] 23)).drew.cell? ⟨w3.heap.size, 1, none⟩ = some (.int .i64 a) ∧ (w3.alloc (.cells #[.string A, .int .i64 a, .int .i64 b, .int .i64 c] 23)).drew.cell? ⟨w3.heap.size, 2, none⟩ = some (.int .i64 b) ∧ (w3.alloc (.cells #[.string A, .int .i64 a, .int .i64 b, .int .i64 c] 23)).drew.cell? ⟨w3.heap.size, 3, none⟩ = some (.int .i64 c)) := box_cells A a b c w3 _ (belowN (Below.refl _ (w3.alloc (.cells #[.string A, .int .i64 a, .int .i64 b, .int .i64 c] 23))) 1)
        have hGx : w3.heap.size < (w3.alloc (.cells #[.string A, .int .i64 a, .int .i64 b, .int .i64 c] 23)).drew.heap.size := by simp
        clear hHeld hS keepH B3
        generalize (w3.alloc (.cells #[.string A, .int .i64 a, .int .i64 b, .int .i64 c] 23)).drew = w4 at hRx hBx hPx hGx ⊢
        generalize w3.heap.size = G at hPx hGx ⊢
        have hat : StkAt w4 G 0 ⟨A, a, b, c⟩ := hPx
        have cO := l04One_any A a b c hAm w4 G 0 hat
        rw [hv] at cO
        have cO' := Lib.hid cO
        clear hat cO
        obtain ⟨y0, y1, y2, y3⟩ := hPx
        go_wp2_with fail
        refine cO'.out.mono ?_
        rintro e _ ⟨rfl, rfl⟩
        have B9 := hBx
        obtain ⟨⟨c0, c1, c2, c3⟩, f0, f1, f2, f3⟩ := hRx.facts
        clear hBx hRx
        go_wp2
        exact bodyPost_ret (v := .tuple #[.agg #[.string A, .int .i64 a, .int .i64 b, .int .i64 c], .bool true]) (by simp [results, Tryz.results7, go_sem, c0, c1, c2, c3, f0, f1, f2, f3]) rfl ⟨by rw [hr.out], ((((B9.setCell (p := ⟨w.heap.size, 0, none⟩) (Nat.le_refl _) _).setCell (p := ⟨w.heap.size, 1, none⟩) (Nat.le_refl _) _).setCell (p := ⟨w.heap.size, 2, none⟩) (Nat.le_refl _) _).setCell (p := ⟨w.heap.size, 3, none⟩) (Nat.le_refl _) _)⟩
set_option maxHeartbeats 3200000 in
set_option maxRecDepth 1000000 in
theorem specReadStack_any (s : ByteArray) (w : World) (hs : s.size ≤ 1048576) :
    Calls Tryz.prog 4 #[.string s] w fun e w' => e = .returned (stkVal (stkO s.data.toList)) ∧ Below w.heap.size w w' := by
  have hf0 := fresh_b w (.cells #[.string ⟨#[]⟩, .int .i64 0, .int .i64 0, .int .i64 0] 23)
  have hR0 := Lib.hid (ResAt.start w)
  have cL0 := fun W => l04Read_any s W hs
  obtain ⟨o, ho⟩ : ∃ o, o = stkO s.data.toList := ⟨_, rfl⟩
  rw [← ho] at cL0 ⊢
  clear ho
  cases o with
  | none =>
    have hr : Hid (stkVal none = .tuple #[.agg #[.string ⟨#[]⟩, .int .i64 0, .int .i64 0, .int .i64 0], .bool false]) := Lib.hid rfl
    rw [hr.out] at cL0
    have cL := Lib.hid cL0
    clear cL0
    go_enter Tryz.func4, Tryz.ntmps4
    go_wp2_with fail
    refine (cL.out _).mono ?_
    rintro e w1 ⟨rfl, b1⟩
    have B9 := hf0.trans (b1.mono hf0.size)
    have hR1 := hR0.out.below b1
    clear b1 hf0
    obtain ⟨⟨c0, c1, c2, c3⟩, f0, f1, f2, f3⟩ := hR1.facts
    go_wp2
    exact bodyPost_ret (v := .tuple #[.agg #[.string ⟨#[]⟩, .int .i64 0, .int .i64 0, .int .i64 0], .bool false]) (by simp [results, Tryz.results4, go_sem, c0, c1, c2, c3, f0, f1, f2, f3]) rfl ⟨by rw [hr.out], ((((B9.setCell (p := ⟨w.heap.size, 0, none⟩) (Nat.le_refl _) _).setCell (p := ⟨w.heap.size, 1, none⟩) (Nat.le_refl _) _).setCell (p := ⟨w.heap.size, 2, none⟩) (Nat.le_refl _) _).setCell (p := ⟨w.heap.size, 3, none⟩) (Nat.le_refl _) _)⟩
  | some x =>
    obtain ⟨A, a, b, c⟩ := x
    have hr : Hid (stkVal (some ⟨A, a, b, c⟩) = .tuple #[.agg #[.string A, .int .i64 a, .int .i64 b, .int .i64 c], .bool true]) := Lib.hid rfl
    rw [hr.out] at cL0
    have cL := Lib.hid cL0
    clear cL0
    go_enter Tryz.func4, Tryz.ntmps4
    go_wp2_with fail
    refine (cL.out _).mono ?_
    rintro e w1 ⟨rfl, b1⟩
    have B9 := hf0.trans (b1.mono hf0.size)
    have hR1 := hR0.out.below b1
    clear b1 hf0
    obtain ⟨⟨c0, c1, c2, c3⟩, f0, f1, f2, f3⟩ := hR1.facts
    go_wp2
    exact bodyPost_ret (v := .tuple #[.agg #[.string A, .int .i64 a, .int .i64 b, .int .i64 c], .bool true]) (by simp [results, Tryz.results4, go_sem, c0, c1, c2, c3, f0, f1, f2, f3]) rfl ⟨by rw [hr.out], ((((B9.setCell (p := ⟨w.heap.size, 0, none⟩) (Nat.le_refl _) _).setCell (p := ⟨w.heap.size, 1, none⟩) (Nat.le_refl _) _).setCell (p := ⟨w.heap.size, 2, none⟩) (Nat.le_refl _) _).setCell (p := ⟨w.heap.size, 3, none⟩) (Nat.le_refl _) _)⟩
end Go.Proofs.YtjgpckocmjolmaaGreatDoor
