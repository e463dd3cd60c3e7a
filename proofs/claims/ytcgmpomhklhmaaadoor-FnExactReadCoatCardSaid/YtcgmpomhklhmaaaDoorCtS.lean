/-
  Readers of coats: the model's contract.
-/
import Derived.Test.YtcgmpomhklhmaaaDoorCtR
namespace Go.Proofs.YtcgmpomhklhmaaaDoor
open Go.ChangeShapes Go.WideShapes Go.ChangeAt Go.RowKit Go.Deep
set_option linter.unusedVariables false
set_option linter.unusedSimpArgs false
set_option maxRecDepth 1000000
set_option maxHeartbeats 3200000 in
theorem specReadCoat_any (s : ByteArray) (w : World) (hs : s.size ≤ 1048576) : Calls Tryd.prog 10 #[.string s] w (CtRet (ctO s.data.toList) w) := by
  have hf0 := fresh_b w (.cells #[.string ⟨#[]⟩, .int .i64 0, .int .i64 0, .slice none 0 0] 27)
  have hRes0 : ResC (w.alloc (.cells #[.string ⟨#[]⟩, .int .i64 0, .int .i64 0, .slice none 0 0] 27)) w.heap.size := heap_alloc_new _ _
  have cS0 := l01Split_any s 32 (w.alloc (.cells #[.string ⟨#[]⟩, .int .i64 0, .int .i64 0, .slice none 0 0] 27)) hs
  have hW0 := Lib.hid hRes0
  by_cases h3 : (splitL 32 s.data.toList).length = 3
  rotate_left
  · have hr : Hid (ctO s.data.toList = none) := Lib.hid (ctO_no h3)
    obtain ⟨P, hP⟩ : ∃ P, P = splitL 32 s.data.toList := ⟨_, rfl⟩
    have hPl : P.length ≤ 1048577 := by rw [hP]; have := splitL_len 32 s.data.toList; rw [len_data] at this; omega
    rw [← hP] at cS0 h3
    have cS := Lib.hid cS0
    have hne : ((P.length : Int) == 3) = false := by (rw [beq_eq_false_iff_ne]; omega)
    have hne2 : ((P.length : Int) != 3) = true := by unfold bne; rw [hne]; rfl
    clear cS0 hP h3
    go_enter Tryd.func10, Tryd.ntmps10
    go_wp2_with fail
    refine cS.out.mono ?_
    rintro e w1 ⟨v1, rfl, o1, b1⟩
    have B1 := below2 hf0 b1
    have R1w := Lib.hid (hW0.out.below b1)
    obtain ⟨ax, cx, rfl⟩ := ownShape o1
    clear o1 b1 hf0
    have th := (R1w.out).there
    have hb9 := B1
    go_wp2_with (refine wpList_store_mid rfl _ _ _ rfl w.heap.size 0 _ rfl rfl ?_ sizeCt (oneCt _ _ _ _ _ _) ?_; (exact th); generalize hW : World.setCells _ _ _ _ = w9; (have H := resC_end th hb9 hW); clear hW)
    obtain ⟨⟨c0, c1, c2, c3⟩, _, B9⟩ := H
    exact bodyPost_ret (v := .tuple #[.agg #[.string ⟨#[]⟩, .int .i64 0, .int .i64 0, .slice none 0 0], .bool false]) (by simp [results, Tryd.results10, go_sem, c0, c1, c2, c3]) rfl (by rw [hr.out]; exact ⟨rfl, B9⟩)
  obtain ⟨p, q, r, hpqr⟩ : ∃ p q r, splitL 32 s.data.toList = [p, q, r] := by
    match h : splitL 32 s.data.toList, h3 with
    | [p, q, r], _ => exact ⟨p, q, r, rfl⟩
  have hlen : ∀ x ∈ splitL 32 s.data.toList, x.length ≤ 1048576 := fun x hx => by
    have := part_len 32 _ s.data.toList (Nat.le_refl _) x hx
    rw [len_data] at this; omega
  have hO : Hid (ctO s.data.toList = ctOf p q r) := Lib.hid (ctO_three hpqr)
  rw [hpqr] at cS0 hlen
  obtain ⟨A, hA⟩ : ∃ A : ByteArray, A = ⟨p.toArray⟩ := ⟨_, rfl⟩
  obtain ⟨Q, hQ⟩ : ∃ A : ByteArray, A = ⟨q.toArray⟩ := ⟨_, rfl⟩
  obtain ⟨U, hU⟩ : ∃ A : ByteArray, A = ⟨r.toArray⟩ := ⟨_, rfl⟩
  have hA2 := Lib.hid hA
  have hAm : A.size ≤ maxLen := by unfold maxLen; rw [hA]; have := hlen p (by simp); show p.length ≤ _; omega
  have cM0 := fun W => specReadList_any Q W (by rw [hQ]; exact hlen q (by simp))
  have cL0 := fun W => specReadList_any U W (by rw [hU]; exact hlen r (by simp))
  rw [show Q.data.toList = q by rw [hQ]] at cM0
  rw [show U.data.toList = r by rw [hU]] at cL0
  have cS : Hid (Calls Tryd.prog 22 #[.string s, .int .u8 32] (w.alloc (.cells #[.string ⟨#[]⟩, .int .i64 0, .int .i64 0, .slice none 0 0] 27)) fun e w' => ∃ g cap, e = .returned (.slice (some ⟨g, 0, none⟩) 3 cap) ∧ g < w'.heap.size ∧ (w'.cell? ⟨g, 0, none⟩ = some (.string A) ∧ w'.cell? ⟨g, 1, none⟩ = some (.string Q) ∧ w'.cell? ⟨g, 2, none⟩ = some (.string U)) ∧ Below ((w.alloc (.cells #[.string ⟨#[]⟩, .int .i64 0, .int .i64 0, .slice none 0 0] 27))).heap.size ((w.alloc (.cells #[.string ⟨#[]⟩, .int .i64 0, .int .i64 0, .slice none 0 0] 27))) w') := Lib.hid (cS0.mono fun e w' h => by
    obtain ⟨v, he, ho, hb⟩ := h
    obtain ⟨g, cap, rfl, k1, k2, k3, k4⟩ := words_row ho
    exact ⟨g, cap, he, k1, ⟨by rw [hA]; exact k2, by rw [hQ]; exact k3, by rw [hU]; exact k4⟩, hb⟩)
  clear cS0 hpqr hlen hA hQ hU h3 hRes0
  cases hM : readL q with
  | none =>
    have cM := Lib.hid (fun W => (cM0 W).mono fun e w' h => lret_none h hM)
    cases hL : readL r with
    | none =>
      have cL := Lib.hid (fun W => (cL0 W).mono fun e w' h => lret_none h hL)
      have hr : Hid (ctO s.data.toList = none) := Lib.hid (by rw [hO.out]; exact ctOf_q (readM_none hM))
      clear cM0 cL0 hM hL
      go_enter Tryd.func10, Tryd.ntmps10
      go_wp2_with fail
      refine cS.out.mono ?_
      rintro e w1 ⟨g, cap, rfl, hg, ⟨x0, x1, x2⟩, b1⟩
      have B1 := below2 hf0 b1
      have R1w := Lib.hid (hW0.out.below b1)
      clear b1 hf0
      go_wp2_with fail
      refine (cM.out _).mono ?_
      rintro e w3 ⟨rfl, b3⟩
      have B3 := below2 B1 b3
      have R3w := Lib.hid (R1w.out.below b3)
      replace x0 := (bcell b3 _ _ hg).trans x0
      replace x2 := (bcell b3 _ _ hg).trans x2
      replace hg := Nat.lt_of_lt_of_le hg b3.size
      clear b3 x1
      go_wp2_with fail
      refine (cL.out _).mono ?_
      rintro e w4 ⟨rfl, b4⟩
      have B4 := below2 B3 b4
      have R4w := Lib.hid (R3w.out.below b4)
      replace x0 := (bcell b4 _ _ hg).trans x0
      replace hg := Nat.lt_of_lt_of_le hg b4.size
      clear x2
      have th := (R4w.out).there
      have hb9 := B4
      go_wp2_with (refine wpList_store_mid rfl _ _ _ rfl w.heap.size 0 _ rfl rfl ?_ sizeCt (oneCt _ _ _ _ _ _) ?_; (exact th); generalize hW : World.setCells _ _ _ _ = w9; (have H := resC_end th hb9 hW); clear hW)
      obtain ⟨⟨c0, c1, c2, c3⟩, _, B9⟩ := H
      exact bodyPost_ret (v := .tuple #[.agg #[.string ⟨#[]⟩, .int .i64 0, .int .i64 0, .slice none 0 0], .bool false]) (by simp [results, Tryd.results10, go_sem, c0, c1, c2, c3]) rfl (by rw [hr.out]; exact ⟨rfl, B9⟩)
    | some C =>
      have cL := Lib.hid (fun W => (cL0 W).mono fun e w' h => lret_some h hL)
      have hr : Hid (ctO s.data.toList = none) := Lib.hid (by rw [hO.out]; exact ctOf_q (readM_none hM))
      clear cM0 cL0 hM hL
      go_enter Tryd.func10, Tryd.ntmps10
      go_wp2_with fail
      refine cS.out.mono ?_
      rintro e w1 ⟨g, cap, rfl, hg, ⟨x0, x1, x2⟩, b1⟩
      have B1 := below2 hf0 b1
      have R1w := Lib.hid (hW0.out.below b1)
      clear b1 hf0
      go_wp2_with fail
      refine (cM.out _).mono ?_
      rintro e w3 ⟨rfl, b3⟩
      have B3 := below2 B1 b3
      have R3w := Lib.hid (R1w.out.below b3)
      replace x0 := (bcell b3 _ _ hg).trans x0
      replace x2 := (bcell b3 _ _ hg).trans x2
      replace hg := Nat.lt_of_lt_of_le hg b3.size
      clear b3 x1
      go_wp2_with fail
      refine (cL.out _).mono ?_
      rintro e w4 ⟨v4, rfl, o4, b4⟩
      obtain ⟨ax, cx, rfl⟩ := ownShape o4
      have B4 := below2 B3 b4
      have R4w := Lib.hid (R3w.out.below b4)
      replace x0 := (bcell b4 _ _ hg).trans x0
      replace hg := Nat.lt_of_lt_of_le hg b4.size
      clear x2
      have th := (R4w.out).there
      have hb9 := B4
      go_wp2_with (refine wpList_store_mid rfl _ _ _ rfl w.heap.size 0 _ rfl rfl ?_ sizeCt (oneCt _ _ _ _ _ _) ?_; (exact th); generalize hW : World.setCells _ _ _ _ = w9; (have H := resC_end th hb9 hW); clear hW)
      obtain ⟨⟨c0, c1, c2, c3⟩, _, B9⟩ := H
      exact bodyPost_ret (v := .tuple #[.agg #[.string ⟨#[]⟩, .int .i64 0, .int .i64 0, .slice none 0 0], .bool false]) (by simp [results, Tryd.results10, go_sem, c0, c1, c2, c3]) rfl (by rw [hr.out]; exact ⟨rfl, B9⟩)
  | some Z =>
    have hZ64 := readL_len hM
    by_cases hz2 : Z.length = 2
    rotate_left
    · have hM2 := readM_len (n := 2) hM hz2
      have hne : ((Z.length : Int) == 2) = false := by (rw [beq_eq_false_iff_ne]; omega)
      have hne2 : ((Z.length : Int) != 2) = true := by unfold bne; rw [hne]; rfl
      have cM := Lib.hid (fun W => (cM0 W).mono fun e w' h => lret_some h hM)
      cases hL : readL r with
      | none =>
        have cL := Lib.hid (fun W => (cL0 W).mono fun e w' h => lret_none h hL)
        have hr : Hid (ctO s.data.toList = none) := Lib.hid (by rw [hO.out]; exact ctOf_q hM2)
        clear cM0 cL0 hM hL hz2 hM2
        go_enter Tryd.func10, Tryd.ntmps10
        go_wp2_with fail
        refine cS.out.mono ?_
        rintro e w1 ⟨g, cap, rfl, hg, ⟨x0, x1, x2⟩, b1⟩
        have B1 := below2 hf0 b1
        have R1w := Lib.hid (hW0.out.below b1)
        clear b1 hf0
        go_wp2_with fail
        refine (cM.out _).mono ?_
        rintro e w3 ⟨v3, rfl, o3, b3⟩
        obtain ⟨a3, c3x, rfl⟩ := ownShape o3
        have B3 := below2 B1 b3
        have R3w := Lib.hid (R1w.out.below b3)
        replace x0 := (bcell b3 _ _ hg).trans x0
        replace x2 := (bcell b3 _ _ hg).trans x2
        replace hg := Nat.lt_of_lt_of_le hg b3.size
        clear b3 x1
        go_wp2_with fail
        refine (cL.out _).mono ?_
        rintro e w4 ⟨rfl, b4⟩
        have B4 := below2 B3 b4
        have R4w := Lib.hid (R3w.out.below b4)
        replace x0 := (bcell b4 _ _ hg).trans x0
        replace hg := Nat.lt_of_lt_of_le hg b4.size
        clear x2
        have th := (R4w.out).there
        have hb9 := B4
        go_wp2_with (refine wpList_store_mid rfl _ _ _ rfl w.heap.size 0 _ rfl rfl ?_ sizeCt (oneCt _ _ _ _ _ _) ?_; (exact th); generalize hW : World.setCells _ _ _ _ = w9; (have H := resC_end th hb9 hW); clear hW)
        obtain ⟨⟨c0, c1, c2, c3⟩, _, B9⟩ := H
        exact bodyPost_ret (v := .tuple #[.agg #[.string ⟨#[]⟩, .int .i64 0, .int .i64 0, .slice none 0 0], .bool false]) (by simp [results, Tryd.results10, go_sem, c0, c1, c2, c3]) rfl (by rw [hr.out]; exact ⟨rfl, B9⟩)
      | some C =>
        have cL := Lib.hid (fun W => (cL0 W).mono fun e w' h => lret_some h hL)
        have hr : Hid (ctO s.data.toList = none) := Lib.hid (by rw [hO.out]; exact ctOf_q hM2)
        clear cM0 cL0 hM hL hz2 hM2
        go_enter Tryd.func10, Tryd.ntmps10
        go_wp2_with fail
        refine cS.out.mono ?_
        rintro e w1 ⟨g, cap, rfl, hg, ⟨x0, x1, x2⟩, b1⟩
        have B1 := below2 hf0 b1
        have R1w := Lib.hid (hW0.out.below b1)
        clear b1 hf0
        go_wp2_with fail
        refine (cM.out _).mono ?_
        rintro e w3 ⟨v3, rfl, o3, b3⟩
        obtain ⟨a3, c3x, rfl⟩ := ownShape o3
        have B3 := below2 B1 b3
        have R3w := Lib.hid (R1w.out.below b3)
        replace x0 := (bcell b3 _ _ hg).trans x0
        replace x2 := (bcell b3 _ _ hg).trans x2
        replace hg := Nat.lt_of_lt_of_le hg b3.size
        clear b3 x1
        go_wp2_with fail
        refine (cL.out _).mono ?_
        rintro e w4 ⟨v4, rfl, o4, b4⟩
        obtain ⟨ax, cx, rfl⟩ := ownShape o4
        have B4 := below2 B3 b4
        have R4w := Lib.hid (R3w.out.below b4)
        replace x0 := (bcell b4 _ _ hg).trans x0
        replace hg := Nat.lt_of_lt_of_le hg b4.size
        clear x2
        have th := (R4w.out).there
        have hb9 := B4
        go_wp2_with (refine wpList_store_mid rfl _ _ _ rfl w.heap.size 0 _ rfl rfl ?_ sizeCt (oneCt _ _ _ _ _ _) ?_; (exact th); generalize hW : World.setCells _ _ _ _ = w9; (have H := resC_end th hb9 hW); clear hW)
        obtain ⟨⟨c0, c1, c2, c3⟩, _, B9⟩ := H
        exact bodyPost_ret (v := .tuple #[.agg #[.string ⟨#[]⟩, .int .i64 0, .int .i64 0, .slice none 0 0], .bool false]) (by simp [results, Tryd.results10, go_sem, c0, c1, c2, c3]) rfl (by rw [hr.out]; exact ⟨rfl, B9⟩)
    have hM2 := readM_yes (n := 2) hM hz2
    obtain ⟨a, b, rfl⟩ := readM_two hM2
    have cM := Lib.hid (fun W => (cM0 W).mono fun e w' h => lret_some h hM)
    cases hL : readL r with
    | none =>
      have cL := Lib.hid (fun W => (cL0 W).mono fun e w' h => lret_none h hL)
      have hr : Hid (ctO s.data.toList = none) := Lib.hid (by rw [hO.out]; exact ctOf_r hL)
      clear cM0 cL0 hM hL hM2 hz2 hZ64
      go_enter Tryd.func10, Tryd.ntmps10
      go_wp2_with fail
      refine cS.out.mono ?_
      rintro e w1 ⟨g, cap, rfl, hg, ⟨x0, x1, x2⟩, b1⟩
      have B1 := below2 hf0 b1
      have R1w := Lib.hid (hW0.out.below b1)
      clear b1 hf0
      go_wp2_with fail
      refine (cM.out _).mono ?_
      rintro e w3 ⟨v3, rfl, o3, b3⟩
      obtain ⟨g3, c3x, rfl, hg3b, hg3, m0, m1⟩ := ints_row o3
      have B3 := below2 B1 b3
      have R3w := Lib.hid (R1w.out.below b3)
      replace x0 := (bcell b3 _ _ hg).trans x0
      replace x2 := (bcell b3 _ _ hg).trans x2
      replace hg := Nat.lt_of_lt_of_le hg b3.size
      clear b3 x1
      go_wp2_with fail
      refine (cL.out _).mono ?_
      rintro e w4 ⟨rfl, b4⟩
      have B4 := below2 B3 b4
      have R4w := Lib.hid (R3w.out.below b4)
      replace x0 := (bcell b4 _ _ hg).trans x0
      replace hg := Nat.lt_of_lt_of_le hg b4.size
      clear x2
      have th := (R4w.out).there
      have hb9 := B4
      go_wp2_with (refine wpList_store_mid rfl _ _ _ rfl w.heap.size 0 _ rfl rfl ?_ sizeCt (oneCt _ _ _ _ _ _) ?_; (exact th); generalize hW : World.setCells _ _ _ _ = w9; (have H := resC_end th hb9 hW); clear hW)
      obtain ⟨⟨c0, c1, c2, c3⟩, _, B9⟩ := H
      exact bodyPost_ret (v := .tuple #[.agg #[.string ⟨#[]⟩, .int .i64 0, .int .i64 0, .slice none 0 0], .bool false]) (by simp [results, Tryd.results10, go_sem, c0, c1, c2, c3]) rfl (by rw [hr.out]; exact ⟨rfl, B9⟩)
    | some C =>
      have cL := Lib.hid (fun W => (cL0 W).mono fun e w' h => lret_some h hL)
      have hCi := Lib.hid (readL_in hL)
      have hCl : C.length ≤ maxLen := by have := readL_len hL; unfold maxLen; omega
      have hq2 : Hid (ctO s.data.toList = if ctB ⟨A, a, b, C⟩ = true then some ⟨A, a, b, C⟩ else none) := Lib.hid (by rw [hO.out, ctOf_yes hM2 hL, hA2.out]; rfl)
      clear cM0 cL0 hM hL hM2 hz2 hZ64
      cases hv : ctB ⟨A, a, b, C⟩
      · have hr : Hid (ctO s.data.toList = none) := Lib.hid (by rw [hq2.out, hv]; rfl)
        go_enter Tryd.func10, Tryd.ntmps10
        go_wp2_with fail
        refine cS.out.mono ?_
        rintro e w1 ⟨g, cap, rfl, hg, ⟨x0, x1, x2⟩, b1⟩
        have B1 := below2 hf0 b1
        have R1w := Lib.hid (hW0.out.below b1)
        clear b1 hf0
        go_wp2_with fail
        refine (cM.out _).mono ?_
        rintro e w3 ⟨v3, rfl, o3, b3⟩
        obtain ⟨g3, c3x, rfl, hg3b, hg3, m0, m1⟩ := ints_row o3
        have B3 := below2 B1 b3
        have R3w := Lib.hid (R1w.out.below b3)
        replace x0 := (bcell b3 _ _ hg).trans x0
        replace x2 := (bcell b3 _ _ hg).trans x2
        replace hg := Nat.lt_of_lt_of_le hg b3.size
        clear b3 x1
        go_wp2_with fail
        refine (cL.out _).mono ?_
        rintro e w4 ⟨v4, rfl, o4, b4⟩
        obtain ⟨ax, cx, rfl⟩ := ownShape o4
        have B4 := below2 B3 b4
        have R4w := Lib.hid (R3w.out.below b4)
        replace x0 := (bcell b4 _ _ hg).trans x0
        replace hg := Nat.lt_of_lt_of_le hg b4.size
        clear x2
        have n0 := (bcell b4 _ _ hg3).trans m0
        have n1 := (bcell b4 _ _ hg3).trans m1
        have hg4 := Nat.lt_of_lt_of_le hg3 b4.size
        have o4' := Lib.hid o4
        have hs3 : w.heap.size < w3.heap.size := (Array.getElem?_eq_some_iff.1 R3w.out).1
        have keepH : Hid (∀ W1 W2, ((W1.cell? ⟨g, 0, none⟩ = some (.string A) ∧ W1.cell? ⟨g3, 0, none⟩ = some (.int .i64 a) ∧ W1.cell? ⟨g3, 1, none⟩ = some (.int .i64 b)) ∧ Below w4.heap.size w4 W1) → Below W1.heap.size W1 W2 → ((W2.cell? ⟨g, 0, none⟩ = some (.string A) ∧ W2.cell? ⟨g3, 0, none⟩ = some (.int .i64 a) ∧ W2.cell? ⟨g3, 1, none⟩ = some (.int .i64 b)) ∧ Below w4.heap.size w4 W2)) := Lib.hid (fun W1 W2 h1 h2 => by
          obtain ⟨⟨p0, p1, p2⟩, hb⟩ := h1
          have hl := Nat.lt_of_lt_of_le hg4 hb.size
          have hl2 := Nat.lt_of_lt_of_le hg hb.size
          exact ⟨⟨(bcell h2 _ _ hl2).trans p0, (bcell h2 _ _ hl).trans p1, (bcell h2 _ _ hl).trans p2⟩, below2 hb h2⟩)
        have hS : ((w4.cell? ⟨g, 0, none⟩ = some (.string A) ∧ w4.cell? ⟨g3, 0, none⟩ = some (.int .i64 a) ∧ w4.cell? ⟨g3, 1, none⟩ = some (.int .i64 b)) ∧ Below w4.heap.size w4 w4) := ⟨⟨x0, n0, n1⟩, Below.refl _ _⟩
        have cV0 := fun (W : World) (hb : Below w4.heap.size w4 W) (hx : CtAt W w4.heap.size 0 ⟨A, a, b, C⟩ (.slice ax C.length cx)) => l13One_any ⟨A, a, b, C⟩ (.slice ax C.length cx) w4.heap.size 0 hAm hCl W hx
        rw [hv] at cV0
        have cV := Lib.hid cV0
        clear cV0 o4 m0 m1 n0 n1 x0 b4 hg3 hg3b
        go_wp2
        go_region_held3 (fun w' => ((w'.cell? ⟨g, 0, none⟩ = some (.string A) ∧ w'.cell? ⟨g3, 0, none⟩ = some (.int .i64 a) ∧ w'.cell? ⟨g3, 1, none⟩ = some (.int .i64 b)) ∧ Below w4.heap.size w4 w'))
          (first | exact ⟨hS.1, belowN hS.2 1⟩ | exact keepH.out _ _ (by assumption) (fresh_b _ _) | exact keepH.out _ _ (by assumption) (belowN (fresh_b _ _) 1) | exact keepH.out w4 _ hS (belowN (fresh_b _ _) 1) | exact keepH.out _ _ (by assumption) (by assumption) | assumption)
          (fail)
        all_goals rename_i hHeld
        have hB5 := hHeld.2
        have hX : ((w4.alloc (.cells #[.string A, .int .i64 a, .int .i64 b, .slice ax C.length cx] 27)).drew).heap[w4.heap.size]? = some (.cells #[.string A, .int .i64 a, .int .i64 b, .slice ax C.length cx] 27 (0, 0)) := heap_alloc_new _ _
        clear hHeld hS keepH
        generalize (w4.alloc (.cells #[.string A, .int .i64 a, .int .i64 b, .slice ax C.length cx] 27)).drew = w5 at hB5 hX ⊢
        have hR5 := R4w.out.below hB5
        have B5 := below2 B4 hB5
        have o5 := Lib.hid (own_kept8 o4'.out hB5)
        have cW := Lib.hid (cV.out w5 hB5 ⟨⟨cellB hX 0 _ rfl, cellB hX 1 _ rfl, cellB hX 2 _ rfl, cellB hX 3 _ rfl⟩, ints_own o5.out hCi.out⟩)
        have hrX : w5.rangeAt w4.heap.size 0 [.string A, .int .i64 a, .int .i64 b, .slice ax C.length cx] := fun j v hv => by rw [Nat.zero_add]; exact cellB hX j v (by simpa using hv)
        have th := hR5.there
        have hb9 := B5
        go_wp2_with (first | (refine wpList_load_mid rfl _ _ rfl w4.heap.size 0 rfl _ _ hrX Tryd.underlying27 rfl rfl ?_) | (go_at_call 15; (with_reducible refine cW.out.mono ?_); rintro e w6 ⟨rfl, rfl⟩) | (refine wpList_store_mid rfl _ _ _ rfl w.heap.size 0 _ rfl rfl ?_ sizeCt (oneCt _ _ _ _ _ _) ?_; (exact th); generalize hW : World.setCells _ _ _ _ = w9; (have H := resC_end th hb9 hW); clear hW))
        obtain ⟨⟨c0, c1, c2, c3⟩, gr, B9⟩ := H
        exact bodyPost_ret (v := .tuple #[.agg #[.string ⟨#[]⟩, .int .i64 0, .int .i64 0, .slice none 0 0], .bool false]) (by simp [results, Tryd.results10, go_sem, c0, c1, c2, c3]) rfl (by rw [hr.out]; exact ⟨rfl, B9⟩)
      · have hr : Hid (ctO s.data.toList = some ⟨A, a, b, C⟩) := Lib.hid (by rw [hq2.out, if_pos hv])
        go_enter Tryd.func10, Tryd.ntmps10
        go_wp2_with fail
        refine cS.out.mono ?_
        rintro e w1 ⟨g, cap, rfl, hg, ⟨x0, x1, x2⟩, b1⟩
        have B1 := below2 hf0 b1
        have R1w := Lib.hid (hW0.out.below b1)
        clear b1 hf0
        go_wp2_with fail
        refine (cM.out _).mono ?_
        rintro e w3 ⟨v3, rfl, o3, b3⟩
        obtain ⟨g3, c3x, rfl, hg3b, hg3, m0, m1⟩ := ints_row o3
        have B3 := below2 B1 b3
        have R3w := Lib.hid (R1w.out.below b3)
        replace x0 := (bcell b3 _ _ hg).trans x0
        replace x2 := (bcell b3 _ _ hg).trans x2
        replace hg := Nat.lt_of_lt_of_le hg b3.size
        clear b3 x1
        go_wp2_with fail
        refine (cL.out _).mono ?_
        rintro e w4 ⟨v4, rfl, o4, b4⟩
        obtain ⟨ax, cx, rfl⟩ := ownShape o4
        have B4 := below2 B3 b4
        have R4w := Lib.hid (R3w.out.below b4)
        replace x0 := (bcell b4 _ _ hg).trans x0
        replace hg := Nat.lt_of_lt_of_le hg b4.size
        clear x2
        have n0 := (bcell b4 _ _ hg3).trans m0
        have n1 := (bcell b4 _ _ hg3).trans m1
        have hg4 := Nat.lt_of_lt_of_le hg3 b4.size
        have o4' := Lib.hid o4
        have hs3 : w.heap.size < w3.heap.size := (Array.getElem?_eq_some_iff.1 R3w.out).1
        have keepH : Hid (∀ W1 W2, ((W1.cell? ⟨g, 0, none⟩ = some (.string A) ∧ W1.cell? ⟨g3, 0, none⟩ = some (.int .i64 a) ∧ W1.cell? ⟨g3, 1, none⟩ = some (.int .i64 b)) ∧ Below w4.heap.size w4 W1) → Below W1.heap.size W1 W2 → ((W2.cell? ⟨g, 0, none⟩ = some (.string A) ∧ W2.cell? ⟨g3, 0, none⟩ = some (.int .i64 a) ∧ W2.cell? ⟨g3, 1, none⟩ = some (.int .i64 b)) ∧ Below w4.heap.size w4 W2)) := Lib.hid (fun W1 W2 h1 h2 => by
          obtain ⟨⟨p0, p1, p2⟩, hb⟩ := h1
          have hl := Nat.lt_of_lt_of_le hg4 hb.size
          have hl2 := Nat.lt_of_lt_of_le hg hb.size
          exact ⟨⟨(bcell h2 _ _ hl2).trans p0, (bcell h2 _ _ hl).trans p1, (bcell h2 _ _ hl).trans p2⟩, below2 hb h2⟩)
        have hS : ((w4.cell? ⟨g, 0, none⟩ = some (.string A) ∧ w4.cell? ⟨g3, 0, none⟩ = some (.int .i64 a) ∧ w4.cell? ⟨g3, 1, none⟩ = some (.int .i64 b)) ∧ Below w4.heap.size w4 w4) := ⟨⟨x0, n0, n1⟩, Below.refl _ _⟩
        have cV0 := fun (W : World) (hb : Below w4.heap.size w4 W) (hx : CtAt W w4.heap.size 0 ⟨A, a, b, C⟩ (.slice ax C.length cx)) => l13One_any ⟨A, a, b, C⟩ (.slice ax C.length cx) w4.heap.size 0 hAm hCl W hx
        rw [hv] at cV0
        have cV := Lib.hid cV0
        clear cV0 o4 m0 m1 n0 n1 x0 b4 hg3 hg3b
        go_wp2
        go_region_held3 (fun w' => ((w'.cell? ⟨g, 0, none⟩ = some (.string A) ∧ w'.cell? ⟨g3, 0, none⟩ = some (.int .i64 a) ∧ w'.cell? ⟨g3, 1, none⟩ = some (.int .i64 b)) ∧ Below w4.heap.size w4 w'))
          (first | exact ⟨hS.1, belowN hS.2 1⟩ | exact keepH.out _ _ (by assumption) (fresh_b _ _) | exact keepH.out _ _ (by assumption) (belowN (fresh_b _ _) 1) | exact keepH.out w4 _ hS (belowN (fresh_b _ _) 1) | exact keepH.out _ _ (by assumption) (by assumption) | assumption)
          (fail)
        all_goals rename_i hHeld
        have hB5 := hHeld.2
        have hX : ((w4.alloc (.cells #[.string A, .int .i64 a, .int .i64 b, .slice ax C.length cx] 27)).drew).heap[w4.heap.size]? = some (.cells #[.string A, .int .i64 a, .int .i64 b, .slice ax C.length cx] 27 (0, 0)) := heap_alloc_new _ _
        clear hHeld hS keepH
        generalize (w4.alloc (.cells #[.string A, .int .i64 a, .int .i64 b, .slice ax C.length cx] 27)).drew = w5 at hB5 hX ⊢
        have hR5 := R4w.out.below hB5
        have B5 := below2 B4 hB5
        have o5 := Lib.hid (own_kept8 o4'.out hB5)
        have cW := Lib.hid (cV.out w5 hB5 ⟨⟨cellB hX 0 _ rfl, cellB hX 1 _ rfl, cellB hX 2 _ rfl, cellB hX 3 _ rfl⟩, ints_own o5.out hCi.out⟩)
        have hrX : w5.rangeAt w4.heap.size 0 [.string A, .int .i64 a, .int .i64 b, .slice ax C.length cx] := fun j v hv => by rw [Nat.zero_add]; exact cellB hX j v (by simpa using hv)
        have th := hR5.there
        have hb9 := B5
        go_wp2_with (first | (refine wpList_load_mid rfl _ _ rfl w4.heap.size 0 rfl _ _ hrX Tryd.underlying27 rfl rfl ?_) | (go_at_call 15; (with_reducible refine cW.out.mono ?_); rintro e w6 ⟨rfl, rfl⟩) | (refine wpList_store_mid rfl _ _ _ rfl w.heap.size 0 _ rfl rfl ?_ sizeCt (oneCt _ _ _ _ _ _) ?_; (exact th); generalize hW : World.setCells _ _ _ _ = w9; (have H := resC_end th hb9 hW); clear hW))
        obtain ⟨⟨c0, c1, c2, c3⟩, gr, B9⟩ := H
        have o9 := Lib.hid (o5.out.kept gr (by
          cases e : (Value.slice ax C.length cx).ownBlock with
          | none => exact Or.inl rfl
          | some b => right; intro hh; injection hh with hh; have := (o5.out.lt b e).1; omega))
        exact bodyPost_ret (v := .tuple #[.agg #[.string A, .int .i64 a, .int .i64 b, .slice ax C.length cx], .bool true]) (by simp [results, Tryd.results10, go_sem, c0, c1, c2, c3]) rfl (by rw [hr.out]; exact ⟨_, rfl, own_low o9.out (Nat.le_of_lt hs3), B9⟩)
end Go.Proofs.YtcgmpomhklhmaaaDoor
