/-
  Strings of an instrument: the highest pitch and the least gauge, by the model.
-/
import Derived.Test.YtnenccfmopjcjaaCrdM
namespace Go.Proofs.Ytnenccfmopjcjaa
open Go.ChangeShapes Go.WideShapes Go.ChangeAt Go.RowKit Go.Deep
set_option linter.unusedVariables false
set_option linter.unusedSimpArgs false
set_option maxRecDepth 1000000
theorem heap_setS {w : World} {b : Nat} {cs : Array Value} {t : TypeId} (h : w.heap[b]? = some (.cells cs t (0, 0))) (i : Nat) (v : Value) (cs' : Array Value) (hc : cs.setIfInBounds i v = cs') : (w.setCell ⟨b, i, none⟩ v).heap[b]? = some (.cells cs' t (0, 0)) := by
  obtain ⟨hlt, hk⟩ := Array.getElem?_eq_some_iff.1 h
  show (w.heap.modify b _)[b]? = _
  rw [Array.getElem?_eq_getElem (by rw [Array.size_modify]; exact hlt), Array.getElem_modify_self, hk, ← hc]
  simp [Array.setIfInBounds]
theorem crdAt_of_heap {w : World} {n : Nat} {a b c d : Int} {t : TypeId} (h : w.heap[n]? = some (.cells #[.int .i64 a, .int .i64 b, .int .i64 c, .int .i64 d] t (0, 0))) : CrdAt w n 0 ⟨a, b, c, d⟩ := ⟨cellB h 0 _ rfl, cellB h 1 _ rfl, cellB h 2 _ rfl, cellB h 3 _ rfl⟩
set_option maxHeartbeats 3200000 in
theorem specLeastGauge_any (a : Int) (b : Int) (c : Int) (d : Int) (z : Int) (w : World) : Calls Try.prog 4 #[.agg #[.int .i64 a, .int .i64 b, .int .i64 c, .int .i64 d], .int .i64 z] w fun e w' => e = .returned (.tuple #[.int .i64 (pick (crdB ⟨a, b, c, d⟩ && inB z 0 500000) (lgV (lstN (lgP a b z) 10000))), .int .i64 (cod3 (crdB ⟨a, b, c, d⟩) (inB z 0 500000) (lgC (lstN (lgP a b z) 10000)))]) ∧ Below w.heap.size w w' := by
  have hat := crd_box a b c d w
  have c1 := fun W g o (hat : CrdAt W g o ⟨a, b, c, d⟩) => l09One_any a b c d W g o hat
  cases h1 : crdB ⟨a, b, c, d⟩ <;> rw [h1] at c1
  · go_enter Try.func4, Try.ntmps4
    go_wp2_with (go_at_call 7; (with_reducible refine (c1 _ _ 0 hat).mono ?_); rintro e w' ⟨rfl, rfl⟩)
    go_ret2
    exact ⟨ret_int2 rfl rfl, (Below.refl _ _).alloc (Nat.le_refl _) _⟩
  cases h2 : inB z 0 500000
  · go_enter Try.func4, Try.ntmps4
    go_wp2_with (first
      | (go_at_call 7; (with_reducible refine (c1 _ _ 0 hat).mono ?_); rintro e w' ⟨rfl, rfl⟩)
      | (go_at_call 8; refine (l00In_any _ _ _ _).mono ?_; rw [h2]; rintro e w' ⟨rfl, rfl⟩))
    go_ret2
    exact ⟨ret_int2 rfl rfl, (Below.refl _ _).alloc (Nat.le_refl _) _⟩
  obtain ⟨ha, hb, hc, hd⟩ := crd_bd h1
  have hz := inB_iff.1 h2
  go_enter Try.func4, Try.ntmps4
  go_wp2_with (first
    | (go_at_call 7; (with_reducible refine (c1 _ _ 0 hat).mono ?_); rintro e w' ⟨rfl, rfl⟩)
    | (go_at_call 8; refine (l00In_any _ _ _ _).mono ?_; rw [h2]; rintro e w' ⟨rfl, rfl⟩))
  have hN : ((w.alloc (.cells #[.int .i64 a, .int .i64 b, .int .i64 c, .int .i64 d] 26)).alloc (.cells #[.int .i64 a, .int .i64 b, .int .i64 1, .int .i64 d] 26)).heap[w.heap.size + 1]? = some (.cells #[.int .i64 a, .int .i64 b, .int .i64 1, .int .i64 d] 26 (0, 0)) := by
    have := heap_alloc_new (w.alloc (.cells #[.int .i64 a, .int .i64 b, .int .i64 c, .int .i64 d] 26)) (.cells #[.int .i64 a, .int .i64 b, .int .i64 1, .int .i64 d] 26)
    simpa using this
  have hBw : Below w.heap.size w ((w.alloc (.cells #[.int .i64 a, .int .i64 b, .int .i64 c, .int .i64 d] 26)).alloc (.cells #[.int .i64 a, .int .i64 b, .int .i64 1, .int .i64 d] 26)) := ((Below.refl _ _).alloc (Nat.le_refl _) _).alloc (by simp) _
  generalize ((w.alloc (.cells #[.int .i64 a, .int .i64 b, .int .i64 c, .int .i64 d] 26)).alloc (.cells #[.int .i64 a, .int .i64 b, .int .i64 1, .int .i64 d] 26)) = W1 at hN hBw ⊢
  obtain ⟨N, hNe⟩ : ∃ N, N = w.heap.size + 1 := ⟨_, rfl⟩
  have hNw : w.heap.size ≤ N := by omega
  rw [← hNe] at hN ⊢
  have hBw' := Lib.hid hBw
  have hN' := Lib.hid hN
  clear hNe hat c1 hBw h1 h2
  have hmono : Hid (∀ i j : Nat, i ≤ j → lgP a b z i = true → lgP a b z j = true) := Lib.hid (fun i j h1 h2 => lg_mono (by omega) (by omega) i j h1 h2)
  have cH := Lib.hid (fun (q : Int) (hq : 1 ≤ q ∧ q ≤ 10000) W (h : W.heap[N]? = some (.cells #[.int .i64 a, .int .i64 b, .int .i64 q, .int .i64 d] 26 (0, 0))) => l09Tension_any a b q d ha hb hq W N 0 (crdAt_of_heap h))
  have hB0 : Hid (Below w.heap.size w W1) := hBw'
  clear hN hBw'
  go_loopw [] (fun wr => ∃ k : Nat, 1 ≤ k ∧ k ≤ 10001 ∧ Hid (∀ j, j + 1 < k → lgP a b z j = false) ∧ Hid (wr.heap[N]? = some (.cells #[.int .i64 a, .int .i64 b, .int .i64 (k : Int), .int .i64 d] 26 (0, 0))) ∧ Hid (Below w.heap.size w wr)) (fun wr => 10001 - (intOf ((wr.cell? ⟨N, 2, none⟩).getD (.bool false))).toNat)
  case atStart => exact ⟨1, by omega, by omega, Lib.hid (fun j hj => by omega), hN', hB0⟩
  case round =>
    obtain ⟨k, hk1, hk2, hno, hN3, hB3⟩ := hrel
    have c2 := cellB hN3.out 2 _ rfl
    by_cases hlt : k ≤ 10000
    · have hkI : (k : Int) ≤ 10000 := by omega
      have cT0 := cH.out (k : Int) (by omega)
      have hlp : Hid (lgP a b z (k - 1) = decide (z ≤ tenV a b (k : Int))) := Lib.hid (by unfold lgP; rw [show ((k - 1 : Nat) : Int) + 1 = (k : Int) by omega])
      obtain ⟨T, hT⟩ : ∃ T, T = tenV a b (k : Int) := ⟨_, rfl⟩
      rw [← hT] at cT0 hlp
      have cT := Lib.hid cT0
      clear hT cT0
      by_cases hge : z ≤ T
      · have hL : Hid (lstN (lgP a b z) 10000 = k - 1) := Lib.hid (least_lst ⟨by omega, fun j hj => hno.out j (by omega), fun j h1 h2 => hmono.out (k - 1) j h1 (by rw [hlp.out]; exact decide_eq_true hge)⟩)
        have hf : Hid ((k : Int) = lgV (lstN (lgP a b z) 10000) ∧ lgC (lstN (lgP a b z) 10000) = 0) := Lib.hid (by rw [hL.out]; unfold lgV lgC; rw [if_neg (by omega), if_neg (by omega)]; exact ⟨by omega, rfl⟩)
        go_wp2_with (go_at_call 9; refine (cT.out _ hN3.out).mono ?_; rintro e w5 ⟨rfl, m5, rfl⟩)
        go_ret2
        exact ⟨ret_int2 hf.out.1 hf.out.2.symm, belowN hB3.out _⟩
      · have hno2 : Hid (∀ j, j + 1 < k + 1 → lgP a b z j = false) := Lib.hid (fun j hj => by
          rcases Nat.lt_or_ge (j + 1) k with h | h
          · exact hno.out j h
          · rw [show j = k - 1 by omega, hlp.out]; exact decide_eq_false hge)
        go_wp2_with fail
        refine (cT.out _ hN3.out).mono ?_
        rintro e w5 ⟨rfl, m5, rfl⟩
        have hN5 := hN3.out
        replace hN5 : (wr.drewN m5).heap[N]? = some (.cells #[.int .i64 a, .int .i64 b, .int .i64 (k : Int), .int .i64 d] 26 (0, 0)) := hN5
        have hB5 := belowN hB3.out m5
        have hcell : (intOf ((wr.cell? ⟨N, 2, none⟩).getD (.bool false))).toNat = k := by rw [c2]; simp [intOf]
        have hcell' := Lib.hid hcell
        clear hcell c2
        generalize wr.drewN m5 = W5 at hN5 hB5 ⊢
        have c5 := cellB hN5 2 _ rfl
        have f5 := freeB hN5 2
        have hN6 := Lib.hid (heap_setS hN5 2 (.int .i64 ((k : Int) + 1)) _ rfl)
        have hB6 : Hid (Below w.heap.size w (W5.setCell ⟨N, 2, none⟩ (.int .i64 ((k : Int) + 1)))) := Lib.hid (hB5.setCell (p := ⟨N, 2, none⟩) hNw _)
        clear hN5 hB5
        go_wp2
        go_roundw
        case rel => exact ⟨k + 1, by omega, by omega, hno2, Lib.hid (by rw [show ((k + 1 : Nat) : Int) = (k : Int) + 1 by omega]; exact hN6.out), hB6⟩
        case measure => rw [hcell'.out, cellB hN6.out 2 _ rfl]; simp [intOf]; omega
    · have hkk : k = 10001 := by omega
      have hL : Hid (lstN (lgP a b z) 10000 = 10000) := Lib.hid (least_lst ⟨by omega, fun j hj => hno.out j (by omega), fun j h1 h2 => by omega⟩)
      have hf : Hid ((0 : Int) = lgV (lstN (lgP a b z) 10000) ∧ lgC (lstN (lgP a b z) 10000) = 3) := Lib.hid (by rw [hL.out]; exact ⟨rfl, rfl⟩)
      have hkI : (10000 : Int) < (k : Int) := by omega
      clear hkk
      go_wp2
      go_ret2
      exact ⟨ret_int2 hf.out.1 hf.out.2.symm, hB3.out⟩
end Go.Proofs.Ytnenccfmopjcjaa
