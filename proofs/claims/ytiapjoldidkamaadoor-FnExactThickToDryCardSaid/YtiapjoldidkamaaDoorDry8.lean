/-
  Days with cracks: the program's and the model's contracts.
-/
import Derived.Test.YtiapjoldidkamaaDoorDry7
namespace Go.Proofs.YtiapjoldidkamaaDoor
open Go.ChangeShapes Go.WideShapes Go.ChangeAt Go.RowKit Go.Deep
set_option linter.unusedVariables false
set_option linter.unusedSimpArgs false
/-- on how many of n days the moisture changes by more than z -/
def crkN (a v b z : Int) (n : Nat) : Nat := (List.range n).countP (fun k => crP z (0, 0, chgV (dryV a v b k) v b))
theorem crkN_succ (a v b z : Int) (n : Nat) : crkN a v b z (n + 1) = crkN a v b z n + (if crP z (0, 0, chgV (dryV a v b n) v b) then 1 else 0) := by
  unfold crkN; rw [List.range_succ, List.countP_append]; cases h : crP z (0, 0, chgV (dryV a v b n) v b) <;> simp [h]
theorem crkN_le (a v b z : Int) (n : Nat) : crkN a v b z n ≤ n := by unfold crkN; have := List.countP_le_length (p := fun k => crP z (0, 0, chgV (dryV a v b k) v b)) (l := List.range n); simpa using this
theorem crk_all (a v b z : Int) (hz : 0 ≤ z) (n : Nat) : (dryL a v b n).countP (crP z) = crkN a v b z n := by
  induction n with
  | zero =>
    have h0 : crP z (0, a, 0) = false := by simp [crP]; omega
    show List.countP (crP z) [(0, a, 0)] = 0
    simp [h0]
  | succ n ih =>
    rw [dryL_snoc, List.countP_append, ih, crkN_succ]
    have e : crP z (dryE a v b (n + 1)) = crP z (0, 0, chgV (dryV a v b n) v b) := rfl
    cases h : crP z (0, 0, chgV (dryV a v b n) v b) <;> simp [e, h]
set_option maxHeartbeats 3200000 in
theorem implCrackDays_any (s : ByteArray) (a : Int) (b : Int) (c : Int) (h z dd : Int) (hs : s.size ≤ maxLen) (w : World) (hE : EvP w) : Calls Tryd.prog 22 #[.agg #[.string s, .int .i64 a, .int .i64 b, .int .i64 c], .int .i64 h, .int .i64 z, .int .i64 dd] w fun e w' => e = .returned (.tuple #[.int .i64 (pick (stkB ⟨s, a, b, c⟩ && (inB h 0 1000 && inB z 0 1000 && inB dd 0 4000)) (crkN a (evenV h) b z dd.toNat : Nat)), .int .i64 (code2 (stkB ⟨s, a, b, c⟩) (inB h 0 1000 && inB z 0 1000 && inB dd 0 4000) 1 2)]) ∧ Below w.heap.size w w' := by
  have hB0 : Below w.heap.size w ((w.alloc (.cells #[.string s, .int .i64 a, .int .i64 b, .int .i64 c] 29)).alloc (.cells #[.int .i64 z] 2)) := ((Below.refl _ _).alloc (Nat.le_refl _) _).alloc (by simp) _
  have hz0 : w.heap.size ≤ ((w.alloc (.cells #[.string s, .int .i64 a, .int .i64 b, .int .i64 c] 29)).alloc (.cells #[.int .i64 z] 2)).heap.size := by simp <;> omega
  have x2 : ((w.alloc (.cells #[.string s, .int .i64 a, .int .i64 b, .int .i64 c] 29)).alloc (.cells #[.int .i64 z] 2)).cell? ⟨w.heap.size + 1, 0, none⟩ = some (.int .i64 z) := cellB (by rw [show w.heap.size + 1 = (w.alloc (.cells #[.string s, .int .i64 a, .int .i64 b, .int .i64 c] 29)).heap.size by simp]; exact heap_alloc_new _ _) 0 _ rfl
  cases h1 : stkB ⟨s, a, b, c⟩
  · go_enter Tryd.func22, Tryd.ntmps22
    go_wp2_with (first
      | (go_at_call 44; refine (isValid_any _ _ _ _ hs _).mono ?_; rintro e w1 ⟨rfl, b1⟩; have C1 := bcell b1)
      | (go_at_call 39; refine (isThousandths_any _ _).mono ?_; rintro e w' ⟨rfl, rfl⟩)
      | (go_at_call 45; refine (isTime_any _ _).mono ?_; rintro e w' ⟨rfl, rfl⟩))
    go_ret2
    exact ⟨ret_int2 rfl rfl, hB0.trans (b1.mono hz0)⟩
  cases h2 : inB h 0 1000
  · go_enter Tryd.func22, Tryd.ntmps22
    go_wp2_with (first
      | (go_at_call 44; refine (isValid_any _ _ _ _ hs _).mono ?_; rintro e w1 ⟨rfl, b1⟩; have C1 := bcell b1)
      | (go_at_call 39; refine (isThousandths_any _ _).mono ?_; rintro e w' ⟨rfl, rfl⟩)
      | (go_at_call 45; refine (isTime_any _ _).mono ?_; rintro e w' ⟨rfl, rfl⟩))
    go_ret2
    exact ⟨ret_int2 rfl rfl, hB0.trans (b1.mono hz0)⟩
  cases h3 : inB z 0 1000
  · go_enter Tryd.func22, Tryd.ntmps22
    go_wp2_with (first
      | (go_at_call 44; refine (isValid_any _ _ _ _ hs _).mono ?_; rintro e w1 ⟨rfl, b1⟩; have C1 := bcell b1)
      | (go_at_call 39; refine (isThousandths_any _ _).mono ?_; rintro e w' ⟨rfl, rfl⟩)
      | (go_at_call 45; refine (isTime_any _ _).mono ?_; rintro e w' ⟨rfl, rfl⟩))
    go_ret2
    exact ⟨ret_int2 rfl rfl, hB0.trans (b1.mono hz0)⟩
  cases h4 : inB dd 0 4000
  · go_enter Tryd.func22, Tryd.ntmps22
    go_wp2_with (first
      | (go_at_call 44; refine (isValid_any _ _ _ _ hs _).mono ?_; rintro e w1 ⟨rfl, b1⟩; have C1 := bcell b1)
      | (go_at_call 39; refine (isThousandths_any _ _).mono ?_; rintro e w' ⟨rfl, rfl⟩)
      | (go_at_call 45; refine (isTime_any _ _).mono ?_; rintro e w' ⟨rfl, rfl⟩))
    go_ret2
    exact ⟨ret_int2 rfl rfl, hB0.trans (b1.mono hz0)⟩
  obtain ⟨ha, hb, hc⟩ := stk_bd h1
  have hev := even_in h
  have hz := inB_iff.1 h3
  have hd := inB_iff.1 h4
  have hE2 := hE.below hB0
  go_enter Tryd.func22, Tryd.ntmps22
  go_wp2_with fail
  refine (isValid_any _ _ _ _ hs _).mono ?_
  rintro e w1 ⟨rfl, b1⟩
  have C1 := bcell b1
  go_wp2_with (first
      | (go_at_call 39; refine (isThousandths_any _ _).mono ?_; rintro e w' ⟨rfl, rfl⟩)
      | (go_at_call 45; refine (isTime_any _ _).mono ?_; rintro e w' ⟨rfl, rfl⟩))
  refine (drying_any s a b c h dd _ (hE2.below b1)).mono ?_
  rintro e w2 ⟨bx, bd, be, rfl, y1, y2, y3, ⟨z1, z2, z3⟩, b2⟩
  have yg : w2.cell? ⟨w.heap.size + 1, 0, none⟩ = some (.int .i64 z) := (b2.cell (p := ⟨w.heap.size + 1, 0, none⟩) (show w.heap.size + 1 < _ by have := b1.size; simp at this; omega)).trans ((b1.cell (p := ⟨w.heap.size + 1, 0, none⟩) (show w.heap.size + 1 < _ by simp)).trans x2)
  have B2 := hB0.trans ((b1.trans (b2.mono b1.size)).mono hz0)
  clear hE hE2 hB0 C1 b1 b2 x2 hz0
  go_wp2_with fail
  refine (count_any bx bd be (w.heap.size + 1) s a b c dd (evenV h) z ha.1 ha.2 hb.1 hb.2 hev.1 (by omega) hd.1 hd.2 _ y1 y2 y3 yg).mono ?_
  rintro e w3 ⟨rfl, b3⟩
  rw [crk_all _ _ _ _ hz.1]
  have B3 := below2 B2 b3
  clear y1 y2 y3 yg z1 z2 z3 b3 B2
  go_wp2
  go_ret2
  exact ⟨ret_int2 rfl rfl, B3⟩
set_option maxHeartbeats 3200000 in
theorem specCrackDays_any (s : ByteArray) (a : Int) (b : Int) (c : Int) (h z dd : Int) (hs : s.size ≤ maxLen) (w : World) : Calls Tryd.prog 21 #[.agg #[.string s, .int .i64 a, .int .i64 b, .int .i64 c], .int .i64 h, .int .i64 z, .int .i64 dd] w fun e w' => e = .returned (.tuple #[.int .i64 (pick (stkB ⟨s, a, b, c⟩ && (inB h 0 1000 && inB z 0 1000 && inB dd 0 4000)) (crkN a (evenV h) b z dd.toNat : Nat)), .int .i64 (code2 (stkB ⟨s, a, b, c⟩) (inB h 0 1000 && inB z 0 1000 && inB dd 0 4000) 1 2)]) ∧ Below w.heap.size w w' := by
  have hat := stk_box s a b c w
  cases h1 : stkB ⟨s, a, b, c⟩
  · go_enter Tryd.func21, Tryd.ntmps21
    go_wp2_with (first
      | (go_at_call 41; refine (l04One_any _ _ _ _ hs _ _ _ hat).mono ?_; rintro e w' ⟨rfl, rfl⟩)
      | (go_at_call 37; refine (l04Share_any _ _).mono ?_; rintro e w' ⟨rfl, rfl⟩)
      | (go_at_call 42; refine (l04Days_any _ _).mono ?_; rintro e w' ⟨rfl, rfl⟩))
    go_ret2
    exact ⟨ret_int2 rfl rfl, (Below.refl _ _).alloc (Nat.le_refl _) _⟩
  cases h2 : inB h 0 1000
  · go_enter Tryd.func21, Tryd.ntmps21
    go_wp2_with (first
      | (go_at_call 41; refine (l04One_any _ _ _ _ hs _ _ _ hat).mono ?_; rintro e w' ⟨rfl, rfl⟩)
      | (go_at_call 37; refine (l04Share_any _ _).mono ?_; rintro e w' ⟨rfl, rfl⟩)
      | (go_at_call 42; refine (l04Days_any _ _).mono ?_; rintro e w' ⟨rfl, rfl⟩))
    go_ret2
    exact ⟨ret_int2 rfl rfl, (Below.refl _ _).alloc (Nat.le_refl _) _⟩
  cases h3 : inB z 0 1000
  · go_enter Tryd.func21, Tryd.ntmps21
    go_wp2_with (first
      | (go_at_call 41; refine (l04One_any _ _ _ _ hs _ _ _ hat).mono ?_; rintro e w' ⟨rfl, rfl⟩)
      | (go_at_call 37; refine (l04Share_any _ _).mono ?_; rintro e w' ⟨rfl, rfl⟩)
      | (go_at_call 42; refine (l04Days_any _ _).mono ?_; rintro e w' ⟨rfl, rfl⟩))
    go_ret2
    exact ⟨ret_int2 rfl rfl, (Below.refl _ _).alloc (Nat.le_refl _) _⟩
  cases h4 : inB dd 0 4000
  · go_enter Tryd.func21, Tryd.ntmps21
    go_wp2_with (first
      | (go_at_call 41; refine (l04One_any _ _ _ _ hs _ _ _ hat).mono ?_; rintro e w' ⟨rfl, rfl⟩)
      | (go_at_call 37; refine (l04Share_any _ _).mono ?_; rintro e w' ⟨rfl, rfl⟩)
      | (go_at_call 42; refine (l04Days_any _ _).mono ?_; rintro e w' ⟨rfl, rfl⟩))
    go_ret2
    exact ⟨ret_int2 rfl rfl, (Below.refl _ _).alloc (Nat.le_refl _) _⟩
  obtain ⟨ha, hb, hc⟩ := stk_bd h1
  have hev := even_in h
  have hz := inB_iff.1 h3
  have hd := inB_iff.1 h4
  go_enter Tryd.func21, Tryd.ntmps21
  go_wp2_with (first
      | (go_at_call 41; refine (l04One_any _ _ _ _ hs _ _ _ hat).mono ?_; rintro e w' ⟨rfl, rfl⟩)
      | (go_at_call 37; refine (l04Share_any _ _).mono ?_; rintro e w' ⟨rfl, rfl⟩)
      | (go_at_call 42; refine (l04Days_any _ _).mono ?_; rintro e w' ⟨rfl, rfl⟩))
  have hbW : Below w.heap.size w (w.alloc (.cells #[.string s, .int .i64 a, .int .i64 b, .int .i64 c] 29)) := (Below.refl _ _).alloc (Nat.le_refl _) _
  have hBz : w.heap.size < (w.alloc (.cells #[.string s, .int .i64 a, .int .i64 b, .int .i64 c] 29)).heap.size := by simp
  have hBB' : Hid (w.heap.size = w.heap.size) := Lib.hid rfl
  generalize w.alloc (.cells #[.string s, .int .i64 a, .int .i64 b, .int .i64 c] 29) = W0 at hat hbW hBz ⊢
  have hbW' := Lib.hid hbW
  clear hbW hBB'
  obtain ⟨B, hB⟩ : ∃ B, B = w.heap.size := ⟨_, rfl⟩
  have hB' := Lib.hid hB
  rw [← hB] at hat hBz ⊢
  clear hB
  go_loopw [10, 11, 12] (fun x m i wr => ∃ (k : Nat) (y : Int) (q : Nat), (k : Int) ≤ dd ∧ q ≤ k ∧ i = .int .i64 k ∧ x = .int .i64 y ∧ m = .int .i64 q ∧ Hid (y = dryV a (evenV h) b k) ∧ Hid (q = crkN a (evenV h) b z k) ∧ (wr.cell? ⟨B, 0, none⟩ = some (.string s) ∧ wr.cell? ⟨B, 1, none⟩ = some (.int .i64 a) ∧ wr.cell? ⟨B, 2, none⟩ = some (.int .i64 b) ∧ wr.cell? ⟨B, 3, none⟩ = some (.int .i64 c)) ∧ B < wr.heap.size ∧ Hid (Below w.heap.size w wr)) (fun _ _ i _ => (dd - intOf i).toNat)
  case atStart => exact ⟨0, a, 0, by omega, by omega, rfl, rfl, rfl, Lib.hid rfl, Lib.hid rfl, hat, hBz, hbW'⟩
  case round =>
    obtain ⟨k, y, q, hk, hqk, rfl, rfl, rfl, hy, hq, hat2, hBlt, hbO⟩ := hrel
    have hyb := dry_in (e := evenV h) hb.1 ha ⟨hev.1, by omega⟩ k
    rw [← hy.out] at hyb
    by_cases hlt : (k : Int) < dd
    · have hc := chg_in (m := y) (e := evenV h) hb.1 hyb ⟨hev.1, by omega⟩
      have hstep : Hid (y + chgV y (evenV h) b = dryV a (evenV h) b (k + 1)) := Lib.hid (by show _ = dryV a (evenV h) b k + chgV (dryV a (evenV h) b k) (evenV h) b; rw [hy.out])
      have hq2 : Hid (crkN a (evenV h) b z (k + 1) = q + (if (z < chgV y (evenV h) b ∨ z < -chgV y (evenV h) b) then 1 else 0)) := Lib.hid (by rw [crkN_succ, ← hq.out, ← hy.out]; simp [crP])
      have cC := Lib.hid (fun W => l04ChangeB_any y (evenV h) b hyb.1 hyb.2 hev.1 (by omega) hb.1 hb.2 W)
      obtain ⟨ch, hch⟩ : ∃ ch, ch = chgV y (evenV h) b := ⟨_, rfl⟩
      rw [← hch] at cC hstep hc hq2
      clear hch
      have ew : IntKind.i64.wrap (y + ch) = y + ch := IntWalk.i64_in _ (by omega)
      have hBr : B < wr.heap.size := hBlt
      have keep : ∀ W1 W2, ((W1.cell? ⟨B, 0, none⟩ = some (.string s) ∧ W1.cell? ⟨B, 1, none⟩ = some (.int .i64 a) ∧ W1.cell? ⟨B, 2, none⟩ = some (.int .i64 b) ∧ W1.cell? ⟨B, 3, none⟩ = some (.int .i64 c)) ∧ Below wr.heap.size wr W1) → Below W1.heap.size W1 W2 → ((W2.cell? ⟨B, 0, none⟩ = some (.string s) ∧ W2.cell? ⟨B, 1, none⟩ = some (.int .i64 a) ∧ W2.cell? ⟨B, 2, none⟩ = some (.int .i64 b) ∧ W2.cell? ⟨B, 3, none⟩ = some (.int .i64 c)) ∧ Below wr.heap.size wr W2) := fun W1 W2 h1 h2 => by
        obtain ⟨p0, hb⟩ := h1
        have q0 := StkAt.below (x := ⟨s, a, b, c⟩) (o := 0) p0 (Nat.lt_of_lt_of_le hBr hb.size) h2
        exact ⟨q0, hb.trans (h2.mono hb.size)⟩
      have keepH := Lib.hid keep
      have hS : ((wr.cell? ⟨B, 0, none⟩ = some (.string s) ∧ wr.cell? ⟨B, 1, none⟩ = some (.int .i64 a) ∧ wr.cell? ⟨B, 2, none⟩ = some (.int .i64 b) ∧ wr.cell? ⟨B, 3, none⟩ = some (.int .i64 c)) ∧ Below wr.heap.size wr wr) := ⟨hat2, Below.refl _ _⟩
      clear keep hat2
      go_wp2
      go_region_held3 (fun w' => ((w'.cell? ⟨B, 0, none⟩ = some (.string s) ∧ w'.cell? ⟨B, 1, none⟩ = some (.int .i64 a) ∧ w'.cell? ⟨B, 2, none⟩ = some (.int .i64 b) ∧ w'.cell? ⟨B, 3, none⟩ = some (.int .i64 c)) ∧ Below wr.heap.size wr w'))
        (first | exact ⟨hS.1, belowN hS.2 1⟩ | exact keepH.out _ _ (by assumption) (by assumption) | assumption)
        (first | (go_at_call 38; (with_reducible refine (l04Even_any h _).mono ?_); rintro e w' ⟨rfl, hbel⟩)
               | (go_at_call 47; (with_reducible refine (cC.out _).mono ?_); rintro e w' ⟨rfl, hbel⟩))
      rename_i hHeld
      have hb2 := below2 hbO.out hHeld.2
      have hat3 := hHeld.1
      have hz3 := Nat.lt_of_lt_of_le hBr hHeld.2.size
      clear hS keepH hHeld
      by_cases g1 : z < ch
      · have hq3 : Hid (q + 1 = crkN a (evenV h) b z (k + 1)) := Lib.hid (by rw [hq2.out, if_pos (Or.inl g1)])
        go_wp2
        go_roundw
        case rel => exact ⟨k + 1, y + ch, q + 1, by omega, by omega, by go_num, by go_num, by go_num, hstep, hq3, hat3, hz3, Lib.hid hb2⟩
        case measure => simp [intOf]; omega
      by_cases g2 : z < -ch
      · have hq3 : Hid (q + 1 = crkN a (evenV h) b z (k + 1)) := Lib.hid (by rw [hq2.out, if_pos (Or.inr g2)])
        go_wp2
        go_roundw
        case rel => exact ⟨k + 1, y + ch, q + 1, by omega, by omega, by go_num, by go_num, by go_num, hstep, hq3, hat3, hz3, Lib.hid hb2⟩
        case measure => simp [intOf]; omega
      · have hq3 : Hid (q = crkN a (evenV h) b z (k + 1)) := Lib.hid (by rw [hq2.out, if_neg (by omega)]; rfl)
        go_wp2
        go_roundw
        case rel => exact ⟨k + 1, y + ch, q, by omega, by omega, by go_num, by go_num, rfl, hstep, hq3, hat3, hz3, Lib.hid hb2⟩
        case measure => simp [intOf]; omega
    · have hkd : Hid (q = crkN a (evenV h) b z dd.toNat) := Lib.hid (by rw [hq.out]; congr 1; omega)
      go_wp2
      go_ret2
      exact ⟨ret_int2 (by rw [← hkd.out]; rfl) rfl, hbO.out⟩
end Go.Proofs.YtiapjoldidkamaaDoor
