/-
  Texts of parts: the program's and the model's contracts.
-/
import Derived.Test.YtilppdjjcgffiaaDoorPrtIn
import Derived.Test.YtilppdjjcgffiaaDoorNam9
namespace Go.Proofs.YtilppdjjcgffiaaDoor
open Go.ChangeShapes Go.WideShapes Go.ChangeAt Go.RowKit Go.Deep
set_option linter.unusedVariables false
set_option linter.unusedSimpArgs false
set_option maxRecDepth 1000000
/-- the text of a part -/
def prtT (x : Prt) : List UInt8 := if prtB x = true then x.id.data.toList ++ 32 :: (Lib.itoa x.mas ++ 64 :: Lib.itoa x.plc) else []
theorem prt_parts {s : ByteArray} {a b : Int} (h : prtB ⟨s, a, b⟩ = true) : nameL s.data.toList = true ∧ (0 ≤ a ∧ a ≤ 8000) ∧ (1 ≤ b ∧ b ≤ 100000) := by
  unfold prtB at h
  simp only [Bool.and_eq_true, inB_iff] at h
  exact ⟨h.1.1, h.1.2, h.2⟩
theorem itoa_small {n : Int} (h0 : 0 ≤ n) (h1 : n ≤ 100000) : (Lib.itoa n).length ≤ 6 := by
  rcases Int.lt_or_le 0 n with h | h
  · obtain ⟨k, rfl⟩ : ∃ k : Nat, n = (k : Int) := ⟨n.toNat, by omega⟩
    rw [itoa_pos k (by omega)]
    exact digsN_len 6 k (by omega)
  · rw [show n = 0 by omega, itoa_zero]; decide
/-- the pieces of the text, each by a name -/
theorem prt_sum (s : ByteArray) (a b : Int) (h : prtB ⟨s, a, b⟩ = true) : ∃ D1 D2 S1 S2 S3 S4 : ByteArray, D1 = ⟨(Lib.itoa b).toArray⟩ ∧ D2 = ⟨(Lib.itoa a).toArray⟩ ∧ S4 = ⟨(prtT ⟨s, a, b⟩).toArray⟩ ∧
    (∀ w, (Op.stringOp .add s ⟨#[32]⟩).run Tryd.prog w = .ok (.string S1) w) ∧ (∀ w, (Op.stringOp .add S1 D1).run Tryd.prog w = .ok (.string S2) w) ∧ (∀ w, (Op.stringOp .add S2 ⟨#[64]⟩).run Tryd.prog w = .ok (.string S3) w) ∧ (∀ w, (Op.stringOp .add S3 D2).run Tryd.prog w = .ok (.string S4) w) := by
  obtain ⟨h0, ha, hb⟩ := prt_parts h
  have hs10 : s.size ≤ 10 := by rw [← len_data]; exact name_le h0
  have l1 := itoa_small (n := b) (by omega) hb.2
  have l2 := itoa_small (n := a) ha.1 (by omega)
  obtain ⟨D1, hD1⟩ : ∃ D : ByteArray, D = ⟨(Lib.itoa b).toArray⟩ := ⟨_, rfl⟩
  obtain ⟨D2, hD2⟩ : ∃ D : ByteArray, D = ⟨(Lib.itoa a).toArray⟩ := ⟨_, rfl⟩
  have e1 : D1.data.toList = Lib.itoa b := by rw [hD1]
  have e2 : D2.data.toList = Lib.itoa a := by rw [hD2]
  have z1 : D1.size ≤ 6 := by rw [← len_data, e1]; exact l1
  have z2 : D2.size ≤ 6 := by rw [← len_data, e2]; exact l2
  have one : ∀ c : UInt8, (⟨#[c]⟩ : ByteArray).size = 1 := fun c => rfl
  obtain ⟨S1, q1, k1, r1⟩ := add_named s ⟨#[32]⟩ (by rw [one]; omega)
  rw [one] at k1
  obtain ⟨S2, q2, k2, r2⟩ := add_named S1 D1 (by omega)
  obtain ⟨S3, q3, k3, r3⟩ := add_named S2 ⟨#[64]⟩ (by rw [one]; omega)
  rw [one] at k3
  obtain ⟨S4, q4, k4, r4⟩ := add_named S3 D2 (by omega)
  refine ⟨D1, D2, S1, S2, S3, S4, hD1, hD2, ?_, r1, r2, r3, r4⟩
  refine bytes_of S4 _ ?_
  unfold prtT
  rw [if_pos h, q4, q3, q2, q1, e1, e2]
  simp
set_option maxHeartbeats 3200000 in
theorem implPartText_any (s : ByteArray) (a : Int) (b : Int) (hs : s.size ≤ maxLen) (w : World) (hT : TabP w) : Calls Tryd.prog 10 #[.agg #[.string s, .int .i64 a, .int .i64 b]] w (StrRet (prtT ⟨s, a, b⟩) w) := by
  have hf0 := fresh_b w (.cells #[.string s, .int .i64 a, .int .i64 b] 26)
  have hx := prt_box s a b w
  have hsz : w.heap.size < (w.alloc (.cells #[.string s, .int .i64 a, .int .i64 b] 26)).heap.size := by simp
  have cV0 := fun W => isValidPrt_any s a b hs W
  obtain ⟨k0, k1, k2⟩ := hx
  simp only [Nat.zero_add] at k0 k1 k2
  cases hv : prtB ⟨s, a, b⟩ <;> rw [hv] at cV0 <;> have cV := Lib.hid cV0 <;> clear cV0
  · have hr : Hid (prtT ⟨s, a, b⟩ = []) := Lib.hid (by unfold prtT; rw [hv]; rfl)
    go_enter Tryd.func10, Tryd.ntmps10
    go_wp2_with (go_at_call 23; (with_reducible refine (cV.out _).mono ?_); rintro e W1 ⟨rfl, b1⟩)
    go_ret
    exact str_ret hr.out.symm (hf0.trans (b1.mono hf0.size))
  obtain ⟨h0, ha, hb⟩ := prt_parts hv
  obtain ⟨D1, D2, S1, S2, S3, S4, hD1, hD2, hS4, r1, r2, r3, r4⟩ := prt_sum s a b hv
  have hr := Lib.hid hS4
  have c1 : Hid (∀ W, Below w.heap.size w W → Calls Tryd.prog 24 #[.int .i64 b] W fun e w' => e = .returned (.string D1) ∧ Below W.heap.size W w') := Lib.hid (fun W hW => by rw [hD1]; exact implDecimal_any b (by omega) (by omega) W (hT.below hW))
  have c2 : Hid (∀ W, Below w.heap.size w W → Calls Tryd.prog 24 #[.int .i64 a] W fun e w' => e = .returned (.string D2) ∧ Below W.heap.size W w') := Lib.hid (fun W hW => by rw [hD2]; exact implDecimal_any a (by omega) (by omega) W (hT.below hW))
  clear hD1 hD2 hS4 hv h0 hT
  go_enter Tryd.func10, Tryd.ntmps10
  go_wp2_with (go_at_call 23; (with_reducible refine (cV.out _).mono ?_); rintro e W1 ⟨rfl, b1⟩)
  have hb0 := Lib.hid (below2 hf0 b1)
  have hsz1 : w.heap.size < W1.heap.size := Nat.lt_of_lt_of_le hsz b1.size
  have hS : ((W1.cell? ⟨w.heap.size, 0, none⟩ = some (.string s) ∧ W1.cell? ⟨w.heap.size, 1, none⟩ = some (.int .i64 a) ∧ W1.cell? ⟨w.heap.size, 2, none⟩ = some (.int .i64 b)) ∧ Below W1.heap.size W1 W1) := ⟨⟨(b1.cell hsz).trans k0, (b1.cell hsz).trans k1, (b1.cell hsz).trans k2⟩, Below.refl _ _⟩
  have keepH : Hid (∀ Wa Wb, ((Wa.cell? ⟨w.heap.size, 0, none⟩ = some (.string s) ∧ Wa.cell? ⟨w.heap.size, 1, none⟩ = some (.int .i64 a) ∧ Wa.cell? ⟨w.heap.size, 2, none⟩ = some (.int .i64 b)) ∧ Below W1.heap.size W1 Wa) → Below Wa.heap.size Wa Wb → ((Wb.cell? ⟨w.heap.size, 0, none⟩ = some (.string s) ∧ Wb.cell? ⟨w.heap.size, 1, none⟩ = some (.int .i64 a) ∧ Wb.cell? ⟨w.heap.size, 2, none⟩ = some (.int .i64 b)) ∧ Below W1.heap.size W1 Wb)) := Lib.hid (fun Wa Wb h1 h2 => by
    obtain ⟨⟨p0, p1, p2⟩, hb⟩ := h1
    have hl := Nat.lt_of_lt_of_le hsz1 hb.size
    exact ⟨⟨(h2.cell hl).trans p0, (h2.cell hl).trans p1, (h2.cell hl).trans p2⟩, hb.trans (h2.mono hb.size)⟩)
  have d1 : Hid (∀ W, ((W.cell? ⟨w.heap.size, 0, none⟩ = some (.string s) ∧ W.cell? ⟨w.heap.size, 1, none⟩ = some (.int .i64 a) ∧ W.cell? ⟨w.heap.size, 2, none⟩ = some (.int .i64 b)) ∧ Below W1.heap.size W1 W) → Calls Tryd.prog 24 #[.int .i64 b] W fun e w' => e = .returned (.string D1) ∧ Below W.heap.size W w') := Lib.hid (fun W hW => c1.out W (below2 hb0.out hW.2))
  have d2 : Hid (∀ W, ((W.cell? ⟨w.heap.size, 0, none⟩ = some (.string s) ∧ W.cell? ⟨w.heap.size, 1, none⟩ = some (.int .i64 a) ∧ W.cell? ⟨w.heap.size, 2, none⟩ = some (.int .i64 b)) ∧ Below W1.heap.size W1 W) → Calls Tryd.prog 24 #[.int .i64 a] W fun e w' => e = .returned (.string D2) ∧ Below W.heap.size W w') := Lib.hid (fun W hW => c2.out W (below2 hb0.out hW.2))
  clear k0 k1 k2 b1 hf0 c1 c2 hsz
  go_region_held3 (fun w' => ((w'.cell? ⟨w.heap.size, 0, none⟩ = some (.string s) ∧ w'.cell? ⟨w.heap.size, 1, none⟩ = some (.int .i64 a) ∧ w'.cell? ⟨w.heap.size, 2, none⟩ = some (.int .i64 b)) ∧ Below W1.heap.size W1 w'))
    (first | exact ⟨hS.1, belowN hS.2 1⟩ | exact keepH.out _ _ (by assumption) (by assumption) | assumption)
    (first | (go_at_call 24; (with_reducible refine (d1.out _ (by assumption)).mono ?_); rintro e w' ⟨rfl, hbel⟩) | (go_at_call 24; (with_reducible refine (d2.out _ (by assumption)).mono ?_); rintro e w' ⟨rfl, hbel⟩))
  rename_i hHeld
  go_wp2
  go_ret
  exact ⟨by rw [hr.out]; rfl, below2 hb0.out hHeld.2⟩
set_option maxHeartbeats 3200000 in
theorem l11Text_any (s : ByteArray) (a : Int) (b : Int) (hv : prtB ⟨s, a, b⟩ = true) (w : World) (g : Nat) (hg : g < w.heap.size) (hP : (w.cell? ⟨g, 0, none⟩ = some (.string s) ∧ w.cell? ⟨g, 1, none⟩ = some (.int .i64 a) ∧ w.cell? ⟨g, 2, none⟩ = some (.int .i64 b))) : Calls Tryd.prog 22 #[.pointer (some ⟨g, 0, none⟩)] w (StrRet (prtT ⟨s, a, b⟩) w) := by
  obtain ⟨h0, ha, hb⟩ := prt_parts hv
  obtain ⟨D1, D2, S1, S2, S3, S4, hD1, hD2, hS4, r1, r2, r3, r4⟩ := prt_sum s a b hv
  have hr := Lib.hid hS4
  have d1 : Hid (∀ W : World, Calls Tryd.prog 38 #[.int .i64 b] W fun e w' => e = .returned (.string D1) ∧ Below W.heap.size W w') := Lib.hid (fun W => by rw [hD1]; exact l01Dec_any b (by omega) (by omega) W)
  have d2 : Hid (∀ W : World, Calls Tryd.prog 38 #[.int .i64 a] W fun e w' => e = .returned (.string D2) ∧ Below W.heap.size W w') := Lib.hid (fun W => by rw [hD2]; exact l01Dec_any a (by omega) (by omega) W)
  have hS : ((w.cell? ⟨g, 0, none⟩ = some (.string s) ∧ w.cell? ⟨g, 1, none⟩ = some (.int .i64 a) ∧ w.cell? ⟨g, 2, none⟩ = some (.int .i64 b)) ∧ Below w.heap.size w w) := ⟨hP, Below.refl _ _⟩
  have keepH : Hid (∀ Wa Wb, ((Wa.cell? ⟨g, 0, none⟩ = some (.string s) ∧ Wa.cell? ⟨g, 1, none⟩ = some (.int .i64 a) ∧ Wa.cell? ⟨g, 2, none⟩ = some (.int .i64 b)) ∧ Below w.heap.size w Wa) → Below Wa.heap.size Wa Wb → ((Wb.cell? ⟨g, 0, none⟩ = some (.string s) ∧ Wb.cell? ⟨g, 1, none⟩ = some (.int .i64 a) ∧ Wb.cell? ⟨g, 2, none⟩ = some (.int .i64 b)) ∧ Below w.heap.size w Wb)) := Lib.hid (fun Wa Wb h1 h2 => by
    obtain ⟨⟨p0, p1, p2⟩, hb⟩ := h1
    have hl := Nat.lt_of_lt_of_le hg hb.size
    exact ⟨⟨(h2.cell hl).trans p0, (h2.cell hl).trans p1, (h2.cell hl).trans p2⟩, hb.trans (h2.mono hb.size)⟩)
  clear hD1 hD2 hS4 hv h0 hP
  go_enter Tryd.func22, Tryd.ntmps22
  go_wp2
  go_region_held3 (fun w' => ((w'.cell? ⟨g, 0, none⟩ = some (.string s) ∧ w'.cell? ⟨g, 1, none⟩ = some (.int .i64 a) ∧ w'.cell? ⟨g, 2, none⟩ = some (.int .i64 b)) ∧ Below w.heap.size w w'))
    (first | exact ⟨hS.1, belowN hS.2 1⟩ | exact keepH.out _ _ (by assumption) (by assumption) | assumption)
    (first | (go_at_call 38; (with_reducible refine (d1.out _).mono ?_); rintro e w' ⟨rfl, hbel⟩) | (go_at_call 38; (with_reducible refine (d2.out _).mono ?_); rintro e w' ⟨rfl, hbel⟩))
  rename_i hHeld
  go_wp2
  go_ret
  exact ⟨by rw [hr.out]; rfl, hHeld.2⟩
set_option maxHeartbeats 1600000 in
theorem specPartText_any (s : ByteArray) (a : Int) (b : Int) (hs : s.size ≤ maxLen) (w : World) : Calls Tryd.prog 8 #[.agg #[.string s, .int .i64 a, .int .i64 b]] w (StrRet (prtT ⟨s, a, b⟩) w) := by
  have hf0 := fresh_b w (.cells #[.string s, .int .i64 a, .int .i64 b] 26)
  have hx := prt_box s a b w
  have hsz : w.heap.size < (w.alloc (.cells #[.string s, .int .i64 a, .int .i64 b] 26)).heap.size := by simp
  have cV0 := l11One_any s a b hs (w.alloc (.cells #[.string s, .int .i64 a, .int .i64 b] 26)) w.heap.size 0 hx
  obtain ⟨k0, k1, k2⟩ := hx
  simp only [Nat.zero_add] at k0 k1 k2
  cases hv : prtB ⟨s, a, b⟩ <;> rw [hv] at cV0 <;> have cV := Lib.hid cV0 <;> clear cV0
  · have hr : Hid (prtT ⟨s, a, b⟩ = []) := Lib.hid (by unfold prtT; rw [hv]; rfl)
    go_enter Tryd.func8, Tryd.ntmps8
    go_wp2_with (go_at_call 21; (with_reducible refine cV.out.mono ?_); rintro e w1 ⟨rfl, rfl⟩)
    go_ret
    exact str_ret hr.out.symm hf0
  have cT := Lib.hid (l11Text_any s a b hv (w.alloc (.cells #[.string s, .int .i64 a, .int .i64 b] 26)) w.heap.size hsz ⟨k0, k1, k2⟩)
  clear k0 k1 k2 hsz
  go_enter Tryd.func8, Tryd.ntmps8
  go_wp2_with (first
    | (go_at_call 21; (with_reducible refine cV.out.mono ?_); rintro e w1 ⟨rfl, rfl⟩)
    | (go_at_call 22; (with_reducible refine cT.out.mono ?_); rintro e w1 ⟨rfl, b1⟩))
  go_ret
  exact ⟨rfl, hf0.trans (b1.mono hf0.size)⟩
end Go.Proofs.YtilppdjjcgffiaaDoor
