/-
  What the law of drying asks: moistures, stages, days, cracks.
-/
import Derived.Test.YtemccejlophmkaaDoorDry8
import Derived.Test.YtemccejlophmkaaDoorStg
import Derived.Test.YtemccejlophmkaaDoorDraw5
import Derived.Test.YtemccejlophmkaaDoorTen
import Derived.Deep.CutRange
namespace Go.Proofs.YtemccejlophmkaaDoor
open Go.ChangeShapes Go.WideShapes Go.ChangeAt Go.RowKit Go.Deep
set_option linter.unusedVariables false
set_option maxRecDepth 1000000
set_option linter.unusedSimpArgs false
theorem code2_zero {b1 b2 : Bool} (h : code2 b1 b2 1 2 = 0) : b1 = true ∧ b2 = true := by
  revert h; cases b1 <;> cases b2 <;> unfold code2 <;> simp
theorem codeD_zero {b1 b2 : Bool} {c : Int} (h : codeD b1 b2 c = 0) : b1 = true ∧ b2 = true ∧ c = 0 := by
  revert h; cases b1 <;> cases b2 <;> unfold codeD <;> simp
def babs (x : Int) : Int := if x < 0 then -x else x
theorem babs_neg {x : Int} (h : x < 0) : babs x = -x := if_pos h
theorem babs_pos {x : Int} (h : ¬ x < 0) : babs x = x := if_neg h
theorem b10Abs_any (x : Int) (h0 : -1000000 ≤ x) (h1 : x ≤ 1000000) (w : World) : Calls Tryd.prog 9 #[.int .i64 x] w fun e w' => e = .returned (.int .i64 (babs x)) ∧ w = w' := by
  by_cases h : x < 0
  · go_enter Tryd.func9, Tryd.ntmps9
    go_wp2
    go_ret
    exact ⟨ret_int (babs_neg (by omega)).symm, rfl⟩
  · go_enter Tryd.func9, Tryd.ntmps9
    go_wp2
    go_ret
    exact ⟨ret_int (babs_pos (by omega)).symm, rfl⟩
theorem dry_side {a b : Int} (e : Int) (hb : 10 ≤ b) (n : Nat) : (a ≤ e ∧ a ≤ dryV a e b n ∧ dryV a e b n ≤ e) ∨ (e < a ∧ e ≤ dryV a e b n ∧ dryV a e b n ≤ a) := by
  by_cases h : a ≤ e
  · exact Or.inl ⟨h, (dry_up hb h n).1, (dry_up hb h n).2⟩
  · exact Or.inr ⟨by omega, (dry_down hb (by omega) n).1, (dry_down hb (by omega) n).2⟩
theorem dry_near {a b : Int} (e : Int) (hb : 10 ≤ b) (n : Nat) : babs (dryV a e b n - e) ≤ babs (a - e) := by
  unfold babs
  rcases dry_side (a := a) e hb n with ⟨h1, h2, h3⟩ | ⟨h1, h2, h3⟩ <;> split <;> split <;> omega
/-- a day's change is never greater than the first day's -/
theorem chg_first {a b : Int} (e : Int) (hb : 10 ≤ b) (k : Nat) : babs (chgV (dryV a e b k) e b) ≤ babs (chgV a e b) := by
  rcases dry_side (a := a) e hb k with ⟨h1, h2, h3⟩ | ⟨h1, h2, h3⟩
  · have p := (chg_up hb h3).1
    have q : chgV (dryV a e b k) e b ≤ chgV a e b := rnd_mono (by omega) (by omega)
    rw [babs_pos (by omega), babs_pos (by omega)]; exact q
  · have p := (chg_down hb h2).2
    have p' := (chg_down hb (by omega : e ≤ a)).2
    have q : chgV a e b ≤ chgV (dryV a e b k) e b := rnd_mono (by omega) (by omega)
    unfold babs; split <;> split <;> omega
theorem crP_abs (z x y g : Int) : crP z (x, y, g) = decide (z < babs g) ∨ z < 0 := by
  by_cases hz : z < 0
  · exact Or.inr hz
  · left
    unfold crP babs
    dsimp only
    by_cases hg : g < 0
    · rw [if_pos hg]; congr 1; apply propext; omega
    · rw [if_neg hg]; congr 1; apply propext; omega
/-- there are cracks if and only if the first day makes one -/
theorem crk_pos {a b : Int} (e z : Int) (hz : 0 ≤ z) (hb : 10 ≤ b) (n : Nat) (hn : 0 < n) : 0 < crkN a e b z n ↔ z < babs (chgV a e b) := by
  have key : ∀ k, crP z (0, 0, chgV (dryV a e b k) e b) = decide (z < babs (chgV (dryV a e b k) e b)) := fun k => (crP_abs z 0 0 _).resolve_right (by omega)
  unfold crkN
  rw [List.countP_pos_iff]
  constructor
  · rintro ⟨k, _, h⟩
    rw [key] at h
    have := of_decide_eq_true h
    have := chg_first (a := a) e hb k
    omega
  · intro h
    exact ⟨0, List.mem_range.2 hn, by rw [key]; exact decide_eq_true h⟩
theorem part1 (s : ByteArray) (a : Int) (b : Int) (c : Int) (h d : Int) (hs : s.size ≤ maxLen) : ∃ A c1 E c2 : Int,
    Hid (∀ W, EvP W → Calls Tryd.prog 6 #[.agg #[.string s, .int .i64 a, .int .i64 b, .int .i64 c], .int .i64 h, .int .i64 d] W fun e w' => e = .returned (.tuple #[.int .i64 A, .int .i64 c1]) ∧ Below W.heap.size W w') ∧
    Hid (∀ W, EvP W → Calls Tryd.prog 7 #[.int .i64 h] W fun e w' => e = .returned (.tuple #[.int .i64 E, .int .i64 c2]) ∧ Below W.heap.size W w') ∧
    Hid (c1 = 0 → c2 = 0 ∧ ∃ G P Q : Int, Hid (∀ W v, EvP W → IntsAt W v [h, h] → Calls Tryd.prog 8 #[.agg #[.string s, .int .i64 a, .int .i64 b, .int .i64 c], v, .int .i64 d] W (RowC [A, G] 0 W)) ∧
      Hid (∀ W, Calls Tryd.prog 9 #[.int .i64 (G - E)] W fun e w' => e = .returned (.int .i64 P) ∧ W = w') ∧ Hid (∀ W, Calls Tryd.prog 9 #[.int .i64 (A - E)] W fun e w' => e = .returned (.int .i64 Q) ∧ W = w') ∧
      (0 ≤ E ∧ E ≤ 280) ∧ (0 ≤ A ∧ A ≤ 1000) ∧ (0 ≤ G ∧ G ≤ 1000) ∧ P ≤ Q ∧ (0 ≤ a ∧ a ≤ 1000) ∧ ((a ≤ E ∧ a ≤ A ∧ A ≤ E) ∨ (E < a ∧ E ≤ A ∧ A ≤ a))) := by
  refine ⟨_, _, _, _, Lib.hid (fun W hE => implMoistureAfter_any s a b c h d hs W hE), Lib.hid (fun W hE => implEvenMoisture_any h W hE), Lib.hid (fun hc => ?_)⟩
  obtain ⟨h1, h2⟩ := code2_zero hc
  have h2' := h2
  rw [Bool.and_eq_true] at h2'
  obtain ⟨h3, h4⟩ := h2'
  obtain ⟨ha, hb, _⟩ := stk_bd h1
  have hev := even_in h
  have hA := dry_in (e := evenV h) hb.1 ha (by omega) d.toNat
  have hG := dry_in (e := evenV h) hb.1 hA (by omega) d.toNat
  have eA : pick (stkB ⟨s, a, b, c⟩ && (inB h 0 1000 && inB d 0 4000)) (dryV a (evenV h) b d.toNat) = dryV a (evenV h) b d.toNat := pick_t (by rw [h1, h2]; rfl) _
  have eE : pick (inB h 0 1000) (evenV h) = evenV h := pick_t h3 _
  have eC : stgC ⟨s, a, b, c⟩ [h, h] d = 0 := by
    have hh : humB [h, h] = true := by
      unfold humB; rw [List.all_eq_true]; intro i hi
      have : i < 2 := List.mem_range.1 hi
      match i, this with
      | 0, _ => exact h3
      | 1, _ => exact h3
    unfold stgC; rw [h1, h4, hh]; rfl
  have eV : stgV ⟨s, a, b, c⟩ [h, h] d = [dryV a (evenV h) b d.toNat, dryV (dryV a (evenV h) b d.toNat) (evenV h) b d.toNat] := (stg_good eC).1.trans rfl
  refine ⟨code_t h3 _, dryV (dryV a (evenV h) b d.toNat) (evenV h) b d.toNat, babs (dryV (dryV a (evenV h) b d.toNat) (evenV h) b d.toNat - evenV h), babs (dryV a (evenV h) b d.toNat - evenV h), Lib.hid (fun W v hW hv => ?_), Lib.hid (fun W => ?_), Lib.hid (fun W => ?_), ?_, ?_, hG, dry_near _ hb.1 _, ha, ?_⟩
  · have := implStagesFor_any s a b c v [h, h] d hs W hW (by simp) hv
    rw [eV, eC] at this; rw [eA]; exact this
  · rw [eE]; exact b10Abs_any _ (by omega) (by omega) W
  · rw [eA, eE]; exact b10Abs_any _ (by omega) (by omega) W
  · rw [eE]; omega
  · rw [eA]; exact hA
  · rw [eA, eE]; exact dry_side _ hb.1 _
theorem fst_spec {p : Nat → Bool} {n k : Nat} (h : fstK p n = some k) : k < n ∧ p k = true ∧ ∀ j, j < k → p j = false := by
  unfold fstK at h; rw [List.find?_range_eq_some] at h
  exact ⟨List.mem_range.1 h.2.1, h.1, fun j hj => by have := h.2.2 j hj; simpa using this⟩
theorem part2 (s : ByteArray) (a : Int) (b : Int) (c : Int) (h z : Int) (hs : s.size ≤ maxLen) : ∃ n c4 : Int,
    Hid (∀ W, EvP W → Calls Tryd.prog 11 #[.agg #[.string s, .int .i64 a, .int .i64 b, .int .i64 c], .int .i64 h, .int .i64 z] W fun e w' => e = .returned (.tuple #[.int .i64 n, .int .i64 c4]) ∧ Below W.heap.size W w') ∧
    Hid (c4 = 0 → ∃ B D c6 : Int, Hid (∀ W, EvP W → Calls Tryd.prog 6 #[.agg #[.string s, .int .i64 a, .int .i64 b, .int .i64 c], .int .i64 h, .int .i64 n] W fun e w' => e = .returned (.tuple #[.int .i64 B, .int .i64 0]) ∧ Below W.heap.size W w') ∧
      Hid (∀ W, EvP W → Calls Tryd.prog 6 #[.agg #[.string s, .int .i64 a, .int .i64 b, .int .i64 c], .int .i64 h, .int .i64 (n - 1)] W fun e w' => e = .returned (.tuple #[.int .i64 D, .int .i64 c6]) ∧ Below W.heap.size W w') ∧
      B ≤ z ∧ (0 ≤ n ∧ n ≤ 4000) ∧ (0 < n → c6 = 0 ∧ z < D)) := by
  refine ⟨_, _, Lib.hid (fun W hE => implDaysToDry_any s a b c h z hs W hE), Lib.hid (fun hc => ?_)⟩
  obtain ⟨h1, h2, h3⟩ := codeD_zero hc
  have h2' := h2
  rw [Bool.and_eq_true] at h2'
  have eN : pick (stkB ⟨s, a, b, c⟩ && (inB h 0 1000 && inB z 0 1000)) (dtdN a (evenV h) b z) = dtdN a (evenV h) b z := pick_t (by rw [h1, h2]; rfl) _
  rw [eN]
  obtain ⟨k, hk⟩ : ∃ k, fstK (wetP a (evenV h) b z) 4001 = some k := by
    unfold dtdC at h3
    by_cases hq : (fstK (wetP a (evenV h) b z) 4001).isSome = true
    · exact Option.isSome_iff_exists.1 hq
    · rw [if_neg hq] at h3; exact absurd h3 (by decide)
  obtain ⟨hlt, hp, hno⟩ := fst_spec hk
  have eK : dtdN a (evenV h) b z = (k : Int) := by unfold dtdN; rw [hk]; rfl
  rw [eK]
  have hpk : dryV a (evenV h) b k ≤ z := of_decide_eq_true hp
  have i1 : inB (k : Int) 0 4000 = true := inB_iff.2 (by omega)
  have cB := fun W (hE : EvP W) => implMoistureAfter_any s a b c h (k : Int) hs W hE
  have cD := fun W (hE : EvP W) => implMoistureAfter_any s a b c h ((k : Int) - 1) hs W hE
  rw [h1, h2'.1, i1] at cB
  refine ⟨dryV a (evenV h) b k, _, _, Lib.hid (fun W hE => ?_), Lib.hid cD, hpk, by omega, fun hpos => ?_⟩
  · have := cB W hE
    rw [show pick (true && (true && true)) (dryV a (evenV h) b (k : Int).toNat) = dryV a (evenV h) b k from pick_t rfl _, show code2 true (true && true) 1 2 = 0 from rfl] at this
    exact this
  · have i2 : inB ((k : Int) - 1) 0 4000 = true := inB_iff.2 (by omega)
    rw [h1, h2'.1, i2]
    have e1 : ((k : Int) - 1).toNat = k - 1 := by omega
    rw [show pick (true && (true && true)) (dryV a (evenV h) b ((k : Int) - 1).toNat) = dryV a (evenV h) b ((k : Int) - 1).toNat from pick_t rfl _, e1]
    have := hno (k - 1) (by omega)
    unfold wetP at this
    have := of_decide_eq_false this
    exact ⟨rfl, by omega⟩
theorem part3 (s : ByteArray) (a : Int) (b : Int) (c : Int) (h z d : Int) (hs : s.size ≤ maxLen) : ∃ K c7 F c8 : Int,
    Hid (∀ W, EvP W → Calls Tryd.prog 13 #[.agg #[.string s, .int .i64 a, .int .i64 b, .int .i64 c], .int .i64 h, .int .i64 z, .int .i64 d] W fun e w' => e = .returned (.tuple #[.int .i64 K, .int .i64 c7]) ∧ Below W.heap.size W w') ∧
    Hid (∀ W, Calls Tryd.prog 14 #[.agg #[.string s, .int .i64 a, .int .i64 b, .int .i64 c], .int .i64 h, .int .i64 1] W fun e w' => e = .returned (.tuple #[.int .i64 F, .int .i64 c8]) ∧ Below W.heap.size W w') ∧
    Hid (¬ c7 = 0 → K = 0) ∧
    Hid (c7 = 0 → c8 = 0 ∧ ∃ P : Int, Hid (∀ W, Calls Tryd.prog 9 #[.int .i64 (F - a)] W fun e w' => e = .returned (.int .i64 P) ∧ W = w') ∧ (0 ≤ F ∧ F ≤ 1000) ∧ (0 ≤ a ∧ a ≤ 1000) ∧ (0 ≤ K ∧ K ≤ d) ∧ (0 < d → (0 < K ↔ z < P))) := by
  refine ⟨_, _, _, _, Lib.hid (fun W hE => implCrackDays_any s a b c h z d hs W hE), Lib.hid (fun W => specMoistureAfter_any s a b c h 1 hs W), Lib.hid (fun hc => ?_), Lib.hid (fun hc => ?_)⟩
  · have : (stkB ⟨s, a, b, c⟩ && (inB h 0 1000 && inB z 0 1000 && inB d 0 4000)) = false := by
      revert hc; cases stkB ⟨s, a, b, c⟩ <;> cases (inB h 0 1000 && inB z 0 1000 && inB d 0 4000) <;> unfold code2 <;> simp
    exact pick_f this _
  · obtain ⟨h1, h2⟩ := code2_zero hc
    have h2' := h2
    rw [Bool.and_eq_true, Bool.and_eq_true] at h2'
    obtain ⟨⟨i1, i2⟩, i3⟩ := h2'
    obtain ⟨ha, hb, _⟩ := stk_bd h1
    have hev := even_in h
    have hd := inB_iff.1 i3
    have hz := inB_iff.1 i2
    have hF := dry_in (e := evenV h) hb.1 ha (by omega) 1
    have j1 : inB (1 : Int) 0 4000 = true := rfl
    have eF : pick (stkB ⟨s, a, b, c⟩ && (inB h 0 1000 && inB 1 0 4000)) (dryV a (evenV h) b (1 : Int).toNat) = dryV a (evenV h) b 1 := pick_t (by rw [h1, i1, j1]; rfl) _
    have eK : pick (stkB ⟨s, a, b, c⟩ && (inB h 0 1000 && inB z 0 1000 && inB d 0 4000)) (crkN a (evenV h) b z d.toNat : Nat) = (crkN a (evenV h) b z d.toNat : Nat) := pick_t (by rw [h1, h2]; rfl) _
    rw [eF, eK]
    have hle := crkN_le a (evenV h) b z d.toNat
    refine ⟨by rw [h1, i1, j1]; rfl, babs (dryV a (evenV h) b 1 - a), Lib.hid (fun W => b10Abs_any _ (by omega) (by omega) W), hF, ha, by omega, fun hpos => ?_⟩
    have key := crk_pos (a := a) (evenV h) z hz.1 hb.1 d.toNat (by omega)
    have e1 : dryV a (evenV h) b 1 - a = chgV a (evenV h) b := by show a + chgV a (evenV h) b - a = _; omega
    rw [e1]
    omega
end Go.Proofs.YtemccejlophmkaaDoor
