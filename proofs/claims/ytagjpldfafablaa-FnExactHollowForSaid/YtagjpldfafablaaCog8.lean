/-
  The first error of grids and a number beside them; heights of wood over a flat surface, and between two grids.
-/
import Derived.Test.YtagjpldfafablaaSurf
namespace Go.Proofs.Ytagjpldfafablaa
open Go.ChangeShapes Go.WideShapes Go.ChangeAt Go.RowKit Go.Deep
set_option linter.unusedVariables false
set_option linter.unusedSimpArgs false
attribute [local go_sem] Oper.semAt_some
def codeG (b1 b2 : Bool) : Int := if b1 = true then (if b2 = true then 0 else 2) else 1
def allG (n : Nat) (Gs : Nat → List (List Int)) : Bool := (List.range n).all fun j => okG (Gs j)
theorem allG_no {n j : Nat} {Gs : Nat → List (List Int)} (hj : j < n) (h : okG (Gs j) = false) : allG n Gs = false := by
  unfold allG; rw [List.all_eq_false]; exact ⟨j, List.mem_range.2 hj, by rw [h]; simp⟩
theorem allG_next {n : Nat} {Gs : Nat → List (List Int)} : allG (n + 1) Gs = (allG n Gs && okG (Gs n)) := by
  unfold allG; rw [List.range_succ, List.all_append]; simp
set_option maxHeartbeats 1600000 in
theorem codeOfGrids_any (b n : Nat) (vs : Nat → Value) (Gs : Nat → List (List Int)) (num : Int) (w : World) (hn : n ≤ 1000) (hb : b < w.heap.size) (hc : ∀ j, j < n → w.cell? ⟨b, j, none⟩ = some (vs j) ∧ GridAt w (vs j) (Gs j) ∧ (Gs j).length + totL (Gs j) ≤ 1048576) :
    Calls Try.prog 39 #[.int .i64 num, .slice (some ⟨b, 0, none⟩) n n] w fun e w' => e = .returned (.int .i64 (codeG (allG n Gs) (inB num 0 1000))) ∧ DrewOf w w' := by
  have hx : Hid (∀ x y, codeG x y = if x = true then (if y = true then 0 else 2) else 1) := Lib.hid (fun _ _ => rfl)
  have hc' := Lib.hid hc
  have cR0 := fun W => isRise_any num W
  obtain ⟨bb, hbb⟩ : ∃ x, x = inB num 0 1000 := ⟨_, rfl⟩
  rw [← hbb] at cR0 ⊢
  clear hc hbb
  go_enter Try.func39, Try.ntmps39
  go_wp2
  go_loopw [9] (fun i wr => ∃ k : Nat, k ≤ n ∧ i = .int .i64 k ∧ Hid (allG k Gs = true) ∧ DrewOf w wr) (fun i _ => n - (intOf i).toNat)
  case atStart => exact ⟨0, by omega, rfl, Lib.hid rfl, DrewOf.refl _⟩
  case round =>
    obtain ⟨k, hk, rfl, hall, hd⟩ := hrel
    by_cases hlt : k < n
    · obtain ⟨h1, h2, h3⟩ := hc'.out k hlt
      have c1 := (hd.cell ⟨b, k, none⟩).trans h1
      have cV0 := implValidArch_any (vs k) (Gs k) wr h3 (h2.below hd.below)
      have hno : Hid (okG (Gs k) = false → allG n Gs = false) := Lib.hid (fun h => allG_no hlt h)
      have hyes : Hid (okG (Gs k) = true → allG (k + 1) Gs = true) := Lib.hid (fun h => by rw [allG_next, hall.out, h]; rfl)
      obtain ⟨a, cap, hv, _⟩ := h2
      rw [hv] at cV0 c1
      cases hok : okG (Gs k)
      · rw [hok] at cV0
        have cV := Lib.hid cV0
        have hr := Lib.hid (hno.out hok)
        clear hok hno hyes cV0 hv h1 h3
        go_wp2_with (go_at_call 31; refine cV.out.mono ?_; rintro e w2 ⟨rfl, hd2⟩)
        go_ret
        exact ⟨ret_int (by rw [hx.out, hr.out]; rfl), hd.trans hd2⟩
      · rw [hok] at cV0
        have cV := Lib.hid cV0
        have hr := Lib.hid (hyes.out hok)
        clear hok hno hyes cV0 hv h1 h3
        go_wp2_with (go_at_call 31; refine cV.out.mono ?_; rintro e w2 ⟨rfl, hd2⟩)
        go_roundw
        case rel => exact ⟨k + 1, by omega, by go_num, hr, hd.trans hd2⟩
        case measure => simp [intOf]; omega
    · have hkn : k = n := by omega
      have hr : Hid (allG n Gs = true) := Lib.hid (by rw [← hkn]; exact hall.out)
      clear hkn hall
      cases bb
      all_goals
        have cR := Lib.hid cR0
        clear cR0
        go_wp2_with (go_at_call 53; refine (cR.out _).mono ?_; rintro e w2 ⟨rfl, rfl⟩)
        go_ret
        exact ⟨ret_int (by rw [hx.out, hr.out]; rfl), hd⟩
end Go.Proofs.Ytagjpldfafablaa
