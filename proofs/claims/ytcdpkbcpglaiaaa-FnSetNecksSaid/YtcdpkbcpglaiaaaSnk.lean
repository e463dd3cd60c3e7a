/-
  What the law of set necks asks: its own helpers; the nearest neck, the places of the necks that are set well.
-/
import Derived.Test.YtcdpkbcpglaiaaaNckW
import Derived.Test.YtcdpkbcpglaiaaaNckN
import Derived.Test.YtcdpkbcpglaiaaaHal
import Derived.Test.YtcdpkbcpglaiaaaRowMath
import Derived.BigQuiet
namespace Go.Proofs.Ytcdpkbcpglaiaaa
open Go.ChangeShapes Go.WideShapes Go.ChangeAt Go.RowKit Go.Deep
set_option linter.unusedVariables false
set_option maxRecDepth 1000000
set_option linter.unusedSimpArgs false
def babs (x : Int) : Int := if x < 0 then -x else x
theorem babs_neg {x : Int} (h : x < 0) : babs x = -x := if_pos h
theorem babs_pos {x : Int} (h : ¬ x < 0) : babs x = x := if_neg h
theorem babs_absG (x y : Int) : babs (x - y) = absG x y := by unfold babs absG; split <;> split <;> omega
theorem b10Abs_any (x : Int) (h0 : -1000000 ≤ x) (h1 : x ≤ 1000000) (w : World) : Calls Try.prog 7 #[.int .i64 x] w fun e w' => e = .returned (.int .i64 (babs x)) ∧ w = w' := by
  by_cases h : x < 0
  · go_enter Try.func7, Try.ntmps7
    go_wp2
    go_ret
    exact ⟨ret_int (babs_neg (by omega)).symm, rfl⟩
  · go_enter Try.func7, Try.ntmps7
    go_wp2
    go_ret
    exact ⟨ret_int (babs_pos (by omega)).symm, rfl⟩
theorem nkN_spec (g : Nat → Int) : ∀ n, (∀ i, i < n → g (nkN g n) ≤ g i) ∧ (∀ i, i < nkN g n → g (nkN g n) < g i)
  | 0 => ⟨fun i h => absurd h (Nat.not_lt_zero i), fun i h => absurd h (Nat.not_lt_zero i)⟩
  | n + 1 => by
    obtain ⟨h1, h2⟩ := nkN_spec g n
    unfold nkN
    split
    · rename_i hlt
      refine ⟨fun i hi => ?_, fun i hi => ?_⟩
      · by_cases e : i = n
        · subst e; exact Int.le_refl _
        · have := h1 i (by omega); omega
      · have := h1 i hi; omega
    · rename_i hlt
      refine ⟨fun i hi => ?_, h2⟩
      by_cases e : i = n
      · subst e; omega
      · exact h1 i (by omega)
theorem setL_mem (Z : List Nck) (h f : Int) (x : Int) : ∀ n, x ∈ setL Z h f n ↔ ∃ i : Nat, i < n ∧ x = (i : Int) ∧ setB Z h f i = true
  | 0 => ⟨fun h => (by cases h), fun ⟨i, hi, _⟩ => absurd hi (Nat.not_lt_zero i)⟩
  | n + 1 => by
    have ih := setL_mem Z h f x n
    unfold setL
    split
    · rename_i hb
      rw [List.mem_append, ih]
      constructor
      · rintro (⟨i, hi, e1, e2⟩ | hx)
        · exact ⟨i, by omega, e1, e2⟩
        · simp at hx; exact ⟨n, by omega, hx, hb⟩
      · rintro ⟨i, hi, e1, e2⟩
        by_cases e : i = n
        · right; subst e; simp [e1]
        · left; exact ⟨i, by omega, e1, e2⟩
    · rename_i hb
      rw [ih]
      constructor
      · rintro ⟨i, hi, e1, e2⟩; exact ⟨i, by omega, e1, e2⟩
      · rintro ⟨i, hi, e1, e2⟩
        by_cases e : i = n
        · subst e; exact absurd e2 hb
        · exact ⟨i, by omega, e1, e2⟩
theorem setL_rise (Z : List Nck) (h f : Int) : ∀ n, (setL Z h f n).Pairwise (· < ·)
  | 0 => List.Pairwise.nil
  | n + 1 => by
    have ih := setL_rise Z h f n
    unfold setL
    split
    · refine List.pairwise_append.2 ⟨ih, List.pairwise_singleton _ _, fun x hx y hy => ?_⟩
      obtain ⟨i, hi, e, _⟩ := (setL_mem Z h f x n).1 hx
      simp at hy
      subst hy e
      omega
    · exact ih
theorem b10Has_any (v : Value) (L : List Int) (x : Int) (w : World) (hL : L.length ≤ 1000) (hv : IntsAt w v L) : Calls Try.prog 12 #[v, .int .i64 x] w fun e w' => e = .returned (.bool (decide (x ∈ L))) ∧ w = w' := by
  obtain ⟨a, cap, rfl, hcap, hin, hread⟩ := hv
  have hread' := Lib.hid hread
  clear hread hin
  go_enter Try.func12, Try.ntmps12
  go_wp2
  go_loopw [5] (fun i wr => ∃ k : Nat, k ≤ L.length ∧ i = .int .i64 k ∧ w = wr ∧ Hid (∀ j (hj : j < L.length), j < k → L[j] ≠ x)) (fun i _ => L.length - (intOf i).toNat)
  case atStart => exact ⟨0, by omega, rfl, rfl, Lib.hid (fun j _ h => absurd h (Nat.not_lt_zero j))⟩
  case round =>
    obtain ⟨k, hk, rfl, rfl, hno⟩ := hrel
    by_cases hlt : k < L.length
    · rcases hread'.out with h | ⟨g, o, rfl, hg, hc⟩
      · subst h; simp at hlt
      have c1 := hc k hlt
      have hltI : (k : Int) < (L.length : Int) := by omega
      have hmem := Lib.hid (List.getElem_mem hlt)
      have hnoH := Lib.hid (fun (h : L[k] ≠ x) => (fun j (hj : j < L.length) (h2 : j < k + 1) => by
        by_cases e : j = k
        · subst e; exact h
        · exact hno.out j hj (by omega) : ∀ j (hj : j < L.length), j < k + 1 → L[j] ≠ x))
      obtain ⟨y, hy⟩ : ∃ y, y = L[k] := ⟨_, rfl⟩
      rw [← hy] at c1 hmem hnoH
      clear hy hc hno
      by_cases e : y = x
      · subst e
        have hm := Lib.hid (decide_eq_true hmem.out)
        go_wp2
        go_ret
        exact ⟨by rw [hm.out]; rfl, rfl⟩
      · have hN := Lib.hid (hnoH.out e)
        have e1 : (y == x) = false := beq_eq_false_iff_ne.2 e
        clear hmem hnoH
        go_wp2
        go_roundw
        case rel => exact ⟨k + 1, by omega, by go_num, by first | rfl | trivial, hN⟩
        case measure => simp [intOf]; omega
    · have hkl : k = L.length := by omega
      have hm : Hid (decide (x ∈ L) = false) := Lib.hid (decide_eq_false (fun hx => by
        obtain ⟨j, hj, e⟩ := List.mem_iff_getElem.1 hx
        exact hno.out j hj (by omega) e))
      have hltI : ¬ (k : Int) < (L.length : Int) := by omega
      clear hkl hno
      go_wp2
      go_ret
      exact ⟨by rw [hm.out]; rfl, rfl⟩
theorem b10Rises_any (v : Value) (L : List Int) (n : Nat) (w : World) (hn : n ≤ 1000) (hL : L.length ≤ 1000) (hr : ∀ x ∈ L, 0 ≤ x ∧ x < (n : Int)) (hs : L.Pairwise (· < ·)) (hv : IntsAt w v L) : Calls Try.prog 10 #[v, .int .i64 n] w fun e w' => e = .returned (.bool true) ∧ Below w.heap.size w w' := by
  obtain ⟨a, cap, rfl, hcap, hin, hread⟩ := hv
  have hread' := Lib.hid hread
  have hr' := Lib.hid hr
  have hs' := Lib.hid hs
  clear hread hin hr hs
  go_enter Try.func10, Try.ntmps10
  go_wp2
  go_loopw [5] (fun i wr => ∃ k : Nat, k ≤ L.length ∧ i = .int .i64 k ∧ Hid (Below w.heap.size w wr)) (fun i _ => L.length - (intOf i).toNat)
  case atStart => exact ⟨0, by omega, rfl, Lib.hid (Below.refl _ _)⟩
  case round =>
    obtain ⟨k, hk, rfl, hB⟩ := hrel
    by_cases hlt : k < L.length
    · rcases hread'.out with h | ⟨g, o, rfl, hg, hc⟩
      · subst h; simp at hlt
      have c1 := (hB.out.cell (p := ⟨g, o + k, none⟩) hg).trans (hc k hlt)
      have hltI : (k : Int) < (L.length : Int) := by omega
      have hyr := hr'.out _ (List.getElem_mem hlt)
      cases k with
      | zero =>
        obtain ⟨y, hy⟩ : ∃ y, y = L[0] := ⟨_, rfl⟩
        rw [← hy] at c1 hyr
        have d1 : decide (y < 0) = false := decide_eq_false (by omega)
        have d2 : decide ((n : Int) ≤ y) = false := decide_eq_false (by omega)
        clear hy hc
        simp only [Nat.add_zero, Int.natCast_zero, Int.ofNat_zero] at c1 hltI ⊢
        go_wp2_with fail
        go_quiet (fail)
        go_wp2
        go_roundw
        case rel => exact ⟨1, by omega, by go_num, Lib.hid (by first | exact hB.out | exact belowN hB.out _)⟩
        case measure => simp [intOf]; omega
      | succ m =>
        have c0 := (hB.out.cell (p := ⟨g, o + m, none⟩) hg).trans (hc m (by omega))
        have hlt2 := List.pairwise_iff_getElem.1 hs'.out m (m + 1) (by omega) hlt (by omega)
        obtain ⟨y, hy⟩ : ∃ y, y = L[m + 1] := ⟨_, rfl⟩
        obtain ⟨z, hz⟩ : ∃ z, z = L[m] := ⟨_, rfl⟩
        rw [← hy] at c1 hyr hlt2
        rw [← hz] at c0 hlt2
        have d1 : decide (y < 0) = false := decide_eq_false (by omega)
        have d2 : decide ((n : Int) ≤ y) = false := decide_eq_false (by omega)
        have d3 : decide (y ≤ z) = false := decide_eq_false (by omega)
        have d4 : decide (0 < (((m + 1 : Nat)) : Int)) = true := decide_eq_true (by omega)
        clear hy hz hc
        go_wp2_with fail
        go_quiet (fail)
        go_wp2
        go_roundw
        case rel => exact ⟨m + 1 + 1, by omega, by go_num, Lib.hid (by first | exact hB.out | exact belowN hB.out _)⟩
        case measure => simp [intOf]; omega
    · have hltI : ¬ (k : Int) < (L.length : Int) := by omega
      go_wp2
      go_ret
      exact ⟨rfl, hB.out⟩
end Go.Proofs.Ytcdpkbcpglaiaaa
