/-
  The closest pair of a list of planks: what both sides compute.
-/
import Derived.Test.YtfcdhjbnlokinaaLight
import Derived.Test.YtfcdhjbnlokinaaPlank5
namespace Go.Proofs.Ytfcdhjbnlokinaa
open Go.ChangeShapes Go.WideShapes Go.ChangeAt Go.RowKit Go.Deep
set_option linter.unusedVariables false
set_option linter.unusedSimpArgs false
def gapZ (Z : List Plk) (j k : Nat) : Int := gapV (atZ Z j) (atZ Z k)
/-- one step of the model's state: the closest pair so far, or (-1, -1) -/
def stp (Z : List Plk) (j k : Nat) (P : Int × Int) : Int × Int := if P.1 < 0 ∨ gapZ Z j k < gapZ Z P.1.toNat P.2.toNat then ((j : Int), (k : Int)) else P
def rowP (Z : List Plk) (j : Nat) (P : Int × Int) : Nat → Int × Int
  | 0 => P
  | t + 1 => stp Z j (j + 1 + t) (rowP Z j P t)
def bestP (Z : List Plk) : Nat → Int × Int
  | 0 => (-1, -1)
  | j + 1 => rowP Z j (bestP Z j) (Z.length - (j + 1))
def inP (n : Nat) (P : Int × Int) : Prop := P = (-1, -1) ∨ (0 ≤ P.1 ∧ P.1 < n ∧ 0 ≤ P.2 ∧ P.2 < n)
theorem stp_in {Z : List Plk} {j k : Nat} {P : Int × Int} (hj : j < Z.length) (hk : k < Z.length) (h : inP Z.length P) : inP Z.length (stp Z j k P) := by
  unfold stp
  split
  · right; exact ⟨by show (0 : Int) ≤ (j : Int); omega, by show (j : Int) < _; omega, by show (0 : Int) ≤ (k : Int); omega, by show (k : Int) < _; omega⟩
  · exact h
theorem rowP_in {Z : List Plk} {j : Nat} {P : Int × Int} (hj : j < Z.length) (h : inP Z.length P) : ∀ t, j + 1 + t ≤ Z.length → inP Z.length (rowP Z j P t)
  | 0, _ => h
  | t + 1, ht => stp_in hj (by omega) (rowP_in hj h t (by omega))
theorem bestP_in (Z : List Plk) : ∀ j, j ≤ Z.length → inP Z.length (bestP Z j)
  | 0, _ => Or.inl rfl
  | j + 1, hj => rowP_in (by omega) (bestP_in Z j (by omega)) _ (by omega)
theorem stp_pos {Z : List Plk} {j k : Nat} {P : Int × Int} : 0 ≤ (stp Z j k P).1 := by
  unfold stp
  split
  · show (0 : Int) ≤ (j : Int); omega
  · rename_i h
    have : ¬ P.1 < 0 := fun h1 => h (Or.inl h1)
    omega
theorem rowP_pos {Z : List Plk} {j : Nat} {P : Int × Int} (h : 0 ≤ P.1) : ∀ t, 0 ≤ (rowP Z j P t).1
  | 0 => h
  | t + 1 => stp_pos
theorem bestP_pos {Z : List Plk} (h2 : 2 ≤ Z.length) : ∀ j, 0 ≤ (bestP Z (j + 1)).1
  | 0 => by
    show 0 ≤ (rowP Z 0 (-1, -1) (Z.length - 1)).1
    obtain ⟨t, ht⟩ : ∃ t, Z.length - 1 = t + 1 := ⟨Z.length - 2, by omega⟩
    rw [ht]
    exact stp_pos
  | j + 1 => rowP_pos (bestP_pos h2 j) _
theorem bestP_end {Z : List Plk} (h2 : 2 ≤ Z.length) : 0 ≤ (bestP Z Z.length).1 := by
  obtain ⟨t, ht⟩ : ∃ t, Z.length = t + 1 := ⟨Z.length - 1, by omega⟩
  rw [ht]
  exact bestP_pos h2 t
theorem bestP_few {Z : List Plk} (h2 : Z.length < 2) : bestP Z Z.length = (-1, -1) := by
  rcases (show Z.length = 0 ∨ Z.length = 1 by omega) with h | h
  · rw [h]; rfl
  · rw [h]
    show rowP Z 0 (bestP Z 0) (Z.length - 1) = (-1, -1)
    rw [h]; rfl
/-- the program's state -/
def prS (Z : List Plk) (P : Int × Int) : Int × Int × Int := if P.1 < 0 then (0, 0, 9223372036854775807) else (P.1, P.2, gapZ Z P.1.toNat P.2.toNat)
theorem gapZ_get {Z : List Plk} {j k : Nat} (hj : j < Z.length) (hk : k < Z.length) : gapZ Z j k = gapV Z[j] Z[k] := by unfold gapZ; rw [atZ_get hj, atZ_get hk]
theorem gapV_bd {x y : Plk} (hx : plkB x = true) (hy : plkB y = true) : 0 ≤ gapV x y ∧ gapV x y ≤ 2000000000000 := by
  obtain ⟨s, a, b, c, d, f⟩ := x
  obtain ⟨s', a', b', c', d', f'⟩ := y
  obtain ⟨k1, k2⟩ := den_bd hx
  obtain ⟨k3, k4⟩ := den_bd hy
  obtain ⟨k5, k6⟩ := rin_bd hx
  obtain ⟨k7, k8⟩ := rin_bd hy
  have q1 := absD_bd _ _ k1 k2 k3 k4
  have q2 := absD_bd _ _ k5 (by omega) k7 (by omega)
  unfold gapV
  omega
theorem gapZ_bd {Z : List Plk} (h : plksB Z = true) {j k : Nat} (hj : j < Z.length) (hk : k < Z.length) : 0 ≤ gapZ Z j k ∧ gapZ Z j k ≤ 2000000000000 := by
  rw [gapZ_get hj hk]; exact gapV_bd (valid_at h hj) (valid_at h hk)
theorem prS_step {Z : List Plk} (h : plksB Z = true) {j k : Nat} (hj : j < Z.length) (hk : k < Z.length) {P : Int × Int} (hP : inP Z.length P) : prS Z (stp Z j k P) = if gapZ Z j k < (prS Z P).2.2 then ((j : Int), (k : Int), gapZ Z j k) else prS Z P := by
  have hb := gapZ_bd h hj hk
  have e1 : prS Z ((j : Int), (k : Int)) = ((j : Int), (k : Int), gapZ Z j k) := by
    unfold prS; rw [if_neg (by show ¬ (j : Int) < 0; omega)]; simp
  rcases hP with rfl | ⟨h1, h2, h3, h4⟩
  · have e2 : stp Z j k (-1, -1) = ((j : Int), (k : Int)) := by unfold stp; rw [if_pos (Or.inl (by decide))]
    have e3 : prS Z (-1, -1) = (0, 0, 9223372036854775807) := by unfold prS; rw [if_pos (by decide)]
    rw [e2, e1, e3, if_pos (by show gapZ Z j k < 9223372036854775807; omega)]
  · have e3 : prS Z P = (P.1, P.2, gapZ Z P.1.toNat P.2.toNat) := by unfold prS; rw [if_neg (by omega)]
    by_cases hl : gapZ Z j k < gapZ Z P.1.toNat P.2.toNat
    · have e2 : stp Z j k P = ((j : Int), (k : Int)) := by unfold stp; rw [if_pos (Or.inr hl)]
      rw [e2, e1, e3, if_pos hl]
    · have e2 : stp Z j k P = P := by unfold stp; rw [if_neg (by rintro (h5 | h5); omega; exact hl h5)]
      rw [e2, e3, if_neg hl]
theorem prS_bd {Z : List Plk} (h : plksB Z = true) {P : Int × Int} (hP : inP Z.length P) : 0 ≤ (prS Z P).1 ∧ (prS Z P).1 ≤ Z.length ∧ 0 ≤ (prS Z P).2.1 ∧ (prS Z P).2.1 ≤ Z.length ∧ 0 ≤ (prS Z P).2.2 ∧ (prS Z P).2.2 ≤ 9223372036854775807 := by
  rcases hP with rfl | ⟨h1, h2, h3, h4⟩
  · have e3 : prS Z (-1, -1) = (0, 0, 9223372036854775807) := by unfold prS; rw [if_pos (by decide)]
    rw [e3]; exact ⟨Int.le_refl 0, by show (0 : Int) ≤ _; omega, Int.le_refl 0, by show (0 : Int) ≤ _; omega, by decide, by decide⟩
  · have e3 : prS Z P = (P.1, P.2, gapZ Z P.1.toNat P.2.toNat) := by unfold prS; rw [if_neg (by omega)]
    have hb := gapZ_bd h (j := P.1.toNat) (k := P.2.toNat) (by omega) (by omega)
    rw [e3]; exact ⟨h1, by show P.1 ≤ _; omega, h3, by show P.2 ≤ _; omega, hb.1, by show gapZ _ _ _ ≤ _; omega⟩
/-- the program's row -/
def rowS (Z : List Plk) (j : Nat) (k : Nat) : Int × Int × Int := prS Z (rowP Z j (bestP Z j) (k - (j + 1)))
theorem rowS_step {Z : List Plk} (h : plksB Z = true) {j k : Nat} (hj : j < k) (hk : k < Z.length) : rowS Z j (k + 1) = if gapZ Z j k < (rowS Z j k).2.2 then ((j : Int), (k : Int), gapZ Z j k) else rowS Z j k := by
  have hin := rowP_in (Z := Z) (j := j) (by omega) (bestP_in Z j (by omega)) (k - (j + 1)) (by omega)
  have e := prS_step h (j := j) (k := k) (by omega) hk hin
  have e2 : rowP Z j (bestP Z j) (k + 1 - (j + 1)) = stp Z j k (rowP Z j (bestP Z j) (k - (j + 1))) := by
    rw [show k + 1 - (j + 1) = (k - (j + 1)) + 1 by omega]
    show stp Z j (j + 1 + (k - (j + 1))) _ = _
    rw [show j + 1 + (k - (j + 1)) = k by omega]
  unfold rowS
  rw [e2]; exact e
theorem rowS_bd {Z : List Plk} (h : plksB Z = true) {j k : Nat} (hj : j < k) (hk : k ≤ Z.length) : 0 ≤ (rowS Z j k).1 ∧ (rowS Z j k).1 ≤ Z.length ∧ 0 ≤ (rowS Z j k).2.1 ∧ (rowS Z j k).2.1 ≤ Z.length ∧ 0 ≤ (rowS Z j k).2.2 ∧ (rowS Z j k).2.2 ≤ 9223372036854775807 :=
  prS_bd h (rowP_in (by omega) (bestP_in Z j (by omega)) (k - (j + 1)) (by omega))
theorem rowS_first (Z : List Plk) (j : Nat) : rowS Z j (j + 1) = prS Z (bestP Z j) := by unfold rowS; rw [Nat.sub_self]; rfl
theorem rowS_last (Z : List Plk) (j : Nat) : rowS Z j Z.length = prS Z (bestP Z (j + 1)) := rfl
/-- what is answered -/
def bpA (Z : List Plk) : Int := if plksB Z = true ∧ 2 ≤ Z.length then (bestP Z Z.length).1 else 0
def bpB (Z : List Plk) : Int := if plksB Z = true ∧ 2 ≤ Z.length then (bestP Z Z.length).2 else 0
def bpC (Z : List Plk) : Int := if plksB Z = true then (if 2 ≤ Z.length then 0 else 3) else 1
theorem bp_inv {Z : List Plk} (h : plksB Z = false) : bpA Z = 0 ∧ bpB Z = 0 ∧ bpC Z = 1 := by unfold bpA bpB bpC; rw [h]; exact ⟨rfl, rfl, rfl⟩
theorem bp_few {Z : List Plk} (h : plksB Z = true) (h2 : Z.length < 2) : bpA Z = 0 ∧ bpB Z = 0 ∧ bpC Z = 3 := by
  unfold bpA bpB bpC; rw [if_neg (by omega), if_neg (by omega), if_pos h, if_neg (by omega)]; exact ⟨rfl, rfl, rfl⟩
theorem bp_yes {Z : List Plk} (h : plksB Z = true) (h2 : 2 ≤ Z.length) : bpA Z = (bestP Z Z.length).1 ∧ bpB Z = (bestP Z Z.length).2 ∧ bpC Z = 0 := by
  unfold bpA bpB bpC; rw [if_pos ⟨h, h2⟩, if_pos ⟨h, h2⟩, if_pos h, if_pos h2]; exact ⟨rfl, rfl, rfl⟩
theorem prS_end {Z : List Plk} (h2 : 2 ≤ Z.length) : (prS Z (bestP Z Z.length)).1 = (bestP Z Z.length).1 ∧ (prS Z (bestP Z Z.length)).2.1 = (bestP Z Z.length).2 := by
  have := bestP_end h2
  unfold prS; rw [if_neg (by omega)]; exact ⟨rfl, rfl⟩
end Go.Proofs.Ytfcdhjbnlokinaa
