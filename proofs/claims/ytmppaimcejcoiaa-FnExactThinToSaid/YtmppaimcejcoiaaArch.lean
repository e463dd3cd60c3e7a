/-
  Grids: distances, validity.
-/
import Derived.Test.YtmppaimcejcoiaaPlc
import Derived.Test.YtmppaimcejcoiaaReg
import Derived.Test.YtmppaimcejcoiaaCore2
namespace Go.Proofs.Ytmppaimcejcoiaa
open Go.ChangeShapes Go.WideShapes Go.ChangeAt Go.RowKit Go.Deep
set_option linter.unusedVariables false
set_option linter.unusedSimpArgs false
def absG (p q : Int) : Int := if q < p then p - q else q - p
def maxG (p q : Int) : Int := if q < p then p else q
def minG (p q : Int) : Int := if p < q then p else q
theorem l00MaxG (p q : Int) (w : World) : Calls Try.prog 54 #[.int .i64 p, .int .i64 q] w fun e w' => e = .returned (.int .i64 (maxG p q)) ∧ w = w' := by
  by_cases h : q < p
  all_goals
    go_enter Try.func54, Try.ntmps54
    go_wp2
    go_ret
    exact ⟨ret_int (by unfold maxG; split <;> omega), rfl⟩
theorem absG_bd {p q : Int} (h0 : 0 ≤ p) (h1 : p ≤ 1000) (h2 : 0 ≤ q) (h3 : q ≤ 1000) : 0 ≤ absG p q ∧ absG p q ≤ 1000 := by unfold absG; split <;> omega
theorem withinG (n lo hi : Int) (w : World) : Calls Try.prog 64 #[.int .i64 n, .int .i64 lo, .int .i64 hi] w fun e w' => e = .returned (.bool (inB n lo hi)) ∧ w = w' := by
  by_cases h1 : lo ≤ n <;> by_cases h2 : n ≤ hi
  all_goals
    go_enter Try.func64, Try.ntmps64
    go_wp2
    go_ret
    exact ⟨ret_bool (by simp [inB, h1, h2]), rfl⟩
/-- how many columns: the first row's cell is there -/
theorem columns_at (g o R cap c cc : Nat) (a : Option Addr) (hR : 1 ≤ R) (hRm : R ≤ 1048576) (hc : c ≤ 1048576) (w : World) (h : w.cell? ⟨g, o, none⟩ = some (.slice a c cc)) : Calls Try.prog 62 #[.slice (some ⟨g, o, none⟩) R cap] w fun e w' => e = .returned (.int .i64 (c : Int)) ∧ w = w' := by
  have hRI : (1 : Int) ≤ (R : Int) := by omega
  go_enter Try.func62, Try.ntmps62
  go_wp2
  go_ret
  exact ⟨rfl, rfl⟩
/-- a row's numbers, some are seen to be heights -/
theorem all_take {Z : List Int} {p : Int → Bool} {k : Nat} (h : k < Z.length) (h1 : (Z.take k).all p = true) (h2 : p Z[k] = true) : (Z.take (k + 1)).all p = true := by
  rw [List.take_succ_eq_append_getElem h, List.all_append, h1]; simpa using h2
theorem all_not {α : Type} {Z : List α} {p : α → Bool} {k : Nat} (h : k < Z.length) (h2 : p Z[k] = false) : Z.all p = false := by
  rw [List.all_eq_false]; exact ⟨Z[k], List.getElem_mem h, by rw [h2]; simp⟩
theorem all_takeG {α : Type} {Z : List α} {p : α → Bool} {k : Nat} (h : k < Z.length) (h1 : (Z.take k).all p = true) (h2 : p Z[k] = true) : (Z.take (k + 1)).all p = true := by
  rw [List.take_succ_eq_append_getElem h, List.all_append, h1]; simpa using h2
theorem okG_no {G : List (List Int)} (h : G.all (rowOk (colsG G)) = false) : okG G = false := by unfold okG; rw [h]; rfl
theorem rowOk_len {c : Nat} {Z : List Int} (h : Z.length ≠ c) : rowOk c Z = false := by unfold rowOk; simp [h]
theorem rowOk_zero {c : Nat} {Z : List Int} (h : Z.length = 0) : rowOk c Z = false := by unfold rowOk; simp [h]
theorem rowOk_long {c : Nat} {Z : List Int} (h : ¬ Z.length ≤ 10) : rowOk c Z = false := by unfold rowOk; simp [h]
theorem rowOk_num {c : Nat} {Z : List Int} (h : Z.all (fun n => inB n 0 1000) = false) : rowOk c Z = false := by unfold rowOk; simp [h]
theorem rowOk_yes {c : Nat} {Z : List Int} (h1 : Z.length = c) (h2 : Z.length ≠ 0) (h3 : Z.length ≤ 10) (h : Z.all (fun n => inB n 0 1000) = true) : rowOk c Z = true := by unfold rowOk; rw [h]; simp [h1 ▸ h2, h1 ▸ h3, h1]
theorem colsG_get {G : List (List Int)} (h : 0 < G.length) : colsG G = G[0].length := by
  unfold colsG
  cases G with
  | nil => cases h
  | cons a b => rfl
end Go.Proofs.Ytmppaimcejcoiaa
