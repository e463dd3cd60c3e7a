/-
  The laws' own helpers: a long text of bytes, and a number that a byte chooses.
-/
import Derived.Test.YtolcmmjbdgmnaaaDoorSrc
namespace Go.Proofs.YtolcmmjbdgmnaaaDoor
open Go.ChangeShapes Go.WideShapes Go.ChangeAt Go.RowKit
set_option linter.unusedVariables false
set_option linter.unusedSimpArgs false
theorem b10Long_yes (a : Option Addr) (len cap : Nat) (h0 : ¬ len ≤ 1048576) (h2 : len ≤ maxLen) (w : World) : Calls Tryd.prog 5 #[.slice a len cap] w fun e w' => e = .returned (.bool true) ∧ w = w' := by
  go_enter Tryd.func5, Tryd.ntmps5
  go_wp2
  go_ret
  exact ⟨ret_bool (by rw [decide_eq_true (show (1048576 : Int) < (len : Int) by omega)]), rfl⟩
theorem b10Long_no (a : Option Addr) (len cap : Nat) (h0 : len ≤ 1048576) (w : World) : Calls Tryd.prog 5 #[.slice a len cap] w fun e w' => e = .returned (.bool false) ∧ w = w' := by
  go_enter Tryd.func5, Tryd.ntmps5
  go_wp2
  go_ret
  exact ⟨ret_bool (by rw [decide_eq_false (show ¬ (1048576 : Int) < (len : Int) by omega)]), rfl⟩
set_option maxHeartbeats 1600000 in
set_option maxRecDepth 1000000 in
theorem b10At_any (B : Nat) (v : Value) (Z : List Int) (n : Int) (w : World) (h0 : 1 ≤ n) (h1 : n ≤ 1000000) (hZ : Z.length ≤ 1048576) (hu : U8Old B w v Z) :
    Calls Tryd.prog 14 #[v, .int .i64 0, .int .i64 n] w fun e w' => ∃ r, e = .returned (.int .i64 r) ∧ 0 ≤ r ∧ r < n ∧ ∃ m, w' = w.drewN m := by
  obtain ⟨a, cap, rfl, hcap, hin, hread⟩ := hu
  by_cases hn : n ≤ 1
  · have d0 : decide (n ≤ 1) = true := by simp; omega
    clear hread hin
    go_enter Tryd.func14, Tryd.ntmps14
    go_wp2
    go_ret
    exact ⟨0, rfl, by omega, by omega, 0, rfl⟩
  have d0 : decide (n ≤ 1) = false := by simp; omega
  by_cases hlt : 0 < Z.length
  · rcases hread with rfl | ⟨g, o, rfl, hg0, hg, hc⟩
    · simp at hlt
    obtain ⟨x, hx⟩ : ∃ x, x = Z[0] := ⟨_, rfl⟩
    have c3 : w.cell? ⟨g, o + 0, none⟩ = some (.int .u8 x) := by rw [hx]; exact hc 0 hlt
    rw [Nat.add_zero] at c3
    have hi := hin x (by rw [hx]; exact List.getElem_mem hlt)
    have hd : decide ((0 : Int) < (Z.length : Int)) = true := decide_eq_true (by omega)
    have hm : 0 ≤ x % n ∧ x % n < n := ⟨Int.emod_nonneg _ (by omega), Int.emod_lt_of_pos _ (by omega)⟩
    clear hc hin hx
    go_enter Tryd.func14, Tryd.ntmps14
    go_wp2
    go_ret
    exact ⟨_, rfl, hm.1, hm.2, 0, rfl⟩
  · have hd : decide ((0 : Int) < (Z.length : Int)) = false := decide_eq_false (by omega)
    have hm : 0 ≤ 11 % n ∧ 11 % n < n := ⟨Int.emod_nonneg _ (by omega), Int.emod_lt_of_pos _ (by omega)⟩
    clear hread hin
    go_enter Tryd.func14, Tryd.ntmps14
    go_wp2
    go_ret
    exact ⟨_, rfl, hm.1, hm.2, 0, rfl⟩
end Go.Proofs.YtolcmmjbdgmnaaaDoor
