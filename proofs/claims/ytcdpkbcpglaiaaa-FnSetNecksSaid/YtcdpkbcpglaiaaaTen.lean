/-
  The laws' own helpers: a long text of bytes, and a number that a byte chooses.
-/
import Derived.Test.YtcdpkbcpglaiaaaSrc
namespace Go.Proofs.Ytcdpkbcpglaiaaa
open Go.ChangeShapes Go.WideShapes Go.ChangeAt Go.RowKit
set_option linter.unusedVariables false
set_option linter.unusedSimpArgs false
theorem b10Long_yes (a : Option Addr) (len cap : Nat) (h0 : ¬ len ≤ 1048576) (h2 : len ≤ maxLen) (w : World) : Calls Try.prog 4 #[.slice a len cap] w fun e w' => e = .returned (.bool true) ∧ w = w' := by
  go_enter Try.func4, Try.ntmps4
  go_wp2
  go_ret
  exact ⟨ret_bool (by rw [decide_eq_true (show (1048576 : Int) < (len : Int) by omega)]), rfl⟩
theorem b10Long_no (a : Option Addr) (len cap : Nat) (h0 : len ≤ 1048576) (w : World) : Calls Try.prog 4 #[.slice a len cap] w fun e w' => e = .returned (.bool false) ∧ w = w' := by
  go_enter Try.func4, Try.ntmps4
  go_wp2
  go_ret
  exact ⟨ret_bool (by rw [decide_eq_false (show ¬ (1048576 : Int) < (len : Int) by omega)]), rfl⟩
end Go.Proofs.Ytcdpkbcpglaiaaa
