/-
  Contracts of ReadDecimal: the program's, over the library's ParseInt.
-/
import Derived.Test.YtmknafkngggfjaaGreatDoorRead
import Derived.Test.YtmknafkngggfjaaGreatDoorTabs
import Derived.Lib.ParseIntBTie
import Derived.Lib.AtoiErrMem
import Derived.Shelf.Strconv.ErrVarParseInt
namespace Go.Proofs.YtmknafkngggfjaaGreatDoor
open Go.ChangeShapes Go.WideShapes Go.ChangeAt Go.RowKit Go.Sort
set_option linter.unusedVariables false
set_option linter.unusedSimpArgs false
/-- the library's two errors are there -/
def ErrsAt (w : World) : Prop := ∃ tp p tq q, w.var? Tryz.prog "strconv.ErrSyntax" = some #[.iface tp p] ∧ w.var? Tryz.prog "strconv.ErrRange" = some #[.iface tq q]
theorem ErrsAt.below {w w' : World} (h : ErrsAt w) (hb : Below w.heap.size w w') : ErrsAt w' := by
  obtain ⟨tp, p, tq, q, h1, h2⟩ := h
  exact ⟨tp, p, tq, q, var_below hb h1, var_below hb h2⟩
/-- the one row of that name -/
theorem errRow (u : TypeId) (h : Tryz.prog.typeName? 3 u = some "*errors.errorString") : u = 113 :=
  typeName_ptr_named (nm := "errors.errorString") (by rw [show "*" ++ "errors.errorString" = "*errors.errorString" by decide]; kernel_rfl) (by kernel_rfl) (by decide) u (by rw [show "*" ++ "errors.errorString" = "*errors.errorString" by decide]; exact h)
theorem gSyn : Tryz.prog.globalNamed "strconv.ErrSyntax" = some 1 := by kernel_rfl
theorem gRng : Tryz.prog.globalNamed "strconv.ErrRange" = some 2 := by kernel_rfl
theorem gSynT : (Tryz.prog.globals[1]?).map (·.type) = some 51 := by kernel_rfl
theorem gRngT : (Tryz.prog.globals[2]?).map (·.type) = some 51 := by kernel_rfl
theorem errs_of_laid {W : World} {rest : List (String × DataW Unit)} {t1 t2 : List UInt8}
    (h : laidMet Tryz.prog (("strconv.ErrRange", .iface "*errors.errorString" (.ptr (.agg [.lit (.string t1)]))) :: ("strconv.ErrSyntax", .iface "*errors.errorString" (.ptr (.agg [.lit (.string t2)]))) :: rest) W) : ErrsAt W := by
  obtain ⟨a0, s0, hv0, _, _, _⟩ := laid_sentinel (g := 2) h gRng gRngT Tryz.underlying51 errRow Tryz.underlying113 Tryz.underlying115 rfl rfl Tryz.underlying9 (by kernel_rfl) (by kernel_rfl)
  obtain ⟨a1, s1, hv1, _, _, _⟩ := laid_sentinel (g := 1) h.tail gSyn gSynT Tryz.underlying51 errRow Tryz.underlying113 Tryz.underlying115 rfl rfl Tryz.underlying9 (by kernel_rfl) (by kernel_rfl)
  exact ⟨_, _, _, _, hv1, hv0⟩
end Go.Proofs.YtmknafkngggfjaaGreatDoor
