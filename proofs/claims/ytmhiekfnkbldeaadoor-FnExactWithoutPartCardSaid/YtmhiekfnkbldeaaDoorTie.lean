/-
  DERIVED. GIVEN WITH THE SEED: THE PROGRAM's TIES (one call each: nine closed facts by the kernel) AND EACH ROW's TIE, after the 31st guide's Derived/Test/Toyas{Tie, Card}.lean. No idea stands in it: it is a product of the set-up. Laid BY PROGRAM, IN A SANDBOX (cutbox-door.mjs). By AI agents, Wed Nov 11 2026. No macro, syntax, notation, axiom, sorry.
-/
import Derived.Test.YtmhiekfnkbldeaaDoorRows
import Derived.LaidByTextLater
import Derived.SevenTiedAt
import Derived.LaidSub
import Derived.LaidOnce
namespace Go.Proofs.YtmhiekfnkbldeaaDoor
open Go
set_option maxRecDepth 100000
theorem seatTie1 : Tryd.prog.laidByTextLater [("loop.example/g01061/impl.errNoPart", Rows.laid_loop_example_g01061_impl_errNoPart), ("loop.example/g01061/impl.errLastPart", Rows.laid_loop_example_g01061_impl_errLastPart), ("loop.example/g01061/impl.errNoMass", Rows.laid_loop_example_g01061_impl_errNoMass), ("loop.example/g01061/impl.errTooHeavy", Rows.laid_loop_example_g01061_impl_errTooHeavy), ("loop.example/g01061/impl.errTooFar", Rows.laid_loop_example_g01061_impl_errTooFar)] [.sentinel, .sentinel, .sentinel, .sentinel, .sentinel] true :=
  Program.laidByTextLater_by_one 104 8 2 (by kernel_rfl) (by kernel_rfl) (by kernel_rfl) (by kernel_rfl) (by kernel_rfl) (by kernel_rfl) (fun _ _ => by kernel_rfl)
theorem noOwnUnsafe : Tryd.pinned.checked.prog.headLifts.contains "ownunsafe" = false := by kernel_rfl
theorem tie : Tryd.prog.laidByTextLater [("loop.example/g01061/impl.errNoPart", Rows.laid_loop_example_g01061_impl_errNoPart), ("loop.example/g01061/impl.errNoMass", Rows.laid_loop_example_g01061_impl_errNoMass), ("loop.example/g01061/impl.errTooHeavy", Rows.laid_loop_example_g01061_impl_errTooHeavy)] [.sentinel, .sentinel, .sentinel] true :=
  Program.laidByTextLater.sub seatTie1 ["loop.example/g01061/impl.errNoPart", "loop.example/g01061/impl.errNoMass", "loop.example/g01061/impl.errTooHeavy"] (by kernel_rfl) (by kernel_rfl)
theorem fnExactAddedMass_row_tie : Rows.fnExactAddedMassRow.laidByTextAt .later Tryd.pinned [.sentinel, .sentinel, .sentinel] true :=
  OpenClaim.laidByTextAt_later rfl rfl tie noOwnUnsafe
theorem tie2 : Tryd.prog.laidByTextLater [("loop.example/g01061/impl.errNoPart", Rows.laid_loop_example_g01061_impl_errNoPart), ("loop.example/g01061/impl.errNoMass", Rows.laid_loop_example_g01061_impl_errNoMass), ("loop.example/g01061/impl.errTooHeavy", Rows.laid_loop_example_g01061_impl_errTooHeavy), ("loop.example/g01061/impl.errTooFar", Rows.laid_loop_example_g01061_impl_errTooFar)] [.sentinel, .sentinel, .sentinel, .sentinel] true :=
  Program.laidByTextLater.sub seatTie1 ["loop.example/g01061/impl.errNoPart", "loop.example/g01061/impl.errNoMass", "loop.example/g01061/impl.errTooHeavy", "loop.example/g01061/impl.errTooFar"] (by kernel_rfl) (by kernel_rfl)
theorem fnExactMovedPart_row_tie : Rows.fnExactMovedPartRow.laidByTextAt .later Tryd.pinned [.sentinel, .sentinel, .sentinel, .sentinel] true :=
  OpenClaim.laidByTextAt_later rfl rfl tie2 noOwnUnsafe
theorem tie3 : Tryd.prog.laidByTextLater [("loop.example/g01061/impl.errNoPart", Rows.laid_loop_example_g01061_impl_errNoPart), ("loop.example/g01061/impl.errLastPart", Rows.laid_loop_example_g01061_impl_errLastPart), ("loop.example/g01061/impl.errNoMass", Rows.laid_loop_example_g01061_impl_errNoMass), ("loop.example/g01061/impl.errTooHeavy", Rows.laid_loop_example_g01061_impl_errTooHeavy)] [.sentinel, .sentinel, .sentinel, .sentinel] true :=
  Program.laidByTextLater.sub seatTie1 ["loop.example/g01061/impl.errNoPart", "loop.example/g01061/impl.errLastPart", "loop.example/g01061/impl.errNoMass", "loop.example/g01061/impl.errTooHeavy"] (by kernel_rfl) (by kernel_rfl)
theorem fnExactWithoutPart_row_tie : Rows.fnExactWithoutPartRow.laidByTextAt .later Tryd.pinned [.sentinel, .sentinel, .sentinel, .sentinel] true :=
  OpenClaim.laidByTextAt_later rfl rfl tie3 noOwnUnsafe
theorem fnExactAddedMassUpto_row_tie : Rows.fnExactAddedMassUptoRow.laidByTextAt .later Tryd.pinned [.sentinel, .sentinel, .sentinel] true :=
  OpenClaim.laidByTextAt_later rfl rfl tie noOwnUnsafe
theorem fnExactMovedPartUpto_row_tie : Rows.fnExactMovedPartUptoRow.laidByTextAt .later Tryd.pinned [.sentinel, .sentinel, .sentinel, .sentinel] true :=
  OpenClaim.laidByTextAt_later rfl rfl tie2 noOwnUnsafe
theorem fnExactWithoutPartUpto_row_tie : Rows.fnExactWithoutPartUptoRow.laidByTextAt .later Tryd.pinned [.sentinel, .sentinel, .sentinel, .sentinel] true :=
  OpenClaim.laidByTextAt_later rfl rfl tie3 noOwnUnsafe
end Go.Proofs.YtmhiekfnkbldeaaDoor
