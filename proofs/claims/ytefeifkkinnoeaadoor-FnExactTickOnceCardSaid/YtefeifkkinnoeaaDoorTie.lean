/-
  DERIVED. GIVEN WITH THE SEED: THE PROGRAM's TIES (one call each: nine closed facts by the kernel) AND EACH ROW's TIE, after the 31st guide's Derived/Test/Toyas{Tie, Card}.lean. No idea stands in it: it is a product of the set-up. Laid BY PROGRAM, IN A SANDBOX (cutbox-door.mjs). By AI agents, Wed Nov 11 2026. No macro, syntax, notation, axiom, sorry.
-/
import Derived.Test.YtefeifkkinnoeaaDoorRows
import Derived.LaidByTextLater
import Derived.SevenTiedAt
import Derived.LaidSub
import Derived.LaidOnce
namespace Go.Proofs.YtefeifkkinnoeaaDoor
open Go
set_option maxRecDepth 100000
theorem seatTie1 : Tryd.prog.laidByTextLater [("loop.example/g01344/impl.errInvalid", Rows.laid_loop_example_g01344_impl_errInvalid), ("loop.example/g01344/impl.errRange", Rows.laid_loop_example_g01344_impl_errRange), ("loop.example/g01344/impl.errLimit", Rows.laid_loop_example_g01344_impl_errLimit), ("loop.example/g01344/impl.errSyntax", Rows.laid_loop_example_g01344_impl_errSyntax), ("loop.example/g01344/impl.errNotFound", Rows.laid_loop_example_g01344_impl_errNotFound)] [.sentinel, .sentinel, .sentinel, .sentinel, .sentinel] true :=
  Program.laidByTextLater_by_one 104 8 2 (by kernel_rfl) (by kernel_rfl) (by kernel_rfl) (by kernel_rfl) (by kernel_rfl) (by kernel_rfl) (fun _ _ => by kernel_rfl)
theorem noOwnUnsafe : Tryd.pinned.checked.prog.headLifts.contains "ownunsafe" = false := by kernel_rfl
theorem tie : Tryd.prog.laidByTextLater [("loop.example/g01344/impl.errInvalid", Rows.laid_loop_example_g01344_impl_errInvalid), ("loop.example/g01344/impl.errRange", Rows.laid_loop_example_g01344_impl_errRange), ("loop.example/g01344/impl.errLimit", Rows.laid_loop_example_g01344_impl_errLimit), ("loop.example/g01344/impl.errSyntax", Rows.laid_loop_example_g01344_impl_errSyntax), ("loop.example/g01344/impl.errNotFound", Rows.laid_loop_example_g01344_impl_errNotFound)] [.sentinel, .sentinel, .sentinel, .sentinel, .sentinel] true :=
  Program.laidByTextLater.sub seatTie1 ["loop.example/g01344/impl.errInvalid", "loop.example/g01344/impl.errRange", "loop.example/g01344/impl.errLimit", "loop.example/g01344/impl.errSyntax", "loop.example/g01344/impl.errNotFound"] (by kernel_rfl) (by kernel_rfl)
theorem fnExactTickOnce_row_tie : Rows.fnExactTickOnceRow.laidByTextAt .later Tryd.pinned [.sentinel, .sentinel, .sentinel, .sentinel, .sentinel] true :=
  OpenClaim.laidByTextAt_later rfl rfl tie noOwnUnsafe
theorem fnExactTickOnceUpto_row_tie : Rows.fnExactTickOnceUptoRow.laidByTextAt .later Tryd.pinned [.sentinel, .sentinel, .sentinel, .sentinel, .sentinel] true :=
  OpenClaim.laidByTextAt_later rfl rfl tie noOwnUnsafe
end Go.Proofs.YtefeifkkinnoeaaDoor
