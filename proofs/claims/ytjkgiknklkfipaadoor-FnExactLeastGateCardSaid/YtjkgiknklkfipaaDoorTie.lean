/-
  DERIVED. GIVEN WITH THE SEED: THE PROGRAM's TIES (one call each: nine closed facts by the kernel) AND EACH ROW's TIE, after the 31st guide's Derived/Test/Toyas{Tie, Card}.lean. No idea stands in it: it is a product of the set-up. Laid BY PROGRAM, IN A SANDBOX (cutbox-door.mjs). By AI agents, Wed Nov 11 2026. No macro, syntax, notation, axiom, sorry.
-/
import Derived.Test.YtjkgiknklkfipaaDoorRows
import Derived.LaidByTextLater
import Derived.SevenTiedAt
import Derived.LaidSub
import Derived.LaidOnce
namespace Go.Proofs.YtjkgiknklkfipaaDoor
open Go
set_option maxRecDepth 100000
theorem seatTie1 : Tryd.prog.laidByTextLater [("loop.example/g01344/impl.errInvalid", Rows.laid_loop_example_g01344_impl_errInvalid), ("loop.example/g01344/impl.errRange", Rows.laid_loop_example_g01344_impl_errRange), ("loop.example/g01344/impl.errLimit", Rows.laid_loop_example_g01344_impl_errLimit), ("loop.example/g01344/impl.errSyntax", Rows.laid_loop_example_g01344_impl_errSyntax), ("loop.example/g01344/impl.errNotFound", Rows.laid_loop_example_g01344_impl_errNotFound), ("loop.example/g01344/impl.noChange", Rows.laid_loop_example_g01344_impl_noChange)] [.sentinel, .sentinel, .sentinel, .sentinel, .sentinel, .data] true :=
  Program.laidByTextLater_by_one 109 8 4 (by kernel_rfl) (by kernel_rfl) (by kernel_rfl) (by kernel_rfl) (by kernel_rfl) (by kernel_rfl) (fun _ _ => by kernel_rfl)
theorem noOwnUnsafe : Tryd.pinned.checked.prog.headLifts.contains "ownunsafe" = false := by kernel_rfl
theorem tie : Tryd.prog.laidByTextLater [("loop.example/g01344/impl.noChange", Rows.laid_loop_example_g01344_impl_noChange)] [.data] true :=
  Program.laidByTextLater.sub seatTie1 ["loop.example/g01344/impl.noChange"] (by kernel_rfl) (by kernel_rfl)
theorem fnExactWeekOf_row_tie : Rows.fnExactWeekOfRow.laidByTextAt .later Tryd.pinned [.data] true :=
  OpenClaim.laidByTextAt_later rfl rfl tie noOwnUnsafe
theorem fnExactYearOf_row_tie : Rows.fnExactYearOfRow.laidByTextAt .later Tryd.pinned [.data] true :=
  OpenClaim.laidByTextAt_later rfl rfl tie noOwnUnsafe
theorem fnExactQuietWeeks_row_tie : Rows.fnExactQuietWeeksRow.laidByTextAt .later Tryd.pinned [.data] true :=
  OpenClaim.laidByTextAt_later rfl rfl tie noOwnUnsafe
theorem tie2 : Tryd.prog.laidByTextLater [("loop.example/g01344/impl.errInvalid", Rows.laid_loop_example_g01344_impl_errInvalid), ("loop.example/g01344/impl.errRange", Rows.laid_loop_example_g01344_impl_errRange), ("loop.example/g01344/impl.errLimit", Rows.laid_loop_example_g01344_impl_errLimit), ("loop.example/g01344/impl.errSyntax", Rows.laid_loop_example_g01344_impl_errSyntax), ("loop.example/g01344/impl.errNotFound", Rows.laid_loop_example_g01344_impl_errNotFound)] [.sentinel, .sentinel, .sentinel, .sentinel, .sentinel] true :=
  Program.laidByTextLater.sub seatTie1 ["loop.example/g01344/impl.errInvalid", "loop.example/g01344/impl.errRange", "loop.example/g01344/impl.errLimit", "loop.example/g01344/impl.errSyntax", "loop.example/g01344/impl.errNotFound"] (by kernel_rfl) (by kernel_rfl)
theorem fnExactBestGate_row_tie : Rows.fnExactBestGateRow.laidByTextAt .later Tryd.pinned [.sentinel, .sentinel, .sentinel, .sentinel, .sentinel] true :=
  OpenClaim.laidByTextAt_later rfl rfl tie2 noOwnUnsafe
theorem fnExactLeastGate_row_tie : Rows.fnExactLeastGateRow.laidByTextAt .later Tryd.pinned [.sentinel, .sentinel, .sentinel, .sentinel, .sentinel] true :=
  OpenClaim.laidByTextAt_later rfl rfl tie2 noOwnUnsafe
theorem fnExactWeekOfUpto_row_tie : Rows.fnExactWeekOfUptoRow.laidByTextAt .later Tryd.pinned [.data] true :=
  OpenClaim.laidByTextAt_later rfl rfl tie noOwnUnsafe
theorem fnExactYearOfUpto_row_tie : Rows.fnExactYearOfUptoRow.laidByTextAt .later Tryd.pinned [.data] true :=
  OpenClaim.laidByTextAt_later rfl rfl tie noOwnUnsafe
theorem fnExactQuietWeeksUpto_row_tie : Rows.fnExactQuietWeeksUptoRow.laidByTextAt .later Tryd.pinned [.data] true :=
  OpenClaim.laidByTextAt_later rfl rfl tie noOwnUnsafe
theorem fnExactBestGateUpto_row_tie : Rows.fnExactBestGateUptoRow.laidByTextAt .later Tryd.pinned [.sentinel, .sentinel, .sentinel, .sentinel, .sentinel] true :=
  OpenClaim.laidByTextAt_later rfl rfl tie2 noOwnUnsafe
theorem fnExactLeastGateUpto_row_tie : Rows.fnExactLeastGateUptoRow.laidByTextAt .later Tryd.pinned [.sentinel, .sentinel, .sentinel, .sentinel, .sentinel] true :=
  OpenClaim.laidByTextAt_later rfl rfl tie2 noOwnUnsafe
end Go.Proofs.YtjkgiknklkfipaaDoor
