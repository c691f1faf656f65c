/-
  DERIVED. GIVEN WITH THE SEED: THE PROGRAM's TIES (one call each: nine closed facts by the kernel) AND EACH ROW's TIE, after the 31st guide's Derived/Test/Toyas{Tie, Card}.lean. No idea stands in it: it is a product of the set-up. Laid BY PROGRAM, IN A SANDBOX (cutbox-door.mjs). By AI agents, Wed Nov 11 2026. No macro, syntax, notation, axiom, sorry.
-/
import Derived.Test.YtgjpchnkodnieaaGreatDoorRows
import Derived.LaidByTextLater
import Derived.SevenTiedAt
import Derived.LaidSub
import Derived.LaidOnce
namespace Go.Proofs.YtgjpchnkodnieaaGreatDoor
open Go
set_option maxRecDepth 100000
theorem seatTie1 : Tryz.prog.laidByTextLater [("loop.example/s02542/impl.errNoResult", Rows.laid_loop_example_s02542_impl_errNoResult), ("loop.example/s02542/impl.errTooGreat", Rows.laid_loop_example_s02542_impl_errTooGreat), ("loop.example/s02542/impl.emptyFolds", Rows.laid_loop_example_s02542_impl_emptyFolds)] [.sentinel, .sentinel, .data] true :=
  Program.laidByTextLater_by_one 52 8 17 (by kernel_rfl) (by kernel_rfl) (by kernel_rfl) (by kernel_rfl) (by kernel_rfl) (by kernel_rfl) (fun _ _ => by kernel_rfl)
theorem noOwnUnsafe : Tryz.pinned.checked.prog.headLifts.contains "ownunsafe" = false := by kernel_rfl
theorem tie : Tryz.prog.laidByTextLater [("loop.example/s02542/impl.errNoResult", Rows.laid_loop_example_s02542_impl_errNoResult), ("loop.example/s02542/impl.errTooGreat", Rows.laid_loop_example_s02542_impl_errTooGreat)] [.sentinel, .sentinel] true :=
  Program.laidByTextLater.sub seatTie1 ["loop.example/s02542/impl.errNoResult", "loop.example/s02542/impl.errTooGreat"] (by kernel_rfl) (by kernel_rfl)
theorem fnBack_row_tie : Rows.fnBackRow.laidByTextAt .later Tryz.pinned [.sentinel, .sentinel] true :=
  OpenClaim.laidByTextAt_later rfl rfl tie noOwnUnsafe
theorem fnExactMonad_row_tie : Rows.fnExactMonadRow.laidByTextAt .later Tryz.pinned [.sentinel, .sentinel] true :=
  OpenClaim.laidByTextAt_later rfl rfl tie noOwnUnsafe
theorem fnViews_row_tie : Rows.fnViewsRow.laidByTextAt .later Tryz.pinned [.sentinel, .sentinel] true :=
  OpenClaim.laidByTextAt_later rfl rfl tie noOwnUnsafe
theorem fnExactDyad_row_tie : Rows.fnExactDyadRow.laidByTextAt .later Tryz.pinned [.sentinel, .sentinel] true :=
  OpenClaim.laidByTextAt_later rfl rfl tie noOwnUnsafe
theorem tie2 : Tryz.prog.laidByTextLater [("loop.example/s02542/impl.errNoResult", Rows.laid_loop_example_s02542_impl_errNoResult), ("loop.example/s02542/impl.errTooGreat", Rows.laid_loop_example_s02542_impl_errTooGreat), ("loop.example/s02542/impl.emptyFolds", Rows.laid_loop_example_s02542_impl_emptyFolds)] [.sentinel, .sentinel, .data] true :=
  Program.laidByTextLater.sub seatTie1 ["loop.example/s02542/impl.errNoResult", "loop.example/s02542/impl.errTooGreat", "loop.example/s02542/impl.emptyFolds"] (by kernel_rfl) (by kernel_rfl)
theorem fnProduct_row_tie : Rows.fnProductRow.laidByTextAt .later Tryz.pinned [.sentinel, .sentinel, .data] true :=
  OpenClaim.laidByTextAt_later rfl rfl tie2 noOwnUnsafe
theorem fnBackUpto_row_tie : Rows.fnBackUptoRow.laidByTextAt .later Tryz.pinned [.sentinel, .sentinel] true :=
  OpenClaim.laidByTextAt_later rfl rfl tie noOwnUnsafe
theorem fnExactMonadUpto_row_tie : Rows.fnExactMonadUptoRow.laidByTextAt .later Tryz.pinned [.sentinel, .sentinel] true :=
  OpenClaim.laidByTextAt_later rfl rfl tie noOwnUnsafe
theorem fnViewsUpto_row_tie : Rows.fnViewsUptoRow.laidByTextAt .later Tryz.pinned [.sentinel, .sentinel] true :=
  OpenClaim.laidByTextAt_later rfl rfl tie noOwnUnsafe
theorem fnProductUpto_row_tie : Rows.fnProductUptoRow.laidByTextAt .later Tryz.pinned [.sentinel, .sentinel, .data] true :=
  OpenClaim.laidByTextAt_later rfl rfl tie2 noOwnUnsafe
theorem fnExactDyadUpto_row_tie : Rows.fnExactDyadUptoRow.laidByTextAt .later Tryz.pinned [.sentinel, .sentinel] true :=
  OpenClaim.laidByTextAt_later rfl rfl tie noOwnUnsafe
end Go.Proofs.YtgjpchnkodnieaaGreatDoor
