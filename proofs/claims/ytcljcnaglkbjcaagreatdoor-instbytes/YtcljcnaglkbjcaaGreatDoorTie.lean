/-
  DERIVED. GIVEN WITH THE SEED: THE PROGRAM's TIES (one call each: nine closed facts by the kernel) AND EACH ROW's TIE, after the 31st guide's Derived/Test/Toyas{Tie, Card}.lean. No idea stands in it: it is a product of the set-up. Laid BY PROGRAM, IN A SANDBOX (cutbox-door.mjs). By AI agents, Wed Nov 11 2026. No macro, syntax, notation, axiom, sorry.
-/
import Derived.Test.YtcljcnaglkbjcaaGreatDoorRows
import Derived.LaidByTextLater
import Derived.SevenTiedAt
import Derived.LaidSub
import Derived.LaidOnce
namespace Go.Proofs.YtcljcnaglkbjcaaGreatDoor
open Go
set_option maxRecDepth 100000
theorem seatTie1 : Tryz.prog.laidByTextLater [("errors.errorType", Rows.laid_errors_errorType), ("mandrel/ops.names", Rows.laid_mandrel_ops_names), ("mandrel/ops.testNames", Rows.laid_mandrel_ops_testNames), ("mandrel/ops.reckonNames", Rows.laid_mandrel_ops_reckonNames), ("mandrel/ops.families", Rows.laid_mandrel_ops_families), ("mandrel/ops.accessBytes", Rows.laid_mandrel_ops_accessBytes)] [.handle, .data, .data, .data, .data, .data] true :=
  Program.laidByTextLater_by_one 73 8 193 (by kernel_rfl) (by kernel_rfl) (by kernel_rfl) (by kernel_rfl) (by kernel_rfl) (by kernel_rfl) (fun _ _ => by kernel_rfl)
theorem noOwnUnsafe : Tryz.pinned.checked.prog.headLifts.contains "ownunsafe" = false := by kernel_rfl
theorem tie : Tryz.prog.laidByTextLater [("errors.errorType", Rows.laid_errors_errorType), ("mandrel/ops.names", Rows.laid_mandrel_ops_names), ("mandrel/ops.testNames", Rows.laid_mandrel_ops_testNames), ("mandrel/ops.reckonNames", Rows.laid_mandrel_ops_reckonNames), ("mandrel/ops.families", Rows.laid_mandrel_ops_families), ("mandrel/ops.accessBytes", Rows.laid_mandrel_ops_accessBytes)] [.handle, .data, .data, .data, .data, .data] true :=
  Program.laidByTextLater.sub seatTie1 ["errors.errorType", "mandrel/ops.names", "mandrel/ops.testNames", "mandrel/ops.reckonNames", "mandrel/ops.families", "mandrel/ops.accessBytes"] (by kernel_rfl) (by kernel_rfl)
theorem instNews_row_tie : Rows.instNewsRow.laidByTextAt .later Tryz.pinned [.handle, .data, .data, .data, .data, .data] true :=
  OpenClaim.laidByTextAt_later rfl rfl tie noOwnUnsafe
theorem instCalls_row_tie : Rows.instCallsRow.laidByTextAt .later Tryz.pinned [.handle, .data, .data, .data, .data, .data] true :=
  OpenClaim.laidByTextAt_later rfl rfl tie noOwnUnsafe
theorem instBytes_row_tie : Rows.instBytesRow.laidByTextAt .later Tryz.pinned [.handle, .data, .data, .data, .data, .data] true :=
  OpenClaim.laidByTextAt_later rfl rfl tie noOwnUnsafe
theorem instPicks_row_tie : Rows.instPicksRow.laidByTextAt .later Tryz.pinned [.handle, .data, .data, .data, .data, .data] true :=
  OpenClaim.laidByTextAt_later rfl rfl tie noOwnUnsafe
theorem instSame_row_tie : Rows.instSameRow.laidByTextAt .later Tryz.pinned [.handle, .data, .data, .data, .data, .data] true :=
  OpenClaim.laidByTextAt_later rfl rfl tie noOwnUnsafe
theorem instSigns_row_tie : Rows.instSignsRow.laidByTextAt .later Tryz.pinned [.handle, .data, .data, .data, .data, .data] true :=
  OpenClaim.laidByTextAt_later rfl rfl tie noOwnUnsafe
theorem instNewsUpto_row_tie : Rows.instNewsUptoRow.laidByTextAt .later Tryz.pinned [.handle, .data, .data, .data, .data, .data] true :=
  OpenClaim.laidByTextAt_later rfl rfl tie noOwnUnsafe
theorem instCallsUpto_row_tie : Rows.instCallsUptoRow.laidByTextAt .later Tryz.pinned [.handle, .data, .data, .data, .data, .data] true :=
  OpenClaim.laidByTextAt_later rfl rfl tie noOwnUnsafe
theorem instBytesUpto_row_tie : Rows.instBytesUptoRow.laidByTextAt .later Tryz.pinned [.handle, .data, .data, .data, .data, .data] true :=
  OpenClaim.laidByTextAt_later rfl rfl tie noOwnUnsafe
theorem instPicksUpto_row_tie : Rows.instPicksUptoRow.laidByTextAt .later Tryz.pinned [.handle, .data, .data, .data, .data, .data] true :=
  OpenClaim.laidByTextAt_later rfl rfl tie noOwnUnsafe
theorem instSameUpto_row_tie : Rows.instSameUptoRow.laidByTextAt .later Tryz.pinned [.handle, .data, .data, .data, .data, .data] true :=
  OpenClaim.laidByTextAt_later rfl rfl tie noOwnUnsafe
theorem instSignsUpto_row_tie : Rows.instSignsUptoRow.laidByTextAt .later Tryz.pinned [.handle, .data, .data, .data, .data, .data] true :=
  OpenClaim.laidByTextAt_later rfl rfl tie noOwnUnsafe
end Go.Proofs.YtcljcnaglkbjcaaGreatDoor
