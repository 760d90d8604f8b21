/-
  DERIVED. GIVEN WITH THE SEED: THE PROGRAM's TIES (one call each: nine closed facts by the kernel) AND EACH ROW's TIE, after the 31st guide's Derived/Test/Toyas{Tie, Card}.lean. No idea stands in it: it is a product of the set-up. Laid BY PROGRAM, IN A SANDBOX (cutbox-door.mjs). By AI agents, Wed Nov 11 2026. No macro, syntax, notation, axiom, sorry.
-/
import Derived.Test.YtheopjcmhclgdaaGreatDoorRows
import Derived.LaidByTextLater
import Derived.SevenTiedAt
import Derived.LaidSub
import Derived.LaidOnce
namespace Go.Proofs.YtheopjcmhclgdaaGreatDoor
open Go
set_option maxRecDepth 100000
theorem seatTie1 : Tryz.prog.laidByTextLater [("math/bits.deBruijn32tab", Rows.laid_math_bits_deBruijn32tab), ("math/bits.deBruijn64tab", Rows.laid_math_bits_deBruijn64tab), ("internal/strconv.uint64pow10", Rows.laid_internal_strconv_uint64pow10), ("errors.errorType", Rows.laid_errors_errorType), ("mandrel/ops.names", Rows.laid_mandrel_ops_names), ("mandrel/ops.testNames", Rows.laid_mandrel_ops_testNames), ("mandrel/ops.reckonNames", Rows.laid_mandrel_ops_reckonNames), ("mandrel/ops.families", Rows.laid_mandrel_ops_families)] [.data, .data, .data, .handle, .data, .data, .data, .data] true :=
  Program.laidByTextLater_by_one 83 8 193 (by kernel_rfl) (by kernel_rfl) (by kernel_rfl) (by kernel_rfl) (by kernel_rfl) (by kernel_rfl) (fun _ _ => by kernel_rfl)
theorem noOwnUnsafe : Tryz.pinned.checked.prog.headLifts.contains "ownunsafe" = false := by kernel_rfl
theorem tie : Tryz.prog.laidByTextLater [("math/bits.deBruijn32tab", Rows.laid_math_bits_deBruijn32tab), ("math/bits.deBruijn64tab", Rows.laid_math_bits_deBruijn64tab), ("internal/strconv.uint64pow10", Rows.laid_internal_strconv_uint64pow10), ("errors.errorType", Rows.laid_errors_errorType), ("mandrel/ops.names", Rows.laid_mandrel_ops_names), ("mandrel/ops.testNames", Rows.laid_mandrel_ops_testNames), ("mandrel/ops.reckonNames", Rows.laid_mandrel_ops_reckonNames), ("mandrel/ops.families", Rows.laid_mandrel_ops_families)] [.data, .data, .data, .handle, .data, .data, .data, .data] true :=
  Program.laidByTextLater.sub seatTie1 ["math/bits.deBruijn32tab", "math/bits.deBruijn64tab", "internal/strconv.uint64pow10", "errors.errorType", "mandrel/ops.names", "mandrel/ops.testNames", "mandrel/ops.reckonNames", "mandrel/ops.families"] (by kernel_rfl) (by kernel_rfl)
theorem vcodeFits_row_tie : Rows.vcodeFitsRow.laidByTextAt .later Tryz.pinned [.data, .data, .data, .handle, .data, .data, .data, .data] true :=
  OpenClaim.laidByTextAt_later rfl rfl tie noOwnUnsafe
theorem vcodeFitsUpto_row_tie : Rows.vcodeFitsUptoRow.laidByTextAt .later Tryz.pinned [.data, .data, .data, .handle, .data, .data, .data, .data] true :=
  OpenClaim.laidByTextAt_later rfl rfl tie noOwnUnsafe
end Go.Proofs.YtheopjcmhclgdaaGreatDoor
