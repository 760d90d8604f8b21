/- From the rows' condition on math/bits.deBruijn64tab to the table's cells. -/
import Derived.Test.YtkmigcegeffonaaDoorHandle2
import Derived.Lib.LaidTab
namespace Go.Proofs.YtkmigcegeffonaaDoor
open Go.ChangeShapes Go.WideShapes Go.RowKit

theorem tab_of_laid {W : World} (h : laidMetH Tryd.prog [("math/bits.deBruijn64tab", Rows.laid_math_bits_deBruijn64tab), ("errors.errorType", Rows.laid_errors_errorType)] W) : Tab W := by
  have h' : laidMet Tryd.prog [("math/bits.deBruijn64tab", Lib.tabData .u8 (Lib.deBruijn64tab.map fun n : Nat => (n : Int)))] W ∧ handlesMet Tryd.prog [("errors.errorType", Rows.laid_errors_errorType)] W := h
  have hg : Tryd.prog.globalNamed "math/bits.deBruijn64tab" = some 0 := by kernel_rfl
  have hT : Lib.TabIs Tryd.prog W "math/bits.deBruijn64tab" .u8 (Lib.deBruijn64tab.map fun n : Nat => (n : Int)) :=
    Lib.tabIs_of_head hg (t := 73) (e := 5) (n := 64) (by kernel_rfl) (by kernel_rfl) (by kernel_rfl) (by kernel_rfl) (by kernel_rfl) h'.1
  intro j hj
  have hl : j < (Lib.deBruijn64tab.map fun n : Nat => (n : Int)).length := by rw [List.length_map]; exact hj
  have := hT.cell hg j hl
  rw [this]
  have hl2 : j < Lib.deBruijn64tab.length := hj
  simp [List.getD, hl2]
end Go.Proofs.YtkmigcegeffonaaDoor
