/- The tables of unicode/utf8, as the rows list them. -/
import Derived.Test.YtcmidegffpehoaaDoorScT
import Derived.PinnedBridge
namespace Go.Proofs.YtcmidegffpehoaaDoor
open Go.RowKit Go.Shelf
namespace Sc
set_option linter.unusedVariables false
def ren : Ren where
  t := fun n => if n = 5 then 5 else if n = 119 then 83 else if n = 138 then 85 else 86
  g := fun n => if n = 3 then 1 else 2
  f := fun n => n
theorem ren_types : U8Types Tryd.prog ren := ⟨by kernel_rfl, by kernel_rfl, by kernel_rfl, by kernel_rfl⟩
theorem ren_extra : U8Extra Tryd.prog ren := ⟨by kernel_rfl, by kernel_rfl, by kernel_rfl, by kernel_rfl, by kernel_rfl, by kernel_rfl, by kernel_rfl⟩
theorem accept_eq : (Rows.laid_unicode_utf8_acceptRanges : DataW Unit) = Lib.acceptData := by kernel_rfl
/-- the table's cells -/
def firstCells : Array Value := ((List.range 256).map fun c => Value.int .u8 (Lib.firstT c)).toArray
theorem u8_of_met {W : World} {l : List (String × DataW Unit)} (h : laidMet Tryd.prog l W) (m1 : ("unicode/utf8.first", Rows.laid_unicode_utf8_first) ∈ l) (m2 : ("unicode/utf8.acceptRanges", Rows.laid_unicode_utf8_acceptRanges) ∈ l) : U8 W := by
  have h1 := Lib.laidMet.reads h m1
  have h2 := Lib.laidMet.reads h m2
  rw [show Rows.laid_unicode_utf8_first = Lib.firstData from Pinned.utf8First_eq] at h1
  rw [accept_eq] at h2
  exact utf8Tabs_of_readsT ren_types ren_extra h1 h2
end Sc
end Go.Proofs.YtcmidegffpehoaaDoor
