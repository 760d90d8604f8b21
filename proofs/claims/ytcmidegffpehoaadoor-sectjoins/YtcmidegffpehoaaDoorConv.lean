/- string(b) of bytes: the string of their numbers, in whatever world they lie. -/
import Derived.Test.YtcmidegffpehoaaDoorRefPuts
import Derived.Deep.RegionWith
import Derived.Deep.DeepCutAuto
namespace Go.Proofs.YtcmidegffpehoaaDoor
open Go.RowKit
set_option linter.unusedVariables false

theorem conv {W : World} {a : Option Addr} {len cap : Nat} {zs : List Int} (h : Row W a len zs) : Sem.run Tryd.prog (convert 22 9 (.slice a len cap)) W = .ok (.string (strOfNums zs)) W := by
  by_cases h0 : 0 < len
  · obtain ⟨b, off, rfl, _, hc⟩ := h.2.2 h0
    exact run_convert_bytes_arg (P := Tryd.prog) W 22 5 Tryd.underlying22 Tryd.underlying5 b off len cap zs h.1 hc 9 Tryd.underlying9
  · obtain rfl : len = 0 := by omega
    obtain rfl : zs = [] := List.eq_nil_of_length_eq_zero h.1
    cases a with
    | none => exact run_convert_bytes_nil (P := Tryd.prog) W 22 5 Tryd.underlying22 Tryd.underlying5 0 cap 9 Tryd.underlying9
    | some x =>
      rw [run_convert_bytes_string W 22 9 5 _ _ _ Tryd.underlying22 Tryd.underlying5 Tryd.underlying9, run_bytesToString W x 0 cap [] (by simp [loadCells, loadCellsFrom])]
      rfl
theorem convS {W : World} {a : Option Addr} {len cap : Nat} {zs : List Int} {S : ByteArray} (h : Row W a len zs) (hS : Hid (strOfNums zs = S)) : Sem.run Tryd.prog (convert 22 9 (.slice a len cap)) W = .ok (.string S) W := by
  rw [conv h, hS.out]
theorem strNums_append (xs ys : List Int) : strOfNums xs ++ strOfNums ys = strOfNums (xs ++ ys) := by
  simp [strOfNums, ByteArray.mk_append_mk]
end Go.Proofs.YtcmidegffpehoaaDoor
