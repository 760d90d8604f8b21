/- ops.Op: what it returns. -/
import Derived.Test.YtpecnljcgiicaaaDoorOpB
namespace Go.Proofs.YtpecnljcgiicaaaDoor
open Go.RowKit
set_option linter.unusedVariables false

theorem str_toList (a : List UInt8) : (str a).toList = a := by rw [ByteArray.toList_eq]; rfl
theorem str_beq {a b : List UInt8} (h : a = b) : ((str a).toList == (str b).toList) = true := by rw [h]; simp
theorem str_bne {a b : List UInt8} (h : ¬ a = b) : ((str a).toList == (str b).toList) = false := by
  rw [str_toList, str_toList, beq_eq_false_iff_ne]; exact h
theorem str_ie {a : List UInt8} (h : ¬ a = []) : (str a).toList.isEmpty = false := by
  rw [str_toList]; cases a with
  | nil => exact absurd rfl h
  | cons x a => rfl
theorem str_nil : (str []) = ⟨#[]⟩ := rfl

end Go.Proofs.YtpecnljcgiicaaaDoor
