/- sect.Text; the document's own Text. -/
import Derived.Test.YtcmidegffpehoaaDoorScV
namespace Go.Proofs.YtcmidegffpehoaaDoor
open Go.RowKit
namespace Sc
set_option linter.unusedVariables false
abbrev U8 (w : World) : Prop := Lib.Utf8Tabs 1 2 w
theorem text_any {a : Option Addr} {n cap : Nat} {zs : List Int} {w : World} (h : Row w a n zs) (hc : n ≤ cap) (hn : n ≤ 1099511627776) (hT : U8 w) :
    Calls Tryd.prog 17 #[.slice a n cap] w fun e w' => e = .returned (.bool (vd zs)) ∧ Below w.heap.size w w' := by
  have HV := hide (valid_any h hc hn hT)
  clear h hT
  go_enter Tryd.func17, Tryd.ntmps17
  go_wp2_with fail
  refine (unhide HV).mono ?_
  rintro e w1 ⟨rfl, hb⟩
  have HB := hide hb; clear hb
  go_wp2
  go_ret
  exact ⟨rfl, unhide HB⟩
end Sc
end Go.Proofs.YtcmidegffpehoaaDoor
