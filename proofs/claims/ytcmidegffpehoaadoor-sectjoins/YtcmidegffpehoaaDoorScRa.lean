/- The document's Split: its parts. -/
import Derived.Test.YtcmidegffpehoaaDoorScF
import Derived.Test.YtcmidegffpehoaaDoorScG
import Derived.Test.YtcmidegffpehoaaDoorScS
import Derived.Test.YtcmidegffpehoaaDoorScK
import Derived.Test.YtcmidegffpehoaaDoorRefTakeU
namespace Go.Proofs.YtcmidegffpehoaaDoor
open Go.RowKit
namespace Sc
set_option linter.unusedVariables false
set_option linter.unusedSimpArgs false

theorem infoR : (Tryd.prog.info? 36).map (fun i => (i.zero, i.size, i.bytes)) = some (some (.agg #[.int .u8 0, .int .i64 0, .slice none 0 0]), 3, 40) := by kernel_rfl
/-- the loops of a body, those within others left out -/
def loops : Code → List Code
  | .loop c => [c]
  | .seq a b => loops a ++ loops b
  | .block _ c => loops c
  | .scope c => loops c
  | .cond _ a b => loops a ++ loops b
  | _ => []
noncomputable def rbody : Code := (((Tryd.f10.body.map loops).getD []).getD 1 .skip)
end Sc
end Go.Proofs.YtcmidegffpehoaaDoor
