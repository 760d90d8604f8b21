/- One call after another: what stands below stays. -/
import Derived.Test.YtpecnljcgiicaaaDoorBase
namespace Go.Proofs.YtpecnljcgiicaaaDoor
open Go.RowKit
theorem Below.on {w w1 w2 : World} (h : Below w.heap.size w w1) (h2 : Below w1.heap.size w1 w2) : Below w.heap.size w w2 := h.trans (h2.mono h.size)
end Go.Proofs.YtpecnljcgiicaaaDoor
