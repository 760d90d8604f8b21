/- A whole array read out of a variable. -/
import Derived.Test.YtcpknafaocdjdaaGreatDoorOpC
import Derived.Laws.Rows
namespace Go.Proofs.YtcpknafaocdjdaaGreatDoor
open Go.RowKit
set_option linter.unusedVariables false

/-- a variable's cells -/
def TC (w : World) (g : Nat) (vs : List Value) : Prop := g < w.heap.size ∧ ∃ t fr, w.heap[g]? = some (.cells vs.toArray t fr)
theorem TC.below {w w' : World} {g : Nat} {vs : List Value} (h : TC w g vs) (hb : Below w.heap.size w w') : TC w' g vs := by
  obtain ⟨h1, t, fr, h2⟩ := h
  exact ⟨Nat.lt_of_lt_of_le h1 hb.size, t, fr, (hb.block g h1).trans h2⟩

end Go.Proofs.YtcpknafaocdjdaaGreatDoor
