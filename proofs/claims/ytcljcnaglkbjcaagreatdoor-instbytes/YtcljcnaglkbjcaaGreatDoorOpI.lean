/- What is asked of ops' tables here. -/
import Derived.Test.YtcljcnaglkbjcaaGreatDoorOpH
namespace Go.Proofs.YtcljcnaglkbjcaaGreatDoor
open Go.RowKit
set_option linter.unusedVariables false

/-- what the tables hold -/
def Tb (w : World) : Prop := Nms w ∧ TC w 5 fmV ∧ TC w 1 abV
theorem Tb.below {w w' : World} (h : Tb w) (hb : Below w.heap.size w w') : Tb w' := ⟨h.1.below hb, h.2.1.below hb, h.2.2.below hb⟩
theorem Below.drewn (w : World) (k : Nat) : Below w.heap.size w (w.drewN k) := ⟨rfl, rfl, rfl, Nat.le_refl _, fun _ _ => rfl⟩

end Go.Proofs.YtcljcnaglkbjcaaGreatDoor
