/- What is asked of ops' tables here. -/
import Derived.Test.YtheopjcmhclgdaaGreatDoorOpG
import Derived.BigQuiet
import Derived.Lib.Strings
namespace Go.Proofs.YtheopjcmhclgdaaGreatDoor
open Go.RowKit
set_option linter.unusedVariables false

theorem str_size (l : List UInt8) : (str l).size = l.length := rfl
theorem str_extract (l : List UInt8) (a b : Nat) : (str l).extract a b = str ((l.drop a).take (b - a)) := by
  have h := Lib.extract_data (str l) a b
  apply Go.WideShapes.bytes_inj
  rw [h]; rfl
/-- what the tables hold -/
def Tb (w : World) : Prop := Nms w ∧ TC w 4 fmV
theorem Tb.below {w w' : World} (h : Tb w) (hb : Below w.heap.size w w') : Tb w' := ⟨h.1.below hb, h.2.below hb⟩
theorem Below.drewn (w : World) (k : Nat) : Below w.heap.size w (w.drewN k) := ⟨rfl, rfl, rfl, Nat.le_refl _, fun _ _ => rfl⟩
end Go.Proofs.YtheopjcmhclgdaaGreatDoor
