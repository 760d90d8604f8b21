/- What every text of mine begins with: equations hidden from the walk, endings, an error by its number. -/
import Derived.Test.YtglehoekehiaiaaGreatDoorProg
import Derived.WalkKit
import Derived.WalkSpells
import Derived.WalkLawsBesides
namespace Go.Proofs.YtglehoekehiaiaaGreatDoor
open Go.RowKit

theorem hide {p : Prop} (h : p) : Hid p := h
theorem unhide {p : Prop} (h : Hid p) : p := h
theorem ret_int {k : IntKind} {a b : Int} (h : a = b) : Ending.returned (.int k a) = .returned (.int k b) := by rw [h]
theorem ret_bool {a b : Bool} (h : a = b) : Ending.returned (.bool a) = .returned (.bool b) := by rw [h]

/-- An error by its number; 0 is none. -/
def errV (k : Int) : Value := if k = 0 then .nilIface else .iface 76 (.int .i64 k)
theorem errV_0 : errV 0 = .nilIface := by simp [errV]
theorem errV_1 : errV 1 = .iface 76 (.int .i64 1) := by simp [errV]
theorem errV_4 : errV 4 = .iface 76 (.int .i64 4) := by simp [errV]
theorem errV_6 : errV 6 = .iface 76 (.int .i64 6) := by simp [errV]
theorem ret2 {k : IntKind} {a b : Int} {u v : Value} (h : a = b) (h2 : u = v) : Ending.returned (.tuple #[.int k a, u]) = .returned (.tuple #[.int k b, v]) := by rw [h, h2]
theorem ret3 {k l : IntKind} {a b c d : Int} {u v : Value} (h : a = b) (h1 : c = d) (h2 : u = v) : Ending.returned (.tuple #[.int k a, .int l c, u]) = .returned (.tuple #[.int k b, .int l d, v]) := by rw [h, h1, h2]
end Go.Proofs.YtglehoekehiaiaaGreatDoor
