/- Some, and each. -/
import Derived.Test.YtcljcnaglkbjcaaGreatDoorOn
import Derived.LoopN
namespace Go.Proofs.YtcljcnaglkbjcaaGreatDoor
open Go.RowKit
theorem any_not {α : Type} (l : List α) (q : α → Bool) : (!l.any fun i => !q i) = l.all q := by
  induction l with
  | nil => rfl
  | cons a l ih => simp only [List.any_cons, List.all_cons, Bool.not_or, Bool.not_not, ih]
end Go.Proofs.YtcljcnaglkbjcaaGreatDoor
