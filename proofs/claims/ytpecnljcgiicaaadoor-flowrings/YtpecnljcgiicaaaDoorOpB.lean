/- ops.Name: what it returns, by the tables. -/
import Derived.Test.YtpecnljcgiicaaaDoorOpA
namespace Go.Proofs.YtpecnljcgiicaaaDoor
open Go.RowKit
set_option linter.unusedVariables false

/-- a table of texts in its variable -/
def TS (w : World) (g : Nat) (l : List (List UInt8)) : Prop := ∀ j s, l[j]? = some s → w.cell? ⟨g, j, none⟩ = some (.string (str s))
theorem TS.below {w w' : World} {g : Nat} {l : List (List UInt8)} (h : TS w g l) (hb : Below w.heap.size w w') : TS w' g l := fun j s hj => by
  have h1 := h j s hj
  have hlt : g < w.heap.size := block_lt_of_cell h1
  exact (hb.cell (p := ⟨g, j, none⟩) hlt).trans h1
/-- the name of a number; empty where there is none -/
def nm (n : Nat) : List UInt8 :=
  if n < 67 then nms.getD n []
  else if 69 ≤ n ∧ n < 91 then tns.getD (n - 69) []
  else if 103 ≤ n ∧ n < 139 then rns.getD (n - 103) []
  else if n = 167 then [105, 51, 50, 46, 119, 114, 97, 112, 95, 105, 54, 52]
  else if n = 172 then [105, 54, 52, 46, 101, 120, 116, 101, 110, 100, 95, 105, 51, 50, 95, 115]
  else if n = 173 then [105, 54, 52, 46, 101, 120, 116, 101, 110, 100, 95, 105, 51, 50, 95, 117]
  else []

theorem ret_str {a b : ByteArray} (h : a = b) : Ending.returned (.string a) = .returned (.string b) := by rw [h]

end Go.Proofs.YtpecnljcgiicaaaDoor
