/- ops.Float: what it returns; a whole array read out of a variable. -/
import Derived.Test.YtpecnljcgiicaaaDoorOpC
import Derived.Laws.Rows
namespace Go.Proofs.YtpecnljcgiicaaaDoor
open Go.RowKit
set_option linter.unusedVariables false

/-- a variable's cells -/
def TC (w : World) (g : Nat) (vs : List Value) : Prop := g < w.heap.size ∧ ∃ t fr, w.heap[g]? = some (.cells vs.toArray t fr)
theorem TC.below {w w' : World} {g : Nat} {vs : List Value} (h : TC w g vs) (hb : Below w.heap.size w w') : TC w' g vs := by
  obtain ⟨h1, t, fr, h2⟩ := h
  exact ⟨Nat.lt_of_lt_of_le h1 hb.size, t, fr, (hb.block g h1).trans h2⟩

def flV : List Value := fls.flatMap fun x => [.int .u8 x.1, .int .u8 x.2]
def inF (n : Int) (x : Int × Int) : Bool := decide (x.1 ≤ n) && decide (n ≤ x.2)
def flt (n : Int) : Bool := fls.any (inF n)

theorem flt_yes {n : Int} {j : Nat} {x : Int × Int} (h : fls[j]? = some x) (h2 : inF n x = true) : flt n = true :=
  List.any_eq_true.2 ⟨x, List.mem_of_getElem? h, h2⟩
theorem flt_no {n : Int} (h : ∀ i x, i < 7 → fls[i]? = some x → inF n x = false) : flt n = false := by
  unfold flt
  rw [Bool.eq_false_iff]
  intro hh
  obtain ⟨x, hx, h2⟩ := List.any_eq_true.1 hh
  obtain ⟨i, hi⟩ := List.getElem?_of_mem hx
  have hl : i < fls.length := (List.getElem?_eq_some_iff.1 hi).1
  rw [h i x hl hi] at h2
  exact absurd h2 (by decide)

end Go.Proofs.YtpecnljcgiicaaaDoor
