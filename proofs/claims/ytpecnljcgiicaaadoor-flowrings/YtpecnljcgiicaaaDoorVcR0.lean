/- Code that is being made: one instruction more, one block more. -/
import Derived.Test.YtpecnljcgiicaaaDoorVcQ
import Derived.Test.YtpecnljcgiicaaaDoorVcC
import Derived.BigRegion
namespace Go.Proofs.YtpecnljcgiicaaaDoor
open Go.RowKit
namespace Vc
set_option linter.unusedVariables false

theorem inC_one (x : In) (v : Value) (h : ∃ a n c, v = .slice a n c) : ∀ u ∈ inC x v, u.oneCell' = true := by
  obtain ⟨a, n, c, rfl⟩ := h
  intro u hu
  simp only [inC, List.mem_cons, List.not_mem_nil, or_false] at hu
  rcases hu with rfl | rfl | rfl | rfl | rfl <;> rfl
theorem blC_one (d : Int) (v v' : Value) (h : ∃ a n c, v = .slice a n c) (h' : ∃ a n c, v' = .slice a n c) : ∀ u ∈ blC d v v', u.oneCell' = true := by
  obtain ⟨a, n, c, rfl⟩ := h
  obtain ⟨a', n', c', rfl⟩ := h'
  intro u hu
  simp only [blC, List.mem_cons, List.not_mem_nil, or_false] at hu
  rcases hu with rfl | rfl | rfl <;> rfl
/-- a code box -/
def cob (pa re : Int) (rs : Bool) (v : Value) : Array Value := #[.int .i64 pa, .int .i64 re, .bool rs, v]
/-- while a block's instructions are made -/
structure BoxR (g : Nat → Prop) (wr : World) (vn : Value) (dep : Int) (l : List In) (vi : Value) (wq : World) : Prop where
  b : wq.heap[wr.heap.size]? = some (.cells #[vi, vn, .int .i64 dep] 32 (0, 0))
  ow : OwnL InC 5 29 wq (wr.heap.size + 1) g vi l
  be : Below wr.heap.size wr wq
theorem cob_cells {w : World} {B : Nat} {pa re : Int} {rs : Bool} {v : Value} {t : TypeId} (h : w.heap[B]? = some (.cells (cob pa re rs v) t (0, 0))) :
    w.cell? ⟨B, 0, none⟩ = some (.int .i64 pa) ∧ w.cell? ⟨B, 1, none⟩ = some (.int .i64 re) ∧ w.cell? ⟨B, 2, none⟩ = some (.bool rs) ∧ w.cell? ⟨B, 3, none⟩ = some v ∧ (∀ i, w.frozen? ⟨B, i, none⟩ = false) ∧ B < w.heap.size := by
  refine ⟨?_, ?_, ?_, ?_, fun i => by simp [World.frozen?, h], (Array.getElem?_eq_some_iff.1 h).1⟩ <;> (rw [cell_of_row w B _ _ _ _ h]; rfl)

theorem InC.mv {w w' : World} {g g' : Nat → Prop} (hm : Mv w w' g g') : ∀ x cs, InC w g x cs → InC w' g' x cs := fun _ _ h => h.moved hm
theorem BlC.mv {w w' : World} {g g' : Nat → Prop} (hm : Mv w w' g g') (hs : w.heap.size ≤ w'.heap.size) : ∀ x cs, BlC w g x cs → BlC w' g' x cs := fun _ _ h => h.moved hm hs
theorem box_step {g : Nat → Prop} {WO wr w5 : World} {vn : Value} {dep : Int} {l : List In} {qa : Option Addr} {qc gg cpn k : Nat} {xs : List Value} {y : In} {vs : Value} (hl : l.length = k) (hgN : ∀ q, g q → q < WO.heap.size)
    (hb : wr.heap[WO.heap.size]? = some (.cells #[.slice qa k qc, vn, .int .i64 dep] 32 (0, 0))) (hbe : Below WO.heap.size WO wr)
    (hX : wr.ownsRow (WO.heap.size + 1) 29 5 (.slice qa k qc) k xs) (hits : Its (InC wr (own g (.slice qa k qc))) 5 l xs) (hs : NumsL wr (own g (.slice qa k qc)) y.src vs)
    (hown : w5.ownsRow (WO.heap.size + 1) 29 5 (.slice (some ⟨gg, 0, none⟩) (k + 1) cpn) (k + 1) (xs ++ inC y vs)) (hgrow : ((wr.alloc (.cells (inC y vs).toArray 29)).drew).grownBy w5 (Value.slice qa k qc).ownBlock) (hat : (Value.slice qa k qc).ownBlock = some gg ∨ gg = wr.heap.size + 1) :
    BoxR g WO vn dep (l ++ [y]) (.slice (some ⟨gg, 0, none⟩) (k + 1) cpn) (w5.setCell ⟨WO.heap.size, 0, none⟩ (.slice (some ⟨gg, 0, none⟩) (k + 1) cpn)) := by
  have zl : WO.heap.size < wr.heap.size := (Array.getElem?_eq_some_iff.1 hb).1
  have hal : Below wr.heap.size wr ((wr.alloc (.cells (inC y vs).toArray 29)).drew) := ((Below.refl _ _).alloc (Nat.le_refl _) _).drew
  have h5 : w5.heap[WO.heap.size]? = some (.cells #[.slice qa k qc, vn, .int .i64 dep] 32 (0, 0)) :=
    ((hgrow.block WO.heap.size (Nat.lt_of_lt_of_le zl hal.size) (fun e => by have := (hX.lt _ e.symm).1; omega)).trans (hal.block _ zl)).trans hb
  have hsz : ((wr.alloc (.cells (inC y vs).toArray 29)).drew).heap.size = wr.heap.size + 1 := by simp
  have hgg : WO.heap.size + 1 ≤ gg := by
    rcases hown.2 with ⟨h, _⟩ | ⟨g', _, _, h, hg', _⟩
    · cases h
    · cases h; exact hg'
  have hsn := OwnL.snoc (It := InC) (c := 5) (T := 29) (w := (wr.alloc (.cells (inC y vs).toArray 29)).drew) (w1 := w5) (B := WO.heap.size + 1) (G := g) (v := .slice qa k qc) (l := l) (x := y) (g := gg) (cap := cpn) (fun x cs h hm => h.moved hm)
    (hits.mono (InC.mv (Mv.below hal fun _ _ h => h))) (show InC _ _ y (inC y vs) from ⟨vs, rfl, hs.below hal⟩) rfl (by rw [hl]; exact hown) hgrow (by rw [hsz]; exact hat)
  rw [hl] at hsn
  have hbel : Below WO.heap.size WO w5 := ((hbe.alloc (by omega) _).drew).grown hgrow (by rw [hsz]; omega) (fun q hq => by have := (hX.lt q hq).1; omega)
  refine ⟨(heap_setCell_same w5 _ 0 _ _ _ h5).trans rfl, ?_, hbel.setCell (p := ⟨WO.heap.size, 0, none⟩) (Nat.le_refl _) _⟩
  refine OwnL.move (G := g) hsn (fun q hq => ?_) (InC.mv fun q hq hgq => ⟨hgq, heap_setCell_other _ _ _ _ ?_⟩)
  · simp only [Value.ownBlock, Option.some.injEq] at hq
    subst hq
    exact heap_setCell_other _ _ _ _ (by show gg ≠ WO.heap.size; omega)
  · have := hgN q hgq.2; show q ≠ WO.heap.size; omega
theorem bel4b {B : Nat} {a w : World} (h : Below B a w) (b : Nat) (hb : B ≤ b) (v0 v1 v2 v3 : Value) : Below B a ((((w.setCell ⟨b, 0, none⟩ v0).setCell ⟨b, 1, none⟩ v1).setCell ⟨b, 2, none⟩ v2).setCell ⟨b, 3, none⟩ v3) ∧ ((((w.setCell ⟨b, 0, none⟩ v0).setCell ⟨b, 1, none⟩ v1).setCell ⟨b, 2, none⟩ v2).setCell ⟨b, 3, none⟩ v3).heap.size = w.heap.size ∧ ∀ q, q ≠ b → ((((w.setCell ⟨b, 0, none⟩ v0).setCell ⟨b, 1, none⟩ v1).setCell ⟨b, 2, none⟩ v2).setCell ⟨b, 3, none⟩ v3).heap[q]? = w.heap[q]? :=
  ⟨bel4 h b hb v0 v1 v2 v3, by simp, fun q hq => by rw [heap_setCell_other _ _ _ _ hq, heap_setCell_other _ _ _ _ hq, heap_setCell_other _ _ _ _ hq, heap_setCell_other _ _ _ _ hq]⟩
end Vc
end Go.Proofs.YtpecnljcgiicaaaDoor
