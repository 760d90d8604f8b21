/- Code that is being made: one instruction more, one block more. -/
import Derived.Test.YtheopjcmhclgdaaGreatDoorVcQ
import Derived.Test.YtheopjcmhclgdaaGreatDoorVcC
import Derived.BigRegion
namespace Go.Proofs.YtheopjcmhclgdaaGreatDoor
open Go.RowKit
namespace Vc
set_option linter.unusedVariables false

theorem inC_one (x : In) (v : Value) (h : ∃ a n c, v = .slice a n c) : ∀ u ∈ inC x v, u.oneCell' = true := by
  obtain ⟨a, n, c, rfl⟩ := h
  intro u hu
  simp only [inC, List.mem_cons, List.not_mem_nil, or_false] at hu
  rcases hu with rfl | rfl | rfl | rfl | rfl <;> rfl
theorem blC_one (d : Int) (v v' : Value) (h : ∃ a n c, v = .slice a n c) (h' : ∃ a n c, v' = .slice a n c) : ∀ u ∈ blC d v v', u.oneCell' = true := by
  obtain ⟨a, n, c, rfl⟩ := h
  obtain ⟨a', n', c', rfl⟩ := h'
  intro u hu
  simp only [blC, List.mem_cons, List.not_mem_nil, or_false] at hu
  rcases hu with rfl | rfl | rfl <;> rfl
/-- a code box -/
def cob (pa re : Int) (rs : Bool) (v : Value) : Array Value := #[.int .i64 pa, .int .i64 re, .bool rs, v]
/-- while blocks are made -/
structure OutR (w : World) (pa re : Int) (rs : Bool) (va : Value) (l : List Bl) (vb : Value) (wr : World) : Prop where
  b0 : wr.heap[w.heap.size]? = some (.cells (cob pa re rs va) 33 (0, 0))
  b1 : wr.heap[w.heap.size + 1]? = some (.cells (cob 0 0 false (.slice none 0 0)) 53 (0, 0))
  b2 : wr.heap[w.heap.size + 1 + 1]? = some (.cells (cob pa re rs vb) 53 (0, 0))
  ow : OwnL BlC 3 85 wr w.heap.size (fun k => k ≠ w.heap.size + 1 ∧ k ≠ w.heap.size + 1 + 1) vb l
  be : Below w.heap.size w wr
/-- while a block's instructions are made -/
structure BoxR (g : Nat → Prop) (wr : World) (vn : Value) (dep : Int) (l : List In) (vi : Value) (wq : World) : Prop where
  b : wq.heap[wr.heap.size]? = some (.cells #[vi, vn, .int .i64 dep] 85 (0, 0))
  ow : OwnL InC 5 82 wq (wr.heap.size + 1) g vi l
  be : Below wr.heap.size wr wq
theorem cob_cells {w : World} {B : Nat} {pa re : Int} {rs : Bool} {v : Value} {t : TypeId} (h : w.heap[B]? = some (.cells (cob pa re rs v) t (0, 0))) :
    w.cell? ⟨B, 0, none⟩ = some (.int .i64 pa) ∧ w.cell? ⟨B, 1, none⟩ = some (.int .i64 re) ∧ w.cell? ⟨B, 2, none⟩ = some (.bool rs) ∧ w.cell? ⟨B, 3, none⟩ = some v ∧ (∀ i, w.frozen? ⟨B, i, none⟩ = false) ∧ B < w.heap.size := by
  refine ⟨?_, ?_, ?_, ?_, fun i => by simp [World.frozen?, h], (Array.getElem?_eq_some_iff.1 h).1⟩ <;> (rw [cell_of_row w B _ _ _ _ h]; rfl)

theorem InC.mv {w w' : World} {g g' : Nat → Prop} (hm : Mv w w' g g') : ∀ x cs, InC w g x cs → InC w' g' x cs := fun _ _ h => h.moved hm
theorem BlC.mv {w w' : World} {g g' : Nat → Prop} (hm : Mv w w' g g') (hs : w.heap.size ≤ w'.heap.size) : ∀ x cs, BlC w g x cs → BlC w' g' x cs := fun _ _ h => h.moved hm hs
theorem box_step {g : Nat → Prop} {WO wr w5 : World} {vn : Value} {dep : Int} {l : List In} {qa : Option Addr} {qc gg cpn k : Nat} {xs : List Value} {y : In} {vs : Value} (hl : l.length = k) (hgN : ∀ q, g q → q < WO.heap.size)
    (hb : wr.heap[WO.heap.size]? = some (.cells #[.slice qa k qc, vn, .int .i64 dep] 85 (0, 0))) (hbe : Below WO.heap.size WO wr)
    (hX : wr.ownsRow (WO.heap.size + 1) 82 5 (.slice qa k qc) k xs) (hits : Its (InC wr (own g (.slice qa k qc))) 5 l xs) (hs : NumsL wr (own g (.slice qa k qc)) y.src vs)
    (hown : w5.ownsRow (WO.heap.size + 1) 82 5 (.slice (some ⟨gg, 0, none⟩) (k + 1) cpn) (k + 1) (xs ++ inC y vs)) (hgrow : ((wr.alloc (.cells (inC y vs).toArray 82)).drew).grownBy w5 (Value.slice qa k qc).ownBlock) (hat : (Value.slice qa k qc).ownBlock = some gg ∨ gg = wr.heap.size + 1) :
    BoxR g WO vn dep (l ++ [y]) (.slice (some ⟨gg, 0, none⟩) (k + 1) cpn) (w5.setCell ⟨WO.heap.size, 0, none⟩ (.slice (some ⟨gg, 0, none⟩) (k + 1) cpn)) := by
  have zl : WO.heap.size < wr.heap.size := (Array.getElem?_eq_some_iff.1 hb).1
  have hal : Below wr.heap.size wr ((wr.alloc (.cells (inC y vs).toArray 82)).drew) := ((Below.refl _ _).alloc (Nat.le_refl _) _).drew
  have h5 : w5.heap[WO.heap.size]? = some (.cells #[.slice qa k qc, vn, .int .i64 dep] 85 (0, 0)) :=
    ((hgrow.block WO.heap.size (Nat.lt_of_lt_of_le zl hal.size) (fun e => by have := (hX.lt _ e.symm).1; omega)).trans (hal.block _ zl)).trans hb
  have hsz : ((wr.alloc (.cells (inC y vs).toArray 82)).drew).heap.size = wr.heap.size + 1 := by simp
  have hgg : WO.heap.size + 1 ≤ gg := by
    rcases hown.2 with ⟨h, _⟩ | ⟨g', _, _, h, hg', _⟩
    · cases h
    · cases h; exact hg'
  have hsn := OwnL.snoc (It := InC) (c := 5) (T := 82) (w := (wr.alloc (.cells (inC y vs).toArray 82)).drew) (w1 := w5) (B := WO.heap.size + 1) (G := g) (v := .slice qa k qc) (l := l) (x := y) (g := gg) (cap := cpn) (fun x cs h hm => h.moved hm)
    (hits.mono (InC.mv (Mv.below hal fun _ _ h => h))) (show InC _ _ y (inC y vs) from ⟨vs, rfl, hs.below hal⟩) rfl (by rw [hl]; exact hown) hgrow (by rw [hsz]; exact hat)
  rw [hl] at hsn
  have hbel : Below WO.heap.size WO w5 := ((hbe.alloc (by omega) _).drew).grown hgrow (by rw [hsz]; omega) (fun q hq => by have := (hX.lt q hq).1; omega)
  refine ⟨(heap_setCell_same w5 _ 0 _ _ _ h5).trans rfl, ?_, hbel.setCell (p := ⟨WO.heap.size, 0, none⟩) (Nat.le_refl _) _⟩
  refine OwnL.move (G := g) hsn (fun q hq => ?_) (InC.mv fun q hq hgq => ⟨hgq, heap_setCell_other _ _ _ _ ?_⟩)
  · simp only [Value.ownBlock, Option.some.injEq] at hq
    subst hq
    exact heap_setCell_other _ _ _ _ (by show gg ≠ WO.heap.size; omega)
  · have := hgN q hgq.2; show q ≠ WO.heap.size; omega
theorem OutR.below {w wr wq : World} {pa re : Int} {rs : Bool} {va vb : Value} {l : List Bl} (h : OutR w pa re rs va l vb wr) (hb : Below wr.heap.size wr wq) : OutR w pa re rs va l vb wq := by
  refine ⟨(hb.block _ (Array.getElem?_eq_some_iff.1 h.b0).1).trans h.b0, (hb.block _ (Array.getElem?_eq_some_iff.1 h.b1).1).trans h.b1, (hb.block _ (Array.getElem?_eq_some_iff.1 h.b2).1).trans h.b2, ?_, h.be.trans (hb.mono h.be.size)⟩
  exact OwnL.move h.ow (fun k hk => hb.block k (h.ow.lt k hk).2) (BlC.mv (Mv.below hb fun _ _ h => h) hb.size)
theorem out_item {g : Nat → Prop} {w WO wr : World} {pa re : Int} {rs : Bool} {va vb vn vi : Value} {l : List Bl} {ins : List In} {next : List Int} {dep : Int} (hO : OutR w pa re rs va l vb WO) (hB : BoxR g WO vn dep ins vi wr) (hg : ∀ q, g q → q < w.heap.size) (hn : NumsL w g next vn) :
    BlC wr (own (fun k => k ≠ w.heap.size + 1 ∧ k ≠ w.heap.size + 1 + 1) vb) ⟨ins, next, dep⟩ (blC dep vi vn) := by
  have h2 := (Array.getElem?_eq_some_iff.1 hO.b2).1
  have hlow : Below w.heap.size w wr := hO.be.trans (hB.be.mono (by omega))
  have ok : ∀ q, g q → own (fun k => k ≠ w.heap.size + 1 ∧ k ≠ w.heap.size + 1 + 1) vb q := fun q hq => ⟨fun e => by have := (hO.ow.lt q e).1; have := hg q hq; omega, by have := hg q hq; constructor <;> omega⟩
  refine ⟨vi, vn, rfl, hB.ow.made (fun x cs h => ?_) (fun k hk hk2 => ⟨fun e => by have := (hO.ow.lt k e).2; omega, by constructor <;> omega⟩), hn.moved fun k hk hgk => ⟨ok k hgk, hlow.block k (hg k hgk)⟩⟩
  exact h.moved fun k hk hgk => ⟨ok k hgk.2, rfl⟩
theorem out_step {w wr w5 : World} {pa re : Int} {rs : Bool} {va : Value} {l : List Bl} {qa : Option Addr} {qc gg cpn k : Nat} {xs : List Value} {y : Bl} {vi vn : Value} (hl : l.length = k) (hO : OutR w pa re rs va l (.slice qa k qc) wr)
    (hX : wr.ownsRow w.heap.size 85 3 (.slice qa k qc) k xs) (hits : Its (BlC wr (own (fun k => k ≠ w.heap.size + 1 ∧ k ≠ w.heap.size + 1 + 1) (.slice qa k qc))) 3 l xs)
    (hy : BlC wr (own (fun k => k ≠ w.heap.size + 1 ∧ k ≠ w.heap.size + 1 + 1) (.slice qa k qc)) y (blC y.dep vi vn))
    (hown : w5.ownsRow w.heap.size 85 3 (.slice (some ⟨gg, 0, none⟩) (k + 1) cpn) (k + 1) (xs ++ blC y.dep vi vn)) (hgrow : (wr.alloc (.cells (blC y.dep vi vn).toArray 85)).grownBy w5 (Value.slice qa k qc).ownBlock) (hat : (Value.slice qa k qc).ownBlock = some gg ∨ gg = wr.heap.size + 1) :
    OutR w pa re rs va (l ++ [y]) (.slice (some ⟨gg, 0, none⟩) (k + 1) cpn) (w5.setCell ⟨w.heap.size + 1 + 1, 3, none⟩ (.slice (some ⟨gg, 0, none⟩) (k + 1) cpn)) := by
  have hal : Below wr.heap.size wr (wr.alloc (.cells (blC y.dep vi vn).toArray 85)) := (Below.refl _ _).alloc (Nat.le_refl _) _
  have hsz : (wr.alloc (.cells (blC y.dep vi vn).toArray 85)).heap.size = wr.heap.size + 1 := by simp
  have no : ∀ (q : Nat) (A : Array Value) (t : TypeId), t ≠ 85 → wr.heap[q]? = some (Obj.cells A t (0, 0)) → w5.heap[q]? = some (Obj.cells A t (0, 0)) := fun q A t ht hq => by
    have hlt := (Array.getElem?_eq_some_iff.1 hq).1
    refine ((hgrow.block q (Nat.lt_of_lt_of_le hlt hal.size) (fun e => ?_)).trans (hal.block q hlt)).trans hq
    obtain ⟨cur, hc⟩ := hO.ow.blk q e.symm
    rw [hq] at hc
    simp at hc
    exact ht hc.2
  have h0 := no _ _ _ (by decide) hO.b0
  have h1 := no _ _ _ (by decide) hO.b1
  have h2 := no _ _ _ (by decide) hO.b2
  have hne : gg ≠ w.heap.size + 1 + 1 := fun e => by
    rcases hown.2 with ⟨h, _⟩ | ⟨g', _, cur, h, _, hc, _⟩
    · cases h
    · cases h
      rw [e, h2] at hc
      simp at hc
  have hsn := OwnL.snoc (It := BlC) (c := 3) (T := 85) (w := wr.alloc (.cells (blC y.dep vi vn).toArray 85)) (w1 := w5) (B := w.heap.size) (G := fun k => k ≠ w.heap.size + 1 ∧ k ≠ w.heap.size + 1 + 1) (v := .slice qa k qc) (l := l) (x := y) (g := gg) (cap := cpn) (fun x cs h hm => h.moved hm hgrow.size)
    (hits.mono (BlC.mv (Mv.below hal fun _ _ h => h) hal.size)) (hy.moved (Mv.below hal fun _ _ h => h) hal.size) rfl (by rw [hl]; exact hown) hgrow (by rw [hsz]; exact hat)
  rw [hl] at hsn
  have hbel : Below w.heap.size w w5 := (hO.be.alloc hO.be.size _).grown hgrow (by rw [hsz]; have := hO.be.size; omega) (fun q hq => (hX.lt q hq).1)
  refine ⟨(heap_setCell_other _ _ _ _ (by show w.heap.size ≠ w.heap.size + 1 + 1; omega)).trans h0, (heap_setCell_other _ _ _ _ (by show w.heap.size + 1 ≠ w.heap.size + 1 + 1; omega)).trans h1, (heap_setCell_same w5 _ 3 _ _ _ h2).trans rfl, ?_, hbel.setCell (p := ⟨w.heap.size + 1 + 1, 3, none⟩) (by show w.heap.size ≤ w.heap.size + 1 + 1; omega) _⟩
  refine OwnL.move hsn (fun q hq => ?_) (BlC.mv (fun q hq hgq => ⟨hgq, heap_setCell_other _ _ _ _ hgq.2.2⟩) (by simp))
  simp only [Value.ownBlock, Option.some.injEq] at hq
  subst hq
  exact heap_setCell_other _ _ _ _ hne
theorem out_keep {w wr w5 : World} {pa re : Int} {rs : Bool} {va : Value} {l : List Bl} {v : Value} {O : Obj} (hO : OutR w pa re rs va l v wr) (hgrow : (wr.alloc O).grownBy w5 v.ownBlock) :
    w5.heap[w.heap.size + 1 + 1]? = some (.cells (cob pa re rs v) 53 (0, 0)) := by
  have hlt := (Array.getElem?_eq_some_iff.1 hO.b2).1
  refine ((hgrow.block _ (by simp; omega) (fun e => ?_)).trans (Below.heap_alloc wr _ _ hlt)).trans hO.b2
  obtain ⟨cur, hc⟩ := hO.ow.blk _ e.symm
  rw [hO.b2] at hc
  simp at hc
/-- made: the result's box is written -/
theorem out_end {w wr W2 : World} {pa re : Int} {rs : Bool} {va : Value} {l : List Bl} {v : Value} (hO : OutR w pa re rs va l v wr) (hb : ∀ q, q ≠ w.heap.size + 1 → W2.heap[q]? = wr.heap[q]?) (hs : W2.heap.size = wr.heap.size) : Bls W2 (fun k => k < W2.heap.size) l v := by
  have h1 := (Array.getElem?_eq_some_iff.1 hO.b1).1
  have hm : OwnL BlC 3 85 W2 w.heap.size (fun k => k ≠ w.heap.size + 1 ∧ k ≠ w.heap.size + 1 + 1) v l := by
    refine OwnL.move hO.ow (fun q hq => hb q (fun e => ?_)) (BlC.mv (fun q hq hgq => ⟨hgq, hb q hgq.2.1⟩) (by rw [hs]; exact Nat.le_refl _))
    obtain ⟨cur, hc⟩ := hO.ow.blk q hq
    rw [e, hO.b1] at hc
    simp at hc
  refine hm.made (fun x cs h => ?_) (fun k _ hk => hk)
  exact h.moved (fun k hk hgk => ⟨hk, rfl⟩) (Nat.le_refl _)
theorem bel4b {B : Nat} {a w : World} (h : Below B a w) (b : Nat) (hb : B ≤ b) (v0 v1 v2 v3 : Value) : Below B a ((((w.setCell ⟨b, 0, none⟩ v0).setCell ⟨b, 1, none⟩ v1).setCell ⟨b, 2, none⟩ v2).setCell ⟨b, 3, none⟩ v3) ∧ ((((w.setCell ⟨b, 0, none⟩ v0).setCell ⟨b, 1, none⟩ v1).setCell ⟨b, 2, none⟩ v2).setCell ⟨b, 3, none⟩ v3).heap.size = w.heap.size ∧ ∀ q, q ≠ b → ((((w.setCell ⟨b, 0, none⟩ v0).setCell ⟨b, 1, none⟩ v1).setCell ⟨b, 2, none⟩ v2).setCell ⟨b, 3, none⟩ v3).heap[q]? = w.heap[q]? :=
  ⟨bel4 h b hb v0 v1 v2 v3, by simp, fun q hq => by rw [heap_setCell_other _ _ _ _ hq, heap_setCell_other _ _ _ _ hq, heap_setCell_other _ _ _ _ hq, heap_setCell_other _ _ _ _ hq]⟩
end Vc
end Go.Proofs.YtheopjcmhclgdaaGreatDoor
