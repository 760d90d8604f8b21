/- K3: what follows, part by part: each part tells what it holds. -/
import Derived.Test.YtglehoekehiaiaaGreatDoorK2
import Derived.BigRegion
import Derived.Deep.Cut
import Derived.Deep.RegionLaw
namespace Go.Proofs.YtglehoekehiaiaaGreatDoor
open Go.RowKit
set_option linter.unusedVariables false
set_option linter.unusedSimpArgs false
set_option maxRecDepth 100000
set_option maxHeartbeats 32000000
namespace Vc
/- Code that is being made: one instruction more, one block more. -/
theorem inC_one (x : In) (v : Value) (h : ∃ a n c, v = .slice a n c) : ∀ u ∈ inC x v, u.oneCell' = true := by
 obtain ⟨a, n, c, rfl⟩ := h
 intro u hu
 simp only [inC, List.mem_cons, List.not_mem_nil, or_false] at hu
 rcases hu with rfl | rfl | rfl | rfl | rfl <;> rfl
theorem blC_one (d : Int) (v v' : Value) (h : ∃ a n c, v = .slice a n c) (h' : ∃ a n c, v' = .slice a n c) : ∀ u ∈ blC d v v', u.oneCell' = true := by
 obtain ⟨a, n, c, rfl⟩ := h
 obtain ⟨a', n', c', rfl⟩ := h'
 intro u hu
 simp only [blC, List.mem_cons, List.not_mem_nil, or_false] at hu
 rcases hu with rfl | rfl | rfl <;> rfl
/-- a code box -/
def cob (pa re : Int) (rs : Bool) (v : Value) : Array Value := #[.int .i64 pa, .int .i64 re, .bool rs, v]
/-- while blocks are made -/
structure OutR (w : World) (pa re : Int) (rs : Bool) (va : Value) (l : List Bl) (vb : Value) (wr : World) : Prop where
 b0 : wr.heap[w.heap.size]? = some (.cells (cob pa re rs va) 24 (0, 0))
 b1 : wr.heap[w.heap.size + 1]? = some (.cells (cob 0 0 false (.slice none 0 0)) 29 (0, 0))
 b2 : wr.heap[w.heap.size + 1 + 1]? = some (.cells (cob pa re rs vb) 29 (0, 0))
 ow : OwnL BlC 3 56 wr w.heap.size (fun k => k ≠ w.heap.size + 1 ∧ k ≠ w.heap.size + 1 + 1) vb l
 be : Below w.heap.size w wr
/-- while a block's instructions are made -/
structure BoxR (g : Nat → Prop) (wr : World) (vn : Value) (dep : Int) (l : List In) (vi : Value) (wq : World) : Prop where
 b : wq.heap[wr.heap.size]? = some (.cells #[vi, vn, .int .i64 dep] 56 (0, 0))
 ow : OwnL InC 5 53 wq (wr.heap.size + 1) g vi l
 be : Below wr.heap.size wr wq
theorem cob_cells {w : World} {B : Nat} {pa re : Int} {rs : Bool} {v : Value} {t : TypeId} (h : w.heap[B]? = some (.cells (cob pa re rs v) t (0, 0))) :
    w.cell? ⟨B, 0, none⟩ = some (.int .i64 pa) ∧ w.cell? ⟨B, 1, none⟩ = some (.int .i64 re) ∧ w.cell? ⟨B, 2, none⟩ = some (.bool rs) ∧ w.cell? ⟨B, 3, none⟩ = some v ∧ (∀ i, w.frozen? ⟨B, i, none⟩ = false) ∧ B < w.heap.size := by
 refine ⟨?_, ?_, ?_, ?_, fun i => by simp [World.frozen?, h], (Array.getElem?_eq_some_iff.1 h).1⟩ <;> (rw [cell_of_row w B _ _ _ _ h]; rfl)
theorem InC.mv {w w' : World} {g g' : Nat → Prop} (hm : Mv w w' g g') : ∀ x cs, InC w g x cs → InC w' g' x cs := fun _ _ h => h.moved hm
theorem BlC.mv {w w' : World} {g g' : Nat → Prop} (hm : Mv w w' g g') (hs : w.heap.size ≤ w'.heap.size) : ∀ x cs, BlC w g x cs → BlC w' g' x cs := fun _ _ h => h.moved hm hs
theorem box_step {g : Nat → Prop} {WO wr w5 : World} {vn : Value} {dep : Int} {l : List In} {qa : Option Addr} {qc gg cpn k : Nat} {xs : List Value} {y : In} {vs : Value} (hl : l.length = k) (hgN : ∀ q, g q → q < WO.heap.size)
    (hb : wr.heap[WO.heap.size]? = some (.cells #[.slice qa k qc, vn, .int .i64 dep] 56 (0, 0))) (hbe : Below WO.heap.size WO wr)
    (hX : wr.ownsRow (WO.heap.size + 1) 53 5 (.slice qa k qc) k xs) (hits : Its (InC wr (own g (.slice qa k qc))) 5 l xs) (hs : NumsL wr (own g (.slice qa k qc)) y.src vs)
    (hown : w5.ownsRow (WO.heap.size + 1) 53 5 (.slice (some ⟨gg, 0, none⟩) (k + 1) cpn) (k + 1) (xs ++ inC y vs)) (hgrow : ((wr.alloc (.cells (inC y vs).toArray 53)).drew).grownBy w5 (Value.slice qa k qc).ownBlock) (hat : (Value.slice qa k qc).ownBlock = some gg ∨ gg = wr.heap.size + 1) :
    BoxR g WO vn dep (l ++ [y]) (.slice (some ⟨gg, 0, none⟩) (k + 1) cpn) (w5.setCell ⟨WO.heap.size, 0, none⟩ (.slice (some ⟨gg, 0, none⟩) (k + 1) cpn)) := by
 have zl : WO.heap.size < wr.heap.size := (Array.getElem?_eq_some_iff.1 hb).1
 have hal : Below wr.heap.size wr ((wr.alloc (.cells (inC y vs).toArray 53)).drew) := ((Below.refl _ _).alloc (Nat.le_refl _) _).drew
 have h5 : w5.heap[WO.heap.size]? = some (.cells #[.slice qa k qc, vn, .int .i64 dep] 56 (0, 0)) :=
  ((hgrow.block WO.heap.size (Nat.lt_of_lt_of_le zl hal.size) (fun e => by have := (hX.lt _ e.symm).1; omega)).trans (hal.block _ zl)).trans hb
 have hsz : ((wr.alloc (.cells (inC y vs).toArray 53)).drew).heap.size = wr.heap.size + 1 := by simp
 have hgg : WO.heap.size + 1 ≤ gg := by
  rcases hown.2 with ⟨h, _⟩ | ⟨g', _, _, h, hg', _⟩
  ·cases h
  ·cases h; exact hg'
 have hsn := OwnL.snoc (It := InC) (c := 5) (T := 53) (w := (wr.alloc (.cells (inC y vs).toArray 53)).drew) (w1 := w5) (B := WO.heap.size + 1) (G := g) (v := .slice qa k qc) (l := l) (x := y) (g := gg) (cap := cpn) (fun x cs h hm => h.moved hm)
  (hits.mono (InC.mv (Mv.below hal fun _ _ h => h))) (show InC _ _ y (inC y vs) from ⟨vs, rfl, hs.below hal⟩) rfl (by rw [hl]; exact hown) hgrow (by rw [hsz]; exact hat)
 rw [hl] at hsn
 have hbel : Below WO.heap.size WO w5 := ((hbe.alloc (by omega) _).drew).grown hgrow (by rw [hsz]; omega) (fun q hq => by have := (hX.lt q hq).1; omega)
 refine ⟨(heap_setCell_same w5 _ 0 _ _ _ h5).trans rfl, ?_, hbel.setCell (p := ⟨WO.heap.size, 0, none⟩) (Nat.le_refl _) _⟩
 refine OwnL.move (G := g) hsn (fun q hq => ?_) (InC.mv fun q hq hgq => ⟨hgq, heap_setCell_other _ _ _ _ ?_⟩)
 ·simp only [Value.ownBlock, Option.some.injEq] at hq
  subst hq
  exact heap_setCell_other _ _ _ _ (by show gg ≠ WO.heap.size; omega)
 ·have := hgN q hgq.2; show q ≠ WO.heap.size; omega
theorem OutR.below {w wr wq : World} {pa re : Int} {rs : Bool} {va vb : Value} {l : List Bl} (h : OutR w pa re rs va l vb wr) (hb : Below wr.heap.size wr wq) : OutR w pa re rs va l vb wq := by
 refine ⟨(hb.block _ (Array.getElem?_eq_some_iff.1 h.b0).1).trans h.b0, (hb.block _ (Array.getElem?_eq_some_iff.1 h.b1).1).trans h.b1, (hb.block _ (Array.getElem?_eq_some_iff.1 h.b2).1).trans h.b2, ?_, h.be.trans (hb.mono h.be.size)⟩
 exact OwnL.move h.ow (fun k hk => hb.block k (h.ow.lt k hk).2) (BlC.mv (Mv.below hb fun _ _ h => h) hb.size)
theorem out_item {g : Nat → Prop} {w WO wr : World} {pa re : Int} {rs : Bool} {va vb vn vi : Value} {l : List Bl} {ins : List In} {next : List Int} {dep : Int} (hO : OutR w pa re rs va l vb WO) (hB : BoxR g WO vn dep ins vi wr) (hg : ∀ q, g q → q < w.heap.size) (hn : NumsL w g next vn) :
    BlC wr (own (fun k => k ≠ w.heap.size + 1 ∧ k ≠ w.heap.size + 1 + 1) vb) ⟨ins, next, dep⟩ (blC dep vi vn) := by
 have h2 := (Array.getElem?_eq_some_iff.1 hO.b2).1
 have hlow : Below w.heap.size w wr := hO.be.trans (hB.be.mono (by omega))
 have ok : ∀ q, g q → own (fun k => k ≠ w.heap.size + 1 ∧ k ≠ w.heap.size + 1 + 1) vb q := fun q hq => ⟨fun e => by have := (hO.ow.lt q e).1; have := hg q hq; omega, by have := hg q hq; constructor <;> omega⟩
 refine ⟨vi, vn, rfl, hB.ow.made (fun x cs h => ?_) (fun k hk hk2 => ⟨fun e => by have := (hO.ow.lt k e).2; omega, by constructor <;> omega⟩), hn.moved fun k hk hgk => ⟨ok k hgk, hlow.block k (hg k hgk)⟩⟩
 exact h.moved fun k hk hgk => ⟨ok k hgk.2, rfl⟩
theorem out_step {w wr w5 : World} {pa re : Int} {rs : Bool} {va : Value} {l : List Bl} {qa : Option Addr} {qc gg cpn k : Nat} {xs : List Value} {y : Bl} {vi vn : Value} (hl : l.length = k) (hO : OutR w pa re rs va l (.slice qa k qc) wr)
    (hX : wr.ownsRow w.heap.size 56 3 (.slice qa k qc) k xs) (hits : Its (BlC wr (own (fun k => k ≠ w.heap.size + 1 ∧ k ≠ w.heap.size + 1 + 1) (.slice qa k qc))) 3 l xs)
    (hy : BlC wr (own (fun k => k ≠ w.heap.size + 1 ∧ k ≠ w.heap.size + 1 + 1) (.slice qa k qc)) y (blC y.dep vi vn))
    (hown : w5.ownsRow w.heap.size 56 3 (.slice (some ⟨gg, 0, none⟩) (k + 1) cpn) (k + 1) (xs ++ blC y.dep vi vn)) (hgrow : (wr.alloc (.cells (blC y.dep vi vn).toArray 56)).grownBy w5 (Value.slice qa k qc).ownBlock) (hat : (Value.slice qa k qc).ownBlock = some gg ∨ gg = wr.heap.size + 1) :
    OutR w pa re rs va (l ++ [y]) (.slice (some ⟨gg, 0, none⟩) (k + 1) cpn) (w5.setCell ⟨w.heap.size + 1 + 1, 3, none⟩ (.slice (some ⟨gg, 0, none⟩) (k + 1) cpn)) := by
 have hal : Below wr.heap.size wr (wr.alloc (.cells (blC y.dep vi vn).toArray 56)) := (Below.refl _ _).alloc (Nat.le_refl _) _
 have hsz : (wr.alloc (.cells (blC y.dep vi vn).toArray 56)).heap.size = wr.heap.size + 1 := by simp
 have no : ∀ (q : Nat) (A : Array Value) (t : TypeId), t ≠ 56 → wr.heap[q]? = some (Obj.cells A t (0, 0)) → w5.heap[q]? = some (Obj.cells A t (0, 0)) := fun q A t ht hq => by
  have hlt := (Array.getElem?_eq_some_iff.1 hq).1
  refine ((hgrow.block q (Nat.lt_of_lt_of_le hlt hal.size) (fun e => ?_)).trans (hal.block q hlt)).trans hq
  obtain ⟨cur, hc⟩ := hO.ow.blk q e.symm
  rw [hq] at hc
  simp at hc
  exact ht hc.2
 have h0 := no _ _ _ (by decide) hO.b0
 have h1 := no _ _ _ (by decide) hO.b1
 have h2 := no _ _ _ (by decide) hO.b2
 have hne : gg ≠ w.heap.size + 1 + 1 := fun e => by
  rcases hown.2 with ⟨h, _⟩ | ⟨g', _, cur, h, _, hc, _⟩
  ·cases h
  ·cases h
   rw [e, h2] at hc
   simp at hc
 have hsn := OwnL.snoc (It := BlC) (c := 3) (T := 56) (w := wr.alloc (.cells (blC y.dep vi vn).toArray 56)) (w1 := w5) (B := w.heap.size) (G := fun k => k ≠ w.heap.size + 1 ∧ k ≠ w.heap.size + 1 + 1) (v := .slice qa k qc) (l := l) (x := y) (g := gg) (cap := cpn) (fun x cs h hm => h.moved hm hgrow.size)
  (hits.mono (BlC.mv (Mv.below hal fun _ _ h => h) hal.size)) (hy.moved (Mv.below hal fun _ _ h => h) hal.size) rfl (by rw [hl]; exact hown) hgrow (by rw [hsz]; exact hat)
 rw [hl] at hsn
 have hbel : Below w.heap.size w w5 := (hO.be.alloc hO.be.size _).grown hgrow (by rw [hsz]; have := hO.be.size; omega) (fun q hq => (hX.lt q hq).1)
 refine ⟨(heap_setCell_other _ _ _ _ (by show w.heap.size ≠ w.heap.size + 1 + 1; omega)).trans h0, (heap_setCell_other _ _ _ _ (by show w.heap.size + 1 ≠ w.heap.size + 1 + 1; omega)).trans h1, (heap_setCell_same w5 _ 3 _ _ _ h2).trans rfl, ?_, hbel.setCell (p := ⟨w.heap.size + 1 + 1, 3, none⟩) (by show w.heap.size ≤ w.heap.size + 1 + 1; omega) _⟩
 refine OwnL.move hsn (fun q hq => ?_) (BlC.mv (fun q hq hgq => ⟨hgq, heap_setCell_other _ _ _ _ hgq.2.2⟩) (by simp))
 simp only [Value.ownBlock, Option.some.injEq] at hq
 subst hq
 exact heap_setCell_other _ _ _ _ hne
theorem out_keep {w wr w5 : World} {pa re : Int} {rs : Bool} {va : Value} {l : List Bl} {v : Value} {O : Obj} (hO : OutR w pa re rs va l v wr) (hgrow : (wr.alloc O).grownBy w5 v.ownBlock) :
    w5.heap[w.heap.size + 1 + 1]? = some (.cells (cob pa re rs v) 29 (0, 0)) := by
 have hlt := (Array.getElem?_eq_some_iff.1 hO.b2).1
 refine ((hgrow.block _ (by simp; omega) (fun e => ?_)).trans (Below.heap_alloc wr _ _ hlt)).trans hO.b2
 obtain ⟨cur, hc⟩ := hO.ow.blk _ e.symm
 rw [hO.b2] at hc
 simp at hc
/-- made: the result's box is written -/
theorem out_end {w wr W2 : World} {pa re : Int} {rs : Bool} {va : Value} {l : List Bl} {v : Value} (hO : OutR w pa re rs va l v wr) (hb : ∀ q, q ≠ w.heap.size + 1 → W2.heap[q]? = wr.heap[q]?) (hs : W2.heap.size = wr.heap.size) : Bls W2 (fun k => k < W2.heap.size) l v := by
 have h1 := (Array.getElem?_eq_some_iff.1 hO.b1).1
 have hm : OwnL BlC 3 56 W2 w.heap.size (fun k => k ≠ w.heap.size + 1 ∧ k ≠ w.heap.size + 1 + 1) v l := by
  refine OwnL.move hO.ow (fun q hq => hb q (fun e => ?_)) (BlC.mv (fun q hq hgq => ⟨hgq, hb q hgq.2.1⟩) (by rw [hs]; exact Nat.le_refl _))
  obtain ⟨cur, hc⟩ := hO.ow.blk q hq
  rw [e, hO.b1] at hc
  simp at hc
 refine hm.made (fun x cs h => ?_) (fun k _ hk => hk)
 exact h.moved (fun k hk hgk => ⟨hk, rfl⟩) (Nat.le_refl _)
theorem bel4b {B : Nat} {a w : World} (h : Below B a w) (b : Nat) (hb : B ≤ b) (v0 v1 v2 v3 : Value) : Below B a ((((w.setCell ⟨b, 0, none⟩ v0).setCell ⟨b, 1, none⟩ v1).setCell ⟨b, 2, none⟩ v2).setCell ⟨b, 3, none⟩ v3) ∧ ((((w.setCell ⟨b, 0, none⟩ v0).setCell ⟨b, 1, none⟩ v1).setCell ⟨b, 2, none⟩ v2).setCell ⟨b, 3, none⟩ v3).heap.size = w.heap.size ∧ ∀ q, q ≠ b → ((((w.setCell ⟨b, 0, none⟩ v0).setCell ⟨b, 1, none⟩ v1).setCell ⟨b, 2, none⟩ v2).setCell ⟨b, 3, none⟩ v3).heap[q]? = w.heap[q]? :=
 ⟨bel4 h b hb v0 v1 v2 v3, by simp, fun q hq => by rw [heap_setCell_other _ _ _ _ hq, heap_setCell_other _ _ _ _ hq, heap_setCell_other _ _ _ _ hq, heap_setCell_other _ _ _ _ hq]⟩
/- Code in rows of its own, the first block's and its first instruction's apart. -/
/-- blocks from lo up to hi stay -/
def Mo (w w' : World) (lo hi : Nat) : Prop := ∀ k, lo ≤ k → k < hi → w'.heap[k]? = w.heap[k]?
theorem Mo.sub {w w' : World} {lo hi lo' hi' : Nat} (h : Mo w w' lo hi) (h1 : lo ≤ lo') (h2 : hi' ≤ hi) : Mo w w' lo' hi' := fun k a b => h k (by omega) (by omega)
theorem Mo.below {w w' : World} {B lo hi : Nat} (h : Below B w w') (h2 : hi ≤ B) : Mo w w' lo hi := fun k a b => h.block k (by omega)
def RowT (w : World) (b : Nat) (T : TypeId) : Prop := ∃ cur, w.heap[b]? = some (.cells cur T (0, 0))
theorem RowT.move {w w' : World} {b : Nat} {T : TypeId} (h : RowT w b T) (hm : w'.heap[b]? = w.heap[b]?) : RowT w' b T := by
 obtain ⟨cur, h⟩ := h; exact ⟨cur, hm.trans h⟩
theorem RowT.set {w : World} {b i : Nat} {T : TypeId} {v : Value} (h : RowT w b T) : RowT (w.setCell ⟨b, i, none⟩ v) b T := by
 obtain ⟨cur, h⟩ := h; exact ⟨_, heap_setCell_same w b i _ _ v h⟩
theorem RowT.frozen {w : World} {b : Nat} {T : TypeId} (h : RowT w b T) (i : Nat) : w.frozen? ⟨b, i, none⟩ = false := by
 obtain ⟨cur, h⟩ := h; simp [World.frozen?, h]
theorem RowT.lt {w : World} {b : Nat} {T : TypeId} (h : RowT w b T) : b < w.heap.size := by
 obtain ⟨cur, h⟩ := h; exact (Array.getElem?_eq_some_iff.1 h).1
/-- numbers in a row of their own -/
def NumO (w : World) (lo hi : Nat) (zs : List Int) (v : Value) : Prop :=
 ∃ a cap, v = .slice a zs.length cap ∧ zs.length ≤ cap ∧ (a = none → cap = 0) ∧ (0 < zs.length → ∃ b, a = some ⟨b, 0, none⟩ ∧ lo ≤ b ∧ b < hi ∧ RowT w b 3 ∧ Nums w zs b 0)
theorem NumO.move {w w' : World} {lo hi lo' hi' : Nat} {zs : List Int} {v : Value} (h : NumO w lo hi zs v) (hm : Mo w w' lo hi) (h1 : lo' ≤ lo) (h2 : hi ≤ hi') : NumO w' lo' hi' zs v := by
 obtain ⟨a, cap, e, hc, hn, hl⟩ := h
 refine ⟨a, cap, e, hc, hn, fun h0 => ?_⟩
 obtain ⟨b, e, h3, h4, h5, h6⟩ := hl h0
 exact ⟨b, e, by omega, by omega, h5.move (hm b h3 h4), fun j hj => (World.cell?_of_block (a := ⟨b, 0 + j, none⟩) (hm b h3 h4)).trans (h6 j hj)⟩
theorem NumO.lies {w : World} {lo hi : Nat} {zs : List Int} {v : Value} (h : NumO w lo hi zs v) : NumsL w (fun k => lo ≤ k ∧ k < hi) zs v := by
 obtain ⟨a, cap, e, hc, hn, hl⟩ := h
 refine ⟨a, cap, e, hc, hn, fun h0 => ?_⟩
 obtain ⟨b, e, h3, h4, h5, h6⟩ := hl h0
 exact ⟨b, 0, e, ⟨h3, h4⟩, h6⟩
/-- a list in a row of its own, the first item's rows apart -/
def Own {α : Type} (New : World → Nat → Nat → α → List Value → Prop) (c : Nat) (T : TypeId) (w : World) (lo hi : Nat) (l : List α) (v : Value) : Prop :=
 ∃ a cap, v = .slice a l.length cap ∧ l.length ≤ cap ∧ (a = none → cap = 0) ∧ (0 < l.length → ∃ b p, a = some ⟨b, 0, none⟩ ∧ lo ≤ b ∧ b < p ∧ p ≤ hi ∧ RowT w b T ∧
  ∀ i x, l[i]? = some x → ∃ cs, cs.length = c ∧ New w (if i = 0 then b + 1 else p) (if i = 0 then p else hi) x cs ∧ ∀ j u, cs[j]? = some u → w.cell? ⟨b, i * c + j, none⟩ = some u)
def InO (w : World) (lo hi : Nat) (x : In) (cs : List Value) : Prop := ∃ v, cs = [.int .u8 (x.op : Int), .int .i64 x.dst, v, .int .i64 x.n, .int .u32 x.of] ∧ NumO w lo hi x.src v
def BlO (w : World) (lo hi : Nat) (x : Bl) (cs : List Value) : Prop := ∃ v v' q, cs = [v, v', .int .i64 x.dep] ∧ lo ≤ q ∧ q ≤ hi ∧ NumO w lo q x.next v' ∧ Own InO 5 53 w q hi x.ins v
def CoO (w : World) (lo hi : Nat) (l : List Bl) (v : Value) : Prop := Own BlO 3 56 w lo hi l v
def Moves {α : Type} (New : World → Nat → Nat → α → List Value → Prop) : Prop := ∀ (w w' : World) (lo hi lo' hi' : Nat) (x : α) (cs : List Value), New w lo hi x cs → Mo w w' lo hi → lo' ≤ lo → hi ≤ hi' → New w' lo' hi' x cs
theorem InO.moves : Moves InO := fun w w' lo hi lo' hi' x cs ⟨v, e, h⟩ hm h1 h2 => ⟨v, e, h.move hm h1 h2⟩
theorem Own.move {α : Type} {New : World → Nat → Nat → α → List Value → Prop} {c : Nat} {T : TypeId} {w w' : World} {lo hi lo' hi' : Nat} {l : List α} {v : Value} (hN : Moves New) (h : Own New c T w lo hi l v) (hm : Mo w w' lo hi) (h1 : lo' ≤ lo) (h2 : hi ≤ hi') : Own New c T w' lo' hi' l v := by
 obtain ⟨a, cap, e, hc, hn, hl⟩ := h
 refine ⟨a, cap, e, hc, hn, fun h0 => ?_⟩
 obtain ⟨b, p, e, h3, h4, h5, h6, h7⟩ := hl h0
 have hb := hm b h3 (by omega)
 refine ⟨b, p, e, by omega, h4, by omega, h6.move hb, fun i x hx => ?_⟩
 obtain ⟨cs, k1, k2, k3⟩ := h7 i x hx
 refine ⟨cs, k1, ?_, fun j u hu => (World.cell?_of_block (a := ⟨b, i * c + j, none⟩) hb).trans (k3 j u hu)⟩
 by_cases hi0 : i = 0
 ·rw [if_pos hi0, if_pos hi0] at k2 ⊢
  exact hN _ _ _ _ _ _ _ _ k2 (hm.sub (by omega) (by omega)) (by omega) (by omega)
 ·rw [if_neg hi0, if_neg hi0] at k2 ⊢
  exact hN _ _ _ _ _ _ _ _ k2 (hm.sub (by omega) (by omega)) (by omega) (by omega)
theorem BlO.moves : Moves BlO := fun w w' lo hi lo' hi' x cs ⟨v, v', q, e, k1, k2, h, h'⟩ hm h1 h2 =>
 ⟨v, v', q, e, by omega, by omega, h.move (hm.sub (by omega) (by omega)) (by omega) (by omega), Own.move InO.moves h' (hm.sub (by omega) (by omega)) (by omega) (by omega)⟩
theorem Own.lies {α : Type} {New : World → Nat → Nat → α → List Value → Prop} {It : World → (Nat → Prop) → α → List Value → Prop} {c : Nat} {T : TypeId} {w : World} {lo hi : Nat} {l : List α} {v : Value} (h : Own New c T w lo hi l v) {g : Nat → Prop} (hg : ∀ k, lo ≤ k → k < hi → g k) (hI : ∀ lo' hi' x cs, lo ≤ lo' → hi' ≤ hi → New w lo' hi' x cs → It w g x cs) : LL It c w g l v := by
 obtain ⟨a, cap, e, hc, hn, hl⟩ := h
 refine ⟨a, cap, e, hc, hn, fun h0 => ?_⟩
 obtain ⟨b, p, e, h3, h4, h5, h6, h7⟩ := hl h0
 refine ⟨b, 0, e, hg b h3 (by omega), h6.lt, fun i x hx => ?_⟩
 obtain ⟨cs, k1, k2, k3⟩ := h7 i x hx
 refine ⟨cs, k1, ?_, fun j u hu => by rw [Nat.zero_add]; exact k3 j u hu⟩
 by_cases hi0 : i = 0
 ·rw [if_pos hi0, if_pos hi0] at k2
  exact hI _ _ _ _ (by omega) (by omega) k2
 ·rw [if_neg hi0, if_neg hi0] at k2
  exact hI _ _ _ _ (by omega) (by omega) k2
theorem NumsL.wide {w : World} {g g' : Nat → Prop} {zs : List Int} {v : Value} (h : NumsL w g zs v) (hg : ∀ k, g k → g' k) : NumsL w g' zs v := h.moved fun k _ hk => ⟨hg k hk, rfl⟩
theorem InO.inc {w : World} {lo hi : Nat} {g : Nat → Prop} {x : In} {cs : List Value} (h : InO w lo hi x cs) (hg : ∀ k, lo ≤ k → k < hi → g k) : InC w g x cs := by
 obtain ⟨v, e, h⟩ := h
 exact ⟨v, e, h.lies.wide fun k hk => hg k hk.1 hk.2⟩
theorem BlO.blc {w : World} {lo hi : Nat} {g : Nat → Prop} {x : Bl} {cs : List Value} (h : BlO w lo hi x cs) (hg : ∀ k, lo ≤ k → k < hi → g k) : BlC w g x cs := by
 obtain ⟨v, v', q, e, k1, k2, h, h'⟩ := h
 exact ⟨v, v', e, h'.lies (fun k a b => hg k (by omega) b) (fun lo' hi' y ds a b hy => hy.inc fun k a b => hg k (by omega) (by omega)), h.lies.wide fun k hk => hg k hk.1 (by omega)⟩
theorem CoO.bls {w : World} {lo hi : Nat} {g : Nat → Prop} {l : List Bl} {v : Value} (h : CoO w lo hi l v) (hg : ∀ k, lo ≤ k → k < hi → g k) : Bls w g l v :=
 Own.lies h hg fun lo' hi' y ds a b hy => hy.blc fun k a b => hg k (by omega) (by omega)
/-- while a row is gone over: the items up to k in rows of their own, the others as they came -/
structure Row {α : Type} (New : World → Nat → Nat → α → List Value → Prop) (Old : α → List Value → Prop) (c : Nat) (T : TypeId) (l : List α) (k B p : Nat) (w : World) : Prop where
 t : RowT w B T
 lp : B < p
 ph : p ≤ w.heap.size
 it : ∀ i x, l[i]? = some x → ∃ cs, cs.length = c ∧ (i < k → New w (if i = 0 then B + 1 else p) (if i = 0 then p else w.heap.size) x cs) ∧ (k ≤ i → Old x cs) ∧ ∀ j u, cs[j]? = some u → w.cell? ⟨B, i * c + j, none⟩ = some u
/-- what stays while an item of a row is turned -/
structure Turn (c B k : Nat) (w w' : World) : Prop where
 sz : w.heap.size ≤ w'.heap.size
 ot : ∀ q, q < w.heap.size → q ≠ B → w'.heap[q]? = w.heap[q]?
 ce : ∀ i, i < k * c ∨ (k + 1) * c ≤ i → w'.cell? ⟨B, i, none⟩ = w.cell? ⟨B, i, none⟩
theorem Turn.refl (c B k : Nat) (w : World) : Turn c B k w w := ⟨Nat.le_refl _, fun _ _ _ => rfl, fun _ _ => rfl⟩
theorem Turn.below {c B k : Nat} {w w1 w2 : World} (h : Turn c B k w w1) (hB : B < w1.heap.size) (hb : Below w1.heap.size w1 w2) : Turn c B k w w2 :=
 ⟨Nat.le_trans h.sz hb.size, fun q hq hn => (hb.block q (Nat.lt_of_lt_of_le hq h.sz)).trans (h.ot q hq hn), fun i hi => (hb.cell (p := ⟨B, i, none⟩) hB).trans (h.ce i hi)⟩
theorem Turn.set {c B k : Nat} {w w1 : World} (h : Turn c B k w w1) (j : Nat) (hj : j < c) (v : Value) : Turn c B k w (w1.setCell ⟨B, k * c + j, none⟩ v) := by
 refine ⟨by simpa using h.sz, fun q hq hn => (heap_setCell_other _ _ _ _ hn).trans (h.ot q hq hn), fun i hi => ?_⟩
 have hne : (⟨B, k * c + j, none⟩ : Addr) ≠ ⟨B, i, none⟩ := by
  intro e; injection e with _ e2 _
  rw [Nat.add_mul] at hi; omega
 exact (World.cell?_setCell_other w1 _ _ v hne).trans (h.ce i hi)
/-- behind what leaves all but a later row -/
theorem Turn.other {c B k : Nat} {w w1 w2 : World} (h : Turn c B k w w1) (hB : B < w1.heap.size) (hs : w1.heap.size ≤ w2.heap.size) (hb : ∀ q, q < w1.heap.size → q < w.heap.size → w2.heap[q]? = w1.heap[q]?) (hBw : B < w.heap.size) : Turn c B k w w2 :=
 ⟨Nat.le_trans h.sz hs, fun q hq hn => (hb q (Nat.lt_of_lt_of_le hq h.sz) hq).trans (h.ot q hq hn), fun i hi => (World.cell?_of_block (a := ⟨B, i, none⟩) (hb B hB hBw)).trans (h.ce i hi)⟩
theorem Row.step {α : Type} {New : World → Nat → Nat → α → List Value → Prop} {Old : α → List Value → Prop} {c : Nat} {T : TypeId} {l : List α} {k B p : Nat} {w w' : World} {x : α} {cs : List Value} (hN : Moves New) (h : Row New Old c T l k B p w) (ht : Turn c B k w w') (hT : RowT w' B T)
    (hk : l[k]? = some x) (hc : cs.length = c) (hx : New w' w.heap.size w'.heap.size x cs) (hce : ∀ j u, cs[j]? = some u → w'.cell? ⟨B, k * c + j, none⟩ = some u) : ∃ p', Row New Old c T l (k + 1) B p' w' := by
 have hBl := h.t.lt
 refine ⟨if k = 0 then w'.heap.size else p, hT, ?_, ?_, fun i y hy => ?_⟩
 ·have := h.lp; have := ht.sz; split <;> omega
 ·have := h.ph; have := ht.sz; split <;> omega
 ·by_cases hik : i = k
  ·subst hik
   obtain rfl : x = y := by rw [hk] at hy; exact Option.some.inj hy
   refine ⟨cs, hc, fun _ => ?_, fun h2 => absurd h2 (by omega), hce⟩
   by_cases h0 : i = 0
   ·simp only [h0, if_true]
    exact hN _ _ _ _ _ _ _ _ hx (fun _ _ _ => rfl) (by omega) (Nat.le_refl _)
   ·simp only [h0, if_false]
    exact hN _ _ _ _ _ _ _ _ hx (fun _ _ _ => rfl) h.ph (Nat.le_refl _)
  ·obtain ⟨ds, k1, k2, k3, k4⟩ := h.it i y hy
   refine ⟨ds, k1, fun hlt => ?_, fun h2 => k3 (by omega), fun j u hu => ?_⟩
   ·have hk0 : ¬ k = 0 := by omega
    have h5 := k2 (by omega)
    rw [if_neg hk0]
    by_cases h0 : i = 0
    ·rw [if_pos h0, if_pos h0] at h5 ⊢
     exact hN _ _ _ _ _ _ _ _ h5 (fun q a b => ht.ot q (by have := h.ph; omega) (by omega)) (Nat.le_refl _) (Nat.le_refl _)
    ·rw [if_neg h0, if_neg h0] at h5 ⊢
     exact hN _ _ _ _ _ _ _ _ h5 (fun q a b => ht.ot q b (by have := h.lp; omega)) (Nat.le_refl _) ht.sz
   ·have hj : j < c := by have := (List.getElem?_eq_some_iff.1 hu).1; omega
    rw [ht.ce (i * c + j) (by
     rcases Nat.lt_or_gt_of_ne hik with h6 | h6
     ·left; have : (i + 1) * c ≤ k * c := Nat.mul_le_mul_right _ h6; rw [Nat.add_mul] at this; omega
     ·right; have : (k + 1) * c ≤ i * c := Nat.mul_le_mul_right _ h6; omega)]
    exact k4 j u hu
theorem Row.done {α : Type} {New : World → Nat → Nat → α → List Value → Prop} {Old : α → List Value → Prop} {c : Nat} {T : TypeId} {l : List α} {B p lo cap : Nat} {w : World} (h : Row New Old c T l l.length B p w) (hlo : lo ≤ B) (hcap : l.length ≤ cap) : Own New c T w lo w.heap.size l (.slice (some ⟨B, 0, none⟩) l.length cap) := by
 refine ⟨_, cap, rfl, hcap, by simp, fun _ => ⟨B, p, rfl, hlo, h.lp, h.ph, h.t, fun i x hx => ?_⟩⟩
 obtain ⟨cs, k1, k2, _, k4⟩ := h.it i x hx
 exact ⟨cs, k1, k2 (List.getElem?_eq_some_iff.1 hx).1, k4⟩
/-- items as they came, in a row -/
def LLf {α : Type} (It : α → List Value → Prop) (c : Nat) (w : World) (l : List α) (v : Value) : Prop := LL (fun _ _ => It) c w (fun _ => True) l v
theorem LLf.of {α : Type} {It : World → (Nat → Prop) → α → List Value → Prop} {c : Nat} {w w' : World} {g : Nat → Prop} {l : List α} {v : Value} (h : LL It c w g l v) (hb : ∀ k, g k → k < w.heap.size → w'.heap[k]? = w.heap[k]?) (hs : w.heap.size ≤ w'.heap.size) : LLf (It w g) c w' l v :=
 Lies.move h fun hl b o hg hp => by
  refine ⟨trivial, Nat.lt_of_lt_of_le hp.1 hs, fun i x hx => ?_⟩
  obtain ⟨cs, h1, h2, h3⟩ := hp.2 i x hx
  exact ⟨cs, h1, h2, fun j u hu => (World.cell?_of_block (a := ⟨b, o + i * c + j, none⟩) (hb b hg hp.1)).trans (h3 j u hu)⟩
/-- the cells of such a list -/
theorem LLf.cells {α : Type} {It : α → List Value → Prop} {c : Nat} {w : World} {l : List α} {a : Option Addr} {n cp : Nat} (hc : 0 < c) (hone : ∀ x cs, It x cs → ∀ u ∈ cs, u.oneCell' = true) (h : LLf It c w l (.slice a n cp)) :
    ∃ xs : List Value, n = l.length ∧ (a = none → n = 0 ∧ cp = 0) ∧ xs.length = n * c ∧ Its It c l xs ∧ (∀ ad, a = some ad → ∀ j u, xs[j]? = some u → w.cell? (ad.add j) = some u) ∧ ∀ u ∈ xs, u.oneCell' = true := by
 obtain ⟨a', cap', e, hle, hn, hl⟩ := h
 cases e
 by_cases h0 : 0 < l.length
 ·obtain ⟨b, o, rfl, _, hlt, hit⟩ := hl h0
  have hcell : ∀ q, q < l.length * c → ∃ i r x cs, q = i * c + r ∧ r < c ∧ l[i]? = some x ∧ cs.length = c ∧ It x cs ∧ cs[r]? = w.cell? ⟨b, o + q, none⟩ ∧ (w.cell? ⟨b, o + q, none⟩).isSome = true := by
   intro q hq
   have hi : q / c < l.length := (Nat.div_lt_iff_lt_mul hc).2 hq
   have hr : q % c < c := Nat.mod_lt _ hc
   have hqe : q = q / c * c + q % c := by rw [Nat.mul_comm]; exact (Nat.div_add_mod q c).symm
   obtain ⟨cs, h1, h2, h3⟩ := hit (q / c) _ (List.getElem?_eq_getElem hi)
   have hg := List.getElem?_eq_getElem (l := cs) (i := q % c) (by omega)
   have h4 := h3 (q % c) _ hg
   rw [show o + q / c * c + q % c = o + q by omega] at h4
   exact ⟨q / c, q % c, _, cs, hqe, hr, List.getElem?_eq_getElem hi, h1, h2, by rw [h4, hg], by rw [h4]; rfl⟩
  have hlen : ((List.range (l.length * c)).map fun j => (w.cell? ⟨b, o + j, none⟩).getD .nilIface).length = l.length * c := by simp
  have hat : ∀ q, q < l.length * c → ((List.range (l.length * c)).map fun j => (w.cell? ⟨b, o + j, none⟩).getD .nilIface)[q]? = w.cell? ⟨b, o + q, none⟩ := by
   intro q hq
   obtain ⟨_, _, _, _, _, _, _, _, _, _, hs⟩ := hcell q hq
   obtain ⟨u, hu⟩ := Option.isSome_iff_exists.1 hs
   simp [List.getElem?_map, List.getElem?_range hq, hu]
  refine ⟨_, rfl, by simp, hlen, ⟨hlen, fun i x hx => ?_⟩, fun ad e j u hu => ?_, fun u hu => ?_⟩
  ·obtain ⟨cs, h1, h2, h3⟩ := hit i x hx
   refine ⟨cs, h1, h2, fun j hj => ?_⟩
   have hi := (List.getElem?_eq_some_iff.1 hx).1
   have hq : i * c + j < l.length * c := by
    have : (i + 1) * c ≤ l.length * c := Nat.mul_le_mul_right _ hi
    rw [Nat.add_mul] at this; omega
   rw [hat _ hq]
   have hg := List.getElem?_eq_getElem (l := cs) (i := j) (by omega)
   rw [hg, ← h3 j _ hg, Nat.add_assoc]
  ·cases e
   have hq : j < l.length * c := by have := (List.getElem?_eq_some_iff.1 hu).1; rwa [hlen] at this
   rw [hat _ hq] at hu
   rw [Addr.add_lit]
   exact hu
  ·obtain ⟨q, hq, rfl⟩ := List.getElem_of_mem hu
   have hq2 : q < l.length * c := by rwa [hlen] at hq
   obtain ⟨i, r, x, cs, _, _, _, _, h2, h3, _⟩ := hcell q hq2
   have h4 := hat q hq2
   rw [List.getElem?_eq_getElem hq, ← h3] at h4
   exact hone x cs h2 _ (List.mem_of_getElem? h4.symm)
 ·obtain rfl : l = [] := List.eq_nil_of_length_eq_zero (by omega)
  exact ⟨[], rfl, fun e => ⟨rfl, hn e⟩, by simp, Its.nil _ _, fun _ _ j u hu => by simp at hu, fun u hu => by simp at hu⟩
/-- a row that was just made -/
theorem row_new {α : Type} {New : World → Nat → Nat → α → List Value → Prop} {It : α → List Value → Prop} {c : Nat} {T : TypeId} {l : List α} {g cap N : Nat} {w : World} {xs : List Value} (hi : Its It c l xs) (ho : w.ownsRow N T c (.slice (some ⟨g, 0, none⟩) l.length cap) l.length xs) : Row New It c T l 0 g w.heap.size w ∧ N ≤ g ∧ l.length ≤ cap := by
 have hc := row_cells ho
 rcases ho.2 with ⟨h, _⟩ | ⟨g', cap', cur, h, hg, hh, hcap, _⟩
 ·cases h
 ·cases h
  have ht : RowT w g T := ⟨cur, hh⟩
  refine ⟨⟨ht, ht.lt, Nat.le_refl _, fun i x hx => ?_⟩, hg, hcap⟩
  obtain ⟨cs, h1, h2, h3⟩ := hi.2 i x hx
  refine ⟨cs, h1, fun h => absurd h (by omega), fun _ => h2, fun j u hu => hc _ u ?_⟩
  rw [h3 j (by have := (List.getElem?_eq_some_iff.1 hu).1; omega)]; exact hu
theorem inC_ones {w : World} {g : Nat → Prop} : ∀ x cs, InC w g x cs → ∀ u ∈ cs, u.oneCell' = true := by
 rintro x cs ⟨v, rfl, a, cap, rfl, _⟩
 exact inC_one x _ ⟨_, _, _, rfl⟩
theorem blC_ones {w : World} {g : Nat → Prop} : ∀ x cs, BlC w g x cs → ∀ u ∈ cs, u.oneCell' = true := by
 rintro x cs ⟨v, v', rfl, ⟨a, cap, rfl, _⟩, ⟨a', cap', rfl, _⟩⟩
 exact blC_one x.dep _ _ ⟨_, _, _, rfl⟩ ⟨_, _, _, rfl⟩
/-- slices.Clone of numbers -/
theorem clNums (zs : List Int) (g : Nat → Prop) (v : Value) (w : World) (h : NumsL w g zs v) (hn : zs.length ≤ 1099511627776) :
    Calls Tryz.prog 57 #[v] w fun e w' => ∃ v', e = .returned v' ∧ NumO w' w.heap.size w'.heap.size zs v' ∧ Below w.heap.size w w' := by
 obtain ⟨a, cp, rfl, hle, hno, hl⟩ := h
 refine (clN_any zs.length (zs.map (Value.int .i64)) a cp w (fun e => ⟨?_, hno e⟩) (by simp) (fun ad e j u hu => ?_) (fun u hu => ?_) hn).mono ?_
 ·have := hno e; omega
 ·have hj : j < zs.length := by have := (List.getElem?_eq_some_iff.1 hu).1; simpa using this
  obtain ⟨b, o, e2, _, hc⟩ := hl (by omega)
  rw [e] at e2; cases e2
  rw [Addr.add_lit, hc j hj]
  rw [List.getElem?_map, List.getElem?_eq_getElem hj] at hu
  simp only [Option.map_some, Option.some.injEq] at hu
  rw [← hu]; simp [List.getD, List.getElem?_eq_getElem hj]
 ·simp only [List.mem_map] at hu
  obtain ⟨z, _, rfl⟩ := hu; rfl
 ·rintro e w' ⟨v', rfl, hc, hb⟩
  refine ⟨v', rfl, ?_, hb⟩
  rcases hc with ⟨h0, ho⟩ | ⟨h0, b, cap, rfl, ho⟩
  ·obtain ⟨a', cap, rfl, hn'⟩ := own0 ho
   exact ⟨a', cap, by rw [h0], by omega, hn', fun h => by omega⟩
  ·have hce := row_cells ho
   rcases ho.2 with ⟨h, _⟩ | ⟨g', cap', cur, h, hg, hh, hcap, _⟩
   ·cases h
   ·cases h
    have ht : RowT w' b 3 := ⟨cur, hh⟩
    refine ⟨_, cap, rfl, hcap, by simp, fun _ => ⟨b, rfl, hg, ht.lt, ht, fun j hj => ?_⟩⟩
    rw [Nat.zero_add]
    refine hce j _ ?_
    rw [List.getElem?_map, List.getElem?_eq_getElem hj]
    simp [List.getD, List.getElem?_eq_getElem hj]
/-- what Clone of a list leaves -/
def RawO {α : Type} (New : World → Nat → Nat → α → List Value → Prop) (It : α → List Value → Prop) (c : Nat) (T : TypeId) (N : Nat) (w' : World) (l : List α) (v : Value) : Prop :=
 (l = [] ∧ w'.ownsRow N T c v 0 []) ∨ (0 < l.length ∧ ∃ B cap, v = .slice (some ⟨B, 0, none⟩) l.length cap ∧ Row New It c T l 0 B w'.heap.size w' ∧ N ≤ B ∧ l.length ≤ cap)
theorem clIns (New : World → Nat → Nat → In → List Value → Prop) (It : In → List Value → Prop) (hone : ∀ x cs, It x cs → ∀ u ∈ cs, u.oneCell' = true) (l : List In) (v : Value) (w : World) (h : LLf It 5 w l v) (hn : l.length ≤ 1099511627776) :
    Calls Tryz.prog 93 #[v] w fun e w' => ∃ v', e = .returned v' ∧ RawO New It 5 53 w.heap.size w' l v' ∧ Below w.heap.size w w' := by
 obtain ⟨a, cp, rfl, _⟩ := id h
 obtain ⟨xs, e1, h2, h3, h4, h5, h6⟩ := h.cells (by omega) hone
 refine (clI_any l.length xs a cp w h2 h3 h5 h6 hn).mono ?_
 rintro e w' ⟨v', rfl, hc, hb⟩
 refine ⟨v', rfl, ?_, hb⟩
 rcases hc with ⟨h0, h7⟩ | ⟨h0, b, cap, rfl, ho⟩
 ·exact .inl ⟨List.eq_nil_of_length_eq_zero h0, h7⟩
 ·exact .inr ⟨h0, b, cap, rfl, row_new h4 ho⟩
theorem clBls (New : World → Nat → Nat → Bl → List Value → Prop) (It : Bl → List Value → Prop) (hone : ∀ x cs, It x cs → ∀ u ∈ cs, u.oneCell' = true) (l : List Bl) (v : Value) (w : World) (h : LLf It 3 w l v) (hn : l.length ≤ 1099511627776) :
    Calls Tryz.prog 70 #[v] w fun e w' => ∃ v', e = .returned v' ∧ RawO New It 3 56 w.heap.size w' l v' ∧ Below w.heap.size w w' := by
 obtain ⟨a, cp, rfl, _⟩ := id h
 obtain ⟨xs, e1, h2, h3, h4, h5, h6⟩ := h.cells (by omega) hone
 refine (clB_any l.length xs a cp w h2 h3 h5 h6 hn).mono ?_
 rintro e w' ⟨v', rfl, hc, hb⟩
 refine ⟨v', rfl, ?_, hb⟩
 rcases hc with ⟨h0, h7⟩ | ⟨h0, b, cap, rfl, ho⟩
 ·exact .inl ⟨List.eq_nil_of_length_eq_zero h0, h7⟩
 ·exact .inr ⟨h0, b, cap, rfl, row_new h4 ho⟩
/- vcode.Clone. -/
theorem Row.keep {α : Type} {New : World → Nat → Nat → α → List Value → Prop} {Old : α → List Value → Prop} {c : Nat} {T : TypeId} {l : List α} {k B p : Nat} {w w' : World} (hN : Moves New) (h : Row New Old c T l k B p w) (hq : ∀ q, B ≤ q → w'.heap[q]? = w.heap[q]?) (hs : w'.heap.size = w.heap.size) : Row New Old c T l k B p w' := by
 refine ⟨h.t.move (hq B (Nat.le_refl _)), h.lp, by rw [hs]; exact h.ph, fun i x hx => ?_⟩
 obtain ⟨cs, k1, k2, k3, k4⟩ := h.it i x hx
 refine ⟨cs, k1, fun hlt => ?_, k3, fun j u hu => (World.cell?_of_block (a := ⟨B, i * c + j, none⟩) (hq B (Nat.le_refl _))).trans (k4 j u hu)⟩
 have h5 := k2 hlt
 have := h.lp
 rw [hs]
 exact hN _ _ _ _ _ _ _ _ h5 (fun q a b => hq q (by split at a <;> omega)) (Nat.le_refl _) (Nat.le_refl _)
/-- while blocks are cloned -/
structure COut (w : World) (g : Nat → Prop) (pa re : Int) (rs : Bool) (bl : List Bl) (n cap B j p : Nat) (wr : World) : Prop where
 b0 : wr.heap[w.heap.size]? = some (.cells (cob pa re rs (.slice (some ⟨B, 0, none⟩) n cap)) 29 (0, 0))
 b1 : wr.heap[w.heap.size + 1]? = some (.cells (cob 0 0 false (.slice none 0 0)) 29 (0, 0))
 hB : w.heap.size + 2 ≤ B
 row : Row BlO (BlC w g) 3 56 bl j B p wr
 be : Below w.heap.size w wr
theorem COut.next {w : World} {g : Nat → Prop} {pa re : Int} {rs : Bool} {bl : List Bl} {n cap B j p : Nat} {wr wq : World} {x : Bl} {cs : List Value} (h : COut w g pa re rs bl n cap B j p wr) (ht : Turn 3 B j wr wq) (hT : RowT wq B 56) (hbe : Below w.heap.size w wq) (hx : bl[j]? = some x) (hc : cs.length = 3) (hn : BlO wq wr.heap.size wq.heap.size x cs)
    (hce : ∀ q u, cs[q]? = some u → wq.cell? ⟨B, j * 3 + q, none⟩ = some u) : ∃ p', COut w g pa re rs bl n cap B (j + 1) p' wq := by
 have hB := h.hB
 have h0 := (Array.getElem?_eq_some_iff.1 h.b0).1
 have h1 := (Array.getElem?_eq_some_iff.1 h.b1).1
 obtain ⟨p', hr⟩ := h.row.step BlO.moves ht hT hx hc hn hce
 exact ⟨p', (ht.ot _ h0 (by omega)).trans h.b0, (ht.ot _ h1 (by omega)).trans h.b1, hB, hr, hbe⟩
theorem COut.fin {w : World} {g : Nat → Prop} {pa re : Int} {rs : Bool} {bl : List Bl} {n cap B j p q : Nat} {wr wq : World} {ins : List In} {next : List Int} {dep : Int} {vi vn : Value} (h : COut w g pa re rs bl n cap B j p wr) (hx : bl[j]? = some ⟨ins, next, dep⟩) (ht : Turn 3 B j wr wq) (hT : RowT wq B 56) (hbe : Below w.heap.size w wq) (h1 : wr.heap.size ≤ q) (h2 : q ≤ wq.heap.size)
    (hn : NumO wq wr.heap.size q next vn) (hi : Own InO 5 53 wq q wq.heap.size ins vi) (c0 : wq.cell? ⟨B, j * 3, none⟩ = some vi) (c1 : wq.cell? ⟨B, j * 3 + 1, none⟩ = some vn) (c2 : wq.cell? ⟨B, j * 3 + 2, none⟩ = some (.int .i64 dep)) : ∃ p', COut w g pa re rs bl n cap B (j + 1) p' wq := by
 refine h.next (cs := [vi, vn, .int .i64 dep]) ht hT hbe hx rfl ⟨vi, vn, q, rfl, h1, h2, hn, hi⟩ (fun q u hu => ?_)
 match q, hu with
 | 0, hu => cases hu; exact c0
 | 1, hu => cases hu; exact c1
 | 2, hu => cases hu; exact c2
 | q + 3, hu => simp at hu
/-- while a block's instructions are cloned -/
structure CIn (w : World) (g : Nat → Prop) (ins : List In) (BI k p : Nat) (W wq : World) : Prop where
 row : Row InO (InC w g) 5 53 ins k BI p wq
 sz : W.heap.size ≤ wq.heap.size
 ot : ∀ q, q < W.heap.size → q ≠ BI → wq.heap[q]? = W.heap[q]?
 be : Below w.heap.size w wq
theorem CIn.next {w : World} {g : Nat → Prop} {ins : List In} {BI k p : Nat} {W wq w5 : World} {y : In} {vs v5 : Value} (h : CIn w g ins BI k p W wq) (hy : ins[k]? = some y) (hb : Below wq.heap.size wq w5) (hn : NumO w5 wq.heap.size w5.heap.size y.src v5) (hlt : w.heap.size ≤ BI)
    (f0 : wq.cell? ⟨BI, k * 5 + 0, none⟩ = some (.int .u8 (y.op : Int))) (f1 : wq.cell? ⟨BI, k * 5 + 1, none⟩ = some (.int .i64 y.dst)) (f2 : wq.cell? ⟨BI, k * 5 + 2, none⟩ = some vs) (f3 : wq.cell? ⟨BI, k * 5 + 3, none⟩ = some (.int .i64 y.n)) (f4 : wq.cell? ⟨BI, k * 5 + 4, none⟩ = some (.int .u32 y.of)) :
    ∃ p', CIn w g ins BI (k + 1) p' W (w5.setCell ⟨BI, k * 5 + 2, none⟩ v5) := by
 have hl := h.row.t.lt
 have ht : Turn 5 BI k wq (w5.setCell ⟨BI, k * 5 + 2, none⟩ v5) := ((Turn.refl 5 BI k wq).below hl hb).set 2 (by omega) v5
 have hT : RowT (w5.setCell ⟨BI, k * 5 + 2, none⟩ v5) BI 53 := (h.row.t.move (hb.block BI hl)).set
 have oth : ∀ q u, q ≠ 2 → wq.cell? ⟨BI, k * 5 + q, none⟩ = some u → (w5.setCell ⟨BI, k * 5 + 2, none⟩ v5).cell? ⟨BI, k * 5 + q, none⟩ = some u := fun q u hq hu => by
  have hne : (⟨BI, k * 5 + 2, none⟩ : Addr) ≠ ⟨BI, k * 5 + q, none⟩ := by intro e; injection e with _ e2 _; omega
  exact (World.cell?_setCell_other w5 _ _ v5 hne).trans ((hb.cell (p := ⟨BI, k * 5 + q, none⟩) hl).trans hu)
 have h2 : (w5.setCell ⟨BI, k * 5 + 2, none⟩ v5).cell? ⟨BI, k * 5 + 2, none⟩ = some v5 := World.cell?_setCell_same w5 _ v5 ((hb.cell (p := ⟨BI, k * 5 + 2, none⟩) hl).trans f2)
 obtain ⟨p', hr⟩ := h.row.step (x := y) (cs := [.int .u8 (y.op : Int), .int .i64 y.dst, v5, .int .i64 y.n, .int .u32 y.of]) InO.moves ht hT hy rfl
  ⟨v5, rfl, hn.move (fun q a b => heap_setCell_other _ _ _ _ (by show q ≠ BI; omega)) (Nat.le_refl _) (by simp)⟩
  (fun q u hu => by
   match q, hu with
   | 0, hu => cases hu; exact oth 0 _ (by omega) f0
   | 1, hu => cases hu; exact oth 1 _ (by omega) f1
   | 2, hu => cases hu; exact h2
   | 3, hu => cases hu; exact oth 3 _ (by omega) f3
   | 4, hu => cases hu; exact oth 4 _ (by omega) f4
   | q + 5, hu => simp at hu)
 refine ⟨p', hr, Nat.le_trans h.sz ht.sz, fun q hq hne => (ht.ot q (Nat.lt_of_lt_of_le hq h.sz) hne).trans (h.ot q hq hne), ?_⟩
 exact (h.be.trans (hb.mono h.be.size)).setCell (p := ⟨BI, k * 5 + 2, none⟩) hlt v5
theorem CoO_nil (w : World) (lo hi : Nat) (a : Option Addr) (cap : Nat) (h : a = none → cap = 0) : CoO w lo hi [] (.slice a 0 cap) := ⟨a, cap, rfl, Nat.zero_le _, h, fun h => by simp at h⟩
theorem InsO_nil (w : World) (lo hi : Nat) (a : Option Addr) (cap : Nat) (h : a = none → cap = 0) : Own InO 5 53 w lo hi [] (.slice a 0 cap) := ⟨a, cap, rfl, Nat.zero_le _, h, fun h => by simp at h⟩
theorem clone_any (c : Co) (hc : WfC c) (g : Nat → Prop) (v : Value) (w : World) (hv : Bls w g c.bl v) (hg : ∀ k, g k → k < w.heap.size) :
    Calls Tryz.prog 66 #[.agg #[.int .i64 c.pa, .int .i64 c.re, .bool c.rs, v]] w fun e w' => ∃ v', e = .returned (.agg #[.int .i64 c.pa, .int .i64 c.re, .bool c.rs, v']) ∧ CoO w' w.heap.size w'.heap.size c.bl v' ∧ (c.bl = [] → w'.ownsRow w.heap.size 56 3 v' 0 []) ∧ Below w.heap.size w w' := by
 have hlen := hc.len
 have HWf := hide hc.bl; have HV := hide hv; have HG := hide hg
 clear hc hg
 obtain ⟨pa, re, rs, bl⟩ := c
 simp only at *
 obtain ⟨a, cp, rfl, _⟩ := hv
 have hb2 : Below w.heap.size w ((w.alloc (.cells #[.int .i64 pa, .int .i64 re, .bool rs, .slice a bl.length cp] 29)).alloc (.cells #[.int .i64 0, .int .i64 0, .bool false, .slice none 0 0] 29)) := two_allocs w _ _
 have r0 : ((w.alloc (.cells #[.int .i64 pa, .int .i64 re, .bool rs, .slice a bl.length cp] 29)).alloc (.cells #[.int .i64 0, .int .i64 0, .bool false, .slice none 0 0] 29)).heap[w.heap.size]? = some (.cells (cob pa re rs (.slice a bl.length cp)) 29 (0, 0)) := by
  rw [Below.heap_alloc _ _ _ (by simp)]; exact heap_alloc_new _ _
 have r1 : ((w.alloc (.cells #[.int .i64 pa, .int .i64 re, .bool rs, .slice a bl.length cp] 29)).alloc (.cells #[.int .i64 0, .int .i64 0, .bool false, .slice none 0 0] 29)).heap[w.heap.size + 1]? = some (.cells (cob 0 0 false (.slice none 0 0)) 29 (0, 0)) := by
  have := heap_alloc_new (w.alloc (.cells #[.int .i64 pa, .int .i64 re, .bool rs, .slice a bl.length cp] 29)) (.cells #[.int .i64 0, .int .i64 0, .bool false, .slice none 0 0] 29)
  rwa [show (w.alloc (.cells #[.int .i64 pa, .int .i64 re, .bool rs, .slice a bl.length cp] 29)).heap.size = w.heap.size + 1 by simp] at this
 have hz2 : ((w.alloc (.cells #[.int .i64 pa, .int .i64 re, .bool rs, .slice a bl.length cp] 29)).alloc (.cells #[.int .i64 0, .int .i64 0, .bool false, .slice none 0 0] 29)).heap.size = w.heap.size + 2 := by simp
 have HB2 := hide hb2; have HR0 := hide r0; have HR1 := hide r1; have HZ2 := hide hz2
 have x3 : ((w.alloc (.cells #[.int .i64 pa, .int .i64 re, .bool rs, .slice a bl.length cp] 29)).alloc (.cells #[.int .i64 0, .int .i64 0, .bool false, .slice none 0 0] 29)).cell? ⟨w.heap.size, 3, none⟩ = some (.slice a bl.length cp) := (cob_cells r0).2.2.2.1
 have xl : w.heap.size < ((w.alloc (.cells #[.int .i64 pa, .int .i64 re, .bool rs, .slice a bl.length cp] 29)).alloc (.cells #[.int .i64 0, .int .i64 0, .bool false, .slice none 0 0] 29)).heap.size := by rw [hz2]; omega
 clear hb2 r0 r1 hz2
 go_enter Tryz.func66, Tryz.ntmps66
 go_upto_region 1 with fail
 generalize (w.alloc (.cells #[.int .i64 pa, .int .i64 re, .bool rs, .slice a bl.length cp] 29)).alloc (.cells #[.int .i64 0, .int .i64 0, .bool false, .slice none 0 0] 29) = W2 at *
 have HCl := hide (clBls BlO (BlC w g) blC_ones bl (.slice a bl.length cp) W2 (LLf.of (unhide HV) (fun k hk hl => (unhide HB2).block k hl) (unhide HB2).size) hlen)
 go_wp2_with fail
 refine (unhide HCl).mono ?_
 rintro e w1 ⟨v1, rfl, hraw, hb1⟩
 have hN1 : w.heap.size < w1.heap.size := by have := hb1.size; omega
 have q0 := (hb1.block _ xl).trans (unhide HR0)
 have q1 := (hb1.block (w.heap.size + 1) (by rw [unhide HZ2]; omega)).trans (unhide HR1)
 have c3 := (cob_cells q0).2.2.2.1
 have cf := (cob_cells q0).2.2.2.2.1
 have hbe : Below w.heap.size w (w1.setCell ⟨w.heap.size, 3, none⟩ v1) := ((unhide HB2).trans (hb1.mono (by rw [unhide HZ2]; omega))).setCell (p := ⟨w.heap.size, 3, none⟩) (Nat.le_refl _) v1
 have s0 : (w1.setCell ⟨w.heap.size, 3, none⟩ v1).heap[w.heap.size]? = some (.cells (cob pa re rs v1) 29 (0, 0)) := (heap_setCell_same w1 _ 3 _ _ v1 q0).trans rfl
 have s1 : (w1.setCell ⟨w.heap.size, 3, none⟩ v1).heap[w.heap.size + 1]? = some (.cells (cob 0 0 false (.slice none 0 0)) 29 (0, 0)) := (heap_setCell_other _ _ _ _ (by show w.heap.size + 1 ≠ w.heap.size; omega)).trans q1
 have HS0 := hide s0; have HS1 := hide s1; have HBe := hide hbe; have HQ1 := hide q1
 clear s0 s1 hbe q0 q1 x3 xl HCl
 rcases hraw with ⟨rfl, ho1⟩ | ⟨hpos, B, cap, rfl, hrow, hB, hcap⟩
 ·obtain ⟨a1, cap1, rfl, hnil⟩ := own0 ho1
  have hoW := ownsRow_setCell_below ho1 (a := ⟨w.heap.size, 3, none⟩) (by rw [unhide HZ2]; show w.heap.size < _; omega) (.slice a1 0 cap1)
  have HOw := hide (own_base hoW (show w.heap.size + 2 ≤ W2.heap.size by rw [unhide HZ2]; exact Nat.le_refl _))
  clear hoW ho1
  have HNil := hide hnil
  clear hnil hb1 hlen HWf HV
  go_upto_region 2 with fail
  generalize w1.setCell ⟨w.heap.size, 3, none⟩ (.slice a1 0 cap1) = W3 at *
  obtain ⟨x0, x1, x2, x3, xf, xl⟩ := cob_cells (unhide HS0)
  obtain ⟨y0, y1, y2, y3, yf, yl⟩ := cob_cells (unhide HS1)
  clear c3 cf hN1
  go_wp2_with fail
  go_loopw [13] (fun c wr => c = .int .i64 0 ∧ wr = W3) (fun c _ => 0)
  case atStart => exact ⟨rfl, rfl⟩
  case round =>
   obtain ⟨rfl, rfl⟩ := hrel
   go_wp2
   obtain ⟨hbb, hss, hoo⟩ := bel4b (unhide HBe) (w.heap.size + 1) (by omega) (.int .i64 pa) (.int .i64 re) (.bool rs) (.slice a1 0 cap1)
   have HOe := hide (own_base (ownsRow_setCell_below (ownsRow_setCell_below (ownsRow_setCell_below (ownsRow_setCell_below (unhide HOw) (a := ⟨w.heap.size + 1, 0, none⟩) (by show w.heap.size + 1 < _; omega) (.int .i64 pa)) (a := ⟨w.heap.size + 1, 1, none⟩) (by show w.heap.size + 1 < _; omega) (.int .i64 re)) (a := ⟨w.heap.size + 1, 2, none⟩) (by show w.heap.size + 1 < _; omega) (.bool rs)) (a := ⟨w.heap.size + 1, 3, none⟩) (by show w.heap.size + 1 < _; omega) (.slice a1 0 cap1)) (show w.heap.size ≤ w.heap.size + 2 by omega))
   have hr := set4 wr (w.heap.size + 1) _ _ _ _ _ (.int .i64 pa) (.int .i64 re) (.bool rs) (.slice a1 0 cap1) (unhide HS1)
   clear x0 x1 x2 x3 xf xl y0 y1 y2 y3 yf yl
   generalize (((wr.setCell ⟨w.heap.size + 1, 0, none⟩ (.int .i64 pa)).setCell ⟨w.heap.size + 1, 1, none⟩ (.int .i64 re)).setCell ⟨w.heap.size + 1, 2, none⟩ (.bool rs)).setCell ⟨w.heap.size + 1, 3, none⟩ (.slice a1 0 cap1) = WE at *
   have hfin : CoO WE w.heap.size WE.heap.size _ (.slice a1 0 cap1) := CoO_nil _ _ _ _ _ (unhide HNil)
   have c0 := cell_of_row WE (w.heap.size + 1) 0 _ _ _ hr; have c1 := cell_of_row WE (w.heap.size + 1) 1 _ _ _ hr; have c2 := cell_of_row WE (w.heap.size + 1) 2 _ _ _ hr; have c3 := cell_of_row WE (w.heap.size + 1) 3 _ _ _ hr
   simp only [List.getElem?_toArray, List.getElem?_cons_zero, List.getElem?_cons_succ] at c0 c1 c2 c3
   refine bodyPost_ret (v := .agg #[.int .i64 pa, .int .i64 re, .bool rs, .slice a1 0 cap1]) (by simp [results, Tryz.results66, go_sem, c0, c1, c2, c3]) rfl ⟨_, rfl, hfin, unhide HOe, hbb⟩
 ·have hn1 : (bl.length : Int) ≤ 1099511627776 := by omega
  have HNe := hide (show ¬ bl = [] from fun h => by rw [h] at hpos; simp at hpos)
  have hB2 : w.heap.size + 2 ≤ B := by rw [← unhide HZ2]; exact hB
  have hout : COut w g pa re rs bl bl.length cap B 0 w1.heap.size (w1.setCell ⟨w.heap.size, 3, none⟩ (.slice (some ⟨B, 0, none⟩) bl.length cap)) := by
   refine ⟨unhide HS0, unhide HS1, hB2, hrow.keep BlO.moves (fun q hq => heap_setCell_other _ _ _ _ ?_) (by simp), unhide HBe⟩
   show q ≠ w.heap.size; omega
  have HOut := hide hout; have HCap := hide hcap
  clear hout hrow hB hb1 hB2 hcap hlen
  generalize hnl : bl.length = n at *
  have HN := hide hnl; clear hnl
  go_upto_region 2 with fail
  generalize w1.setCell ⟨w.heap.size, 3, none⟩ (.slice (some ⟨B, 0, none⟩) n cap) = W3 at *
  obtain ⟨x0, x1, x2, x3, xf, xl⟩ := cob_cells (unhide HS0)
  clear c3 cf hN1
  go_wp2_with fail
  go_loopw [13] (fun c wr => ∃ j p : Nat, c = .int .i64 j ∧ (j : Int) ≤ n ∧ COut w g pa re rs bl n cap B j p wr) (fun c _ => n - (intOf c).toNat)
  case atStart => exact ⟨0, _, rfl, by omega, unhide HOut⟩
  case round =>
   obtain ⟨j, p, rfl, hj, hR⟩ := hrel
   have HR := hide hR
   clear x0 x1 x2 x3 xf xl
   obtain ⟨x0, x1, x2, x3, xf, xl⟩ := cob_cells hR.b0
   by_cases hlt : (j : Int) < n
   ·obtain ⟨x, hx⟩ : ∃ x, bl[j]? = some x := ⟨_, List.getElem?_eq_getElem (by have := unhide HN; omega)⟩
    have hwx := unhide HWf x (List.mem_of_getElem? hx)
    obtain ⟨cs, hcl, _, hold, hce⟩ := hR.row.it j x hx
    obtain ⟨vi, vn, rfl, hi, hn⟩ := hold (Nat.le_refl _)
    have e0 := hce 0 _ rfl; have e1 := hce 1 _ rfl; have e2 := hce 2 _ rfl
    have hBl := hR.row.t.lt
    have hfz := hR.row.t.frozen
    have hbe := hR.be
    have hBg := hR.hB
    have hNw : NumsL wr g x.next vn := hn.moved fun k _ hk => ⟨hk, hbe.block k (unhide HG k hk)⟩
    have HI := hide hi; have HXb := hide hx; have HWx := hide hwx; have HBe := hide hbe; have HE2 := hide e2
    obtain ⟨ai, ci, rfl, _⟩ := hi
    obtain ⟨an, cn, rfl, _⟩ := id hn
    have HCn := hide (clNums x.next g _ wr hNw hwx.nlen)
    clear hx hwx hcl hold hce hn hNw hbe hR hj e2
    obtain ⟨ins, next, dep⟩ := x
    simp only [Nat.add_zero] at *
    generalize hil : ins.length = il at *
    generalize hnl : next.length = nl at *
    have Hil := hide hil; have Hnl := hide hnl; clear hil hnl
    go_upto_region 6 with fail
    go_wp2_with fail
    refine (unhide HCn).mono ?_
    rintro e w4 ⟨vn4, rfl, hno, hb4⟩
    have HNo := hide hno
    obtain ⟨a4, c4, rfl, _⟩ := id hno
    have e04 := (hb4.cell (p := ⟨B, j * 3, none⟩) hBl).trans e0
    have e14 := (hb4.cell (p := ⟨B, j * 3 + 1, none⟩) hBl).trans e1
    have hfz4 : ∀ i, w4.frozen? ⟨B, i, none⟩ = false := ((unhide HR).row.t.move (hb4.block B hBl)).frozen
    have hBl4 : B < w4.heap.size := Nat.lt_of_lt_of_le hBl hb4.size
    simp only at *
    rw [unhide Hnl]
    have HB4 := hide hb4
    clear hno x0 x1 x2 x3 xf xl hfz e0 e1 hb4 HCn
    go_upto_region 7 with fail
    have ht5 : Turn 3 B j wr (w4.setCell ⟨B, j * 3 + 1, none⟩ (.slice a4 nl c4)) := ((Turn.refl 3 B j wr).below hBl (unhide HB4)).set 1 (by omega) _
    have hT5 : RowT (w4.setCell ⟨B, j * 3 + 1, none⟩ (.slice a4 nl c4)) B 56 := ((unhide HR).row.t.move ((unhide HB4).block B hBl)).set
    have hz5 : (w4.setCell ⟨B, j * 3 + 1, none⟩ (.slice a4 nl c4)).heap.size = w4.heap.size := by simp
    have hbe5 : Below w.heap.size w (w4.setCell ⟨B, j * 3 + 1, none⟩ (.slice a4 nl c4)) := ((unhide HBe).trans ((unhide HB4).mono (unhide HBe).size)).setCell (p := ⟨B, j * 3 + 1, none⟩) (by simp only; omega) _
    have e05 : (w4.setCell ⟨B, j * 3 + 1, none⟩ (.slice a4 nl c4)).cell? ⟨B, j * 3, none⟩ = some (.slice ai il ci) := (World.cell?_setCell_other w4 _ _ _ (by intro e; injection e with _ e2 _; omega)).trans e04
    have e15 : (w4.setCell ⟨B, j * 3 + 1, none⟩ (.slice a4 nl c4)).cell? ⟨B, j * 3 + 1, none⟩ = some (.slice a4 nl c4) := World.cell?_setCell_same w4 _ _ e14
    have e25 : (w4.setCell ⟨B, j * 3 + 1, none⟩ (.slice a4 nl c4)).cell? ⟨B, j * 3 + 2, none⟩ = some (.int .i64 dep) := (World.cell?_setCell_other w4 _ _ _ (by intro e; injection e with _ e2 _; omega)).trans (((unhide HB4).cell (p := ⟨B, j * 3 + 2, none⟩) hBl).trans (unhide HE2))
    have hno5 : NumO (w4.setCell ⟨B, j * 3 + 1, none⟩ (.slice a4 nl c4)) wr.heap.size w4.heap.size next (.slice a4 nl c4) := by
     have := unhide HNo
     simp only [unhide Hnl] at this
     exact this.move (fun q a b => heap_setCell_other _ _ _ _ (by show q ≠ B; omega)) (Nat.le_refl _) (Nat.le_refl _)
    have HT5 := hide ht5; have HTT5 := hide hT5; have HZ5 := hide hz5; have HBe5 := hide hbe5; have HE15 := hide e15; have HE25 := hide e25; have HNo5 := hide hno5
    have hBl5 : B < (w4.setCell ⟨B, j * 3 + 1, none⟩ (.slice a4 nl c4)).heap.size := by rw [hz5]; exact hBl4
    clear ht5 hT5 hz5 hbe5 e15 e25 hno5 HNo HBe HE2 e04 e14 hfz4
    generalize w4.setCell ⟨B, j * 3 + 1, none⟩ (.slice a4 nl c4) = W5 at *
    have hLf : LLf (InC w g) 5 W5 ins (.slice ai il ci) := LLf.of (unhide HI) (fun k hk hl => (unhide HBe5).block k hl) (unhide HBe5).size
    have HCi := hide (clIns InO (InC w g) inC_ones ins _ W5 hLf (unhide HWx).len)
    clear hLf
    go_wp2_with fail
    refine (unhide HCi).mono ?_
    rintro e w6 ⟨vi6, rfl, hraw, hb6⟩
    obtain ⟨a6, c6, rfl⟩ : ∃ a6 c6, vi6 = .slice a6 il c6 := by
     rcases hraw with ⟨e, ho6⟩ | ⟨_, B6, c6, e2, _⟩
     ·obtain ⟨a6, c6, e2, _⟩ := own0 ho6
      exact ⟨a6, c6, by rw [e2, ← unhide Hil, e]; rfl⟩
     ·exact ⟨_, c6, by rw [e2, unhide Hil]⟩
    have e06 := (hb6.cell (p := ⟨B, j * 3, none⟩) hBl5).trans e05
    have hfz6 : ∀ i, w6.frozen? ⟨B, i, none⟩ = false := ((unhide HTT5).move (hb6.block B hBl5)).frozen
    have hBl6 : B < w6.heap.size := Nat.lt_of_lt_of_le hBl5 hb6.size
    have HB6 := hide hb6; have HRaw := hide hraw
    clear hraw hb6 e05 HCi
    go_upto_region 8 with fail
    have ht7 : Turn 3 B j wr (w6.setCell ⟨B, j * 3, none⟩ (.slice a6 il c6)) := ((unhide HT5).below hBl5 (unhide HB6)).set 0 (by omega) _
    have hT7 : RowT (w6.setCell ⟨B, j * 3, none⟩ (.slice a6 il c6)) B 56 := ((unhide HTT5).move ((unhide HB6).block B hBl5)).set
    have hz7 : (w6.setCell ⟨B, j * 3, none⟩ (.slice a6 il c6)).heap.size = w6.heap.size := by simp
    have hbe7 : Below w.heap.size w (w6.setCell ⟨B, j * 3, none⟩ (.slice a6 il c6)) := ((unhide HBe5).trans ((unhide HB6).mono (unhide HBe5).size)).setCell (p := ⟨B, j * 3, none⟩) (by simp only; omega) _
    have e07 : (w6.setCell ⟨B, j * 3, none⟩ (.slice a6 il c6)).cell? ⟨B, j * 3, none⟩ = some (.slice a6 il c6) := World.cell?_setCell_same w6 _ _ e06
    have e17 : (w6.setCell ⟨B, j * 3, none⟩ (.slice a6 il c6)).cell? ⟨B, j * 3 + 1, none⟩ = some (.slice a4 nl c4) := (World.cell?_setCell_other w6 _ _ _ (by intro e; injection e with _ e2 _; omega)).trans (((unhide HB6).cell (p := ⟨B, j * 3 + 1, none⟩) hBl5).trans (unhide HE15))
    have e27 : (w6.setCell ⟨B, j * 3, none⟩ (.slice a6 il c6)).cell? ⟨B, j * 3 + 2, none⟩ = some (.int .i64 dep) := (World.cell?_setCell_other w6 _ _ _ (by intro e; injection e with _ e2 _; omega)).trans (((unhide HB6).cell (p := ⟨B, j * 3 + 2, none⟩) hBl5).trans (unhide HE25))
    have hno7 : NumO (w6.setCell ⟨B, j * 3, none⟩ (.slice a6 il c6)) wr.heap.size w4.heap.size next (.slice a4 nl c4) :=
     ((unhide HNo5).move (Mo.below (unhide HB6) (by rw [unhide HZ5]; exact Nat.le_refl _)) (Nat.le_refl _) (Nat.le_refl _)).move (fun q a b => heap_setCell_other _ _ _ _ (by show q ≠ B; omega)) (Nat.le_refl _) (Nat.le_refl _)
    have hsz46 : w4.heap.size ≤ w6.heap.size := by rw [← unhide HZ5]; exact (unhide HB6).size
    have hraw7 : RawO InO (InC w g) 5 53 w4.heap.size (w6.setCell ⟨B, j * 3, none⟩ (.slice a6 il c6)) ins (.slice a6 il c6) := by
     have := unhide HRaw
     rw [unhide HZ5] at this
     rcases this with ⟨h, ho6⟩ | ⟨h1, B6, c6', e2, hrow, h3, h4⟩
     ·exact .inl ⟨h, ownsRow_setCell_below ho6 (a := ⟨B, j * 3, none⟩) hBl4 _⟩
     ·refine .inr ⟨h1, B6, c6', e2, ?_, h3, h4⟩
      rw [hz7]
      exact hrow.keep InO.moves (fun q a => heap_setCell_other _ _ _ _ (by show q ≠ B; omega)) (by simp)
    have HT7 := hide ht7; have HTT7 := hide hT7; have HZ7 := hide hz7; have HBe7 := hide hbe7; have HE17 := hide e17; have HE27 := hide e27; have HNo7 := hide hno7; have HE07 := hide e07; have HSz46 := hide hsz46
    have hBl7 : B < (w6.setCell ⟨B, j * 3, none⟩ (.slice a6 il c6)).heap.size := by rw [hz7]; exact hBl6
    clear ht7 hT7 hz7 hbe7 e17 e27 hno7 hsz46 HT5 HTT5 HBe5 HE15 HE25 HNo5 HB6 HRaw e06 hfz6
    generalize w6.setCell ⟨B, j * 3, none⟩ (.slice a6 il c6) = W7 at *
    go_wp2_with fail
    rcases hraw7 with ⟨rfl, hnil⟩ | ⟨hpos, BI, cI, e2, hrow, hBI, hcI⟩
    ·obtain rfl : 0 = il := by rw [← unhide Hil]; rfl
     obtain ⟨aa, ca, ee, hna⟩ := own0 hnil
     clear hnil
     simp only [Value.slice.injEq] at ee
     obtain ⟨rfl, hee, rfl⟩ := ee
     clear hee
     have hfin := COut.fin (unhide HR) (unhide HXb) (unhide HT7) (unhide HTT7) (unhide HBe7) (unhide HB4).size (by rw [unhide HZ7]; exact unhide HSz46) (unhide HNo7) (InsO_nil _ _ _ _ _ hna) e07 (unhide HE17) (unhide HE27)
     obtain ⟨p7, hfin⟩ := hfin
     have HFin := hide hfin
     clear hfin hna HR HI HT7 HTT7 HBe7 HE17 HE27 HNo7 HSz46 HZ7 HB4 hBl hBl4 hBl5 hBl6
     go_loopw [41] (fun c wq => c = .int .i64 0 ∧ wq = W7) (fun c _ => 0)
     case atStart => exact ⟨rfl, rfl⟩
     case round =>
      obtain ⟨rfl, rfl⟩ := hrel
      go_wp2
      go_roundw
      case rel => exact ⟨j + 1, p7, by go_num, by omega, unhide HFin⟩
      case measure => simp [intOf]; omega
    ·have hpi : 0 < il := by rw [← unhide Hil]; exact hpos
     simp only [Value.slice.injEq] at e2
     obtain ⟨rfl, hee, rfl⟩ := e2
     clear hee
     rw [unhide Hil] at hcI
     have hin : CIn w g ins BI 0 W7.heap.size W7 W7 := ⟨hrow, Nat.le_refl _, fun _ _ _ => rfl, unhide HBe7⟩
     have hwBI : w.heap.size ≤ BI := by have := (unhide HB4).size; omega
     have hilb : (il : Int) ≤ 1099511627776 := by have := (unhide HWx).len; simp only at this; rw [unhide Hil] at this; omega
     have hBBI : B < BI := by omega
     have HIn := hide hin; have HCI := hide hcI; have HBI := hide hBI; have HSm := hide (unhide HWx).ins
     clear hin hrow hcI hBI hpos
     generalize wr = WO at *
     go_loopw [41] (fun c wq => ∃ k p : Nat, c = .int .i64 k ∧ (k : Int) ≤ il ∧ CIn w g ins BI k p W7 wq) (fun c _ => il - (intOf c).toNat)
     case atStart => exact ⟨0, _, rfl, by omega, unhide HIn⟩
     case round =>
      obtain ⟨k, pk, rfl, hk, hI⟩ := hrel
      have HI2 := hide hI
      clear e07
      have hW7B := hI.ot B hBl7 (by omega)
      have e07 : wr.cell? ⟨B, j * 3, none⟩ = some (.slice (some ⟨BI, 0, none⟩) il c6) := (World.cell?_of_block (a := ⟨B, j * 3, none⟩) hW7B).trans (unhide HE07)
      by_cases hklt : (k : Int) < il
      ·obtain ⟨y, hy⟩ : ∃ y, ins[k]? = some y := ⟨_, List.getElem?_eq_getElem (by have := unhide Hil; omega)⟩
       obtain ⟨cs, hcl, _, hold, hce⟩ := hI.row.it k y hy
       obtain ⟨vs, rfl, hs⟩ := hold (Nat.le_refl _)
       have f0 := hce 0 _ rfl; have f1 := hce 1 _ rfl; have f2 := hce 2 _ rfl; have f3 := hce 3 _ rfl; have f4 := hce 4 _ rfl
       have hbe := hI.be
       have hNw : NumsL wr g y.src vs := hs.moved fun q _ hq => ⟨hq, hbe.block q (unhide HG q hq)⟩
       have hwy := unhide HSm y (List.mem_of_getElem? hy)
       obtain ⟨sa, sc, rfl, _⟩ := id hs
       have hBIl := hI.row.t.lt
       have hBlq : B < wr.heap.size := by omega
       have hfzI := hI.row.t.frozen
       have HCs := hide (fun W (h : Below wr.heap.size wr W) => clNums y.src g _ W (hNw.below h) hwy.len)
       have HY := hide hy; have HF0 := hide f0; have HF1 := hide f1; have HF2 := hide f2; have HF3 := hide f3; have HF4 := hide f4
       clear hy hcl hold hce hs hNw hwy hk f0 f1 f3 f4 hI hbe hW7B
       obtain ⟨op, dst, src, nn, of⟩ := y
       simp only at *
       generalize hsl : src.length = sl at *
       have Hsl := hide hsl; clear hsl
       go_upto_region 11 with fail
       have hk5 : k * 5 + 2 = k * 5 + 2 := rfl
       clear hk5
       go_region_law
        (first
         | go_loud (
             go_simp
             go_at_call 57
             refine (unhide HCs _ (Below.refl _ _).drew).mono ?_
             rintro e w8 ⟨v8, rfl, hno8, hb8⟩
             have HNo8 := hide hno8
             obtain ⟨a8, c8, rfl, _⟩ := id hno8
             have hb8' : Below wr.heap.size wr w8 := ((Below.refl _ _).drew).trans (hb8.mono (by simp))
             have HB8 := hide hb8'
             have g0 := (hb8'.cell (p := ⟨B, j * 3, none⟩) hBlq).trans e07
             have g2 := (hb8'.cell (p := ⟨BI, k * 5 + 2, none⟩) hBIl).trans f2
             have gf : ∀ i, w8.frozen? ⟨BI, i, none⟩ = false := fun i => by have h1 := hb8'.block BI hBIl; have h2 := hfzI i; simp only [World.frozen?, h1] at h2 ⊢; exact h2
             clear hno8 hb8 hb8')
         | fail)
       all_goals
        obtain ⟨p', hnx⟩ := CIn.next (v5 := .slice a8 src.length c8) (unhide HI2) (unhide HY) (unhide HB8) (unhide HNo8) hwBI (unhide HF0) (unhide HF1) (unhide HF2) (unhide HF3) (unhide HF4)
        have HNx := hide hnx
        clear hnx g0 g2 gf
        go_wp2
        go_roundw
        case rel => exact ⟨k + 1, p', by go_num, by omega, unhide HNx⟩
        case measure => simp [intOf]; omega
      ·obtain rfl : k = il := by omega
       have hrowE := hI.row
       rw [← unhide Hil] at hrowE
       have hdone := hrowE.done (lo := w4.heap.size) (cap := c6) (unhide HBI) (by rw [unhide Hil]; exact unhide HCI)
       rw [unhide Hil] at hdone
       have hot : ∀ q, q < W7.heap.size → q < w4.heap.size → wr.heap[q]? = W7.heap[q]? := fun q a b => hI.ot q a (by have := unhide HBI; omega)
       have h4 := (unhide HB4).size
       have hzz : w4.heap.size ≤ W7.heap.size := by rw [unhide HZ7]; exact unhide HSz46
       have hfin := COut.fin (unhide HR) (unhide HXb) ((unhide HT7).other hBl7 hI.sz (fun q a b => hot q a (by omega)) hBl) ((unhide HTT7).move hW7B) hI.be h4 (Nat.le_trans hzz hI.sz) ((unhide HNo7).move (fun q a b => hot q (by omega) b) (Nat.le_refl _) (Nat.le_refl _)) hdone e07 ((World.cell?_of_block (a := ⟨B, j * 3 + 1, none⟩) hW7B).trans (unhide HE17)) ((World.cell?_of_block (a := ⟨B, j * 3 + 2, none⟩) hW7B).trans (unhide HE27))
       obtain ⟨p7, hfin⟩ := hfin
       have HFin := hide hfin
       clear hfin hdone hrowE hot h4 hzz hk hklt hI hW7B HI2
       go_wp2
       go_roundw
       case rel => exact ⟨j + 1, p7, by go_num, by omega, unhide HFin⟩
       case measure => simp [intOf]; omega
   ·obtain rfl : j = n := by omega
    have hrowE := hR.row
    rw [← unhide HN] at hrowE
    have hdone := hrowE.done (lo := w.heap.size + 2) (cap := cap) hR.hB (by rw [unhide HN]; exact unhide HCap)
    rw [unhide HN] at hdone
    have hbe := hR.be
    have hb1 := hR.b1
    obtain ⟨y0, y1, y2, y3, yf, yl⟩ := cob_cells hb1
    have HDone := hide hdone; have HBe := hide hbe; have HB1 := hide hb1
    clear hdone hrowE hbe hb1 hR hj hlt HR
    go_wp2
    obtain ⟨hbb, hss, hoo⟩ := bel4b (unhide HBe) (w.heap.size + 1) (by omega) (.int .i64 pa) (.int .i64 re) (.bool rs) (.slice (some ⟨B, 0, none⟩) j cap)
    have hr := set4 wr (w.heap.size + 1) _ _ _ _ _ (.int .i64 pa) (.int .i64 re) (.bool rs) (.slice (some ⟨B, 0, none⟩) j cap) (unhide HB1)
    clear x0 x1 x2 x3 xf xl y0 y1 y2 y3 yf yl
    generalize (((wr.setCell ⟨w.heap.size + 1, 0, none⟩ (.int .i64 pa)).setCell ⟨w.heap.size + 1, 1, none⟩ (.int .i64 re)).setCell ⟨w.heap.size + 1, 2, none⟩ (.bool rs)).setCell ⟨w.heap.size + 1, 3, none⟩ (.slice (some ⟨B, 0, none⟩) j cap) = WE at *
    have hfin : CoO WE w.heap.size WE.heap.size bl (.slice (some ⟨B, 0, none⟩) j cap) := Own.move BlO.moves (unhide HDone) (fun q a b => hoo q (by omega)) (by omega) (by rw [hss]; exact Nat.le_refl _)
    have c0 := cell_of_row WE (w.heap.size + 1) 0 _ _ _ hr; have c1 := cell_of_row WE (w.heap.size + 1) 1 _ _ _ hr; have c2 := cell_of_row WE (w.heap.size + 1) 2 _ _ _ hr; have c3 := cell_of_row WE (w.heap.size + 1) 3 _ _ _ hr
    simp only [List.getElem?_toArray, List.getElem?_cons_zero, List.getElem?_cons_succ] at c0 c1 c2 c3
    refine bodyPost_ret (v := .agg #[.int .i64 pa, .int .i64 re, .bool rs, .slice (some ⟨B, 0, none⟩) j cap]) (by simp [results, Tryz.results66, go_sem, c0, c1, c2, c3]) rfl ⟨_, rfl, hfin, fun h => absurd h (unhide HNe), hbb⟩
end Vc
end Go.Proofs.YtglehoekehiaiaaGreatDoor
