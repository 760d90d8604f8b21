/- O3: what follows, part by part: each part tells what it holds. -/
import Derived.Test.YtglehoekehiaiaaGreatDoorO2
import Derived.Test.YtglehoekehiaiaaGreatDoorK1
namespace Go.Proofs.YtglehoekehiaiaaGreatDoor
open Go.RowKit
set_option linter.unusedVariables false
set_option linter.unusedSimpArgs false
set_option maxRecDepth 100000
set_option maxHeartbeats 32000000
namespace Fw
open Vc (NumsL Nums Lies LL Bls BlC InC Bl Co infoN infoBl own_base RowT cob cob_cells)
/- flow: what stands while the document walks. -/
theorem sc_os (w : World) (p : Addr) (v : Value) : (w.setCell p v).os = w.os := ((Below.refl 0 w).setCell (p := p) (Nat.zero_le _) v).os
theorem sc_out (w : World) (p : Addr) (v : Value) : (w.setCell p v).output = w.output := ((Below.refl 0 w).setCell (p := p) (Nat.zero_le _) v).output
/-- all that was there stays, but two rows that may have grown -/
structure Gf2 (v1 v2 : Option Nat) (w w' : World) : Prop where
 os : w'.os = w.os
 tape : w'.tape = w.tape
 output : w'.output = w.output
 size : w.heap.size ≤ w'.heap.size
 keep : ∀ k, k < w.heap.size → some k ≠ v1 → some k ≠ v2 → w'.heap[k]? = w.heap[k]?
theorem bls_gf2 {w w' : World} {N : Nat} {v1 v2 : Option Nat} {g : Nat → Prop} {l : List Bl} {v : Value} (h : Bls w g l v) (hg : ∀ k, g k → k < N) (h1 : ∀ k, v1 = some k → N ≤ k) (h2 : ∀ k, v2 = some k → N ≤ k) (hb : Gf2 v1 v2 w w') : Bls w' g l v :=
 h.moved (fun k hk hgk => ⟨hgk, hb.keep k hk (fun e => by have := h1 k e.symm; have := hg k hgk; omega) (fun e => by have := h2 k e.symm; have := hg k hgk; omega)⟩) hb.size
/-- the walk's own boxes, and its two rows -/
structure Ws (w : World) (N : Nat) (pa re : Int) (rs : Bool) (vb : Value) (v1 v2 : Option Nat) (q : List Nat × List Nat) (u1 u2 : Value) (wr : World) : Prop where
 r0 : wr.heap[w.heap.size]? = some (.cells (cob pa re rs vb) 24 (0, 0))
 r1 : wr.heap[w.heap.size + 1]? = some (.cells #[u1, u2] 81 (0, 0))
 r2 : wr.heap[w.heap.size + 2]? = some (.cells #[.slice none 0 0, .slice none 0 0] 81 (0, 0))
 o1 : Ro wr N u1 (nz q.1)
 o2 : Ro wr N u2 (nz q.2)
 ap : ∀ k, u1.ownBlock = some k → u2.ownBlock ≠ some k
 gf : Gf2 v1 v2 w wr
 w1 : Ow v1 w u1
 w2 : Ow v2 w u2
section
variable {w wr w5 : World} {N : Nat} {pa re : Int} {rs : Bool} {vb : Value} {v1 v2 : Option Nat} {q : List Nat × List Nat} {u1 u2 : Value}
theorem Ws.lt (h : Ws w N pa re rs vb v1 v2 q u1 u2 wr) : w.heap.size + 2 < wr.heap.size := (Array.getElem?_eq_some_iff.1 h.r2).1
theorem Ws.ne1 (h : Ws w N pa re rs vb v1 v2 q u1 u2 wr) : ∀ k, u1.ownBlock = some k → k ≠ w.heap.size ∧ k ≠ w.heap.size + 1 ∧ k ≠ w.heap.size + 2 ∧ k < wr.heap.size ∧ N ≤ k := fun k hk =>
 ⟨(row_ne h.r0 (by decide) h.o1 k hk).1, (row_ne h.r1 (by decide) h.o1 k hk).1, (row_ne h.r2 (by decide) h.o1 k hk)⟩
theorem Ws.ne2 (h : Ws w N pa re rs vb v1 v2 q u1 u2 wr) : ∀ k, u2.ownBlock = some k → k ≠ w.heap.size ∧ k ≠ w.heap.size + 1 ∧ k ≠ w.heap.size + 2 ∧ k < wr.heap.size ∧ N ≤ k := fun k hk =>
 ⟨(row_ne h.r0 (by decide) h.o2 k hk).1, (row_ne h.r1 (by decide) h.o2 k hk).1, (row_ne h.r2 (by decide) h.o2 k hk)⟩
theorem Ws.low (h : Ws w N pa re rs vb v1 v2 q u1 u2 wr) (k : Nat) (hk : k < w.heap.size) (n1 : some k ≠ v1) (n2 : some k ≠ v2) : some k ≠ u1.ownBlock ∧ some k ≠ u2.ownBlock := by
 refine ⟨fun e => ?_, fun e => ?_⟩
 ·rcases h.w1 with a | a
  ·exact n1 (e.trans a)
  ·have := a k e.symm; omega
 ·rcases h.w2 with a | a
  ·exact n2 (e.trans a)
  ·have := a k e.symm; omega
theorem Ws.drew (h : Ws w N pa re rs vb v1 v2 q u1 u2 wr) : Ws w N pa re rs vb v1 v2 q u1 u2 wr.drew :=
 ⟨h.r0, h.r1, h.r2, h.o1.below (bdrew (Below.refl _ _)), h.o2.below (bdrew (Below.refl _ _)), h.ap, ⟨h.gf.os, h.gf.tape, h.gf.output, h.gf.size, h.gf.keep⟩, h.w1, h.w2⟩
/-- a block more was gone into -/
theorem Ws.push1 (h : Ws w N pa re rs vb v1 v2 q u1 u2 wr) {b : Nat} {O : Obj} {u : Value} (k1 : Ro w5 N u (nz (q.1 ++ [b]))) (k2 : (wr.alloc O).grownBy w5 u1.ownBlock) (k3 : u.ownBlock = u1.ownBlock ∨ u.ownBlock = some (wr.alloc O).heap.size) :
    Ws w N pa re rs vb v1 v2 (q.1 ++ [b], q.2) u u2 (w5.setCell ⟨w.heap.size + 1, 0, none⟩ u) := by
 have hl := h.lt
 have hs : (wr.alloc O).heap.size = wr.heap.size + 1 := by simp
 have hal := Vc.one_alloc wr O
 have n1 := h.ne1
 have n2 := h.ne2
 have stay : ∀ k, k < wr.heap.size → some k ≠ u1.ownBlock → w5.heap[k]? = wr.heap[k]? := fun k hk hne => (k2.block k (by omega) hne).trans (hal.block k hk)
 have nb : ∀ k, (k = w.heap.size ∨ k = w.heap.size + 1 ∨ k = w.heap.size + 2) → some k ≠ u1.ownBlock := fun k hk e => by
  have := n1 k e.symm; omega
 have q1 : w5.heap[w.heap.size + 1]? = some (.cells #[u1, u2] 81 (0, 0)) := (stay _ (by omega) (nb _ (.inr (.inl rfl)))).trans h.r1
 have uo : ∀ k, u.ownBlock = some k → k ≠ w.heap.size + 1 := fun k hk => by
  rcases k3 with e | e
  ·exact (n1 k (by rw [← e]; exact hk)).2.1
  ·rw [hk] at e; cases e; omega
 have oth : ∀ k, k ≠ w.heap.size + 1 → (w5.setCell ⟨w.heap.size + 1, 0, none⟩ u).heap[k]? = w5.heap[k]? := fun k hk => heap_setCell_other w5 ⟨w.heap.size + 1, 0, none⟩ k _ hk
 refine ⟨(oth _ (by omega)).trans ((stay _ (by omega) (nb _ (.inl rfl))).trans h.r0), (heap_setCell_same w5 (w.heap.size + 1) 0 _ _ _ q1).trans rfl, (oth _ (by omega)).trans ((stay _ (by omega) (nb _ (.inr (.inr rfl)))).trans h.r2), k1.keep fun k hk => oth k (uo k hk), h.o2.keep fun k hk => (oth k (n2 k hk).2.1).trans (stay k (n2 k hk).2.2.2.1 fun e => h.ap k e.symm hk), fun k hk e => ?_, ⟨?_, ?_, ?_, ?_, fun k hk m1 m2 => ?_⟩, ?_, h.w2⟩
 ·rcases k3 with e3 | e3
  ·exact h.ap k (by rw [← e3]; exact hk) e
  ·rw [hk] at e3; cases e3; have := (n2 _ e).2.2.2.1; omega
 ·rw [sc_os, k2.os, hal.os, h.gf.os]
 ·rw [show (w5.setCell ⟨w.heap.size + 1, 0, none⟩ u).tape = w5.tape by simp, k2.tape, hal.tape, h.gf.tape]
 ·rw [sc_out, k2.output, hal.output, h.gf.output]
 ·have := h.gf.size; have := k2.size; simp; omega
 ·have := h.gf.size
  rw [oth k (by omega), stay k (by omega) (h.low k hk m1 m2).1, h.gf.keep k hk m1 m2]
 ·rcases k3 with e | e
  ·rcases h.w1 with a | a
   ·exact .inl (e.trans a)
   ·exact .inr fun k hk => a k (by rw [← e]; exact hk)
  ·exact .inr fun k hk => by rw [hk] at e; cases e; have := h.gf.size; omega
/-- a block was left -/
theorem Ws.push2 (h : Ws w N pa re rs vb v1 v2 q u1 u2 wr) {b : Nat} {O : Obj} {u : Value} (k1 : Ro w5 N u (nz (q.2 ++ [b]))) (k2 : (wr.alloc O).grownBy w5 u2.ownBlock) (k3 : u.ownBlock = u2.ownBlock ∨ u.ownBlock = some (wr.alloc O).heap.size) :
    Ws w N pa re rs vb v1 v2 (q.1, q.2 ++ [b]) u1 u (w5.setCell ⟨w.heap.size + 1, 1, none⟩ u) := by
 have hl := h.lt
 have hs : (wr.alloc O).heap.size = wr.heap.size + 1 := by simp
 have hal := Vc.one_alloc wr O
 have n1 := h.ne1
 have n2 := h.ne2
 have stay : ∀ k, k < wr.heap.size → some k ≠ u2.ownBlock → w5.heap[k]? = wr.heap[k]? := fun k hk hne => (k2.block k (by omega) hne).trans (hal.block k hk)
 have nb : ∀ k, (k = w.heap.size ∨ k = w.heap.size + 1 ∨ k = w.heap.size + 2) → some k ≠ u2.ownBlock := fun k hk e => by
  have := n2 k e.symm; omega
 have q1 : w5.heap[w.heap.size + 1]? = some (.cells #[u1, u2] 81 (0, 0)) := (stay _ (by omega) (nb _ (.inr (.inl rfl)))).trans h.r1
 have uo : ∀ k, u.ownBlock = some k → k ≠ w.heap.size + 1 := fun k hk => by
  rcases k3 with e | e
  ·exact (n2 k (by rw [← e]; exact hk)).2.1
  ·rw [hk] at e; cases e; omega
 have oth : ∀ k, k ≠ w.heap.size + 1 → (w5.setCell ⟨w.heap.size + 1, 1, none⟩ u).heap[k]? = w5.heap[k]? := fun k hk => heap_setCell_other w5 ⟨w.heap.size + 1, 1, none⟩ k _ hk
 refine ⟨(oth _ (by omega)).trans ((stay _ (by omega) (nb _ (.inl rfl))).trans h.r0), (heap_setCell_same w5 (w.heap.size + 1) 1 _ _ _ q1).trans rfl, (oth _ (by omega)).trans ((stay _ (by omega) (nb _ (.inr (.inr rfl)))).trans h.r2), h.o1.keep fun k hk => (oth k (n1 k hk).2.1).trans (stay k (n1 k hk).2.2.2.1 fun e => h.ap k hk e.symm), k1.keep fun k hk => oth k (uo k hk), fun k hk e => ?_, ⟨?_, ?_, ?_, ?_, fun k hk m1 m2 => ?_⟩, h.w1, ?_⟩
 ·rcases k3 with e3 | e3
  ·exact h.ap k hk (by rw [← e3]; exact e)
  ·rw [e] at e3; cases e3; have := (n1 _ hk).2.2.2.1; omega
 ·rw [sc_os, k2.os, hal.os, h.gf.os]
 ·rw [show (w5.setCell ⟨w.heap.size + 1, 1, none⟩ u).tape = w5.tape by simp, k2.tape, hal.tape, h.gf.tape]
 ·rw [sc_out, k2.output, hal.output, h.gf.output]
 ·have := h.gf.size; have := k2.size; simp; omega
 ·have := h.gf.size
  rw [oth k (by omega), stay k (by omega) (h.low k hk m1 m2).2, h.gf.keep k hk m1 m2]
 ·rcases k3 with e | e
  ·rcases h.w2 with a | a
   ·exact .inl (e.trans a)
   ·exact .inr fun k hk => a k (by rw [← e]; exact hk)
  ·exact .inr fun k hk => by rw [hk] at e; cases e; have := h.gf.size; omega
/-- behind a call: what it made is written into the box -/
theorem Ws.call (h : Ws w N pa re rs vb v1 v2 q u1 u2 wr) {q' : List Nat × List Nat} {a1 a2 : Value} (k1 : Ro w5 N a1 (nz q'.1)) (k2 : Ro w5 N a2 (nz q'.2)) (ka : ∀ k, a1.ownBlock = some k → a2.ownBlock ≠ some k) (kg : Gf2 u1.ownBlock u2.ownBlock wr w5) (e1 : Ow u1.ownBlock wr a1) (e2 : Ow u2.ownBlock wr a2) :
    Ws w N pa re rs vb v1 v2 q' a1 a2 ((w5.setCell ⟨w.heap.size + 1, 0, none⟩ a1).setCell ⟨w.heap.size + 1, 1, none⟩ a2) := by
 have hl := h.lt
 have n1 := h.ne1
 have n2 := h.ne2
 have nb : ∀ k, (k = w.heap.size ∨ k = w.heap.size + 1 ∨ k = w.heap.size + 2) → some k ≠ u1.ownBlock ∧ some k ≠ u2.ownBlock := fun k hk => ⟨fun e => by have := n1 k e.symm; omega, fun e => by have := n2 k e.symm; omega⟩
 have st : ∀ k, (k = w.heap.size ∨ k = w.heap.size + 1 ∨ k = w.heap.size + 2) → w5.heap[k]? = wr.heap[k]? := fun k hk => kg.keep k (by omega) (nb k hk).1 (nb k hk).2
 have q1 : w5.heap[w.heap.size + 1]? = some (.cells #[u1, u2] 81 (0, 0)) := (st _ (.inr (.inl rfl))).trans h.r1
 have q2 : (w5.setCell ⟨w.heap.size + 1, 0, none⟩ a1).heap[w.heap.size + 1]? = some (.cells #[a1, u2] 81 (0, 0)) := (heap_setCell_same w5 (w.heap.size + 1) 0 _ _ _ q1).trans rfl
 have oth : ∀ k, k ≠ w.heap.size + 1 → ((w5.setCell ⟨w.heap.size + 1, 0, none⟩ a1).setCell ⟨w.heap.size + 1, 1, none⟩ a2).heap[k]? = w5.heap[k]? := fun k hk => by
  rw [heap_setCell_other _ _ _ _ (by exact hk), heap_setCell_other _ _ _ _ (by exact hk)]
 have b1 := row_ne q1 (by decide) k1
 have b2 := row_ne q1 (by decide) k2
 refine ⟨(oth _ (by omega)).trans ((st _ (.inl rfl)).trans h.r0), (heap_setCell_same _ (w.heap.size + 1) 1 _ _ _ q2).trans rfl, (oth _ (by omega)).trans ((st _ (.inr (.inr rfl))).trans h.r2), k1.keep fun k hk => oth k (b1 k hk).1, k2.keep fun k hk => oth k (b2 k hk).1, ka, ⟨?_, ?_, ?_, ?_, fun k hk m1 m2 => ?_⟩, h.w1.trans h.gf.size e1, h.w2.trans h.gf.size e2⟩
 ·rw [sc_os, sc_os, kg.os, h.gf.os]
 ·rw [show ((w5.setCell ⟨w.heap.size + 1, 0, none⟩ a1).setCell ⟨w.heap.size + 1, 1, none⟩ a2).tape = w5.tape by simp, kg.tape, h.gf.tape]
 ·rw [sc_out, sc_out, kg.output, h.gf.output]
 ·have := h.gf.size; have := kg.size; simp; omega
 ·have := h.gf.size
  have hlow := h.low k hk m1 m2
  rw [oth k (by omega), kg.keep k (by omega) hlow.1 hlow.2, h.gf.keep k hk m1 m2]
end
/- the document's walk. By mkfze.py. -/
theorem Ws.r1g {w wr w5 : World} {N : Nat} {pa re : Int} {rs : Bool} {vb : Value} {v1 v2 vo : Option Nat} {q : List Nat × List Nat} {u1 u2 : Value} (h : Ws w N pa re rs vb v1 v2 q u1 u2 wr) {O : Obj} (hvo : vo = u1.ownBlock ∨ vo = u2.ownBlock) (k2 : (wr.alloc O).grownBy w5 vo) : w5.heap[w.heap.size + 1]? = some (.cells #[u1, u2] 81 (0, 0)) := by
 have hl := h.lt
 have hs : (wr.alloc O).heap.size = wr.heap.size + 1 := by simp
 refine ((k2.block _ (by omega) fun e => ?_).trans ((Vc.one_alloc wr O).block _ (by omega))).trans h.r1
 rcases hvo with e2 | e2
 ·exact (h.ne1 _ (by rw [← e2]; exact e.symm)).2.1 rfl
 ·exact (h.ne2 _ (by rw [← e2]; exact e.symm)).2.1 rfl
/-- the end: the result's box is written -/
theorem Ws.fin {w wr : World} {N : Nat} {pa re : Int} {rs : Bool} {vb : Value} {v1 v2 : Option Nat} {q : List Nat × List Nat} {u1 u2 : Value} (h : Ws w N pa re rs vb v1 v2 q u1 u2 wr) :
    ((wr.setCell ⟨w.heap.size + 2, 0, none⟩ u1).setCell ⟨w.heap.size + 2, 1, none⟩ u2).heap[w.heap.size + 2]? = some (.cells #[u1, u2] 81 (0, 0)) ∧ Ro ((wr.setCell ⟨w.heap.size + 2, 0, none⟩ u1).setCell ⟨w.heap.size + 2, 1, none⟩ u2) N u1 (nz q.1) ∧ Ro ((wr.setCell ⟨w.heap.size + 2, 0, none⟩ u1).setCell ⟨w.heap.size + 2, 1, none⟩ u2) N u2 (nz q.2) ∧ Gf2 v1 v2 w ((wr.setCell ⟨w.heap.size + 2, 0, none⟩ u1).setCell ⟨w.heap.size + 2, 1, none⟩ u2) := by
 have hl := h.lt
 have oth : ∀ k, k ≠ w.heap.size + 2 → ((wr.setCell ⟨w.heap.size + 2, 0, none⟩ u1).setCell ⟨w.heap.size + 2, 1, none⟩ u2).heap[k]? = wr.heap[k]? := fun k hk => by
  rw [heap_setCell_other _ _ _ _ (by exact hk), heap_setCell_other _ _ _ _ (by exact hk)]
 have q1 : (wr.setCell ⟨w.heap.size + 2, 0, none⟩ u1).heap[w.heap.size + 2]? = some (.cells #[u1, .slice none 0 0] 81 (0, 0)) := (heap_setCell_same wr (w.heap.size + 2) 0 _ _ _ h.r2).trans rfl
 refine ⟨(heap_setCell_same _ (w.heap.size + 2) 1 _ _ _ q1).trans rfl, h.o1.keep fun k hk => oth k (h.ne1 k hk).2.2.1, h.o2.keep fun k hk => oth k (h.ne2 k hk).2.2.1, ?_, ?_, ?_, ?_, fun k hk m1 m2 => ?_⟩
 ·rw [sc_os, sc_os, h.gf.os]
 ·exact h.gf.tape
 ·rw [sc_out, sc_out, h.gf.output]
 ·have := h.gf.size; simp; omega
 ·have := h.gf.size
  rw [oth k (by omega), h.gf.keep k hk m1 m2]
theorem rwalk_all (l : List Bl) (hc : Nok l) (N : Nat) (g : Nat → Prop) (hgN : ∀ k, g k → k < N) (pa re : Int) (rs : Bool) (va : Option Addr) (vc : Nat) :
    ∀ f b (s : List Nat × List Nat) (v1 v2 : Value) (w : World), b < l.length → b ∉ s.1 → s.1.Nodup → (∀ x ∈ s.1, x < l.length) → (∀ x ∈ s.2, x < l.length) → s.2.length ≤ s.1.length → l.length ≤ s.1.length + f → N ≤ w.heap.size → Bls w g l (.slice va l.length vc) → Ro w N v1 (nz s.1) → Ro w N v2 (nz s.2) → (∀ k, v1.ownBlock = some k → v2.ownBlock ≠ some k) →
    Calls Tryz.prog 38 #[.agg #[.int .i64 pa, .int .i64 re, .bool rs, .slice va l.length vc], .agg #[v1, v2], .int .i64 (b : Int)] w fun e w' => ∃ u1 u2, e = .returned (.agg #[u1, u2]) ∧ Ro w' N u1 (nz (wk (nxs l) f b s).1) ∧ Ro w' N u2 (nz (wk (nxs l) f b s).2) ∧ (∀ k, u1.ownBlock = some k → u2.ownBlock ≠ some k) ∧ Gf2 v1.ownBlock v2.ownBlock w w' ∧ Ow v1.ownBlock w u1 ∧ Ow v2.ownBlock w u2 := by
 intro f
 have hlen := hc.len
 have hin := hc.inn
 have hnl := nxs_len l
 induction f with
 | zero =>
   intro b s v1 v2 w hb hm hd hi ho hoi hl hN hB hR1 hR2 hap
   exact absurd (nodup_all hd hi (by omega) b hb) hm
 | succ f ih =>
   intro b s v1 v2 w hb hm hd hi ho hoi hl hN hB hR1 hR2 hap
   obtain ⟨a1, c1, rfl, hc1⟩ := hR1.sl
   obtain ⟨a2, c2, rfl, hc2⟩ := hR2.sl
   have hil := nodup_le l.length s.1 hd hi
   obtain ⟨x, hx⟩ : ∃ x, l[b]? = some x := ⟨_, List.getElem?_eq_getElem hb⟩
   have hnx := nxs_at hx
   have hxl := hc.nlen x (List.mem_of_getElem? hx)
   obtain ⟨m, hmm⟩ : ∃ m, m = x.next.length := ⟨_, rfl⟩
   obtain ⟨r, hr⟩ : ∃ r, r = (nxs l).getD b [] := ⟨_, rfl⟩
   have hnb := hin b
   rw [← hr] at hnb
   have hrm : r.length = m := by rw [hr, hnx, List.length_map, hmm]
   have hd1 : (s.1 ++ [b]).Nodup := by
    rw [List.nodup_append]
    exact ⟨hd, by simp, fun z hz y hy => by rw [List.mem_singleton] at hy; rw [hy]; exact fun e => hm (e ▸ hz)⟩
   have hi1 : ∀ x ∈ s.1 ++ [b], x < (nxs l).length := fun x hx => by
    rw [hnl]
    rcases List.mem_append.1 hx with h | h
    ·exact hi x h
    ·rw [List.mem_singleton] at h; subst h; exact hb
   have hwn : ∀ j, Wn (nxs l) (s.1 ++ [b], s.2) ((r.take j).foldl (wkw (nxs l) f) (s.1 ++ [b], s.2)) := fun j => wkw_wn _ hin f _ (fun y hy => hnb y (List.mem_of_mem_take hy)) _ hd1 hi1 (fun x hx => by rw [hnl]; exact ho x hx)
   have hwk : wk (nxs l) (f + 1) b s = ((r.foldl (wkw (nxs l) f) (s.1 ++ [b], s.2)).1, (r.foldl (wkw (nxs l) f) (s.1 ++ [b], s.2)).2 ++ [b]) := by rw [wk_succ, hr]
   obtain ⟨o1, ho1⟩ : ∃ o, o = (Value.slice a1 (nz s.1).length c1).ownBlock := ⟨_, rfl⟩
   obtain ⟨o2, ho2⟩ : ∃ o, o = (Value.slice a2 (nz s.2).length c2).ownBlock := ⟨_, rfl⟩
   have hv1 : ∀ k, o1 = some k → N ≤ k := fun k e => (hR1.lt k (by rw [← ho1]; exact e)).1
   have hv2 : ∀ k, o2 = some k → N ≤ k := fun k e => (hR2.lt k (by rw [← ho2]; exact e)).1
   obtain ⟨X, hX⟩ : ∃ X, X = ((w.alloc (.cells (cob pa re rs (.slice va l.length vc)) 24)).alloc (.cells #[.slice a1 (nz s.1).length c1, .slice a2 (nz s.2).length c2] 81)).alloc (.cells #[.slice none 0 0, .slice none 0 0] 81) := ⟨_, rfl⟩
   have hXb : Below w.heap.size w X := by rw [hX]; exact (Vc.two_allocs w _ _).alloc (by simp; omega) _
   have hws : Ws w N pa re rs (.slice va l.length vc) o1 o2 s (.slice a1 (nz s.1).length c1) (.slice a2 (nz s.2).length c2) X := by
    refine ⟨?_, ?_, ?_, hR1.below hXb, hR2.below hXb, hap, ⟨hXb.os, hXb.tape, hXb.output, hXb.size, fun k hk _ _ => hXb.block k hk⟩, .inl ho1.symm, .inl ho2.symm⟩
    ·rw [hX, Below.heap_alloc _ _ _ (by simp; omega), Below.heap_alloc _ _ _ (by simp)]; exact heap_alloc_new _ _
    ·rw [hX, Below.heap_alloc _ _ _ (by simp)]
     have := heap_alloc_new (w.alloc (.cells (cob pa re rs (.slice va l.length vc)) 24)) (.cells #[.slice a1 (nz s.1).length c1, .slice a2 (nz s.2).length c2] 81)
     rw [show (w.alloc (.cells (cob pa re rs (.slice va l.length vc)) 24)).heap.size = w.heap.size + 1 by simp] at this
     exact this
    ·have := heap_alloc_new ((w.alloc (.cells (cob pa re rs (.slice va l.length vc)) 24)).alloc (.cells #[.slice a1 (nz s.1).length c1, .slice a2 (nz s.2).length c2] 81)) (.cells #[.slice none 0 0, .slice none 0 0] 81)
     rw [show ((w.alloc (.cells (cob pa re rs (.slice va l.length vc)) 24)).alloc (.cells #[.slice a1 (nz s.1).length c1, .slice a2 (nz s.2).length c2] 81)).heap.size = w.heap.size + 2 by simp, ← hX] at this
     exact this
   rw [← ho1, ← ho2]
   have y0 := cell_of_row X (w.heap.size + 1) 0 _ _ _ hws.r1
   have y1 := cell_of_row X (w.heap.size + 1) 1 _ _ _ hws.r1
   have yf : ∀ i, X.frozen? ⟨w.heap.size + 1, i, none⟩ = false := fun i => frozen_of_row X _ i _ _ hws.r1
   simp only [List.getElem?_toArray, List.getElem?_cons_zero, List.getElem?_cons_succ] at y0 y1
   have hnz1 : (nz s.1).length ≤ 1048576 := by rw [nz_len]; omega
   have HB := hide hB; have HN := hide hN; have HIh := hide ih; have HWn := hide hwn; have HXx := hide hx; have HMm := hide hmm; have HRm := hide hrm; have HR := hide hr; have HNx := hide hnx; have HC := hide hc; have HGN := hide hgN; have HNb := hide hnb; have HWk := hide hwk; have HV1 := hide hv1; have HV2 := hide hv2; have HWs := hide hws; have HNl := hide hnl; have HLn := hide hlen; have HLf := hide (show l.length ≤ s.1.length + 1 + f by omega); have HOi := hide hoi; have HNz := hide hnz1; have HIl := hide hil
   have hmi : (m : Int) ≤ 1048576 := by omega
   have hbl : (b : Int) < (l.length : Int) := by omega
   clear hB hN ih hwn hx hmm hrm hr hnx hnl hlen hnb hwk hv1 hv2 hws hXb hd1 hi1 hd hi ho hoi hl hR1 hR2 hap hxl hm hc1 hc2 ho1 ho2 hnz1 hil hgN
   go_enter Tryz.func38, Tryz.ntmps38
   go_upto_region 1 with fail
   rw [show ((w.alloc (.cells #[.int .i64 pa, .int .i64 re, .bool rs, .slice va l.length vc] 24)).alloc (.cells #[.slice a1 (nz s.1).length c1, .slice a2 (nz s.2).length c2] 81)).alloc (.cells #[.slice none 0 0, .slice none 0 0] 81) = X from hX.symm]
   clear hX
   go_upto_region 2 with (at_builtin
                          refine wpList_push ((unhide HWs).o1.below (Vc.one_alloc X (.cells #[.int .i64 (b : Int)] 3))) (b : Int) rfl (.tmp 9) (.tmp 11) rfl rfl (B := X.heap.size) rfl (by rw [cell_of_row _ _ 0 _ _ _ (heap_alloc_new X _)]; rfl) (by have := unhide HNz; omega) (by have := unhide HN; have := (unhide HWs).lt; simp; omega) ?_
                          intro b1 d1 w2 h1 h2 h3
                          have hq := (unhide HWs).r1g (.inl rfl) h2
                          clear y0 y1 yf
                          have y0 := cell_of_row w2 (w.heap.size + 1) 0 _ _ _ hq
                          have y1 := cell_of_row w2 (w.heap.size + 1) 1 _ _ _ hq
                          have yf : ∀ i, w2.frozen? ⟨w.heap.size + 1, i, none⟩ = false := fun i => frozen_of_row w2 _ i _ _ hq
                          simp only [List.getElem?_toArray, List.getElem?_cons_zero, List.getElem?_cons_succ] at y0 y1
                          have h1' : Ro w2 N (.slice b1 ((nz s.1).length + 1) d1) (nz (s.1 ++ [b])) := by rw [nz_app]; exact h1
                          have HW2 := hide ((unhide HWs).push1 h1' h2 h3)
                          clear h1 h2 h3 hq h1')
   clear y0 y1 yf
   have hl1 : (nz s.1).length + 1 = (nz (s.1 ++ [b])).length := by rw [nz_len, nz_len, List.length_append]; rfl
   rw [hl1] at HW2
   rw [hl1]
   generalize w2.setCell ⟨w.heap.size + 1, 0, none⟩ (.slice b1 (nz (s.1 ++ [b])).length d1) = W3 at *
   clear HWs hl1
   go_wp2_with fail
   go_loopw [7] (fun c wr => ∃ (j : Nat) (q : List Nat × List Nat) (p1 : Option Addr) (e1 : Nat) (p2 : Option Addr) (e2 : Nat), j ≤ m ∧ c = .int .i64 (j : Int) ∧ q = (r.take j).foldl (wkw (nxs l) f) (s.1 ++ [b], s.2) ∧ Ws w N pa re rs (.slice va l.length vc) o1 o2 q (.slice p1 (nz q.1).length e1) (.slice p2 (nz q.2).length e2) wr) (fun c _ => m - (intOf c).toNat)
   case atStart => exact ⟨0, (s.1 ++ [b], s.2), b1, d1, a2, c2, Nat.zero_le _, rfl, by simp, unhide HW2⟩
   case round =>
    obtain ⟨j, q, p1, e1, p2, e2, hj, rfl, hq, hW⟩ := hrel
    obtain ⟨c0, c1', c2', c3, cf, cl⟩ := cob_cellsR hW.r0
    have hN := unhide HN
    have hsz := hW.gf.size
    have hBr := bls_gf2 (unhide HB) (unhide HGN) (unhide HV1) (unhide HV2) hW.gf
    have hx := unhide HXx
    have hcq := unhide HWn j
    rw [← hq] at hcq
    have y0 := cell_of_row wr (w.heap.size + 1) 0 _ _ _ hW.r1
    have y1 := cell_of_row wr (w.heap.size + 1) 1 _ _ _ hW.r1
    have yf : ∀ i, wr.frozen? ⟨w.heap.size + 1, i, none⟩ = false := fun i => frozen_of_row wr _ i _ _ hW.r1
    simp only [List.getElem?_toArray, List.getElem?_cons_zero, List.getElem?_cons_succ] at y0 y1
    obtain ⟨Bb, ob, vi, vn, hva, hBN, hBl, -, d0, d1', d2, hin', hnn⟩ := blk_next hBr hx
    subst hva
    obtain ⟨na, nc, rfl, -, -, -⟩ := id hnn
    rw [← unhide HMm] at d1'
    have hBbN := unhide HGN _ hBN
    have hqa : q.1.length ≤ 1048576 := by
     have := nodup_le _ _ hcq.nd hcq.lt
     have := unhide HNl; have := unhide HLn; omega
    by_cases hlt : j < m
    ·obtain ⟨t, hz, htl, hgt⟩ := (unhide HC).at_ hx (k := j) (by rw [← unhide HMm]; exact hlt)
     obtain ⟨Bn, on, hna, hBnN, hnc⟩ := nums_at hnn (k := j) (by rw [← unhide HMm]; exact hlt)
     subst hna
     have x1 := hnc j (by rw [← unhide HMm]; exact hlt)
     rw [hz] at x1
     have hBnN2 := unhide HGN _ hBnN
     have hrj : r[j]? = some t := by rw [unhide HR, unhide HNx]; exact hgt
     have hst : (r.take (j + 1)).foldl (wkw (nxs l) f) (s.1 ++ [b], s.2) = wkw (nxs l) f q t := by
      obtain ⟨h8, h9⟩ := List.getElem?_eq_some_iff.1 hrj
      rw [List.take_succ_eq_append_getElem h8, List.foldl_append, ← hq, h9]; rfl
     have hjm : (j : Int) < (m : Int) := by omega
     have hhas := has_any (nz q.1) (t : Int) (.slice p1 (nz q.1).length e1) wr.drew (hW.drew.o1.nums.moved fun k _ h => ⟨h.2, rfl⟩) (by rw [nz_len]; omega)
     rw [mem_nz9] at hhas
     -- what stays where two rows may have grown
     have hSk : ∀ W, Gf2 (Value.slice p1 (nz q.1).length e1).ownBlock (Value.slice p2 (nz q.2).length e2).ownBlock wr W → W.cell? ⟨w.heap.size, 0, none⟩ = some (.int .i64 pa) ∧ W.cell? ⟨w.heap.size, 1, none⟩ = some (.int .i64 re) ∧ W.cell? ⟨w.heap.size, 2, none⟩ = some (.bool rs) ∧ W.cell? ⟨w.heap.size, 3, none⟩ = some (.slice (some ⟨Bb, ob, none⟩) l.length vc) ∧ W.cell? ⟨Bb, ob + b * 3 + 1, none⟩ = some (.slice (some ⟨Bn, on, none⟩) m nc) ∧ W.cell? ⟨Bn, on + j, none⟩ = some (.int .i64 (t : Int)) := fun W hW2 => by
      have n1 := hW.ne1
      have n2 := hW.ne2
      have kb := hW2.keep w.heap.size cl (fun e => (n1 _ e.symm).1 rfl) (fun e => (n2 _ e.symm).1 rfl)
      have kB := hW2.keep Bb hBl (fun e => by have := (n1 _ e.symm).2.2.2.2; omega) (fun e => by have := (n2 _ e.symm).2.2.2.2; omega)
      have kn := hW2.keep Bn (block_lt_of_cell x1) (fun e => by have := (n1 _ e.symm).2.2.2.2; omega) (fun e => by have := (n2 _ e.symm).2.2.2.2; omega)
      exact ⟨(World.cell?_of_block (a := ⟨w.heap.size, 0, none⟩) kb).trans c0, (World.cell?_of_block (a := ⟨w.heap.size, 1, none⟩) kb).trans c1', (World.cell?_of_block (a := ⟨w.heap.size, 2, none⟩) kb).trans c2', (World.cell?_of_block (a := ⟨w.heap.size, 3, none⟩) kb).trans c3, (World.cell?_of_block (a := ⟨Bb, ob + b * 3 + 1, none⟩) kB).trans d1', (World.cell?_of_block (a := ⟨Bn, on + j, none⟩) kn).trans x1⟩
     have hsd : Gf2 (Value.slice p1 (nz q.1).length e1).ownBlock (Value.slice p2 (nz q.2).length e2).ownBlock wr wr.drew.drew := ⟨rfl, (bdrew (bdrew (Below.refl wr.heap.size wr))).tape, rfl, Nat.le_refl _, fun _ _ _ _ => rfl⟩
     have htr : ∀ W, Gf2 (Value.slice p1 (nz q.1).length e1).ownBlock (Value.slice p2 (nz q.2).length e2).ownBlock wr.drew.drew W → Gf2 (Value.slice p1 (nz q.1).length e1).ownBlock (Value.slice p2 (nz q.2).length e2).ownBlock wr W := fun W h => ⟨h.os, h.tape.trans hsd.tape, h.output, h.size, h.keep⟩
     have hRk : ∀ W, Gf2 (Value.slice p1 (nz q.1).length e1).ownBlock (Value.slice p2 (nz q.2).length e2).ownBlock wr.drew.drew W → W.heap[w.heap.size + 1]? = some (.cells #[.slice p1 (nz q.1).length e1, .slice p2 (nz q.2).length e2] 81 (0, 0)) := fun W h => ((htr W h).keep _ (by have := hW.lt; omega) (fun e => (hW.ne1 _ e.symm).2.1 rfl) (fun e => (hW.ne2 _ e.symm).2.1 rfl)).trans hW.r1
     have hfar : ∀ (B : Nat) (o : Nat) (W : World) (i : Nat) (u : Value), B ≠ w.heap.size + 1 → (W.setCell ⟨w.heap.size + 1, i, none⟩ u).cell? ⟨B, o, none⟩ = W.cell? ⟨B, o, none⟩ := fun B o W i u hB => World.cell?_setCell_far _ _ _ _ (fun e => hB e.symm)
     have hSk2 : ∀ W, Gf2 (Value.slice p1 (nz q.1).length e1).ownBlock (Value.slice p2 (nz q.2).length e2).ownBlock wr.drew.drew W → ∀ u1 u2 : Value, ((W.setCell ⟨w.heap.size + 1, 0, none⟩ u1).setCell ⟨w.heap.size + 1, 1, none⟩ u2).cell? ⟨w.heap.size, 0, none⟩ = some (.int .i64 pa) ∧ ((W.setCell ⟨w.heap.size + 1, 0, none⟩ u1).setCell ⟨w.heap.size + 1, 1, none⟩ u2).cell? ⟨w.heap.size, 1, none⟩ = some (.int .i64 re) ∧ ((W.setCell ⟨w.heap.size + 1, 0, none⟩ u1).setCell ⟨w.heap.size + 1, 1, none⟩ u2).cell? ⟨w.heap.size, 2, none⟩ = some (.bool rs) ∧ ((W.setCell ⟨w.heap.size + 1, 0, none⟩ u1).setCell ⟨w.heap.size + 1, 1, none⟩ u2).cell? ⟨w.heap.size, 3, none⟩ = some (.slice (some ⟨Bb, ob, none⟩) l.length vc) ∧ ((W.setCell ⟨w.heap.size + 1, 0, none⟩ u1).setCell ⟨w.heap.size + 1, 1, none⟩ u2).cell? ⟨Bb, ob + b * 3 + 1, none⟩ = some (.slice (some ⟨Bn, on, none⟩) m nc) ∧ ((W.setCell ⟨w.heap.size + 1, 0, none⟩ u1).setCell ⟨w.heap.size + 1, 1, none⟩ u2).cell? ⟨Bn, on + j, none⟩ = some (.int .i64 (t : Int)) := fun W h u1 u2 => by
      obtain ⟨z0, z1, z2, z3, z4, z5⟩ := hSk W (htr W h)
      have b0 : w.heap.size ≠ w.heap.size + 1 := by omega
      have b1 : Bb ≠ w.heap.size + 1 := by omega
      have b2 : Bn ≠ w.heap.size + 1 := by omega
      refine ⟨?_, ?_, ?_, ?_, ?_, ?_⟩
      ·rw [hfar _ _ _ _ _ b0, hfar _ _ _ _ _ b0]; exact z0
      ·rw [hfar _ _ _ _ _ b0, hfar _ _ _ _ _ b0]; exact z1
      ·rw [hfar _ _ _ _ _ b0, hfar _ _ _ _ _ b0]; exact z2
      ·rw [hfar _ _ _ _ _ b0, hfar _ _ _ _ _ b0]; exact z3
      ·rw [hfar _ _ _ _ _ b1, hfar _ _ _ _ _ b1]; exact z4
      ·rw [hfar _ _ _ _ _ b2, hfar _ _ _ _ _ b2]; exact z5
     have hcall : t ∉ q.1 → Calls Tryz.prog 38 #[.agg #[.int .i64 pa, .int .i64 re, .bool rs, .slice (some ⟨Bb, ob, none⟩) l.length vc], .agg #[.slice p1 (nz q.1).length e1, .slice p2 (nz q.2).length e2], .int .i64 (t : Int)] wr.drew.drew fun e w' => ∃ u1 u2, e = .returned (.agg #[u1, u2]) ∧ Ro w' N u1 (nz (wk (nxs l) f t q).1) ∧ Ro w' N u2 (nz (wk (nxs l) f t q).2) ∧ (∀ k, u1.ownBlock = some k → u2.ownBlock ≠ some k) ∧ Gf2 (Value.slice p1 (nz q.1).length e1).ownBlock (Value.slice p2 (nz q.2).length e2).ownBlock wr.drew.drew w' ∧ Ow (Value.slice p1 (nz q.1).length e1).ownBlock wr.drew.drew u1 ∧ Ow (Value.slice p2 (nz q.2).length e2).ownBlock wr.drew.drew u2 := fun hm => by
      have h3 := hcq.le
      have h4 := hcq.ll
      simp only [List.length_append, List.length_singleton] at h3 h4
      have h5 := unhide HOi
      have h6 := unhide HLf
      exact unhide HIh t q (.slice p1 (nz q.1).length e1) (.slice p2 (nz q.2).length e2) wr.drew.drew htl hm hcq.nd (fun y hy => by have := hcq.lt y hy; rwa [unhide HNl] at this) (fun y hy => by have := hcq.lo y hy; rwa [unhide HNl] at this) (by omega) (by omega) (Nat.le_trans hN hsz) (hBr.moved (fun k _ h => ⟨h, rfl⟩) (Nat.le_refl _)) hW.drew.drew.o1 hW.drew.drew.o2 hW.ap
     have HSk := hide (fun W (h : Gf2 (Value.slice p1 (nz q.1).length e1).ownBlock (Value.slice p2 (nz q.2).length e2).ownBlock wr.drew.drew W) => hSk W (htr W h)); have HKd := hide (hSk _ hsd); have HRk := hide hRk; have HSk2 := hide hSk2; have HWd := hide hW.drew.drew; have HWd1 := hide hW.drew; have HHas := hide hhas; have HSt0 := hide hst; have HLt := hide hlt; have HCall := hide hcall
     have hpre : wr.drew.cell? ⟨w.heap.size + 1, 0, none⟩ = some (.slice p1 (nz q.1).length e1) ∧ wr.drew.cell? ⟨w.heap.size, 3, none⟩ = some (.slice (some ⟨Bb, ob, none⟩) l.length vc) ∧ wr.drew.cell? ⟨Bb, ob + b * 3 + 1, none⟩ = some (.slice (some ⟨Bn, on, none⟩) m nc) ∧ wr.drew.cell? ⟨Bn, on + j, none⟩ = some (.int .i64 (t : Int)) := ⟨y0, c3, d1', x1⟩
     have HP5 := hide hpre
     clear hSk hsd htr hRk hfar hSk2 hcall hhas hst hlt hcq hBr hnn hin' hnc hgt hz htl hrj hq hx hj hsz hN hBN hBnN hBbN hBnN2 d0 d2 hW hqa hpre
     go_upto_region 5 with fail
     have gk := unhide HP5
     by_cases hm : t ∈ q.1
     ·have HH := unhide HHas
      rw [decide_eq_true hm] at HH
      have HH1 := hide HH
      have HSt := hide ((unhide HSt0).trans (show wkw (nxs l) f q t = q from if_pos hm))
      clear HH hm HCall
      go_region_held3 (fun W => W.cell? ⟨w.heap.size + 1, 0, none⟩ = some (.slice p1 (nz q.1).length e1) ∧ W.cell? ⟨w.heap.size, 3, none⟩ = some (.slice (some ⟨Bb, ob, none⟩) l.length vc) ∧ W.cell? ⟨Bb, ob + b * 3 + 1, none⟩ = some (.slice (some ⟨Bn, on, none⟩) m nc) ∧ W.cell? ⟨Bn, on + j, none⟩ = some (.int .i64 (t : Int))) (first | go_keep | exact gk)
       (first
        | (go_at_call 37; refine (unhide HH1).mono ?_; rintro e w7 ⟨rfl, hw7⟩; have hw8 := hw7.symm; clear hw7; subst hw8; have gk := unhide HP5))
      go_wp2_with fail
      go_roundw
      case rel => exact ⟨j + 1, q, p1, e1, p2, e2, by have := unhide HLt; omega, by go_num, (unhide HSt).symm, unhide HWd1⟩
      case measure => have := unhide HLt; simp [intOf]; omega
     ·have HH := unhide HHas
      rw [decide_eq_false hm] at HH
      have HH1 := hide HH
      have HSt := hide ((unhide HSt0).trans (show wkw (nxs l) f q t = wk (nxs l) f t q from if_neg hm)).symm
      have HCa := hide (unhide HCall hm)
      clear HH hm HCall
      go_region_held3 (fun W => W.cell? ⟨w.heap.size + 1, 0, none⟩ = some (.slice p1 (nz q.1).length e1) ∧ W.cell? ⟨w.heap.size, 3, none⟩ = some (.slice (some ⟨Bb, ob, none⟩) l.length vc) ∧ W.cell? ⟨Bb, ob + b * 3 + 1, none⟩ = some (.slice (some ⟨Bn, on, none⟩) m nc) ∧ W.cell? ⟨Bn, on + j, none⟩ = some (.int .i64 (t : Int))) (first | go_keep | exact gk)
       (first
        | (go_at_call 37; refine (unhide HH1).mono ?_; rintro e w7 ⟨rfl, hw7⟩; have hw8 := hw7.symm; clear hw7; subst hw8; have gk := unhide HP5))
      clear gk
      have y0 := cell_of_row wr.drew.drew (w.heap.size + 1) 0 _ _ _ (unhide HWd).r1
      have y1 := cell_of_row wr.drew.drew (w.heap.size + 1) 1 _ _ _ (unhide HWd).r1
      have yf : ∀ i, wr.drew.drew.frozen? ⟨w.heap.size + 1, i, none⟩ = false := fun i => frozen_of_row wr.drew.drew _ i _ _ (unhide HWd).r1
      simp only [List.getElem?_toArray, List.getElem?_cons_zero, List.getElem?_cons_succ] at y0 y1
      go_upto_region 6 with fail
      refine wp_region_held_drew (S := fun W => W.cell? ⟨w.heap.size, 0, none⟩ = some (.int .i64 pa) ∧ W.cell? ⟨w.heap.size, 1, none⟩ = some (.int .i64 re) ∧ W.cell? ⟨w.heap.size, 2, none⟩ = some (.bool rs) ∧ W.cell? ⟨w.heap.size, 3, none⟩ = some (.slice (some ⟨Bb, ob, none⟩) l.length vc) ∧ W.cell? ⟨Bb, ob + b * 3 + 1, none⟩ = some (.slice (some ⟨Bn, on, none⟩) m nc) ∧ W.cell? ⟨Bn, on + j, none⟩ = some (.int .i64 (t : Int))) (by kernel_rfl) (unhide HKd) (fun _ => ?_)
      refine tk 0 ?vt0 rfl ?yt0 (unhide HKd) ?_
      case yt0 => intro w hSw; obtain ⟨s0, s1, s2, s3, s4, s5⟩ := hSw; go_simp; first | done | rfl
      simp only [tq1, tq2, tq3, Act.put, tq4, tq5, tq6]
      refine tk 2 ?vt2 rfl ?yt2 (unhide HKd) ?_
      case yt2 => intro w hSw; obtain ⟨s0, s1, s2, s3, s4, s5⟩ := hSw; go_simp; first | done | rfl
      simp only [tq1, tq2, tq3, Act.put, tq4, tq5, tq6]
      refine tk 3 ?vt3 rfl ?yt3 (unhide HKd) ?_
      case yt3 => intro w hSw; obtain ⟨s0, s1, s2, s3, s4, s5⟩ := hSw; go_simp; first | done | rfl
      simp only [tq1, tq2, tq3, Act.put, tq4, tq5, tq6]
      refine tk 4 ?vt4 rfl ?yt4 (unhide HKd) ?_
      case yt4 => intro w hSw; obtain ⟨s0, s1, s2, s3, s4, s5⟩ := hSw; go_simp; first | done | rfl
      simp only [tq1, tq2, tq3, Act.put, tq4, tq5, tq6]
      refine tk 5 ?vt5 rfl ?yt5 (unhide HKd) ?_
      case yt5 => intro w hSw; obtain ⟨s0, s1, s2, s3, s4, s5⟩ := hSw; go_simp; first | done | rfl
      simp only [tq1, tq2, tq3, Act.put, tq4, tq5, tq6]
      refine tk 6 ?vt6 rfl ?yt6 (unhide HKd) ?_
      case yt6 => intro w hSw; obtain ⟨s0, s1, s2, s3, s4, s5⟩ := hSw; go_simp; first | done | rfl
      simp only [tq1, tq2, tq3, Act.put, tq4, tq5, tq6]
      refine tk 7 ?vt7 rfl ?yt7 (unhide HKd) ?_
      case yt7 => intro w hSw; obtain ⟨s0, s1, s2, s3, s4, s5⟩ := hSw; go_simp; first | done | rfl
      simp only [tq1, tq2, tq3, Act.put, tq4, tq5, tq6]
      refine tk 8 ?vt8 rfl ?yt8 (unhide HKd) ?_
      case yt8 => intro w hSw; obtain ⟨s0, s1, s2, s3, s4, s5⟩ := hSw; go_simp; first | done | rfl
      simp only [tq1, tq2, tq3, Act.put, tq4, tq5, tq6]
      refine tk 9 ?vt9 rfl ?yt9 (unhide HKd) ?_
      case yt9 => intro w hSw; obtain ⟨s0, s1, s2, s3, s4, s5⟩ := hSw; go_simp; first | done | rfl
      simp only [tq1, tq2, tq3, Act.put, tq4, tq5, tq6]
      refine tk 10 ?vt10 rfl ?yt10 (unhide HKd) ?_
      case yt10 => intro w hSw; obtain ⟨s0, s1, s2, s3, s4, s5⟩ := hSw; go_simp; first | done | rfl
      simp only [tq1, tq2, tq3, Act.put, tq4, tq5, tq6]
      refine wpAnyH_ready (rs := [1]) (by kernel_rfl) (by simp) ?_
      refine AllReadyH.cons rfl (fun K hK => ?_) AllReadyH.nil
      go_simp
      refine hK.out _ _ (unhide HKd) (fun _ => ?_)
      clear hK
      try simp only [tq1, tq2, tq3, Act.put, tq4, tq5, tq6]
      refine wpAnyH_ready (rs := [11]) (by kernel_rfl) (by simp) ?_
      refine AllReadyH.cons rfl (fun K hK => ?_) AllReadyH.nil
      go_simp
      go_at_call 38
      refine (unhide HCa).mono ?_
      rintro e w6 ⟨x1', x2', rfl, k1, k2, k3, k4, k5, k6⟩
      obtain ⟨p3, e3, rfl, -⟩ := k1.sl
      obtain ⟨p4, e4, rfl, -⟩ := k2.sl
      have HK6 := hide (unhide HSk w6 k4)
      have hq6 := unhide HRk w6 k4
      have hcw := (unhide HWd).call k1 k2 k3 k4 k5 k6
      have HK8 := hide (unhide HSk2 w6 k4 (.slice p3 (nz (wk (nxs l) f t q).1).length e3) (.slice p4 (nz (wk (nxs l) f t q).2).length e4))
      have HCw := hide hcw
      clear k1 k2 k3 k4 k5 k6 hcw y0 y1 yf
      have y0 := cell_of_row w6 (w.heap.size + 1) 0 _ _ _ hq6
      have y1 := cell_of_row w6 (w.heap.size + 1) 1 _ _ _ hq6
      have yf : ∀ i, w6.frozen? ⟨w.heap.size + 1, i, none⟩ = false := fun i => frozen_of_row w6 _ i _ _ hq6
      simp only [List.getElem?_toArray, List.getElem?_cons_zero, List.getElem?_cons_succ] at y0 y1
      go_wp2_with fail
      refine hK.out _ _ (unhide HK6) (fun _ => ?_)
      clear hK
      try simp only [tq1, tq2, tq3, Act.put, tq4, tq5, tq6]
      refine wpAnyH_ready (rs := [12]) (by kernel_rfl) (by simp) ?_
      refine AllReadyH.cons rfl (fun K hK => ?_) AllReadyH.nil
      go_simp
      refine hK.out _ _ (unhide HK8) (fun _ => ?_)
      clear hK
      refine wpAnyH_done (by kernel_rfl) ?_ _
      generalize (w6.setCell ⟨w.heap.size + 1, 0, none⟩ (.slice p3 (nz (wk (nxs l) f t q).1).length e3)).setCell ⟨w.heap.size + 1, 1, none⟩ (.slice p4 (nz (wk (nxs l) f t q).2).length e4) = W8 at *
      clear y0 y1 yf
      go_wp2_with fail
      go_roundw
      case rel => exact ⟨j + 1, wk (nxs l) f t q, p3, e3, p4, e4, by have := unhide HLt; omega, by go_num, unhide HSt, unhide HCw⟩
      case measure => have := unhide HLt; simp [intOf]; omega
    ·obtain rfl : j = m := by omega
     have hfin : q = r.foldl (wkw (nxs l) f) (s.1 ++ [b], s.2) := by rw [hq, List.take_of_length_le (by rw [unhide HRm]; exact Nat.le_refl _)]
     have hql : (nz q.2).length + 1 ≤ 1099511627776 := by
      rw [nz_len]
      have h4 := hcq.ll
      simp only [List.length_append, List.length_singleton] at h4
      have h5 := unhide HOi
      omega
     have HW := hide hW; have HFin := hide hfin; have HQl := hide hql
     have hjm : ¬ (j : Int) < (j : Int) := by omega
     clear hfin hql hW hcq hBr hnn hin' hq hx hj hsz hN hBN hBbN d0 d2 hqa hlt
     go_upto_region 8 with (at_builtin
                            refine wpList_push ((unhide HW).o2.below (Vc.one_alloc wr (.cells #[.int .i64 (b : Int)] 3))) (b : Int) rfl (.tmp 51) (.tmp 53) rfl rfl (B := wr.heap.size) rfl (by rw [cell_of_row _ _ 0 _ _ _ (heap_alloc_new wr _)]; rfl) (unhide HQl) (by have := unhide HN; have := (unhide HW).lt; have := (unhide HW).gf.size; simp; omega) ?_
                            intro b3 d3 w5 h1 h2 h3
                            have hq := (unhide HW).r1g (.inr rfl) h2
                            clear y0 y1 yf
                            have y0 := cell_of_row w5 (w.heap.size + 1) 0 _ _ _ hq
                            have y1 := cell_of_row w5 (w.heap.size + 1) 1 _ _ _ hq
                            have yf : ∀ i, w5.frozen? ⟨w.heap.size + 1, i, none⟩ = false := fun i => frozen_of_row w5 _ i _ _ hq
                            simp only [List.getElem?_toArray, List.getElem?_cons_zero, List.getElem?_cons_succ] at y0 y1
                            have h1' : Ro w5 N (.slice b3 ((nz q.2).length + 1) d3) (nz (q.2 ++ [b])) := by rw [nz_app]; exact h1
                            have HW5 := hide ((unhide HW).push2 h1' h2 h3)
                            clear h1 h2 h3 hq h1')
     clear y0 y1 yf c0 c1' c2' c3 cf cl
     generalize w5.setCell ⟨w.heap.size + 1, 1, none⟩ (.slice b3 ((nz q.2).length + 1) d3) = W6 at *
     have y0 := cell_of_row W6 (w.heap.size + 1) 0 _ _ _ (unhide HW5).r1
     have y1 := cell_of_row W6 (w.heap.size + 1) 1 _ _ _ (unhide HW5).r1
     have z0 := cell_of_row W6 (w.heap.size + 2) 0 _ _ _ (unhide HW5).r2
     have z1 := cell_of_row W6 (w.heap.size + 2) 1 _ _ _ (unhide HW5).r2
     have zf : ∀ i, W6.frozen? ⟨w.heap.size + 2, i, none⟩ = false := fun i => frozen_of_row W6 _ i _ _ (unhide HW5).r2
     simp only [List.getElem?_toArray, List.getElem?_cons_zero, List.getElem?_cons_succ] at y0 y1 z0 z1
     obtain ⟨f1, f2, f3, f4⟩ := (unhide HW5).fin
     have HF1 := hide f1; have HF2 := hide f2; have HF3 := hide f3; have HF4 := hide f4
     clear f1 f2 f3 f4
     go_wp2_with fail
     generalize (W6.setCell ⟨w.heap.size + 2, 0, none⟩ (.slice p1 (nz q.1).length e1)).setCell ⟨w.heap.size + 2, 1, none⟩ (.slice b3 ((nz q.2).length + 1) d3) = W8 at *
     have t0 := cell_of_row W8 (w.heap.size + 2) 0 _ _ _ (unhide HF1); have t1 := cell_of_row W8 (w.heap.size + 2) 1 _ _ _ (unhide HF1)
     simp only [List.getElem?_toArray, List.getElem?_cons_zero, List.getElem?_cons_succ] at t0 t1
     exact bodyPost_ret (v := .agg #[.slice p1 (nz q.1).length e1, .slice b3 ((nz q.2).length + 1) d3]) (by simp [results, Tryz.results38, go_sem, t0, t1]) rfl ⟨_, _, rfl, by rw [unhide HWk, ← unhide HFin]; exact unhide HF2, by rw [unhide HWk, ← unhide HFin]; exact unhide HF3, (unhide HW5).ap, unhide HF4, (unhide HW5).w1, (unhide HW5).w2⟩
end Fw
end Go.Proofs.YtglehoekehiaiaaGreatDoor
