/- flow: rows of rows that grow; what is ahead of each block. -/
import Derived.Test.YtpecnljcgiicaaaDoorFwD
namespace Go.Proofs.YtpecnljcgiicaaaDoor
open Go.RowKit
namespace Fw
set_option linter.unusedVariables false
set_option linter.unusedSimpArgs false
open Vc (NumsL Nums Lies LL Bls BlC InC Bl In Co infoN own_base)

/-- a row of rows of the call's own -/
structure Gr (w : World) (N B : Nat) (cs : Array Value) (ll : List (List Nat)) : Prop where
  bx : w.heap[B]? = some (.cells cs 26 (0, 0))
  nb : N ≤ B
  sz : cs.size = ll.length
  row : ∀ (i : Nat) (l : List Nat), ll[i]? = some l → ∃ v, cs[i]? = some v ∧ Ro w N v (nz l)
  ap : ∀ (i j : Nat) (v v' : Value), i ≠ j → cs[i]? = some v → cs[j]? = some v' → Ap v v'
theorem Gr.lt {w : World} {N B : Nat} {cs : Array Value} {ll : List (List Nat)} (h : Gr w N B cs ll) : B < w.heap.size := (Array.getElem?_eq_some_iff.1 h.bx).1
theorem Gr.below {w w' : World} {N B : Nat} {cs : Array Value} {ll : List (List Nat)} (h : Gr w N B cs ll) (hb : Below w.heap.size w w') : Gr w' N B cs ll :=
  ⟨(hb.block B h.lt).trans h.bx, h.nb, h.sz, fun i l hl => let ⟨v, h1, h2⟩ := h.row i l hl; ⟨v, h1, h2.below hb⟩, h.ap⟩
theorem Gr.start (w : World) (n : Nat) : Gr (w.alloc (.cells (madeCells #[.slice none 0 0] n) 26)) w.heap.size w.heap.size (madeCells #[.slice none 0 0] n) (List.replicate n []) := by
  have hc : ∀ (i : Nat) (v : Value), (madeCells #[Value.slice none 0 0] n)[i]? = some v → v = .slice none 0 0 := fun i v h => by
    have e := toList_madeCells_one (Value.slice none 0 0) n
    rw [← Array.getElem?_toList, e, List.getElem?_replicate] at h
    split at h
    · exact (Option.some.inj h).symm
    · cases h
  refine ⟨heap_alloc_new _ _, Nat.le_refl _, by simp [size_madeCells], fun i l hl => ?_, fun i j v v' _ h1 h2 k h3 _ => by rw [hc i v h1] at h3; cases h3⟩
  have hi := (List.getElem?_eq_some_iff.1 hl).1
  rw [List.getElem?_replicate] at hl
  split at hl
  · cases hl
    refine ⟨_, Array.getElem?_eq_getElem (by rw [size_madeCells]; assumption), ?_⟩
    rw [hc i _ (Array.getElem?_eq_getElem (by rw [size_madeCells]; assumption))]
    exact World.ownsRow_nil _ _ _ _
  · cases hl
theorem Gr.push {w w2 : World} {N B i : Nat} {cs : Array Value} {ll : List (List Nat)} {l : List Nat} {v v' : Value} (h : Gr w N B cs ll) (hl : ll[i]? = some l) (hv : cs[i]? = some v) {x : Nat} (hown : w2.ownsRow N 3 1 v' ((nz l).length + 1) (iv (nz l) ++ [.int .i64 (x : Int)])) (hg : w.grownBy w2 v.ownBlock) (hat : v'.ownBlock = v.ownBlock ∨ ∃ j, w.heap.size ≤ j ∧ v'.ownBlock = some j) :
    w2.heap[B]? = some (.cells cs 26 (0, 0)) ∧ Gr (w2.setCell ⟨B, i, none⟩ v') N B (cs.setIfInBounds i v') (ll.set i (l ++ [x])) ∧ Below N w (w2.setCell ⟨B, i, none⟩ v') := by
  have hlt := h.lt
  have hil := (List.getElem?_eq_some_iff.1 hl).1
  obtain ⟨v0, e0, hr0⟩ := h.row i l hl
  rw [hv] at e0; cases e0
  have hne := row_ne h.bx (by decide) hr0
  have hN2 : w2.heap[B]? = some (.cells cs 26 (0, 0)) := (hg.block B hlt (fun e => (hne B e.symm).1 rfl)).trans h.bx
  have hr2 : Ro w2 N v' (nz (l ++ [x])) := by unfold Ro; rw [nz_app, iv_app, List.length_append]; exact hown
  have hne2 := row_ne hN2 (by decide) hr2
  have hr : Ro (w2.setCell ⟨B, i, none⟩ v') N v' (nz (l ++ [x])) := hr2.keep fun j hj => heap_setCell_other w2 ⟨B, i, none⟩ j _ (hne2 j hj).1
  have hsz := h.sz
  have hcs : ∀ j, (cs.setIfInBounds i v')[j]? = if i = j then some v' else cs[j]? := fun j => by
    rw [Array.getElem?_setIfInBounds]
    by_cases e : i = j
    · subst e; simp; omega
    · simp [e]
  refine ⟨hN2, ⟨(heap_setCell_same w2 B i _ _ _ hN2).trans rfl, h.nb, by simp [hsz], fun j m hm => ?_, fun j k u u' hjk h1 h2 => ?_⟩, ?_⟩
  · rw [hcs]
    rw [List.getElem?_set] at hm
    by_cases e : i = j
    · subst e
      rw [if_pos rfl, if_pos hil] at hm
      cases hm
      exact ⟨v', by simp, hr⟩
    · rw [if_neg e] at hm
      rw [if_neg e]
      obtain ⟨u, k1, k2⟩ := h.row j m hm
      refine ⟨u, k1, k2.keep fun k hk => ?_⟩
      have q := row_ne h.bx (by decide) k2 k hk
      rw [heap_setCell_other w2 ⟨B, i, none⟩ k _ q.1]
      exact hg.block k q.2.1 fun e2 => h.ap i j v u e hv k1 k e2.symm hk
  · rw [hcs] at h1 h2
    have old : ∀ j u, i ≠ j → cs[j]? = some u → Ap v' u := fun j u hij hu => by
      have hj : j < ll.length := by rw [← hsz]; exact (Array.getElem?_eq_some_iff.1 hu).1
      obtain ⟨u0, k1, k2⟩ := h.row j _ (List.getElem?_eq_getElem hj)
      rw [hu] at k1; cases k1
      exact (h.ap i j v u hij hv hu).left hat k2
    by_cases e1 : i = j
    · rw [if_pos e1] at h1; cases h1
      by_cases e2 : i = k
      · omega
      · rw [if_neg e2] at h2; exact old k u' e2 h2
    · rw [if_neg e1] at h1
      by_cases e2 : i = k
      · rw [if_pos e2] at h2; cases h2; exact (old j u e1 h1).symm
      · rw [if_neg e2] at h2; exact h.ap j k u u' hjk h1 h2
  · have hb : Below N w w2 := (Below.refl N w).grown hg (Nat.le_of_lt (Nat.lt_of_le_of_lt h.nb hlt)) (fun k e => (hne k e).2.2)
    exact hb.setCell (p := ⟨B, i, none⟩) h.nb _
/-- one row, as a slice that may be read -/
theorem Gr.at_ {w : World} {N B i : Nat} {cs : Array Value} {ll : List (List Nat)} (h : Gr w N B cs ll) (hi : i < ll.length) : ∃ a c, w.cell? ⟨B, i, none⟩ = some (.slice a (ll.getD i []).length c) ∧ cs[i]? = some (.slice a (ll.getD i []).length c) ∧ Ro w N (.slice a (ll.getD i []).length c) (nz (ll.getD i [])) ∧ ll[i]? = some (ll.getD i []) ∧ w.frozen? ⟨B, i, none⟩ = false := by
  have e := get?_getD ll i [] hi
  obtain ⟨v, h1, h2⟩ := h.row i _ e
  obtain ⟨a, c, rfl, -⟩ := h2.sl
  rw [nz_len] at h1 h2
  exact ⟨a, c, by rw [cell_of_row w B i _ _ _ h.bx]; exact h1, h1, h2, e, frozen_of_row w B i _ _ h.bx⟩
/-- rows that are only read -/
def RwC (w : World) (g : Nat → Prop) (l : List Nat) (cs : List Value) : Prop := ∃ v, cs = [v] ∧ NumsL w g (nz l) v
def Rws (w : World) (g : Nat → Prop) (ll : List (List Nat)) (v : Value) : Prop := LL RwC 1 w g ll v
theorem Gr.rws {w : World} {N B n : Nat} {cs : Array Value} {ll : List (List Nat)} (h : Gr w N B cs ll) (hn : n = ll.length) : Rws w (fun k => N ≤ k ∧ k < w.heap.size) ll (.slice (some ⟨B, 0, none⟩) n n) := by
  subst hn
  refine ⟨_, _, rfl, Nat.le_refl _, (by intro h; cases h), fun _ => ⟨B, 0, rfl, ⟨h.nb, h.lt⟩, h.lt, fun i x hx => ?_⟩⟩
  obtain ⟨v, h1, h2⟩ := h.row i x hx
  refine ⟨[v], rfl, ⟨v, rfl, h2.nums⟩, fun j u hu => ?_⟩
  cases j with
  | zero => cases hu; rw [Nat.zero_add, Nat.mul_one, Nat.add_zero, cell_of_row w B i _ _ _ h.bx]; exact h1
  | succ j => simp at hu
theorem Rws.moved {w w' : World} {g g' : Nat → Prop} (hm : Vc.Mv w w' g g') (hs : w.heap.size ≤ w'.heap.size) {ll : List (List Nat)} {v : Value} (h : Rws w g ll v) : Rws w' g' ll v :=
  LL.moved hm hs (fun x cs ⟨v, e, h⟩ => ⟨v, e, h.moved hm⟩) h
theorem Rws.at_ {w : World} {g : Nat → Prop} {ll : List (List Nat)} {a : Option Addr} {n c i : Nat} (h : Rws w g ll (.slice a n c)) (hi : i < ll.length) : ∃ B o v, a = some ⟨B, o, none⟩ ∧ g B ∧ B < w.heap.size ∧ w.cell? ⟨B, o + i, none⟩ = some v ∧ NumsL w g (nz (ll.getD i [])) v := by
  obtain ⟨a', cap, e, h2, h3, h4⟩ := h
  obtain ⟨B, o, rfl, hg, hlt, hp⟩ := h4 (by omega)
  obtain ⟨cs, hc, ⟨v, rfl, hv⟩, hce⟩ := hp i _ (get?_getD ll i [] hi)
  cases e
  have := hce 0 v rfl
  rw [Nat.mul_one, Nat.add_zero] at this
  exact ⟨B, o, v, rfl, hg, hlt, this, hv⟩
end Fw
end Go.Proofs.YtpecnljcgiicaaaDoor
