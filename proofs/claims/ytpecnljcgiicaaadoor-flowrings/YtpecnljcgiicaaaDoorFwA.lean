/- flow: rows of numbers of the call's own; the walk's box. -/
import Derived.Test.YtpecnljcgiicaaaDoorVcW
import Derived.Test.YtpecnljcgiicaaaDoorFwM
import Derived.Maps.AppendAt
import Derived.BigRegion
namespace Go.Proofs.YtpecnljcgiicaaaDoor
open Go.RowKit
namespace Fw
set_option linter.unusedVariables false
set_option linter.unusedSimpArgs false
open Vc (NumsL Nums Lies LL Bls BlC InC Bl In Co infoN own_base)

def nz (l : List Nat) : List Int := l.map (fun n : Nat => (n : Int))
theorem nz_len (l : List Nat) : (nz l).length = l.length := by simp [nz]
theorem nz_app (l r : List Nat) : nz (l ++ r) = nz l ++ nz r := by simp [nz]
theorem nz_getD (l : List Nat) (i : Nat) (h : i < l.length) : (nz l).getD i 0 = ((l.getD i 0 : Nat) : Int) := by
  rw [getD_get _ _ _ (by rw [nz_len]; exact h), getD_get _ _ _ h]; simp [nz]
def iv (l : List Int) : List Value := l.map (Value.int .i64)
theorem iv_len (l : List Int) : (iv l).length = l.length := by simp [iv]
/-- a row of numbers of the call's own -/
def Ro (w : World) (N : Nat) (v : Value) (l : List Int) : Prop := w.ownsRow N 3 1 v l.length (iv l)
theorem own_keep {w w' : World} {B e size n : Nat} {v : Value} {xs : List Value} (h : w.ownsRow B e size v n xs) (hk : ∀ k, v.ownBlock = some k → w'.heap[k]? = w.heap[k]?) : w'.ownsRow B e size v n xs := by
  refine ⟨h.1, ?_⟩
  rcases h.2 with hn | ⟨g, cap, cur, e1, e2, e3, e4⟩
  · exact .inl hn
  · exact .inr ⟨g, cap, cur, e1, e2, (hk g (by rw [e1]; rfl)).trans e3, e4⟩
theorem Ro.below {w w' : World} {N : Nat} {v : Value} {l : List Int} (h : Ro w N v l) (hb : Below w.heap.size w w') : Ro w' N v l := Vc.ownsRow_below h hb
theorem Ro.keep {w w' : World} {N : Nat} {v : Value} {l : List Int} (h : Ro w N v l) (hk : ∀ k, v.ownBlock = some k → w'.heap[k]? = w.heap[k]?) : Ro w' N v l := own_keep h hk
theorem Ro.base {w : World} {N M : Nat} {v : Value} {l : List Int} (h : Ro w N v l) (hM : M ≤ N) : Ro w M v l := own_base h hM
theorem Ro.lt {w : World} {N : Nat} {v : Value} {l : List Int} (h : Ro w N v l) : ∀ k, v.ownBlock = some k → N ≤ k ∧ k < w.heap.size := fun k hk => World.ownsRow.lt h k hk
theorem Ro.sl {w : World} {N : Nat} {v : Value} {l : List Int} (h : Ro w N v l) : ∃ a c, v = .slice a l.length c ∧ l.length ≤ c := by
  rcases h.2 with ⟨rfl, e⟩ | ⟨g, cap, cur, rfl, _, _, h4, _⟩
  · exact ⟨none, 0, by rw [e], by omega⟩
  · exact ⟨_, _, rfl, h4⟩
theorem Ro.at_ {w : World} {N : Nat} {v : Value} {l : List Int} (h : Ro w N v l) (h0 : 0 < l.length) : ∃ g cap, v = .slice (some ⟨g, 0, none⟩) l.length cap ∧ N ≤ g ∧ g < w.heap.size ∧ (∀ i, i < l.length → w.cell? ⟨g, i, none⟩ = some (.int .i64 (l.getD i 0))) ∧ (∀ i, w.frozen? ⟨g, i, none⟩ = false) ∧ l.length ≤ cap := by
  rcases h.2 with ⟨_, e⟩ | ⟨g, cap, cur, rfl, h2, h3, h4, h5, h6, h7⟩
  · omega
  · refine ⟨g, cap, rfl, h2, (Array.getElem?_eq_some_iff.1 h3).1, fun i hi => ?_, fun i => frozen_of_row w g i _ _ h3, h4⟩
    have h8 : (iv l)[i]? = some (.int .i64 (l.getD i 0)) := by rw [iv, List.getElem?_map, get?_getD l i 0 hi]; rfl
    exact Vc.row_cells (show w.ownsRow N 3 1 (.slice (some ⟨g, 0, none⟩) l.length cap) l.length (iv l) from h) i _ h8
theorem Ro.nums {w : World} {N : Nat} {v : Value} {l : List Int} (h : Ro w N v l) : NumsL w (fun k => N ≤ k ∧ k < w.heap.size) l v := by
  rcases h.2 with ⟨rfl, e⟩ | ⟨g, cap, cur, rfl, h2, h3, h4, h5, h6, h7⟩
  · exact ⟨none, 0, by rw [e], by omega, fun _ => rfl, fun h => by omega⟩
  · refine ⟨_, _, rfl, h4, (by intro h; cases h), fun h0 => ⟨g, 0, rfl, ⟨h2, (Array.getElem?_eq_some_iff.1 h3).1⟩, fun j hj => ?_⟩⟩
    obtain ⟨g', cap', e, _, _, hc, _⟩ := h.at_ h0
    cases e
    rw [Nat.zero_add]; exact hc j hj
theorem Ro.set {w : World} {N g n cap : Nat} {l : List Int} (h : Ro w N (.slice (some ⟨g, 0, none⟩) n cap) l) {i : Nat} (hi : i < l.length) (x : Int) : Ro (w.setCell ⟨g, i, none⟩ (.int .i64 x)) N (.slice (some ⟨g, 0, none⟩) n cap) (l.set i x) := by
  rcases h.2 with ⟨e, _⟩ | ⟨g', cap', cur, e, h2, h3, h4, h5, h6, h7⟩
  · cases e
  · have hn := h.1
    cases e
    refine ⟨by simp [iv], .inr ⟨g, cap, cur.setIfInBounds i (.int .i64 x), by simp, h2, heap_setCell_same w g i cur _ _ h3, by simp; omega, h5, by simp [h6], ?_⟩⟩
    simp only [List.length_set, Nat.mul_one] at h7 ⊢
    rw [Array.toList_setIfInBounds, List.take_set, h7]
    simp [iv, List.map_set]
/-- no memory is shared -/
def Ap (a b : Value) : Prop := ∀ k, a.ownBlock = some k → b.ownBlock = some k → False
theorem Ap.symm {a b : Value} (h : Ap a b) : Ap b a := fun k h1 h2 => h k h2 h1
theorem Ap.left {a b a' : Value} {w : World} {N : Nat} {l : List Int} (h : Ap a b) (ha : a'.ownBlock = a.ownBlock ∨ ∃ j, w.heap.size ≤ j ∧ a'.ownBlock = some j) (hb : Ro w N b l) : Ap a' b := fun k h1 h2 => by
  rcases ha with e | ⟨j, hj, e⟩
  · exact h k (e ▸ h1) h2
  · have := (hb.lt k h2).2; rw [e] at h1; cases h1; omega
theorem row_ne {w : World} {N B T : Nat} {cs : Array Value} {v : Value} {l : List Int} (hx : w.heap[B]? = some (.cells cs T (0, 0))) (hT : T ≠ 3) (h : Ro w N v l) : ∀ k, v.ownBlock = some k → k ≠ B ∧ k < w.heap.size ∧ N ≤ k := by
  intro k hk
  refine ⟨?_, (h.lt k hk).2, (h.lt k hk).1⟩
  rintro rfl
  rcases h.2 with ⟨rfl, _⟩ | ⟨g, cap, cur, rfl, _, e3, _⟩
  · cases hk
  · cases hk; have := hx.symm.trans e3; simp at this; exact hT this.2

def wbc (vb ve vf vt vl : Value) : Array Value := #[vb, ve, vf, vt, vl]
structure Wb (w : World) (N B : Nat) (vb : Value) (s : St) (ve vf vt vl : Value) : Prop where
  bx : w.heap[B]? = some (.cells (wbc vb ve vf vt vl) 49 (0, 0))
  nb : N ≤ B
  re : Ro w N ve (nz s.ent)
  rf : Ro w N vf s.fr
  rt : Ro w N vt s.tn
  rl : Ro w N vl (nz s.lf)
  ef : Ap ve vf
  et : Ap ve vt
  el : Ap ve vl
  ft : Ap vf vt
  fl : Ap vf vl
  tl : Ap vt vl
theorem wb_cells {w : World} {B : Nat} {vb ve vf vt vl : Value} (h : w.heap[B]? = some (.cells (wbc vb ve vf vt vl) 49 (0, 0))) :
    w.cell? ⟨B, 0, none⟩ = some vb ∧ w.cell? ⟨B, 1, none⟩ = some ve ∧ w.cell? ⟨B, 2, none⟩ = some vf ∧ w.cell? ⟨B, 3, none⟩ = some vt ∧ w.cell? ⟨B, 4, none⟩ = some vl ∧ (∀ j, w.frozen? ⟨B, j, none⟩ = false) ∧ B < w.heap.size := by
  refine ⟨?_, ?_, ?_, ?_, ?_, fun j => frozen_of_row w B j _ _ h, (Array.getElem?_eq_some_iff.1 h).1⟩ <;> (rw [cell_of_row w B _ _ _ _ h]; rfl)
theorem Wb.lt {w : World} {N B : Nat} {vb ve vf vt vl : Value} {s : St} (h : Wb w N B vb s ve vf vt vl) : B < w.heap.size := (Array.getElem?_eq_some_iff.1 h.bx).1
theorem Wb.below {w w' : World} {N B : Nat} {vb ve vf vt vl : Value} {s : St} (h : Wb w N B vb s ve vf vt vl) (hb : Below w.heap.size w w') : Wb w' N B vb s ve vf vt vl :=
  ⟨(hb.block B h.lt).trans h.bx, h.nb, h.re.below hb, h.rf.below hb, h.rt.below hb, h.rl.below hb, h.ef, h.et, h.el, h.ft, h.fl, h.tl⟩
/-- a turn told -/
theorem Wb.turn {w : World} {N B g n cap : Nat} {vb ve vf vl : Value} {s : St} (h : Wb w N B vb s ve vf (.slice (some ⟨g, 0, none⟩) n cap) vl) {b : Nat} (hb : b < s.tn.length) (x : Int) :
    Wb (w.setCell ⟨g, b, none⟩ (.int .i64 x)) N B vb ⟨s.ent, s.fr, s.tn.set b x, s.lf⟩ ve vf (.slice (some ⟨g, 0, none⟩) n cap) vl ∧ Below N w (w.setCell ⟨g, b, none⟩ (.int .i64 x)) := by
  have q := row_ne h.bx (by decide) h.rt g rfl
  have o : ∀ k, k ≠ g → (w.setCell ⟨g, b, none⟩ (.int .i64 x)).heap[k]? = w.heap[k]? := fun k hk => heap_setCell_other w ⟨g, b, none⟩ k _ hk
  refine ⟨⟨(o B (fun e => q.1 e.symm)).trans h.bx, h.nb, h.re.keep fun k hk => o k (fun e => by subst e; exact h.et k hk rfl), h.rf.keep fun k hk => o k (fun e => by subst e; exact h.ft k hk rfl), h.rt.set hb x, h.rl.keep fun k hk => o k (fun e => by subst e; exact h.tl k rfl hk), h.ef, h.et, h.el, h.ft, h.fl, h.tl⟩, (Below.refl _ _).setCell (p := ⟨g, b, none⟩) q.2.2 _⟩
theorem iv_app (l r : List Int) : iv (l ++ r) = iv l ++ iv r := by simp [iv]
theorem hat_of {S K : Nat} {v v' : Value} (hat : v'.ownBlock = v.ownBlock ∨ v'.ownBlock = some K) (hK : S ≤ K) : v'.ownBlock = v.ownBlock ∨ ∃ j, S ≤ j ∧ v'.ownBlock = some j := by
  rcases hat with e | e
  · exact .inl e
  · exact .inr ⟨_, hK, e⟩
theorem one_ones (x : Int) : ∀ u ∈ [Value.int .i64 x], u.oneCell' = true := by intro u hu; simp at hu; subst hu; rfl
/-- one more in the row ent -/
theorem Wb.pushE {w w2 : World} {N B : Nat} {vb ve vf vt vl v' : Value} {s : St} (h : Wb w N B vb s ve vf vt vl) {x : Nat} (hown : w2.ownsRow N 3 1 v' ((nz s.ent).length + 1) (iv (nz s.ent) ++ [.int .i64 (x : Int)])) (hg : w.grownBy w2 ve.ownBlock) (hat : v'.ownBlock = ve.ownBlock ∨ ∃ j, w.heap.size ≤ j ∧ v'.ownBlock = some j) :
    w2.heap[B]? = some (.cells (wbc vb ve vf vt vl) 49 (0, 0)) ∧ Wb (w2.setCell ⟨B, 1, none⟩ v') N B vb ⟨s.ent ++ [x], s.fr, s.tn, s.lf⟩ v' vf vt vl ∧ Below N w (w2.setCell ⟨B, 1, none⟩ v') := by
  have hlt := h.lt
  have hne := row_ne h.bx (by decide) h.re
  have hN2 : w2.heap[B]? = some (.cells (wbc vb ve vf vt vl) 49 (0, 0)) := (hg.block B hlt (fun e => (hne B e.symm).1 rfl)).trans h.bx
  have hr2 : Ro w2 N v' (nz (s.ent ++ [x])) := by unfold Ro; rw [nz_app, iv_app, List.length_append]; exact hown
  have hne2 := row_ne hN2 (by decide) hr2
  have hr : Ro (w2.setCell ⟨B, 1, none⟩ v') N v' (nz (s.ent ++ [x])) := hr2.keep fun j hj => heap_setCell_other w2 ⟨B, 1, none⟩ j _ (hne2 j hj).1
  have keep : ∀ (u : Value) (l : List Int), Ro w N u l → Ap ve u → ∀ k, u.ownBlock = some k → (w2.setCell ⟨B, 1, none⟩ v').heap[k]? = w.heap[k]? := fun u l hu ha k hk => by
    have q := row_ne h.bx (by decide) hu k hk
    rw [heap_setCell_other w2 ⟨B, 1, none⟩ k _ q.1]
    exact hg.block k q.2.1 fun e => ha k e.symm hk
  refine ⟨hN2, ⟨(heap_setCell_same w2 B 1 _ _ _ hN2).trans rfl, h.nb, hr, (h.rf.keep (keep vf _ h.rf (h.ef))), (h.rt.keep (keep vt _ h.rt (h.et))), (h.rl.keep (keep vl _ h.rl (h.el))), ((h.ef).left hat h.rf), ((h.et).left hat h.rt), ((h.el).left hat h.rl), h.ft, h.fl, h.tl⟩, ?_⟩
  have hb : Below N w w2 := (Below.refl N w).grown hg (Nat.le_of_lt (Nat.lt_of_le_of_lt h.nb hlt)) (fun k e => (hne k e.symm.symm).2.2)
  exact hb.setCell (p := ⟨B, 1, none⟩) h.nb _
/-- one more in the row fr -/
theorem Wb.pushF {w w2 : World} {N B : Nat} {vb ve vf vt vl v' : Value} {s : St} (h : Wb w N B vb s ve vf vt vl) {x : Int} (hown : w2.ownsRow N 3 1 v' ((s.fr).length + 1) (iv (s.fr) ++ [.int .i64 x])) (hg : w.grownBy w2 vf.ownBlock) (hat : v'.ownBlock = vf.ownBlock ∨ ∃ j, w.heap.size ≤ j ∧ v'.ownBlock = some j) :
    w2.heap[B]? = some (.cells (wbc vb ve vf vt vl) 49 (0, 0)) ∧ Wb (w2.setCell ⟨B, 2, none⟩ v') N B vb ⟨s.ent, s.fr ++ [x], s.tn, s.lf⟩ ve v' vt vl ∧ Below N w (w2.setCell ⟨B, 2, none⟩ v') := by
  have hlt := h.lt
  have hne := row_ne h.bx (by decide) h.rf
  have hN2 : w2.heap[B]? = some (.cells (wbc vb ve vf vt vl) 49 (0, 0)) := (hg.block B hlt (fun e => (hne B e.symm).1 rfl)).trans h.bx
  have hr2 : Ro w2 N v' (s.fr ++ [x]) := by unfold Ro; rw [iv_app, List.length_append]; exact hown
  have hne2 := row_ne hN2 (by decide) hr2
  have hr : Ro (w2.setCell ⟨B, 2, none⟩ v') N v' (s.fr ++ [x]) := hr2.keep fun j hj => heap_setCell_other w2 ⟨B, 2, none⟩ j _ (hne2 j hj).1
  have keep : ∀ (u : Value) (l : List Int), Ro w N u l → Ap vf u → ∀ k, u.ownBlock = some k → (w2.setCell ⟨B, 2, none⟩ v').heap[k]? = w.heap[k]? := fun u l hu ha k hk => by
    have q := row_ne h.bx (by decide) hu k hk
    rw [heap_setCell_other w2 ⟨B, 2, none⟩ k _ q.1]
    exact hg.block k q.2.1 fun e => ha k e.symm hk
  refine ⟨hN2, ⟨(heap_setCell_same w2 B 2 _ _ _ hN2).trans rfl, h.nb, (h.re.keep (keep ve _ h.re (h.ef.symm))), hr, (h.rt.keep (keep vt _ h.rt (h.ft))), (h.rl.keep (keep vl _ h.rl (h.fl))), ((h.ef.symm).left hat h.re).symm, h.et, h.el, ((h.ft).left hat h.rt), ((h.fl).left hat h.rl), h.tl⟩, ?_⟩
  have hb : Below N w w2 := (Below.refl N w).grown hg (Nat.le_of_lt (Nat.lt_of_le_of_lt h.nb hlt)) (fun k e => (hne k e.symm.symm).2.2)
  exact hb.setCell (p := ⟨B, 2, none⟩) h.nb _
/-- one more in the row lf -/
theorem Wb.pushL {w w2 : World} {N B : Nat} {vb ve vf vt vl v' : Value} {s : St} (h : Wb w N B vb s ve vf vt vl) {x : Nat} (hown : w2.ownsRow N 3 1 v' ((nz s.lf).length + 1) (iv (nz s.lf) ++ [.int .i64 (x : Int)])) (hg : w.grownBy w2 vl.ownBlock) (hat : v'.ownBlock = vl.ownBlock ∨ ∃ j, w.heap.size ≤ j ∧ v'.ownBlock = some j) :
    w2.heap[B]? = some (.cells (wbc vb ve vf vt vl) 49 (0, 0)) ∧ Wb (w2.setCell ⟨B, 4, none⟩ v') N B vb ⟨s.ent, s.fr, s.tn, s.lf ++ [x]⟩ ve vf vt v' ∧ Below N w (w2.setCell ⟨B, 4, none⟩ v') := by
  have hlt := h.lt
  have hne := row_ne h.bx (by decide) h.rl
  have hN2 : w2.heap[B]? = some (.cells (wbc vb ve vf vt vl) 49 (0, 0)) := (hg.block B hlt (fun e => (hne B e.symm).1 rfl)).trans h.bx
  have hr2 : Ro w2 N v' (nz (s.lf ++ [x])) := by unfold Ro; rw [nz_app, iv_app, List.length_append]; exact hown
  have hne2 := row_ne hN2 (by decide) hr2
  have hr : Ro (w2.setCell ⟨B, 4, none⟩ v') N v' (nz (s.lf ++ [x])) := hr2.keep fun j hj => heap_setCell_other w2 ⟨B, 4, none⟩ j _ (hne2 j hj).1
  have keep : ∀ (u : Value) (l : List Int), Ro w N u l → Ap vl u → ∀ k, u.ownBlock = some k → (w2.setCell ⟨B, 4, none⟩ v').heap[k]? = w.heap[k]? := fun u l hu ha k hk => by
    have q := row_ne h.bx (by decide) hu k hk
    rw [heap_setCell_other w2 ⟨B, 4, none⟩ k _ q.1]
    exact hg.block k q.2.1 fun e => ha k e.symm hk
  refine ⟨hN2, ⟨(heap_setCell_same w2 B 4 _ _ _ hN2).trans rfl, h.nb, (h.re.keep (keep ve _ h.re (h.el.symm))), (h.rf.keep (keep vf _ h.rf (h.fl.symm))), (h.rt.keep (keep vt _ h.rt (h.tl.symm))), hr, h.ef, h.et, ((h.el.symm).left hat h.re).symm, h.ft, ((h.fl.symm).left hat h.rf).symm, ((h.tl.symm).left hat h.rt).symm⟩, ?_⟩
  have hb : Below N w w2 := (Below.refl N w).grown hg (Nat.le_of_lt (Nat.lt_of_le_of_lt h.nb hlt)) (fun k e => (hne k e.symm.symm).2.2)
  exact hb.setCell (p := ⟨B, 4, none⟩) h.nb _
end Fw
end Go.Proofs.YtpecnljcgiicaaaDoor
