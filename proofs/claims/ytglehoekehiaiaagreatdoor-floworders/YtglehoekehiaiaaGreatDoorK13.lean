/- K13: what follows, part by part: each part tells what it holds. -/
import Derived.Test.YtglehoekehiaiaaGreatDoorK12
namespace Go.Proofs.YtglehoekehiaiaaGreatDoor
open Go.RowKit
set_option linter.unusedVariables false
set_option linter.unusedSimpArgs false
set_option maxRecDepth 100000
set_option maxHeartbeats 32000000
namespace Fw
open Vc (NumsL Nums Lies LL Bls BlC InC Bl Co infoN infoBl own_base RowT cob cob_cells chk)
/- flow: Join's closure. -/
theorem join1_any (l : List Bl) (hc : Cok l) (hf : Few l) (hE : EndsAll (trimB l)) (pa re : Int) (rs : Bool) (g : Nat → Prop) (vb : Value) (w : World) (hB : Bls w g l vb) (hg : ∀ k, g k → k < w.heap.size) :
    Calls Tryz.prog 44 #[.agg #[.int .i64 pa, .int .i64 re, .bool rs, vb]] w fun e w' => ∃ v', e = .returned (.agg #[.int .i64 pa, .int .i64 re, .bool rs, v']) ∧ Bls w' (fun k => k < w'.heap.size) (joinB l) v' ∧ Below w.heap.size w w' := by
 obtain ⟨va, vc, rfl, -, -, -⟩ := id hB
 obtain ⟨n, hn⟩ : ∃ n, n = l.length := ⟨_, rfl⟩
 have k1 := cok_trim hc
 have f1 := few_trim hc hf
 have k2 : Cok (joinA (trimB l)) := cok_join k1 f1.len f1.ins _
 obtain ⟨X, hX⟩ : ∃ X, X = (w.alloc (.cells (cob pa re rs (.slice va n vc)) 29)).alloc (.cells (cob 0 0 false (.slice none 0 0)) 29) := ⟨_, rfl⟩
 have hXb : Below w.heap.size w X := by rw [hX]; exact Vc.two_allocs w _ _
 have hXz : X.heap.size = w.heap.size + 2 := by rw [hX]; simp
 have r0 : X.heap[w.heap.size]? = some (.cells (cob pa re rs (.slice va n vc)) 29 (0, 0)) := by rw [hX, Below.heap_alloc _ _ _ (by simp)]; exact heap_alloc_new _ _
 have r1 : X.heap[w.heap.size + 1]? = some (.cells (cob 0 0 false (.slice none 0 0)) 29 (0, 0)) := by
  have := heap_alloc_new (w.alloc (.cells (cob pa re rs (.slice va n vc)) 29)) (.cells (cob 0 0 false (.slice none 0 0)) 29)
  rw [show (w.alloc (.cells (cob pa re rs (.slice va n vc)) 29)).heap.size = w.heap.size + 1 by simp, ← hX] at this; exact this
 obtain ⟨F, hFd⟩ : ∃ F : Nat → Prop, F = fun k => k = w.heap.size + 1 := ⟨_, rfl⟩
 have hFx : ∀ k, F k → k < X.heap.size := fun k h => by rw [hFd] at h; have h2 : k = w.heap.size + 1 := h; omega
 have h1 := trimmed_F l hc pa re rs g F (.slice va l.length vc) X (hB.moved (fun k _ h => ⟨h, hXb.block k (hg k h)⟩) hXb.size) (fun k h => ⟨Nat.lt_of_lt_of_le (hg k h) hXb.size, fun h2 => by rw [hFd] at h2; have h3 : k = w.heap.size + 1 := h2; have := hg k h; omega⟩) hFx
 rw [← hn] at h1 ⊢
 have h2 : ∀ W v, X.heap.size ≤ W.heap.size → Bls W (fun k => k < W.heap.size ∧ ¬ F k) (trimB l) v → Calls Tryz.prog 45 #[.agg #[.int .i64 pa, .int .i64 re, .bool rs, v]] W fun e w' => ∃ v', e = .returned (.agg #[.int .i64 pa, .int .i64 re, .bool rs, v']) ∧ Bls w' (fun k => k < w'.heap.size ∧ ¬ F k) (joinA (trimB l)) v' ∧ Below W.heap.size W w' := fun W v hs h => joined_any (trimB l) k1 f1 hE pa re rs _ F v W h (fun k h => h) (fun k h => Nat.lt_of_lt_of_le (hFx k h) hs)
 have h3 : ∀ W v, X.heap.size ≤ W.heap.size → Bls W (fun k => k < W.heap.size ∧ ¬ F k) (joinA (trimB l)) v → Calls Tryz.prog 42 #[.agg #[.int .i64 pa, .int .i64 re, .bool rs, v]] W fun e w' => ∃ a m c, e = .returned (.agg #[.int .i64 pa, .int .i64 re, .bool rs, .slice a m c]) ∧ Bls w' (fun k => k < w'.heap.size ∧ ¬ F k) (joinB l) (.slice a m c) ∧ Below W.heap.size W w' := fun W v hs h => by
  refine (trimmed_F (joinA (trimB l)) k2 pa re rs _ F v W h (fun k h => h) (fun k h => Nat.lt_of_lt_of_le (hFx k h) hs)).mono ?_
  rintro e w' ⟨v', rfl, h4, h5⟩
  obtain ⟨a, c, rfl, -, -, -⟩ := id h4
  exact ⟨_, _, _, rfl, h4, h5⟩
 obtain ⟨c0, c1, c2, c3, cf, cl⟩ := cob_cells r0
 have H1 := hide h1; have H2 := hide h2; have H3 := hide h3; have HXb := hide hXb; have HXz := hide hXz; have HR1 := hide r1; have HFd := hide hFd
 clear hFd hFx h1 h2 h3 k1 f1 k2 hc hf hE hB hg hXb hXz r0 r1 hn
 go_enter Tryz.func44, Tryz.ntmps44
 go_upto_region 1 with fail
 rw [show (w.alloc (.cells #[.int .i64 pa, .int .i64 re, .bool rs, .slice va n vc] 29)).alloc (.cells #[.int .i64 0, .int .i64 0, .bool false, .slice none 0 0] 29) = X from hX.symm]
 clear hX
 go_wp2_with (first
  | (go_at_call 45; refine (unhide H2 _ _ (unhide HB2).size (unhide HBl2)).mono ?_; rintro e w3 ⟨v3, rfl, hB3, hb3⟩; have HBl3 := hide hB3; have HB3 := hide hb3; clear hB3 hb3)
  | (go_at_call 42; refine (unhide H3 _ _ (Nat.le_trans (unhide HB2).size (unhide HB3).size) (unhide HBl3)).mono ?_; rintro e w4 ⟨ua, um, uc, rfl, hB4, hb4⟩; have HBl4 := hide hB4; have HB4 := hide hb4; have q1 := (hb4.block (w.heap.size + 1) (by have := (unhide HB3).size; have := (unhide HB2).size; have := unhide HXz; omega)).trans (((unhide HB3).block (w.heap.size + 1) (by have := (unhide HB2).size; have := unhide HXz; omega)).trans (((unhide HB2).block (w.heap.size + 1) (by have := unhide HXz; omega)).trans (unhide HR1))); obtain ⟨y0, y1, y2, y3, yf, yl⟩ := cob_cells q1; have HQ1 := hide q1; clear hB4 hb4 q1)
  | (go_at_call 42; refine (unhide H1).mono ?_; rintro e w2 ⟨v2, rfl, hB2, hb2⟩; have HBl2 := hide hB2; have HB2 := hide hb2; clear hB2 hb2))
 have hs2 := (unhide HB2).size
 have hs3 := (unhide HB3).size
 have hs4 := (unhide HB4).size
 have hxz := unhide HXz
 have hr8 := set4c w4 (w.heap.size + 1) _ _ _ _ _ (.int .i64 pa) (.int .i64 re) (.bool rs) (.slice ua um uc) (unhide HQ1)
 have hbe : Below w.heap.size w w4 := (unhide HXb).trans (((unhide HB2).trans (((unhide HB3).trans ((unhide HB4).mono hs3)).mono hs2)).mono (by omega))
 have hb8 := Vc.bel4 hbe (w.heap.size + 1) (Nat.le_succ _) (.int .i64 pa) (.int .i64 re) (.bool rs) (.slice ua um uc)
 have hfin2 : Bls ((((w4.setCell ⟨w.heap.size + 1, 0, none⟩ (.int .i64 pa)).setCell ⟨w.heap.size + 1, 1, none⟩ (.int .i64 re)).setCell ⟨w.heap.size + 1, 2, none⟩ (.bool rs)).setCell ⟨w.heap.size + 1, 3, none⟩ (.slice ua um uc)) (fun k => k < ((((w4.setCell ⟨w.heap.size + 1, 0, none⟩ (.int .i64 pa)).setCell ⟨w.heap.size + 1, 1, none⟩ (.int .i64 re)).setCell ⟨w.heap.size + 1, 2, none⟩ (.bool rs)).setCell ⟨w.heap.size + 1, 3, none⟩ (.slice ua um uc)).heap.size) (joinB l) (.slice ua um uc) := (unhide HBl4).moved (fun k _ h => by
  have hk : k ≠ w.heap.size + 1 := fun e => h.2 (by rw [unhide HFd]; exact e)
  refine ⟨by simpa using h.1, ?_⟩
  rw [heap_setCell_other _ _ _ _ (by exact hk), heap_setCell_other _ _ _ _ (by exact hk), heap_setCell_other _ _ _ _ (by exact hk), heap_setCell_other _ _ _ _ (by exact hk)]) (by simp)
 generalize (((w4.setCell ⟨w.heap.size + 1, 0, none⟩ (.int .i64 pa)).setCell ⟨w.heap.size + 1, 1, none⟩ (.int .i64 re)).setCell ⟨w.heap.size + 1, 2, none⟩ (.bool rs)).setCell ⟨w.heap.size + 1, 3, none⟩ (.slice ua um uc) = W8 at *
 have u0 := cell_of_row W8 (w.heap.size + 1) 0 _ _ _ hr8; have u1 := cell_of_row W8 (w.heap.size + 1) 1 _ _ _ hr8; have u2 := cell_of_row W8 (w.heap.size + 1) 2 _ _ _ hr8; have u3 := cell_of_row W8 (w.heap.size + 1) 3 _ _ _ hr8
 simp only [List.getElem?_toArray, List.getElem?_cons_zero, List.getElem?_cons_succ] at u0 u1 u2 u3
 exact bodyPost_ret (v := .agg #[.int .i64 pa, .int .i64 re, .bool rs, .slice ua um uc]) (by simp [results, Tryz.results44, go_sem, u0, u1, u2, u3]) rfl ⟨_, rfl, hfin2, hb8⟩
end Fw
namespace Fw
open Vc (NumsL Nums Lies LL Bls BlC InC Bl Co WfC WfB WfI chk siz Fms infoN infoBl own_base RowT cob cob_cells)
/- flow: Join, whole. By mkmade.py. -/
theorem madeJ_yes (c : Co) (hw : WfC c) (hc : chk c = true) (hE : EndsAll (trimB c.bl)) (g : Nat → Prop) (v : Value) (w : World) (hT : Fms w) (hv : Bls w g c.bl v) (hg : ∀ k, g k → k < w.heap.size) :
    Calls Tryz.prog 41 #[.agg #[.int .i64 c.pa, .int .i64 c.re, .bool c.rs, v], .func (.func 44) #[] #[]] w fun e w' => ∃ u, e = .returned (.tuple #[.agg #[.int .i64 c.pa, .int .i64 c.re, .bool c.rs, u], .nilIface]) ∧ Bls w' (fun k => w.heap.size ≤ k ∧ k < w'.heap.size) (joinB c.bl) u ∧ Below w.heap.size w w' := by
 have hk := cok_of c hc
 have hf := few_of c hc
 have hz : siz c.bl ≤ 1099511627776 := by
  unfold chk at hc
  simp only [Bool.and_eq_true, decide_eq_true_eq] at hc
  have := hc.1.2.2
  omega
 obtain ⟨va, vc, rfl, -, -, -⟩ := id hv
 obtain ⟨n, hn⟩ : ∃ n, n = c.bl.length := ⟨_, rfl⟩
 obtain ⟨X, hX⟩ : ∃ X, X = (w.alloc (.cells (cob c.pa c.re c.rs (.slice va n vc)) 29)).alloc (.cells (cob 0 0 false (.slice none 0 0)) 29) := ⟨_, rfl⟩
 have hXb : Below w.heap.size w X := by rw [hX]; exact Vc.two_allocs w _ _
 have hXz : X.heap.size = w.heap.size + 2 := by rw [hX]; simp
 have r0 : X.heap[w.heap.size]? = some (.cells (cob c.pa c.re c.rs (.slice va n vc)) 29 (0, 0)) := by rw [hX, Below.heap_alloc _ _ _ (by simp)]; exact heap_alloc_new _ _
 have r1 : X.heap[w.heap.size + 1]? = some (.cells (cob 0 0 false (.slice none 0 0)) 29 (0, 0)) := by
  have := heap_alloc_new (w.alloc (.cells (cob c.pa c.re c.rs (.slice va n vc)) 29)) (.cells (cob 0 0 false (.slice none 0 0)) 29)
  rw [show (w.alloc (.cells (cob c.pa c.re c.rs (.slice va n vc)) 29)).heap.size = w.heap.size + 1 by simp, ← hX] at this; exact this
 have hck : Calls Tryz.prog 26 #[.agg #[.int .i64 c.pa, .int .i64 c.re, .bool c.rs, .slice va n vc]] X fun e w' => e = .returned .nilIface ∧ Below X.heap.size X w' := by
  have h5 := Vc.check_any c hw g (.slice va c.bl.length vc) X (hT.below hXb) (hv.moved (fun k _ h => ⟨h, hXb.block k (hg k h)⟩) hXb.size) hz
  rw [hc, ← hn] at h5
  exact h5.mono fun e w' h => ⟨by rw [h.1]; simp [errV_0], h.2⟩
 have hby : ∀ W, Below X.heap.size X W → Calls Tryz.prog 44 #[.agg #[.int .i64 c.pa, .int .i64 c.re, .bool c.rs, .slice va n vc]] W fun e w' => ∃ v', e = .returned (.agg #[.int .i64 c.pa, .int .i64 c.re, .bool c.rs, v']) ∧ Bls w' (fun k => k < w'.heap.size) (joinB c.bl) v' ∧ Below W.heap.size W w' := fun W hW => by
  have hb : Below w.heap.size w W := hXb.trans (hW.mono (by omega))
  have h5 := join1_any c.bl hk hf hE c.pa c.re c.rs g (.slice va c.bl.length vc) W (hv.moved (fun k _ h => ⟨h, hb.block k (hg k h)⟩) hb.size) (fun k h => Nat.lt_of_lt_of_le (hg k h) hb.size)
  rw [← hn] at h5; exact h5
 have hcl : ∀ W v', Bls W (fun k => k < W.heap.size) (joinB c.bl) v' → Calls Tryz.prog 66 #[.agg #[.int .i64 c.pa, .int .i64 c.re, .bool c.rs, v']] W fun e w' => ∃ u, e = .returned (.agg #[.int .i64 c.pa, .int .i64 c.re, .bool c.rs, u]) ∧ (∀ w8, (∀ k, W.heap.size ≤ k → k < w'.heap.size → w8.heap[k]? = w'.heap[k]?) → w'.heap.size ≤ w8.heap.size → Bls w8 (fun k => W.heap.size ≤ k ∧ k < w8.heap.size) (joinB c.bl) u) ∧ (∃ a m cp, u = .slice a m cp) ∧ Below W.heap.size W w' := fun W v' h => by
  refine (Vc.clone_any ⟨c.pa, c.re, c.rs, joinB c.bl⟩ (wf_join hw hk hf) _ v' W h (fun k h => h)).mono ?_
  rintro e w' ⟨u, rfl, ho, -, hb⟩
  refine ⟨u, rfl, fun w8 h8 hs => ?_, ?_, hb⟩
  ·have h6 := Vc.CoO.bls (g := fun k => W.heap.size ≤ k ∧ k < w'.heap.size) ho (fun k a b => ⟨a, b⟩)
   exact h6.moved (fun k _ hg => ⟨⟨hg.1, by omega⟩, h8 k hg.1 hg.2⟩) hs
  ·obtain ⟨a, cp, e, -⟩ := id ho
   exact ⟨a, _, cp, e⟩
 obtain ⟨c0, c1, c2, c3, cf, cl⟩ := cob_cells r0
 have HCk := hide hck; have HBy := hide hby; have HCl := hide hcl; have HXb := hide hXb; have HXz := hide hXz; have HR0 := hide r0; have HR1 := hide r1
 rw [← hn]
 clear hE hf hck hby hcl hk hz hv hc hw hT hg hn hXb hXz r0 r1
 go_enter Tryz.func41, Tryz.ntmps41
 go_upto_region 1 with fail
 rw [show (w.alloc (.cells #[.int .i64 c.pa, .int .i64 c.re, .bool c.rs, .slice va n vc] 29)).alloc (.cells #[.int .i64 0, .int .i64 0, .bool false, .slice none 0 0] 29) = X from hX.symm]
 clear hX
 go_wp2_with (first
  | (go_at_call 26; refine (unhide HCk).mono ?_; rintro e w2 ⟨rfl, hb2⟩; have q0 := (hb2.block w.heap.size cl).trans (unhide HR0); obtain ⟨d0, d1, d2, d3, df, dl⟩ := cob_cells q0; have HB2 := hide hb2; clear hb2 q0)
  | (go_at_call 44; refine (unhide HBy _ (unhide HB2)).mono ?_; rintro e w3 ⟨v3, rfl, hB3, hb3⟩; have HBl3 := hide hB3; have HB3 := hide hb3; clear hB3 hb3)
  | (go_at_call 66; refine (unhide HCl _ _ (unhide HBl3)).mono ?_; rintro e w4 ⟨u4, rfl, hB4, ⟨ua, um, uc, rfl⟩, hb4⟩; have HBl4 := hide hB4; have HB4 := hide hb4; have q1 := (hb4.block (w.heap.size + 1) (by have := (unhide HB3).size; have := (unhide HB2).size; have := unhide HXz; omega)).trans (((unhide HB3).block (w.heap.size + 1) (by have := (unhide HB2).size; have := unhide HXz; omega)).trans (((unhide HB2).block (w.heap.size + 1) (by have := unhide HXz; omega)).trans (unhide HR1))); obtain ⟨y0, y1, y2, y3, yf, yl⟩ := cob_cells q1; have HQ1 := hide q1; clear hB4 hb4 q1))
 have hs2 := (unhide HB2).size
 have hs3 := (unhide HB3).size
 have hs4 := (unhide HB4).size
 have hxz := unhide HXz
 have hr8 := set4c w4 (w.heap.size + 1) _ _ _ _ _ (.int .i64 c.pa) (.int .i64 c.re) (.bool c.rs) (.slice ua um uc) (unhide HQ1)
 have hbe : Below w.heap.size w w4 := (unhide HXb).trans (((unhide HB2).trans (((unhide HB3).trans ((unhide HB4).mono hs3)).mono hs2)).mono (by omega))
 have hb8 := Vc.bel4 hbe (w.heap.size + 1) (Nat.le_succ _) (.int .i64 c.pa) (.int .i64 c.re) (.bool c.rs) (.slice ua um uc)
 have hfin := unhide HBl4 ((((w4.setCell ⟨w.heap.size + 1, 0, none⟩ (.int .i64 c.pa)).setCell ⟨w.heap.size + 1, 1, none⟩ (.int .i64 c.re)).setCell ⟨w.heap.size + 1, 2, none⟩ (.bool c.rs)).setCell ⟨w.heap.size + 1, 3, none⟩ (.slice ua um uc)) (fun k h1 h2 => by
  have hk : k ≠ w.heap.size + 1 := by omega
  rw [heap_setCell_other _ _ _ _ (by exact hk), heap_setCell_other _ _ _ _ (by exact hk), heap_setCell_other _ _ _ _ (by exact hk), heap_setCell_other _ _ _ _ (by exact hk)]) (by simp)
 have hfin2 : Bls ((((w4.setCell ⟨w.heap.size + 1, 0, none⟩ (.int .i64 c.pa)).setCell ⟨w.heap.size + 1, 1, none⟩ (.int .i64 c.re)).setCell ⟨w.heap.size + 1, 2, none⟩ (.bool c.rs)).setCell ⟨w.heap.size + 1, 3, none⟩ (.slice ua um uc)) (fun k => w.heap.size ≤ k ∧ k < ((((w4.setCell ⟨w.heap.size + 1, 0, none⟩ (.int .i64 c.pa)).setCell ⟨w.heap.size + 1, 1, none⟩ (.int .i64 c.re)).setCell ⟨w.heap.size + 1, 2, none⟩ (.bool c.rs)).setCell ⟨w.heap.size + 1, 3, none⟩ (.slice ua um uc)).heap.size) (joinB c.bl) (.slice ua um uc) := hfin.moved (fun k _ h => ⟨⟨by omega, h.2⟩, rfl⟩) (Nat.le_refl _)
 generalize (((w4.setCell ⟨w.heap.size + 1, 0, none⟩ (.int .i64 c.pa)).setCell ⟨w.heap.size + 1, 1, none⟩ (.int .i64 c.re)).setCell ⟨w.heap.size + 1, 2, none⟩ (.bool c.rs)).setCell ⟨w.heap.size + 1, 3, none⟩ (.slice ua um uc) = W8 at *
 have u0 := cell_of_row W8 (w.heap.size + 1) 0 _ _ _ hr8; have u1 := cell_of_row W8 (w.heap.size + 1) 1 _ _ _ hr8; have u2 := cell_of_row W8 (w.heap.size + 1) 2 _ _ _ hr8; have u3 := cell_of_row W8 (w.heap.size + 1) 3 _ _ _ hr8
 simp only [List.getElem?_toArray, List.getElem?_cons_zero, List.getElem?_cons_succ] at u0 u1 u2 u3
 exact bodyPost_ret (v := .tuple #[.agg #[.int .i64 c.pa, .int .i64 c.re, .bool c.rs, .slice ua um uc], .nilIface]) (by simp [results, Tryz.results41, go_sem, u0, u1, u2, u3]) rfl ⟨_, rfl, hfin2, hb8⟩
theorem join_yes (c : Co) (hw : WfC c) (hc : chk c = true) (hE : EndsAll (trimB c.bl)) (g : Nat → Prop) (v : Value) (w : World) (hT : Fms w) (hv : Bls w g c.bl v) (hg : ∀ k, g k → k < w.heap.size) :
    Calls Tryz.prog 19 #[.agg #[.int .i64 c.pa, .int .i64 c.re, .bool c.rs, v]] w fun e w' => ∃ u, e = .returned (.tuple #[.agg #[.int .i64 c.pa, .int .i64 c.re, .bool c.rs, u], .nilIface]) ∧ Bls w' (fun k => w.heap.size ≤ k ∧ k < w'.heap.size) (joinB c.bl) u ∧ Below w.heap.size w w' := by
 obtain ⟨va, vc, rfl, -, -, -⟩ := id hv
 obtain ⟨n, hn⟩ : ∃ n, n = c.bl.length := ⟨_, rfl⟩
 obtain ⟨X, hX⟩ : ∃ X, X = (w.alloc (.cells (cob c.pa c.re c.rs (.slice va n vc)) 29)).alloc (.cells (cob 0 0 false (.slice none 0 0)) 29) := ⟨_, rfl⟩
 have hXb : Below w.heap.size w X := by rw [hX]; exact Vc.two_allocs w _ _
 have hXz : X.heap.size = w.heap.size + 2 := by rw [hX]; simp
 have r0 : X.heap[w.heap.size]? = some (.cells (cob c.pa c.re c.rs (.slice va n vc)) 29 (0, 0)) := by rw [hX, Below.heap_alloc _ _ _ (by simp)]; exact heap_alloc_new _ _
 have r1 : X.heap[w.heap.size + 1]? = some (.cells (cob 0 0 false (.slice none 0 0)) 29 (0, 0)) := by
  have := heap_alloc_new (w.alloc (.cells (cob c.pa c.re c.rs (.slice va n vc)) 29)) (.cells (cob 0 0 false (.slice none 0 0)) 29)
  rw [show (w.alloc (.cells (cob c.pa c.re c.rs (.slice va n vc)) 29)).heap.size = w.heap.size + 1 by simp, ← hX] at this; exact this
 have hby := madeJ_yes c hw hc hE g (.slice va c.bl.length vc) X (hT.below hXb) (hv.moved (fun k _ h => ⟨h, hXb.block k (hg k h)⟩) hXb.size) (fun k h => Nat.lt_of_lt_of_le (hg k h) hXb.size)
 rw [← hn] at hby ⊢
 have hby2 : Calls Tryz.prog 41 #[.agg #[.int .i64 c.pa, .int .i64 c.re, .bool c.rs, .slice va n vc], .func (.func 44) #[] #[]] X fun e w' => ∃ a m cp, e = .returned (.tuple #[.agg #[.int .i64 c.pa, .int .i64 c.re, .bool c.rs, .slice a m cp], .nilIface]) ∧ Bls w' (fun k => X.heap.size ≤ k ∧ k < w'.heap.size) (joinB c.bl) (.slice a m cp) ∧ Below X.heap.size X w' := by
  refine hby.mono ?_
  rintro e w' ⟨u, rfl, h1, h2⟩
  obtain ⟨a, cp, e, -⟩ := id h1
  subst e
  exact ⟨_, _, _, rfl, h1, h2⟩
 obtain ⟨c0, c1, c2, c3, cf, cl⟩ := cob_cells r0
 have HBy := hide hby2; have HXb := hide hXb; have HXz := hide hXz; have HR1 := hide r1
 clear hby hby2 hv hc hw hT hg hn hXb hXz r0 r1
 go_enter Tryz.func19, Tryz.ntmps19
 go_upto_region 1 with fail
 rw [show (w.alloc (.cells #[.int .i64 c.pa, .int .i64 c.re, .bool c.rs, .slice va n vc] 29)).alloc (.cells #[.int .i64 0, .int .i64 0, .bool false, .slice none 0 0] 29) = X from hX.symm]
 clear hX
 go_wp2_with (go_at_call 41; refine (unhide HBy).mono ?_; rintro e w4 ⟨ua, um, uc, rfl, hB4, hb4⟩; have HBl4 := hide hB4; have HB4 := hide hb4; have q1 := (hb4.block (w.heap.size + 1) (by have := unhide HXz; omega)).trans (unhide HR1); obtain ⟨y0, y1, y2, y3, yf, yl⟩ := cob_cells q1; have HQ1 := hide q1; clear hB4 hb4 q1)
 have hs4 := (unhide HB4).size
 have hxz := unhide HXz
 have hr8 := set4c w4 (w.heap.size + 1) _ _ _ _ _ (.int .i64 c.pa) (.int .i64 c.re) (.bool c.rs) (.slice ua um uc) (unhide HQ1)
 have hbe : Below w.heap.size w w4 := (unhide HXb).trans ((unhide HB4).mono (by omega))
 have hb8 := Vc.bel4 hbe (w.heap.size + 1) (Nat.le_succ _) (.int .i64 c.pa) (.int .i64 c.re) (.bool c.rs) (.slice ua um uc)
 have hfin2 : Bls ((((w4.setCell ⟨w.heap.size + 1, 0, none⟩ (.int .i64 c.pa)).setCell ⟨w.heap.size + 1, 1, none⟩ (.int .i64 c.re)).setCell ⟨w.heap.size + 1, 2, none⟩ (.bool c.rs)).setCell ⟨w.heap.size + 1, 3, none⟩ (.slice ua um uc)) (fun k => w.heap.size ≤ k ∧ k < ((((w4.setCell ⟨w.heap.size + 1, 0, none⟩ (.int .i64 c.pa)).setCell ⟨w.heap.size + 1, 1, none⟩ (.int .i64 c.re)).setCell ⟨w.heap.size + 1, 2, none⟩ (.bool c.rs)).setCell ⟨w.heap.size + 1, 3, none⟩ (.slice ua um uc)).heap.size) (joinB c.bl) (.slice ua um uc) := (unhide HBl4).moved (fun k _ h => by
  have hk : k ≠ w.heap.size + 1 := by omega
  refine ⟨⟨by omega, by simpa using h.2⟩, ?_⟩
  rw [heap_setCell_other _ _ _ _ (by exact hk), heap_setCell_other _ _ _ _ (by exact hk), heap_setCell_other _ _ _ _ (by exact hk), heap_setCell_other _ _ _ _ (by exact hk)]) (by simp)
 generalize (((w4.setCell ⟨w.heap.size + 1, 0, none⟩ (.int .i64 c.pa)).setCell ⟨w.heap.size + 1, 1, none⟩ (.int .i64 c.re)).setCell ⟨w.heap.size + 1, 2, none⟩ (.bool c.rs)).setCell ⟨w.heap.size + 1, 3, none⟩ (.slice ua um uc) = W8 at *
 have u0 := cell_of_row W8 (w.heap.size + 1) 0 _ _ _ hr8; have u1 := cell_of_row W8 (w.heap.size + 1) 1 _ _ _ hr8; have u2 := cell_of_row W8 (w.heap.size + 1) 2 _ _ _ hr8; have u3 := cell_of_row W8 (w.heap.size + 1) 3 _ _ _ hr8
 simp only [List.getElem?_toArray, List.getElem?_cons_zero, List.getElem?_cons_succ] at u0 u1 u2 u3
 exact bodyPost_ret (v := .tuple #[.agg #[.int .i64 c.pa, .int .i64 c.re, .bool c.rs, .slice ua um uc], .nilIface]) (by simp [results, Tryz.results19, go_sem, u0, u1, u2, u3]) rfl ⟨_, rfl, hfin2, hb8⟩
end Fw
end Go.Proofs.YtglehoekehiaiaaGreatDoor
