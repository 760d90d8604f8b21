/- K11: what follows, part by part: each part tells what it holds. -/
import Derived.Test.YtglehoekehiaiaaGreatDoorK8
import Derived.Test.YtglehoekehiaiaaGreatDoorK10
namespace Go.Proofs.YtglehoekehiaiaaGreatDoor
open Go.RowKit
set_option linter.unusedVariables false
set_option linter.unusedSimpArgs false
set_option maxRecDepth 100000
set_option maxHeartbeats 32000000
namespace Fw
open Vc (NumsL Nums Lies LL Bls BlC InC Bl Co WfC chk siz Fms infoN infoBl own_base RowT cob cob_cells)
/- flow: Order. -/
theorem siz_mem {l : List Bl} {b : Bl} (h : b ∈ l) : b.ins.length ≤ siz l := by
 induction l with
 | nil => cases h
 | cons x r ih =>
   have : siz (x :: r) = x.ins.length + siz r := by simp [siz]
   rcases List.mem_cons.1 h with rfl | h2
   ·omega
   ·have := ih h2; omega
theorem cok_of (c : Co) (h : chk c = true) : Cok c.bl := by
 unfold chk at h
 simp only [Bool.and_eq_true, decide_eq_true_eq, List.all_eq_true] at h
 obtain ⟨⟨⟨⟨-, -⟩, -⟩, ⟨⟨h1, h2⟩, h3⟩⟩, h4⟩ := h
 have hb : ∀ b ∈ c.bl, b.ins.length ≠ 0 ∧ Vc.lastL b.ins b.next.length = true ∧ Vc.allT b.next c.bl.length = true := fun b hm => by
  have := h4 b hm
  unfold Vc.blkM at this
  simp only [Bool.and_eq_true, Bool.not_eq_true', beq_eq_false_iff_ne] at this
  exact ⟨this.1.1, this.2.2.1, this.2.2.2⟩
 have hl : ∀ b ∈ c.bl, Vc.leads (endI b).op b.next.length = true := fun b hm => by
  obtain ⟨k1, k2, -⟩ := hb b hm
  unfold Vc.lastL at k2
  rw [get?_getD b.ins (b.ins.length - 1) dI (by omega)] at k2
  exact k2
 refine ⟨⟨by omega, fun b hm => ?_, fun b hm z hz => ?_⟩, h1, fun b hm => ⟨Nat.pos_of_ne_zero (hb b hm).1, by have := siz_mem hm; omega⟩, fun b hm ho => ?_, fun b hm ho => ?_⟩
 ·have := hl b hm
  unfold Vc.leads at this
  split at this
  ·simp at this; omega
  ·split at this
   ·simp at this; omega
   ·split at this
    ·simp at this; omega
    ·simp at this; simp [this]
 ·have := (hb b hm).2.2
  unfold Vc.allT at this
  rw [List.all_eq_true] at this
  have := this z hz
  unfold Vc.okN at this
  simpa using this
 ·have := hl b hm
  rw [ho] at this
  unfold Vc.leads at this
  simp at this; omega
 ·have := hl b hm
  rw [ho] at this
  unfold Vc.leads at this
  simp at this; omega
end Fw
namespace Fw
open Vc (NumsL Nums Lies LL Bls BlC InC Bl Co WfC WfB chk siz Fms infoN infoBl own_base RowT cob cob_cells)
/- flow: Trim. -/
theorem anw_bd (r : List Int) (n : Nat) : ∀ k i, 0 ≤ (anw r n k).getD i 0 ∧ (anw r n k).getD i 0 ≤ (k : Int) := by
 intro k
 induction k with
 | zero =>
   intro i
   by_cases h : i < n
   ·rw [show anw r n 0 = List.replicate n 0 from rfl, getD_get _ _ _ (by simpa using h)]; simp
   ·rw [getD_out _ _ _ (by rw [anw_len]; omega)]; simp
 | succ k ih =>
   intro i
   rw [anw_succ]
   by_cases h : (r.getD k 0).toNat < n
   ·rw [getD_set _ _ _ _ (by rw [anw_len]; exact h)]
    have := ih i
    split <;> omega
   ·rw [List.set_eq_of_length_le (by rw [anw_len]; omega)]
    have := ih i
    omega
theorem wf_trim {c : Co} (hw : WfC c) (hk : Cok c.bl) : WfC ⟨c.pa, c.re, c.rs, trimB c.bl⟩ := by
 obtain ⟨h1, h2, h3⟩ := rch_ok hk
 have hl := hk.nok.len
 refine ⟨hw.pa, hw.re, fun b hb => ?_, ?_⟩
 ·unfold trimB at hb
  obtain ⟨x, hx, rfl⟩ := List.mem_map.1 hb
  have hx2 := hw.bl x (pick_mem hk h3 x hx)
  refine ⟨hx2.ins, fun z hz => ?_, hx2.dep, hx2.len, by simpa [tellB] using hx2.nlen⟩
  obtain ⟨y, hy, rfl⟩ := List.mem_map.1 hz
  unfold tell Vc.i64
  have := anw_bd (rch c.bl) c.bl.length (rch c.bl).length y.toNat
  omega
 ·show (trimB c.bl).length ≤ _
  unfold trimB pick
  rw [List.length_map, List.length_map]; omega
theorem madeT_yes (c : Co) (hw : WfC c) (hc : chk c = true) (g : Nat → Prop) (v : Value) (w : World) (hT : Fms w) (hv : Bls w g c.bl v) (hg : ∀ k, g k → k < w.heap.size) :
    Calls Tryz.prog 41 #[.agg #[.int .i64 c.pa, .int .i64 c.re, .bool c.rs, v], .func (.func 42) #[] #[]] w fun e w' => ∃ u, e = .returned (.tuple #[.agg #[.int .i64 c.pa, .int .i64 c.re, .bool c.rs, u], .nilIface]) ∧ Bls w' (fun k => w.heap.size ≤ k ∧ k < w'.heap.size) (trimB c.bl) u ∧ Below w.heap.size w w' := by
 have hk := cok_of c hc
 have hz : siz c.bl ≤ 1099511627776 := by
  unfold chk at hc
  simp only [Bool.and_eq_true, decide_eq_true_eq] at hc
  have := hc.1.2.2
  omega
 obtain ⟨va, vc, rfl, -, -, -⟩ := id hv
 obtain ⟨n, hn⟩ : ∃ n, n = c.bl.length := ⟨_, rfl⟩
 obtain ⟨X, hX⟩ : ∃ X, X = (w.alloc (.cells (cob c.pa c.re c.rs (.slice va n vc)) 29)).alloc (.cells (cob 0 0 false (.slice none 0 0)) 29) := ⟨_, rfl⟩
 have hXb : Below w.heap.size w X := by rw [hX]; exact Vc.two_allocs w _ _
 have hXz : X.heap.size = w.heap.size + 2 := by rw [hX]; simp
 have r0 : X.heap[w.heap.size]? = some (.cells (cob c.pa c.re c.rs (.slice va n vc)) 29 (0, 0)) := by rw [hX, Below.heap_alloc _ _ _ (by simp)]; exact heap_alloc_new _ _
 have r1 : X.heap[w.heap.size + 1]? = some (.cells (cob 0 0 false (.slice none 0 0)) 29 (0, 0)) := by
  have := heap_alloc_new (w.alloc (.cells (cob c.pa c.re c.rs (.slice va n vc)) 29)) (.cells (cob 0 0 false (.slice none 0 0)) 29)
  rw [show (w.alloc (.cells (cob c.pa c.re c.rs (.slice va n vc)) 29)).heap.size = w.heap.size + 1 by simp, ← hX] at this; exact this
 have hck : Calls Tryz.prog 26 #[.agg #[.int .i64 c.pa, .int .i64 c.re, .bool c.rs, .slice va n vc]] X fun e w' => e = .returned .nilIface ∧ Below X.heap.size X w' := by
  have h5 := Vc.check_any c hw g (.slice va c.bl.length vc) X (hT.below hXb) (hv.moved (fun k _ h => ⟨h, hXb.block k (hg k h)⟩) hXb.size) hz
  rw [hc, ← hn] at h5
  exact h5.mono fun e w' h => ⟨by rw [h.1]; simp [errV_0], h.2⟩
 have hby : ∀ W, Below X.heap.size X W → Calls Tryz.prog 42 #[.agg #[.int .i64 c.pa, .int .i64 c.re, .bool c.rs, .slice va n vc]] W fun e w' => ∃ v', e = .returned (.agg #[.int .i64 c.pa, .int .i64 c.re, .bool c.rs, v']) ∧ Bls w' (fun k => k < w'.heap.size) (trimB c.bl) v' ∧ Below W.heap.size W w' := fun W hW => by
  have hb : Below w.heap.size w W := hXb.trans (hW.mono (by omega))
  have h5 := trimmed_any c.bl hk c.pa c.re c.rs g (.slice va c.bl.length vc) W (hv.moved (fun k _ h => ⟨h, hb.block k (hg k h)⟩) hb.size) (fun k h => Nat.lt_of_lt_of_le (hg k h) hb.size)
  rw [← hn] at h5; exact h5
 have hcl : ∀ W v', Bls W (fun k => k < W.heap.size) (trimB c.bl) v' → Calls Tryz.prog 66 #[.agg #[.int .i64 c.pa, .int .i64 c.re, .bool c.rs, v']] W fun e w' => ∃ u, e = .returned (.agg #[.int .i64 c.pa, .int .i64 c.re, .bool c.rs, u]) ∧ (∀ w8, (∀ k, W.heap.size ≤ k → k < w'.heap.size → w8.heap[k]? = w'.heap[k]?) → w'.heap.size ≤ w8.heap.size → Bls w8 (fun k => W.heap.size ≤ k ∧ k < w8.heap.size) (trimB c.bl) u) ∧ (∃ a m cp, u = .slice a m cp) ∧ Below W.heap.size W w' := fun W v' h => by
  refine (Vc.clone_any ⟨c.pa, c.re, c.rs, trimB c.bl⟩ (wf_trim hw hk) _ v' W h (fun k h => h)).mono ?_
  rintro e w' ⟨u, rfl, ho, -, hb⟩
  refine ⟨u, rfl, fun w8 h8 hs => ?_, ?_, hb⟩
  ·have h6 := Vc.CoO.bls (g := fun k => W.heap.size ≤ k ∧ k < w'.heap.size) ho (fun k a b => ⟨a, b⟩)
   exact h6.moved (fun k _ hg => ⟨⟨hg.1, by omega⟩, h8 k hg.1 hg.2⟩) hs
  ·obtain ⟨a, cp, e, -⟩ := id ho
   exact ⟨a, _, cp, e⟩
 obtain ⟨c0, c1, c2, c3, cf, cl⟩ := cob_cells r0
 have HCk := hide hck; have HBy := hide hby; have HCl := hide hcl; have HXb := hide hXb; have HXz := hide hXz; have HR0 := hide r0; have HR1 := hide r1
 rw [← hn]
 clear hck hby hcl hk hz hv hc hw hT hg hn hXb hXz r0 r1
 go_enter Tryz.func41, Tryz.ntmps41
 go_upto_region 1 with fail
 rw [show (w.alloc (.cells #[.int .i64 c.pa, .int .i64 c.re, .bool c.rs, .slice va n vc] 29)).alloc (.cells #[.int .i64 0, .int .i64 0, .bool false, .slice none 0 0] 29) = X from hX.symm]
 clear hX
 go_wp2_with (first
  | (go_at_call 26; refine (unhide HCk).mono ?_; rintro e w2 ⟨rfl, hb2⟩; have q0 := (hb2.block w.heap.size cl).trans (unhide HR0); obtain ⟨d0, d1, d2, d3, df, dl⟩ := cob_cells q0; have HB2 := hide hb2; clear hb2 q0)
  | (go_at_call 42; refine (unhide HBy _ (unhide HB2)).mono ?_; rintro e w3 ⟨v3, rfl, hB3, hb3⟩; have HBl3 := hide hB3; have HB3 := hide hb3; clear hB3 hb3)
  | (go_at_call 66; refine (unhide HCl _ _ (unhide HBl3)).mono ?_; rintro e w4 ⟨u4, rfl, hB4, ⟨ua, um, uc, rfl⟩, hb4⟩; have HBl4 := hide hB4; have HB4 := hide hb4; have q1 := (hb4.block (w.heap.size + 1) (by have := (unhide HB3).size; have := (unhide HB2).size; have := unhide HXz; omega)).trans (((unhide HB3).block (w.heap.size + 1) (by have := (unhide HB2).size; have := unhide HXz; omega)).trans (((unhide HB2).block (w.heap.size + 1) (by have := unhide HXz; omega)).trans (unhide HR1))); obtain ⟨y0, y1, y2, y3, yf, yl⟩ := cob_cells q1; have HQ1 := hide q1; clear hB4 hb4 q1))
 have hs2 := (unhide HB2).size
 have hs3 := (unhide HB3).size
 have hs4 := (unhide HB4).size
 have hxz := unhide HXz
 have hr8 := set4c w4 (w.heap.size + 1) _ _ _ _ _ (.int .i64 c.pa) (.int .i64 c.re) (.bool c.rs) (.slice ua um uc) (unhide HQ1)
 have hbe : Below w.heap.size w w4 := (unhide HXb).trans (((unhide HB2).trans (((unhide HB3).trans ((unhide HB4).mono hs3)).mono hs2)).mono (by omega))
 have hb8 := Vc.bel4 hbe (w.heap.size + 1) (Nat.le_succ _) (.int .i64 c.pa) (.int .i64 c.re) (.bool c.rs) (.slice ua um uc)
 have hfin := unhide HBl4 ((((w4.setCell ⟨w.heap.size + 1, 0, none⟩ (.int .i64 c.pa)).setCell ⟨w.heap.size + 1, 1, none⟩ (.int .i64 c.re)).setCell ⟨w.heap.size + 1, 2, none⟩ (.bool c.rs)).setCell ⟨w.heap.size + 1, 3, none⟩ (.slice ua um uc)) (fun k h1 h2 => by
  have hk : k ≠ w.heap.size + 1 := by omega
  rw [heap_setCell_other _ _ _ _ (by exact hk), heap_setCell_other _ _ _ _ (by exact hk), heap_setCell_other _ _ _ _ (by exact hk), heap_setCell_other _ _ _ _ (by exact hk)]) (by simp)
 have hfin2 : Bls ((((w4.setCell ⟨w.heap.size + 1, 0, none⟩ (.int .i64 c.pa)).setCell ⟨w.heap.size + 1, 1, none⟩ (.int .i64 c.re)).setCell ⟨w.heap.size + 1, 2, none⟩ (.bool c.rs)).setCell ⟨w.heap.size + 1, 3, none⟩ (.slice ua um uc)) (fun k => w.heap.size ≤ k ∧ k < ((((w4.setCell ⟨w.heap.size + 1, 0, none⟩ (.int .i64 c.pa)).setCell ⟨w.heap.size + 1, 1, none⟩ (.int .i64 c.re)).setCell ⟨w.heap.size + 1, 2, none⟩ (.bool c.rs)).setCell ⟨w.heap.size + 1, 3, none⟩ (.slice ua um uc)).heap.size) (trimB c.bl) (.slice ua um uc) := hfin.moved (fun k _ h => ⟨⟨by omega, h.2⟩, rfl⟩) (Nat.le_refl _)
 generalize (((w4.setCell ⟨w.heap.size + 1, 0, none⟩ (.int .i64 c.pa)).setCell ⟨w.heap.size + 1, 1, none⟩ (.int .i64 c.re)).setCell ⟨w.heap.size + 1, 2, none⟩ (.bool c.rs)).setCell ⟨w.heap.size + 1, 3, none⟩ (.slice ua um uc) = W8 at *
 have u0 := cell_of_row W8 (w.heap.size + 1) 0 _ _ _ hr8; have u1 := cell_of_row W8 (w.heap.size + 1) 1 _ _ _ hr8; have u2 := cell_of_row W8 (w.heap.size + 1) 2 _ _ _ hr8; have u3 := cell_of_row W8 (w.heap.size + 1) 3 _ _ _ hr8
 simp only [List.getElem?_toArray, List.getElem?_cons_zero, List.getElem?_cons_succ] at u0 u1 u2 u3
 exact bodyPost_ret (v := .tuple #[.agg #[.int .i64 c.pa, .int .i64 c.re, .bool c.rs, .slice ua um uc], .nilIface]) (by simp [results, Tryz.results41, go_sem, u0, u1, u2, u3]) rfl ⟨_, rfl, hfin2, hb8⟩
/- flow: Trim, whole. -/
theorem trim_yes (c : Co) (hw : WfC c) (hc : chk c = true) (g : Nat → Prop) (v : Value) (w : World) (hT : Fms w) (hv : Bls w g c.bl v) (hg : ∀ k, g k → k < w.heap.size) :
    Calls Tryz.prog 17 #[.agg #[.int .i64 c.pa, .int .i64 c.re, .bool c.rs, v]] w fun e w' => ∃ u, e = .returned (.tuple #[.agg #[.int .i64 c.pa, .int .i64 c.re, .bool c.rs, u], .nilIface]) ∧ Bls w' (fun k => w.heap.size ≤ k ∧ k < w'.heap.size) (trimB c.bl) u ∧ Below w.heap.size w w' := by
 obtain ⟨va, vc, rfl, -, -, -⟩ := id hv
 obtain ⟨n, hn⟩ : ∃ n, n = c.bl.length := ⟨_, rfl⟩
 obtain ⟨X, hX⟩ : ∃ X, X = (w.alloc (.cells (cob c.pa c.re c.rs (.slice va n vc)) 29)).alloc (.cells (cob 0 0 false (.slice none 0 0)) 29) := ⟨_, rfl⟩
 have hXb : Below w.heap.size w X := by rw [hX]; exact Vc.two_allocs w _ _
 have hXz : X.heap.size = w.heap.size + 2 := by rw [hX]; simp
 have r0 : X.heap[w.heap.size]? = some (.cells (cob c.pa c.re c.rs (.slice va n vc)) 29 (0, 0)) := by rw [hX, Below.heap_alloc _ _ _ (by simp)]; exact heap_alloc_new _ _
 have r1 : X.heap[w.heap.size + 1]? = some (.cells (cob 0 0 false (.slice none 0 0)) 29 (0, 0)) := by
  have := heap_alloc_new (w.alloc (.cells (cob c.pa c.re c.rs (.slice va n vc)) 29)) (.cells (cob 0 0 false (.slice none 0 0)) 29)
  rw [show (w.alloc (.cells (cob c.pa c.re c.rs (.slice va n vc)) 29)).heap.size = w.heap.size + 1 by simp, ← hX] at this; exact this
 have hby := madeT_yes c hw hc g (.slice va c.bl.length vc) X (hT.below hXb) (hv.moved (fun k _ h => ⟨h, hXb.block k (hg k h)⟩) hXb.size) (fun k h => Nat.lt_of_lt_of_le (hg k h) hXb.size)
 rw [← hn] at hby ⊢
 have hby2 : Calls Tryz.prog 41 #[.agg #[.int .i64 c.pa, .int .i64 c.re, .bool c.rs, .slice va n vc], .func (.func 42) #[] #[]] X fun e w' => ∃ a m cp, e = .returned (.tuple #[.agg #[.int .i64 c.pa, .int .i64 c.re, .bool c.rs, .slice a m cp], .nilIface]) ∧ Bls w' (fun k => X.heap.size ≤ k ∧ k < w'.heap.size) (trimB c.bl) (.slice a m cp) ∧ Below X.heap.size X w' := by
  refine hby.mono ?_
  rintro e w' ⟨u, rfl, h1, h2⟩
  obtain ⟨a, cp, e, -⟩ := id h1
  subst e
  exact ⟨_, _, _, rfl, h1, h2⟩
 obtain ⟨c0, c1, c2, c3, cf, cl⟩ := cob_cells r0
 have HBy := hide hby2; have HXb := hide hXb; have HXz := hide hXz; have HR1 := hide r1
 clear hby hby2 hv hc hw hT hg hn hXb hXz r0 r1
 go_enter Tryz.func17, Tryz.ntmps17
 go_upto_region 1 with fail
 rw [show (w.alloc (.cells #[.int .i64 c.pa, .int .i64 c.re, .bool c.rs, .slice va n vc] 29)).alloc (.cells #[.int .i64 0, .int .i64 0, .bool false, .slice none 0 0] 29) = X from hX.symm]
 clear hX
 go_wp2_with (go_at_call 41; refine (unhide HBy).mono ?_; rintro e w4 ⟨ua, um, uc, rfl, hB4, hb4⟩; have HBl4 := hide hB4; have HB4 := hide hb4; have q1 := (hb4.block (w.heap.size + 1) (by have := unhide HXz; omega)).trans (unhide HR1); obtain ⟨y0, y1, y2, y3, yf, yl⟩ := cob_cells q1; have HQ1 := hide q1; clear hB4 hb4 q1)
 have hs4 := (unhide HB4).size
 have hxz := unhide HXz
 have hr8 := set4c w4 (w.heap.size + 1) _ _ _ _ _ (.int .i64 c.pa) (.int .i64 c.re) (.bool c.rs) (.slice ua um uc) (unhide HQ1)
 have hbe : Below w.heap.size w w4 := (unhide HXb).trans ((unhide HB4).mono (by omega))
 have hb8 := Vc.bel4 hbe (w.heap.size + 1) (Nat.le_succ _) (.int .i64 c.pa) (.int .i64 c.re) (.bool c.rs) (.slice ua um uc)
 have hfin2 : Bls ((((w4.setCell ⟨w.heap.size + 1, 0, none⟩ (.int .i64 c.pa)).setCell ⟨w.heap.size + 1, 1, none⟩ (.int .i64 c.re)).setCell ⟨w.heap.size + 1, 2, none⟩ (.bool c.rs)).setCell ⟨w.heap.size + 1, 3, none⟩ (.slice ua um uc)) (fun k => w.heap.size ≤ k ∧ k < ((((w4.setCell ⟨w.heap.size + 1, 0, none⟩ (.int .i64 c.pa)).setCell ⟨w.heap.size + 1, 1, none⟩ (.int .i64 c.re)).setCell ⟨w.heap.size + 1, 2, none⟩ (.bool c.rs)).setCell ⟨w.heap.size + 1, 3, none⟩ (.slice ua um uc)).heap.size) (trimB c.bl) (.slice ua um uc) := (unhide HBl4).moved (fun k _ h => by
  have hk : k ≠ w.heap.size + 1 := by omega
  refine ⟨⟨by omega, by simpa using h.2⟩, ?_⟩
  rw [heap_setCell_other _ _ _ _ (by exact hk), heap_setCell_other _ _ _ _ (by exact hk), heap_setCell_other _ _ _ _ (by exact hk), heap_setCell_other _ _ _ _ (by exact hk)]) (by simp)
 generalize (((w4.setCell ⟨w.heap.size + 1, 0, none⟩ (.int .i64 c.pa)).setCell ⟨w.heap.size + 1, 1, none⟩ (.int .i64 c.re)).setCell ⟨w.heap.size + 1, 2, none⟩ (.bool c.rs)).setCell ⟨w.heap.size + 1, 3, none⟩ (.slice ua um uc) = W8 at *
 have u0 := cell_of_row W8 (w.heap.size + 1) 0 _ _ _ hr8; have u1 := cell_of_row W8 (w.heap.size + 1) 1 _ _ _ hr8; have u2 := cell_of_row W8 (w.heap.size + 1) 2 _ _ _ hr8; have u3 := cell_of_row W8 (w.heap.size + 1) 3 _ _ _ hr8
 simp only [List.getElem?_toArray, List.getElem?_cons_zero, List.getElem?_cons_succ] at u0 u1 u2 u3
 exact bodyPost_ret (v := .tuple #[.agg #[.int .i64 c.pa, .int .i64 c.re, .bool c.rs, .slice ua um uc], .nilIface]) (by simp [results, Tryz.results17, go_sem, u0, u1, u2, u3]) rfl ⟨_, rfl, hfin2, hb8⟩
/- flow: Over. -/
theorem ahead_len {nx : List (List Nat)} (hn : In nx) (hl : nx.length ≤ 1048576) (b : Nat) : ((ahead nx).getD b []).length ≤ 2097152 := by
 have h := ahs_inv nx hn nx.length
 by_cases hb : b < (ahead nx).length
 ·have := (h.row _ (getD_mem (ahead nx) b [] hb)).2
  omega
 ·rw [getD_out _ _ _ (by omega)]; simp
/-- what a walk and what is ahead come to: the tree -/
theorem tree_call (l : List Bl) (hk : Cok l) (va ve vf vt vl vh : Value) (w : World) (he : NumsL w (fun k => k < w.heap.size) (nz (walk (nxs l)).ent) ve) (hf : NumsL w (fun k => k < w.heap.size) (walk (nxs l)).fr vf) (ht : NumsL w (fun k => k < w.heap.size) (walk (nxs l)).tn vt) (ha : Rws w (fun k => k < w.heap.size) (ahead (nxs l)) vh) (sb : ∃ a n c, va = .slice a n c) (sl : ∃ a n c, vl = .slice a n c) :
    Calls Tryz.prog 31 #[.agg #[va, ve, vf, vt, vl], vh] w fun e w' => ∃ v, e = .returned v ∧ Ro w' w.heap.size v (tree (walk (nxs l)) (ahead (nxs l))) ∧ Below w.heap.size w w' := by
 obtain ⟨h1, h2⟩ := walk_inv hk
 have hA := ahead_ok (nxs l) hk.nok.inn
 rw [nxs_len] at hA
 exact treeOf_any (walk (nxs l)) h1 h2 hk.nok.len _ hA (ahead_len hk.nok.inn (by rw [nxs_len]; exact hk.nok.len)) va ve vf vt vl vh w he hf ht ha sb sl
theorem Ro.up {w w' : World} {N : Nat} {v : Value} {l : List Int} (h : Ro w N v l) (hb : Below w.heap.size w w') : NumsL w' (fun k => k < w'.heap.size) l v := (h.below hb).nums.moved fun k _ hk => ⟨hk.2, rfl⟩
theorem Ro.drew {w : World} {N : Nat} {v : Value} {l : List Int} (h : Ro w N v l) : Ro w.drew N v l := h.keep fun _ _ => rfl
theorem over_yes (c : Co) (hw : WfC c) (hc : chk c = true) (g : Nat → Prop) (v : Value) (w : World) (hT : Fms w) (hv : Bls w g c.bl v) (hg : ∀ k, g k → k < w.heap.size) :
    Calls Tryz.prog 10 #[.agg #[.int .i64 c.pa, .int .i64 c.re, .bool c.rs, v]] w fun e w' => ∃ u, e = .returned (.tuple #[u, .nilIface]) ∧ Ro w' w.heap.size u (over (nxs c.bl)) ∧ Below w.heap.size w w' := by
 have hk := cok_of c hc
 have hz : siz c.bl ≤ 1099511627776 := by
  unfold chk at hc
  simp only [Bool.and_eq_true, decide_eq_true_eq] at hc
  have := hc.1.2.2
  omega
 obtain ⟨va, vc, rfl, -, -, -⟩ := id hv
 obtain ⟨n, hn⟩ : ∃ n, n = c.bl.length := ⟨_, rfl⟩
 have hb1 := Vc.one_alloc w (.cells (cob c.pa c.re c.rs (.slice va n vc)) 29)
 have hnew := heap_alloc_new w (.cells (cob c.pa c.re c.rs (.slice va n vc)) 29)
 have hck : ∀ W, Below w.heap.size w W → Calls Tryz.prog 26 #[.agg #[.int .i64 c.pa, .int .i64 c.re, .bool c.rs, .slice va n vc]] W fun e w' => e = .returned .nilIface ∧ Below W.heap.size W w' := fun W hW => by
  have h5 := Vc.check_any c hw g (.slice va c.bl.length vc) W (hT.below hW) (hv.moved (fun k _ h => ⟨h, hW.block k (hg k h)⟩) hW.size) hz
  rw [hc, ← hn] at h5
  exact h5.mono fun e w' h => ⟨by rw [h.1]; simp [errV_0], h.2⟩
 have hwk : ∀ W, Below w.heap.size w W → Calls Tryz.prog 27 #[.slice va n vc] W fun e w' => ∃ ve vf vt vl, e = .returned (.agg #[.slice va n vc, ve, vf, vt, vl]) ∧ Ro w' W.heap.size ve (nz (walk (nxs c.bl)).ent) ∧ Ro w' W.heap.size vf (walk (nxs c.bl)).fr ∧ Ro w' W.heap.size vt (walk (nxs c.bl)).tn ∧ Ro w' W.heap.size vl (nz (walk (nxs c.bl)).lf) ∧ Below W.heap.size W w' := fun W hW => by
  have h5 := walkOf_any c.bl hk.nok hk.one g (.slice va c.bl.length vc) W (hv.moved (fun k _ h => ⟨h, hW.block k (hg k h)⟩) hW.size) (fun k h => Nat.lt_of_lt_of_le (hg k h) hW.size)
  rw [← hn] at h5; exact h5
 have hah : ∀ W, Below w.heap.size w W → Calls Tryz.prog 29 #[.slice va n vc] W fun e w' => ∃ u, e = .returned u ∧ Rws w' (fun k => W.heap.size ≤ k ∧ k < w'.heap.size) (ahead (nxs c.bl)) u ∧ Below W.heap.size W w' := fun W hW => by
  have h5 := aheadOf_any c.bl hk.nok g (.slice va c.bl.length vc) W (hv.moved (fun k _ h => ⟨h, hW.block k (hg k h)⟩) hW.size) (fun k h => Nat.lt_of_lt_of_le (hg k h) hW.size)
  rw [← hn] at h5; exact h5
 have htr := fun va ve vf vt vl vh W => tree_call c.bl hk va ve vf vt vl vh W
 obtain ⟨hwi, hw1⟩ := walk_inv hk
 have hlen := hk.nok.len
 have hone := hk.one
 have hrep := fun xb xo W h => repeat_any n (by omega) (by omega) xb xo W h
 have c3 : (w.alloc (.cells (cob c.pa c.re c.rs (.slice va n vc)) 29)).cell? ⟨w.heap.size, 3, none⟩ = some (.slice va n vc) := (cob_cells hnew).2.2.2.1
 have HCk := hide (hck _ hb1); have HWk := hide hwk; have HAh := hide hah; have HTr := hide htr; have HRep := hide hrep; have HNew := hide hnew; have HB1 := hide hb1; have HN := hide hn; have HK := hide hk; have HWi := hide hwi; have HW1 := hide hw1; have HLen := hide hlen; have HOne := hide hone
 rw [← hn]
 have hni : (n : Int) ≤ 1048576 := by omega
 clear hck hwk hah htr hrep hk hz hv hc hw hT hg hn hnew hb1 hwi hw1 hlen hone
 go_enter Tryz.func10, Tryz.ntmps10
 go_upto_region 4 with (go_at_call 26; refine (unhide HCk).mono ?_; rintro e w2 ⟨rfl, hb2⟩; have d3 := (hb2.cell (p := ⟨w.heap.size, 3, none⟩) (by simp)).trans c3; have hbw2 := (unhide HB1).trans (hb2.mono (unhide HB1).size); have HBw2 := hide hbw2; have hlt2 : w.heap.size < w2.heap.size := Nat.lt_of_lt_of_le (by simp) hb2.size; clear hb2 hbw2)
 clear c3 HCk
 go_upto_region 5 with (go_at_call 27; refine (unhide HWk _ (unhide HBw2)).mono ?_; rintro e w3 ⟨ve, vf, vt, vl, rfl, k1, k2, k3, k4, hb3⟩; obtain ⟨ea, ec, rfl, -⟩ := k1.sl; obtain ⟨fa, fc, rfl, -⟩ := k2.sl; obtain ⟨ta, tc, rfl, -⟩ := k3.sl; obtain ⟨la, lc, rfl, -⟩ := k4.sl; have K1 := hide k1; have K2 := hide k2; have K3 := hide k3; have e3 := (hb3.cell (p := ⟨w.heap.size, 3, none⟩) hlt2).trans d3; have hlt3 : w.heap.size < w3.heap.size := Nat.lt_of_lt_of_le hlt2 hb3.size; have HB3 := hide ((unhide HBw2).trans (hb3.mono (unhide HBw2).size)); have HB23 := hide hb3.size; clear k1 k2 k3 k4 hb3)
 clear d3 HWk
 have hal4 := Vc.one_alloc w3 (.cells #[.slice va n vc, .slice ea (nz (walk (nxs c.bl)).ent).length ec, .slice fa (walk (nxs c.bl)).fr.length fc, .slice ta (walk (nxs c.bl)).tn.length tc, .slice la (nz (walk (nxs c.bl)).lf).length lc] 65)
 have row4 := heap_alloc_new w3 (.cells #[.slice va n vc, .slice ea (nz (walk (nxs c.bl)).ent).length ec, .slice fa (walk (nxs c.bl)).fr.length fc, .slice ta (walk (nxs c.bl)).tn.length tc, .slice la (nz (walk (nxs c.bl)).lf).length lc] 65)
 have z4 : (w3.alloc (.cells #[.slice va n vc, .slice ea (nz (walk (nxs c.bl)).ent).length ec, .slice fa (walk (nxs c.bl)).fr.length fc, .slice ta (walk (nxs c.bl)).tn.length tc, .slice la (nz (walk (nxs c.bl)).lf).length lc] 65)).heap.size = w3.heap.size + 1 := by simp
 generalize w3.alloc (.cells #[.slice va n vc, .slice ea (nz (walk (nxs c.bl)).ent).length ec, .slice fa (walk (nxs c.bl)).fr.length fc, .slice ta (walk (nxs c.bl)).tn.length tc, .slice la (nz (walk (nxs c.bl)).lf).length lc] 65) = W4 at *
 have e4 := (hal4.cell (p := ⟨w.heap.size, 3, none⟩) hlt3).trans e3
 have hlt4 : w.heap.size < W4.heap.size := by omega
 have hb4 := (unhide HB3).trans (hal4.mono (Nat.le_of_lt hlt3))
 have k1 := ((unhide K1).base (M := w.heap.size) (Nat.le_of_lt hlt2)).below hal4
 have k2 := ((unhide K2).base (M := w.heap.size) (Nat.le_of_lt hlt2)).below hal4
 have k3 := ((unhide K3).base (M := w.heap.size) (Nat.le_of_lt hlt2)).below hal4
 have q1 := ((unhide K1).lt)
 have hal5 := Vc.one_alloc W4 (.cells #[.int .i64 (-1)] 3)
 have hx0 : (W4.alloc (.cells #[.int .i64 (-1)] 3)).cell? ⟨W4.heap.size, 0, none⟩ = some (.int .i64 (-1)) := by
  have := heap_alloc_new W4 (.cells #[.int .i64 (-1)] 3)
  rw [cell_of_row _ _ _ _ _ _ this]; rfl
 have e5 := (hal5.cell (p := ⟨w.heap.size, 3, none⟩) hlt4).trans e4
 have HX0 := hide hx0; have HAl5 := hide hal5; have HK1 := hide k1; have HK2 := hide k2; have HK3 := hide k3; have HRow4 := hide row4; have HB4 := hide hb4; have HZ4 := hide z4; have HQ1 := hide q1; have HLt2 := hide hlt2; have HLt3 := hide hlt3; have HLt4 := hide hlt4
 clear hx0 hal5 k1 k2 k3 row4 hb4 z4 q1 hal4 e3 hlt2 hlt3 K1 K2 K3 HBw2 HB3 HB1 HNew
 go_upto_region 6 with (go_at_call 30; refine (unhide HRep _ _ _ (unhide HX0)).mono ?_; rintro e w6 ⟨v6, rfl, ho6, hb6⟩; obtain ⟨go, co, rfl, hgo, hgl, -, -, -⟩ := ho6.at_ (by rw [List.length_replicate]; have := unhide HOne; have := unhide HN; omega))
 rw [List.length_replicate] at ho6
 have h56 := (unhide HAl5).trans (hb6.mono (unhide HAl5).size)
 have s6 : W4.heap.size < w6.heap.size := by have := hb6.size; simp at this; omega
 have e6 := (h56.cell (p := ⟨w.heap.size, 3, none⟩) (unhide HLt4)).trans e4
 have row6 := (h56.block w3.heap.size (by have := unhide HZ4; omega)).trans (unhide HRow4)
 have k1 := (unhide HK1).below h56
 have k2 := (unhide HK2).below h56
 have k3 := (unhide HK3).below h56
 have hb6' := (unhide HB4).trans (h56.mono (Nat.le_of_lt (unhide HLt4)))
 have hgo4 : W4.heap.size < go := by simp at hgo; omega
 have ho6' := ho6.base (M := w.heap.size) (by simp; have := unhide HLt4; omega)
 have lt3 : w3.heap.size < w6.heap.size := by have := unhide HZ4; omega
 have lt0 : w.heap.size < w6.heap.size := by have := unhide HLt4; omega
 obtain ⟨x0, x1, x2, x3, x4, xf, -⟩ := wb_cells (show w6.heap[w3.heap.size]? = some (.cells (wbc (.slice va n vc) (.slice ea (nz (walk (nxs c.bl)).ent).length ec) (.slice fa (walk (nxs c.bl)).fr.length fc) (.slice ta (walk (nxs c.bl)).tn.length tc) (.slice la (nz (walk (nxs c.bl)).lf).length lc)) 65 (0, 0)) from row6)
 have hah6 : ∀ W, Below w6.heap.size w6 W → Calls Tryz.prog 29 #[.slice va n vc] W fun e w' => ∃ u, e = .returned u ∧ Rws w' (fun k => k < w'.heap.size) (ahead (nxs c.bl)) u ∧ Below w6.heap.size w6 w' := fun W hW =>
  (unhide HAh W (hb6'.trans (hW.mono (Nat.le_of_lt lt0)))).mono fun e w' h => by
   obtain ⟨u, e1, e2, e3⟩ := h
   exact ⟨u, e1, e2.moved (fun k _ hk => ⟨hk.2, rfl⟩) (Nat.le_refl _), hW.trans (e3.mono hW.size)⟩
 have htr6 : ∀ W u, Below w6.heap.size w6 W → Rws W (fun k => k < W.heap.size) (ahead (nxs c.bl)) u → Calls Tryz.prog 31 #[.agg #[.slice va n vc, .slice ea (nz (walk (nxs c.bl)).ent).length ec, .slice fa (walk (nxs c.bl)).fr.length fc, .slice ta (walk (nxs c.bl)).tn.length tc, .slice la (nz (walk (nxs c.bl)).lf).length lc], u] W fun e w' => ∃ a m, e = .returned (.slice a (tree (walk (nxs c.bl)) (ahead (nxs c.bl))).length m) ∧ Ro w' w6.heap.size (.slice a (tree (walk (nxs c.bl)) (ahead (nxs c.bl))).length m) (tree (walk (nxs c.bl)) (ahead (nxs c.bl))) ∧ Below w6.heap.size w6 w' := fun W u hW hu =>
  (unhide HTr _ _ _ _ _ u W (k1.up hW) (k2.up hW) (k3.up hW) hu ⟨_, _, _, rfl⟩ ⟨_, _, _, rfl⟩).mono fun e w' h => by
   obtain ⟨v, e1, e2, e3⟩ := h
   obtain ⟨a, m, e4, -⟩ := e2.sl
   subst e4
   exact ⟨a, m, e1, e2.base hW.size, hW.trans (e3.mono hW.size)⟩
 have HAh6 := hide hah6; have HTr6 := hide htr6; have HK1b := hide k1; have HO6 := hide ho6'; have HGo4 := hide hgo4; have HB6 := hide hb6'; have HRow6 := hide row6; have HLt0 := hide lt0; have HGl := hide hgl
 clear hah6 htr6 k1 k2 k3 ho6 ho6' hgo hgo4 hb6' hb6 h56 row6 s6 e4 e5 HAh HTr HRep HX0 HAl5 HK1 HK2 HK3 HRow4 HB4 xf hgl
 obtain ⟨tr, htr⟩ : ∃ tr, tr = tree (walk (nxs c.bl)) (ahead (nxs c.bl)) := ⟨_, rfl⟩
 rw [← htr] at HTr6
 have HT := hide htr
 clear htr
 go_cut [26, 27, 28] from 22 to 28 (fun t l i wx => ∃ a m, t = .slice a tr.length m ∧ l = .int .i64 (tr.length : Int) ∧ i = .int .i64 0 ∧ Ro wx w6.heap.size (.slice a tr.length m) tr ∧ Below w6.heap.size w6 wx)
 case first =>
  go_region_law
   (first
    | (go_simp; go_at_call 29; refine (unhide HAh6 _ (by repeat' first | exact Below.refl _ _ | refine bdrew ?_)).mono ?_; rintro e w7 ⟨u7, rfl, hu7, hb7⟩; obtain ⟨bc1, bc2⟩ := bcell hb7; have HU7 := hide hu7; have HB7 := hide hb7; clear hu7 hb7; go_wp2_with fail)
    | (go_simp; go_at_call 31; refine (unhide HTr6 _ _ (by repeat' first | exact unhide HB7 | refine bdrew ?_) (unhide HU7)).mono ?_; rintro e w8 ⟨a8, m8, rfl, ht8, hb8⟩; have HT8 := hide ht8; have HB8 := hide hb8; clear ht8 hb8; go_wp2_with fail)
    | fail)
  all_goals
   go_wp2_with fail
   go_meet
   exact ⟨_, _, rfl, rfl, rfl, (by repeat' first | exact unhide HT8 | refine Ro.drew ?_), (by repeat' first | exact unhide HB8 | refine bdrew ?_)⟩
 case rest =>
  obtain ⟨a9, mt, rfl, rfl, rfl, hTr, hBt⟩ := hcut
  have hA := ahead_ok (nxs c.bl) (unhide HK).nok.inn
  rw [nxs_len] at hA
  have hup := tree_up (unhide HWi) hA
  rw [← unhide HT] at hup
  have hov : over (nxs c.bl) = ovs (walk (nxs c.bl)) tr n tr.length := by unfold over; rw [← unhide HT, nxs_len, ← unhide HN]
  have HOv := hide hov
  have hwi := unhide HWi
  have h1 := unhide HW1
  have hcnt := hwi.ec
  rw [← unhide HN] at hcnt
  clear HWi HW1 hov HAh6 HTr6 hA HT
  generalize walk (nxs c.bl) = s at *
  have hL : tr.length = s.ent.length := hup.len.trans hwi.fl
  obtain ⟨eb, em, he, -, -, -, -, -⟩ := (unhide HK1b).at_ (by rw [nz_len]; exact h1)
  cases he
  obtain ⟨hq1, hq2⟩ := unhide HQ1 eb rfl
  have hne : eb ≠ go := by have := unhide HGo4; have := unhide HZ4; omega
  obtain ⟨tb, tm, ht, htb, -, -, -, -⟩ := hTr.at_ (by omega)
  cases ht
  have hnt : tb ≠ go := by have := unhide HGl; omega
  have hn3 : w3.heap.size ≠ go := by have := unhide HGo4; have := unhide HZ4; omega
  have hgw : w.heap.size ≤ go := by have := unhide HGo4; have := unhide HLt4; omega
  obtain ⟨E, hE0⟩ : ∃ E, E = (nz s.ent).length := ⟨_, rfl⟩
  have g1 := (unhide HO6).below hBt
  have g2 := (unhide HB6).trans (hBt.mono (Nat.le_of_lt (unhide HLt0)))
  have g3 := (hBt.block w3.heap.size lt3).trans (unhide HRow6)
  have g4 := (unhide HK1b).below hBt
  rw [← hE0] at g3 g4
  have hEl : E = s.ent.length := by rw [hE0, nz_len]
  have htrn : (tr.length : Int) ≤ 1048576 := by have := unhide HLen; have := unhide HN; omega
  have G1 := hide g1; have G2 := hide g2; have G3 := hide g3; have G4 := hide g4; have G5 := hide hTr; have HUp := hide hup; have HWi := hide hwi; have HL := hide hL; have HEl := hide hEl; have HNe := hide hne; have HNt := hide hnt; have HN3 := hide hn3; have HGw := hide hgw
  clear g1 g2 g3 g4 hTr hBt hup hwi hL hEl hE0 hcnt h1 hne hnt hn3 hgw htb hq1 hq2 x0 x1 x2 x3 x4 e6 lt3 lt0 HO6 HB6 HRow6 HK1b HQ1 HGo4 HZ4 HGl HLt0 HLt2 HLt3 HLt4 HB23 HOne HLen HK
  go_wp2_with fail
  go_loopw [28] (fun c wr => ∃ k : Nat, k ≤ tr.length ∧ c = .int .i64 (k : Int) ∧ Ro wr w.heap.size (.slice (some ⟨go, 0, none⟩) n co) (ovs s tr n k) ∧ Below w.heap.size w wr ∧ wr.heap[w3.heap.size]? = some (.cells (wbc (.slice va n vc) (.slice (some ⟨eb, 0, none⟩) E ec) (.slice fa s.fr.length fc) (.slice ta s.tn.length tc) (.slice la (nz s.lf).length lc)) 65 (0, 0)) ∧ Ro wr w.heap.size (.slice (some ⟨eb, 0, none⟩) E ec) (nz s.ent) ∧ Ro wr w6.heap.size (.slice (some ⟨tb, 0, none⟩) tr.length mt) tr) (fun c _ => tr.length - (intOf c).toNat)
  case atStart => exact ⟨0, Nat.zero_le _, rfl, by rw [show ovs s tr n 0 = List.replicate n (-1) from rfl]; exact unhide G1, unhide G2, unhide G3, unhide G4, unhide G5⟩
  case round =>
   clear G1 G2 G3 G4 G5
   obtain ⟨k, hk, rfl, hO, hb, hrow, hE, hTt⟩ := hrel
   by_cases hlt : k < tr.length
   ·obtain ⟨x, hx⟩ : ∃ x, x = tr.getD k 0 := ⟨_, rfl⟩
    have hxr := (unhide HUp).row k (by rw [← (unhide HUp).len]; exact hlt)
    rw [← hx] at hxr
    have c1 := (hTt.cells hlt).1
    rw [← hx] at c1
    have hst := ovs_succ s tr n k
    rw [← hx] at hst
    have hkl : (k : Int) < (tr.length : Int) := by omega
    by_cases h1x : x = -1
    ·subst h1x
     rw [if_pos rfl] at hst
     rw [← hst] at hO
     have HO := hide hO; have HB := hide hb; have HRow := hide hrow; have HE := hide hE; have HTt := hide hTt; have HLt := hide hlt
     clear hO hb hrow hE hTt hst hlt hk hx hxr
     go_wp2_with fail
     go_roundw
     case rel => exact ⟨k + 1, by have := unhide HLt; omega, by go_num, unhide HO, unhide HB, unhide HRow, unhide HE, unhide HTt⟩
     case measure => have := unhide HLt; simp [intOf]; omega
    ·rw [if_neg h1x] at hst
     obtain ⟨z, hz⟩ : ∃ z : Nat, x = (z : Int) := ⟨x.toNat, by omega⟩
     subst hz
     rw [Int.toNat_natCast] at hst
     have hzk : z < k := by omega
     have hkE : k < s.ent.length := by rw [← unhide HL]; exact hlt
     obtain ⟨b, hb0⟩ : ∃ b, b = s.ent.getD k 0 := ⟨_, rfl⟩
     obtain ⟨o, ho0⟩ : ∃ o, o = s.ent.getD z 0 := ⟨_, rfl⟩
     have c2 := (hE.cells (i := k) (by rw [nz_len]; exact hkE)).1
     have c3 := (hE.cells (i := z) (by rw [nz_len]; omega)).1
     rw [nz_getD _ _ hkE, ← hb0] at c2
     rw [nz_getD _ _ (by omega), ← ho0] at c3
     rw [← hb0, ← ho0] at hst
     have hbn : b < n := by rw [hb0, unhide HN]; exact (unhide HWi).eb _ (getD_mem _ _ _ hkE)
     obtain ⟨c4, c4f⟩ := hO.cells (i := b) (by rw [ovs_len]; exact hbn)
     obtain ⟨y, hy⟩ : ∃ y, y = (ovs s tr n k).getD b 0 := ⟨_, rfl⟩
     rw [← hy] at c4
     obtain ⟨-, c5, -⟩ := wb_cells hrow
     have hO2 := (hO.set (i := b) (by rw [ovs_len]; exact hbn) (o : Int)).drew
     rw [← hst] at hO2
     have hb2 := bdrew (hb.setCell (p := ⟨go, b, none⟩) (unhide HGw) (.int .i64 (o : Int)))
     have hrow2 : (wr.setCell ⟨go, b, none⟩ (.int .i64 (o : Int))).drew.heap[w3.heap.size]? = some (.cells (wbc (.slice va n vc) (.slice (some ⟨eb, 0, none⟩) E ec) (.slice fa s.fr.length fc) (.slice ta s.tn.length tc) (.slice la (nz s.lf).length lc)) 65 (0, 0)) := (heap_setCell_other wr ⟨go, b, none⟩ _ _ (unhide HN3)).trans hrow
     have hE2 := (hE.keep (w' := wr.setCell ⟨go, b, none⟩ (.int .i64 (o : Int))) fun j hj => heap_setCell_other wr ⟨go, b, none⟩ j _ (by cases hj; exact unhide HNe)).drew
     have hT2 := (hTt.keep (w' := wr.setCell ⟨go, b, none⟩ (.int .i64 (o : Int))) fun j hj => heap_setCell_other wr ⟨go, b, none⟩ j _ (by cases hj; exact unhide HNt)).drew
     have i1 : (b : Int) < (n : Int) := by omega
     have i2 : (k : Int) < (E : Int) := by have := unhide HEl; omega
     have i3 : (z : Int) < (E : Int) := by have := unhide HEl; omega
     have hEb : (E : Int) ≤ 1048576 := by have := unhide HEl; have := unhide HL; omega
     have HO := hide hO2; have HB := hide hb2; have HRow := hide hrow2; have HE := hide hE2; have HTt := hide hT2; have HLt := hide hlt
     clear hO hO2 hb hb2 hrow hrow2 hE hE2 hTt hT2 hst hlt hk hx hxr hy hb0 ho0 hbn hkE hzk
     go_wp2_with fail
     go_region
     generalize (wr.setCell ⟨go, b, none⟩ (.int .i64 (o : Int))).drew = W9 at *
     clear c1 c2 c3 c4 c4f c5
     go_wp2_with fail
     go_roundw
     case rel => exact ⟨k + 1, by have := unhide HLt; omega, by go_num, unhide HO, unhide HB, unhide HRow, unhide HE, unhide HTt⟩
     case measure => have := unhide HLt; simp [intOf]; omega
   ·obtain rfl : k = tr.length := by omega
    rw [← unhide HOv] at hO
    have HO := hide hO; have HB := hide hb
    clear hO hb hrow hE hTt hlt hk
    go_wp2_with fail
    go_ret2
    exact ⟨_, rfl, unhide HO, unhide HB⟩
end Fw
namespace Fw
open Vc (NumsL Nums Lies)
/- the statements' ints: are two rows of numbers the same? -/
theorem same_snoc {x y : List Int} {k : Nat} (h : x.take k = y.take k) (hx : k < x.length) (hy : k < y.length) (he : x.getD k 0 = y.getD k 0) : x.take (k + 1) = y.take (k + 1) := by
 rw [List.take_succ_eq_append_getElem hx, List.take_succ_eq_append_getElem hy, h]
 rw [List.getD_eq_getElem?_getD, List.getD_eq_getElem?_getD, List.getElem?_eq_getElem hx, List.getElem?_eq_getElem hy] at he
 simp only [Option.getD_some] at he
 rw [he]
theorem ints_any (x y : List Int) (hxl : x.length ≤ 1099511627776) (hyl : y.length ≤ 1099511627776) (va vb : Value) (w : World) (ha : NumsL w (fun k => k < w.heap.size) x va) (hb : NumsL w (fun k => k < w.heap.size) y vb) :
    Calls Tryz.prog 14 #[va, vb] w fun e w' => e = .returned (.bool (decide (x = y))) ∧ Below w.heap.size w w' := by
 obtain ⟨aa, ac, rfl, -, -, -⟩ := id ha
 obtain ⟨ba, bc, rfl, -, -, -⟩ := id hb
 obtain ⟨n, hn⟩ : ∃ n, n = x.length := ⟨_, rfl⟩
 obtain ⟨m, hm⟩ : ∃ m, m = y.length := ⟨_, rfl⟩
 have hni : (n : Int) ≤ 1099511627776 := by omega
 have hmi : (m : Int) ≤ 1099511627776 := by omega
 have HA := hide ha; have HB := hide hb; have HN := hide hn; have HM := hide hm
 rw [← hn, ← hm]
 obtain ⟨r, hr⟩ : ∃ r, r = decide (x = y) := ⟨_, rfl⟩
 rw [← hr]
 have HR := hide hr
 clear ha hb hn hm hxl hyl hr
 by_cases hnm : n = m
 ·subst hnm
  go_enter Tryz.func14, Tryz.ntmps14
  go_wp2_with fail
  go_loopw [5] (fun c wq => ∃ k : Nat, k ≤ n ∧ c = .int .i64 (k : Int) ∧ x.take k = y.take k ∧ Below w.heap.size w wq) (fun c _ => n - (intOf c).toNat)
  case atStart => exact ⟨0, Nat.zero_le _, rfl, by simp, Below.refl _ _⟩
  case round =>
   obtain ⟨k, hk, rfl, hs, hbe⟩ := hrel
   by_cases hlt : k < n
   ·obtain ⟨Ba, oa, hea, -, hca⟩ := nums_at (nums_on (unhide HA) hbe) (k := k) (by rw [← unhide HN]; exact hlt)
    obtain ⟨Bb, ob, heb, -, hcb⟩ := nums_at (nums_on (unhide HB) hbe) (k := k) (by rw [← unhide HM]; exact hlt)
    subst hea
    subst heb
    have c1 := hca k (by rw [← unhide HN]; exact hlt)
    have c2 := hcb k (by rw [← unhide HM]; exact hlt)
    obtain ⟨p, hp⟩ : ∃ p, p = x.getD k 0 := ⟨_, rfl⟩
    obtain ⟨q, hq⟩ : ∃ q, q = y.getD k 0 := ⟨_, rfl⟩
    rw [← hp] at c1
    rw [← hq] at c2
    have hkn : (k : Int) < (n : Int) := by omega
    have HS := hide hs; have HBe := hide hbe; have HLt := hide hlt; have HP := hide hp; have HQ := hide hq
    clear hs hbe hlt hca hcb hp hq hk
    by_cases hpq : p = q
    ·subst hpq
     go_wp2_with fail
     go_region
     go_wp2_with fail
     go_roundw
     case rel => exact ⟨k + 1, by have := unhide HLt; omega, by go_num, same_snoc (unhide HS) (by rw [← unhide HN]; exact unhide HLt) (by rw [← unhide HM]; exact unhide HLt) (by rw [← unhide HP, ← unhide HQ]), bdrew (unhide HBe)⟩
     case measure => have := unhide HLt; simp [intOf]; omega
    ·have hrf : r = false := by
        rw [unhide HR, decide_eq_false_iff_not]
        intro e
        subst e
        exact hpq ((unhide HP).trans (unhide HQ).symm)
     subst hrf
     clear HR
     go_wp2_with fail
     go_region
     go_wp2_with fail
     go_ret
     exact ⟨rfl, bdrew (unhide HBe)⟩
   ·obtain rfl : k = n := by omega
    have hrt : r = true := by
     rw [unhide HR, decide_eq_true_eq]
     rw [List.take_of_length_le (by rw [← unhide HN]; exact Nat.le_refl _), List.take_of_length_le (by rw [← unhide HM]; exact Nat.le_refl _)] at hs
     exact hs
    subst hrt
    have HBe := hide hbe
    clear hs hbe hlt hk HR
    go_wp2_with fail
    go_ret
    exact ⟨rfl, unhide HBe⟩
 ·have hrf : r = false := by
     rw [unhide HR, decide_eq_false_iff_not]
     intro e
     subst e
     exact hnm ((unhide HN).trans (unhide HM).symm)
  subst hrf
  have hnmi : (n : Int) ≠ (m : Int) := by omega
  clear HR
  go_enter Tryz.func14, Tryz.ntmps14
  go_wp2_with fail
  go_ret
  exact ⟨rfl, Below.refl _ _⟩
end Fw
namespace Fw
open Vc (NumsL Nums Lies LL Bls BlC InC Bl Co WfC WfB chk siz Fms infoN infoBl own_base RowT cob cob_cells OwnL Its own)
/- flow: Loops: what its first region leaves (shapes of the end's world); a loop's cells. -/
/-- a loop's cells -/
def LpC (w : World) (g : Nat → Prop) (x : Nat × List Nat) (cs : List Value) : Prop := ∃ v, cs = [.int .i64 (x.1 : Int), v] ∧ NumsL w g (nz x.2) v
/-- rows of a walk that was handed back -/
structure Wr (w : World) (N : Nat) (s : St) (ve vf vt : Value) : Prop where
 re : Ro w N ve (nz s.ent)
 rf : Ro w N vf s.fr
 rt : Ro w N vt s.tn
theorem Wr.below {w w' : World} {N : Nat} {s : St} {ve vf vt : Value} (h : Wr w N s ve vf vt) (hb : Below w.heap.size w w') : Wr w' N s ve vf vt := ⟨h.re.below hb, h.rf.below hb, h.rt.below hb⟩
theorem Rws.wide {w w' : World} {g : Nat → Prop} {ll : List (List Nat)} {v : Value} (h : Rws w g ll v) (hs : w.heap.size ≤ w'.heap.size) (hb : ∀ k, k < w.heap.size → g k → w'.heap[k]? = w.heap[k]?) : Rws w' (fun k => k < w'.heap.size) ll v := h.moved (fun k hk hg => ⟨Nat.lt_of_lt_of_le hk hs, hb k hk hg⟩) hs
/-- behind the walk was laid into new memory -/
theorem shapeA {w2 w6 : World} {s : St} {va ve vf vt vl u : Value} {ah : List (List Nat)} {g : Nat → Prop} (hb : Below w2.heap.size w2 w6) (hk : Wr w6 w2.heap.size s ve vf vt) (hr : Rws w6 g ah u) :
    w2.heap.size ≤ w6.heap.size ∧ (w6.alloc (.cells #[va, ve, vf, vt, vl] 65)).heap[w6.heap.size]? = some (.cells (wbc va ve vf vt vl) 65 (0, 0)) ∧ Wr (w6.alloc (.cells #[va, ve, vf, vt, vl] 65)) w2.heap.size s ve vf vt ∧ Rws (w6.alloc (.cells #[va, ve, vf, vt, vl] 65)) (fun k => k < (w6.alloc (.cells #[va, ve, vf, vt, vl] 65)).heap.size) ah u ∧ Below w2.heap.size w2 (w6.alloc (.cells #[va, ve, vf, vt, vl] 65)) := by
 have h1 := Vc.one_alloc w6 (.cells #[va, ve, vf, vt, vl] 65)
 exact ⟨hb.size, heap_alloc_new _ _, hk.below h1, hr.wide h1.size (fun k hk _ => h1.block k hk), hb.trans (h1.mono hb.size)⟩
abbrev wst5 (w : World) (P : Nat) (a b c d e : Value) : World := ((((w.setCell ⟨P, 0, none⟩ a).setCell ⟨P, 1, none⟩ b).setCell ⟨P, 2, none⟩ c).setCell ⟨P, 3, none⟩ d).setCell ⟨P, 4, none⟩ e
theorem shapeB {w2 w6 : World} {s : St} {P M : Nat} {va ve vf vt vl z0 z1 z2 z3 z4 u : Value} {ah : List (List Nat)} (hP : w2.heap.size ≤ P) (hPM : P < M) (hrow : w6.heap[P]? = some (.cells #[z0, z1, z2, z3, z4] 65 (0, 0))) (hb : Below w2.heap.size w2 w6) (hk : Wr w6 w2.heap.size s ve vf vt) (hr : Rws w6 (fun k => M ≤ k ∧ k < w6.heap.size) ah u) :
    w2.heap.size ≤ P ∧ (wst5 w6 P va ve vf vt vl).heap[P]? = some (.cells (wbc va ve vf vt vl) 65 (0, 0)) ∧ Wr (wst5 w6 P va ve vf vt vl) w2.heap.size s ve vf vt ∧ Rws (wst5 w6 P va ve vf vt vl) (fun k => k < (wst5 w6 P va ve vf vt vl).heap.size) ah u ∧ Below w2.heap.size w2 (wst5 w6 P va ve vf vt vl) := by
 have o : ∀ k, k ≠ P → (wst5 w6 P va ve vf vt vl).heap[k]? = w6.heap[k]? := fun k hk => by
  rw [heap_setCell_other _ _ _ _ (by exact hk), heap_setCell_other _ _ _ _ (by exact hk), heap_setCell_other _ _ _ _ (by exact hk), heap_setCell_other _ _ _ _ (by exact hk), heap_setCell_other _ _ _ _ (by exact hk)]
 have hs : (wst5 w6 P va ve vf vt vl).heap.size = w6.heap.size := by simp
 have h0 := heap_setCell_same w6 P 0 _ _ va hrow
 have h1 := heap_setCell_same _ P 1 _ _ ve h0
 have h2 := heap_setCell_same _ P 2 _ _ vf h1
 have h3 := heap_setCell_same _ P 3 _ _ vt h2
 have h4 := heap_setCell_same _ P 4 _ _ vl h3
 refine ⟨hP, h4.trans rfl, ⟨hk.re.keep fun k h => o k (row_ne hrow (by decide) hk.re k h).1, hk.rf.keep fun k h => o k (row_ne hrow (by decide) hk.rf k h).1, hk.rt.keep fun k h => o k (row_ne hrow (by decide) hk.rt k h).1⟩, hr.wide (by rw [hs]; exact Nat.le_refl _) (fun k _ hg => o k (by omega)), ?_⟩
 exact ((((hb.setCell (p := ⟨P, 0, none⟩) hP _).setCell (p := ⟨P, 1, none⟩) hP _).setCell (p := ⟨P, 2, none⟩) hP _).setCell (p := ⟨P, 3, none⟩) hP _).setCell (p := ⟨P, 4, none⟩) hP _
/- flow: Loops. -/
theorem infoLp : (Tryz.prog.info? 61).map (fun i => (i.zero, i.size, i.bytes)) = some (some (.agg #[.int .i64 0, .slice none 0 0]), 2, 32) := by kernel_rfl
def lpC (h : Nat) (v : Value) : List Value := [.int .i64 (h : Int), v]
theorem lpC_one (h : Nat) (v : Value) (hv : ∃ a n c, v = .slice a n c) : ∀ u ∈ lpC h v, u.oneCell' = true := by
 obtain ⟨a, n, c, rfl⟩ := hv
 intro u hu
 simp only [lpC, List.mem_cons, List.not_mem_nil, or_false] at hu
 rcases hu with rfl | rfl <;> rfl
theorem LpC.moved {w w' : World} {g g' : Nat → Prop} (hm : Vc.Mv w w' g g') {x : Nat × List Nat} {cs : List Value} (h : LpC w g x cs) : LpC w' g' x cs := by
 obtain ⟨v, e, h1⟩ := h
 exact ⟨v, e, h1.moved hm⟩
def lps (ah ws : List (List Nat)) (k : Nat) : List (Nat × List Nat) := (List.range k).filterMap fun h => if ws.getD h [] = [] then none else some (h, around ah h (ws.getD h []))
theorem lps_succ (ah ws : List (List Nat)) (k : Nat) : lps ah ws (k + 1) = if ws.getD k [] = [] then lps ah ws k else lps ah ws k ++ [(k, around ah k (ws.getD k []))] := by
 unfold lps
 rw [List.range_succ, List.filterMap_append]
 by_cases h : ws.getD k [] = []
 ·simp only [List.filterMap_cons, List.filterMap_nil, if_pos h, List.append_nil]
 ·simp only [List.filterMap_cons, List.filterMap_nil, if_neg h]
theorem lps_len (ah ws : List (List Nat)) (k : Nat) : (lps ah ws k).length ≤ k := by
 unfold lps; exact Nat.le_trans (List.length_filterMap_le _ _) (by simp)
theorem loops_eq (nx : List (List Nat)) : loops nx = lps (ahead nx) (waysBack nx (walk nx) (tree (walk nx) (ahead nx))) nx.length := rfl
theorem loops_yes (c : Co) (hw : WfC c) (hc : chk c = true) (g : Nat → Prop) (v : Value) (w : World) (hT : Fms w) (hv : Bls w g c.bl v) (hg : ∀ k, g k → k < w.heap.size) :
    Calls Tryz.prog 24 #[.agg #[.int .i64 c.pa, .int .i64 c.re, .bool c.rs, v]] w fun e w' => ∃ u, e = .returned (.tuple #[u, .nilIface]) ∧ OwnL LpC 2 61 w' w.heap.size (fun k => w.heap.size ≤ k) u (loops (nxs c.bl)) ∧ Below w.heap.size w w' := by
 have hk := cok_of c hc
 have hz : siz c.bl ≤ 1099511627776 := by
  unfold chk at hc
  simp only [Bool.and_eq_true, decide_eq_true_eq] at hc
  have := hc.1.2.2
  omega
 obtain ⟨va, vc, rfl, -, -, -⟩ := id hv
 obtain ⟨n, hn⟩ : ∃ n, n = c.bl.length := ⟨_, rfl⟩
 have hb1 := Vc.one_alloc w (.cells (cob c.pa c.re c.rs (.slice va n vc)) 29)
 have hnew := heap_alloc_new w (.cells (cob c.pa c.re c.rs (.slice va n vc)) 29)
 have hck : ∀ W, Below w.heap.size w W → Calls Tryz.prog 26 #[.agg #[.int .i64 c.pa, .int .i64 c.re, .bool c.rs, .slice va n vc]] W fun e w' => e = .returned .nilIface ∧ Below W.heap.size W w' := fun W hW => by
  have h5 := Vc.check_any c hw g (.slice va c.bl.length vc) W (hT.below hW) (hv.moved (fun k _ h => ⟨h, hW.block k (hg k h)⟩) hW.size) hz
  rw [hc, ← hn] at h5
  exact h5.mono fun e w' h => ⟨by rw [h.1]; simp [errV_0], h.2⟩
 have hwk : ∀ W, Below w.heap.size w W → Calls Tryz.prog 27 #[.slice va n vc] W fun e w' => ∃ ve vf vt vl, e = .returned (.agg #[.slice va n vc, ve, vf, vt, vl]) ∧ Ro w' W.heap.size ve (nz (walk (nxs c.bl)).ent) ∧ Ro w' W.heap.size vf (walk (nxs c.bl)).fr ∧ Ro w' W.heap.size vt (walk (nxs c.bl)).tn ∧ Ro w' W.heap.size vl (nz (walk (nxs c.bl)).lf) ∧ Below W.heap.size W w' := fun W hW => by
  have h5 := walkOf_any c.bl hk.nok hk.one g (.slice va c.bl.length vc) W (hv.moved (fun k _ h => ⟨h, hW.block k (hg k h)⟩) hW.size) (fun k h => Nat.lt_of_lt_of_le (hg k h) hW.size)
  rw [← hn] at h5; exact h5
 have hah : ∀ W, Below w.heap.size w W → Calls Tryz.prog 29 #[.slice va n vc] W fun e w' => ∃ u, e = .returned u ∧ Rws w' (fun k => W.heap.size ≤ k ∧ k < w'.heap.size) (ahead (nxs c.bl)) u ∧ Below W.heap.size W w' := fun W hW => by
  have h5 := aheadOf_any c.bl hk.nok g (.slice va c.bl.length vc) W (hv.moved (fun k _ h => ⟨h, hW.block k (hg k h)⟩) hW.size) (fun k h => Nat.lt_of_lt_of_le (hg k h) hW.size)
  rw [← hn] at h5; exact h5
 have c3 : (w.alloc (.cells (cob c.pa c.re c.rs (.slice va n vc)) 29)).cell? ⟨w.heap.size, 3, none⟩ = some (.slice va n vc) := (cob_cells hnew).2.2.2.1
 have hbls : ∀ W, Below w.heap.size w W → Bls W (fun k => k < W.heap.size) c.bl (.slice va n vc) := fun W hW => by
  have h5 := hv.moved (g' := fun k => k < W.heap.size) (fun k _ h => ⟨Nat.lt_of_lt_of_le (hg k h) hW.size, hW.block k (hg k h)⟩) hW.size
  rw [← hn] at h5; exact h5
 have HBls := hide hbls
 clear hbls
 have hlen := hk.nok.len
 have hone := hk.one
 have HCk := hide (hck _ hb1); have HWk := hide hwk; have HAh := hide hah; have HNew := hide hnew; have HB1 := hide hb1; have HN := hide hn; have HK := hide hk; have HLen := hide hlen; have HOne := hide hone
 rw [← hn]
 have hni : (n : Int) ≤ 1048576 := by omega
 clear hck hwk hah hk hz hv hc hw hT hg hn hnew hb1 hlen hone
 go_enter Tryz.func24, Tryz.ntmps24
 go_upto_region 4 with (go_at_call 26; refine (unhide HCk).mono ?_; rintro e w2 ⟨rfl, hb2⟩; have d3 := (hb2.cell (p := ⟨w.heap.size, 3, none⟩) (by simp)).trans c3; have hbw2 := (unhide HB1).trans (hb2.mono (unhide HB1).size); have HBw2 := hide hbw2; have hlt2 : w.heap.size < w2.heap.size := Nat.lt_of_lt_of_le (by simp) hb2.size; clear hb2 hbw2)
 clear c3 HCk HB1 HNew
 have hw4 : ∀ W, Below w2.heap.size w2 W → Calls Tryz.prog 27 #[.slice va n vc] W fun e w' => ∃ ea ec fa fc ta tc la lc, e = .returned (.agg #[.slice va n vc, .slice ea (nz (walk (nxs c.bl)).ent).length ec, .slice fa (walk (nxs c.bl)).fr.length fc, .slice ta (walk (nxs c.bl)).tn.length tc, .slice la (nz (walk (nxs c.bl)).lf).length lc]) ∧ Wr w' w2.heap.size (walk (nxs c.bl)) (.slice ea (nz (walk (nxs c.bl)).ent).length ec) (.slice fa (walk (nxs c.bl)).fr.length fc) (.slice ta (walk (nxs c.bl)).tn.length tc) ∧ Below W.heap.size W w' := fun W hW =>
  (unhide HWk W ((unhide HBw2).trans (hW.mono (Nat.le_of_lt hlt2)))).mono fun e w' h => by
   obtain ⟨ve, vf, vt, vl, e1, k1, k2, k3, k4, hb⟩ := h
   obtain ⟨ea, ec, e2, -⟩ := k1.sl
   obtain ⟨fa, fc, e3, -⟩ := k2.sl
   obtain ⟨ta, tc, e4, -⟩ := k3.sl
   obtain ⟨la, lc, e5, -⟩ := k4.sl
   subst e2 e3 e4 e5
   exact ⟨ea, ec, fa, fc, ta, tc, la, lc, e1, ⟨k1.base hW.size, k2.base hW.size, k3.base hW.size⟩, hb⟩
 have ha4 : ∀ W, Below w2.heap.size w2 W → Calls Tryz.prog 29 #[.slice va n vc] W fun e w' => ∃ u, e = .returned u ∧ Rws w' (fun k => W.heap.size ≤ k ∧ k < w'.heap.size) (ahead (nxs c.bl)) u ∧ Below W.heap.size W w' := fun W hW =>
  unhide HAh W ((unhide HBw2).trans (hW.mono (Nat.le_of_lt hlt2)))
 have HW4 := hide hw4; have HA4 := hide ha4
 clear hw4 ha4 HWk HAh
 go_cut [5, 6] from 15 to 20 (fun p u wx => ∃ (P : Nat) (ea : Option Addr) (ec : Nat) (fa : Option Addr) (fc : Nat) (ta : Option Addr) (tc : Nat) (la : Option Addr) (lc : Nat), p = .pointer (some ⟨P, 0, none⟩) ∧ w2.heap.size ≤ P ∧ wx.heap[P]? = some (.cells (wbc (.slice va n vc) (.slice ea (nz (walk (nxs c.bl)).ent).length ec) (.slice fa (walk (nxs c.bl)).fr.length fc) (.slice ta (walk (nxs c.bl)).tn.length tc) (.slice la (nz (walk (nxs c.bl)).lf).length lc)) 65 (0, 0)) ∧ Wr wx w2.heap.size (walk (nxs c.bl)) (.slice ea (nz (walk (nxs c.bl)).ent).length ec) (.slice fa (walk (nxs c.bl)).fr.length fc) (.slice ta (walk (nxs c.bl)).tn.length tc) ∧ Rws wx (fun k => k < wx.heap.size) (ahead (nxs c.bl)) u ∧ Below w2.heap.size w2 wx)
 case first =>
  go_region_law
   (first
    | (go_simp; go_at_call 27; refine (unhide HW4 _ (by repeat' first | exact Below.refl _ _ | exact unhide HB6 | refine bdrew ?_ | refine Below.alloc ?_ (by first | omega | (simp; omega) | simp) _)).mono ?_; rintro e w5 ⟨ea, ec, fa, fc, ta, tc, la, lc, rfl, k5, hb5⟩; obtain ⟨bc1, bc2⟩ := bcell hb5; have sz5 := hb5.size; (try simp at sz5); (try have sz5a : w2.heap.size < w5.heap.size := by omega); (try have sz5b : w6.heap.size < w5.heap.size := by omega); have K5 := hide k5; have HBn5 := hide hb5; have HB5 : Hid (Below w2.heap.size w2 w5) := hide (Below.trans (by repeat' first | exact Below.refl _ _ | exact unhide HB6 | refine bdrew ?_ | refine Below.alloc ?_ (by first | omega | (simp; omega) | simp) _) (hb5.mono (by first | omega | (simp; omega) | simp))); have lt5 : w.heap.size < w5.heap.size := Nat.lt_of_lt_of_le hlt2 (unhide HB5).size; have e5 := ((unhide HB5).cell (p := ⟨w.heap.size, 3, none⟩) hlt2).trans d3; clear k5 hb5; go_wp2_with fail)
    | (go_simp; go_at_call 29; refine (unhide HA4 _ (by repeat' first | exact Below.refl _ _ | exact unhide HB5 | refine bdrew ?_ | refine Below.alloc ?_ (by first | omega | (simp; omega) | simp) _)).mono ?_; rintro e w6 ⟨u6, rfl, k6, hb6⟩; obtain ⟨bd1, bd2⟩ := bcell hb6; have sz6 := hb6.size; (try simp at sz6); (try have sz6a : w2.heap.size < w6.heap.size := by omega); (try have sz6b : w5.heap.size < w6.heap.size := by omega); have K6 := hide k6; have HBn6 := hide hb6; have HB6 : Hid (Below w2.heap.size w2 w6) := hide (Below.trans (by repeat' first | exact Below.refl _ _ | exact unhide HB5 | refine bdrew ?_ | refine Below.alloc ?_ (by first | omega | (simp; omega) | simp) _) (hb6.mono (by first | omega | (simp; omega) | simp))); have lt6 : w.heap.size < w6.heap.size := Nat.lt_of_lt_of_le hlt2 (unhide HB6).size; have e6 := ((unhide HB6).cell (p := ⟨w.heap.size, 3, none⟩) hlt2).trans d3; clear k6 hb6; go_wp2_with fail)
    | fail)
  all_goals
   go_wp2_with fail
   go_meet
   have hk5 := unhide K5
   have hk6 := unhide K6
   have hb5 := unhide HB5
   have hb6 := unhide HB6
   have n6 := unhide HBn6
   have n5 := unhide HBn5
   clear K5 K6 HB5 HB6 HBn5 HBn6 HW4 HA4 HBw2 HN HK HLen HOne bc1 bc2 bd1 bd2 e5 e6 d3
   first
    | (refine ⟨w6.heap.size, ea, ec, fa, fc, ta, tc, la, lc, rfl, ?_⟩
       have h6 := hk5.below n6
       exact shapeA hb6 h6 hk6)
    | (refine ⟨w5.heap.size, ea, ec, fa, fc, ta, tc, la, lc, rfl, ?_⟩
       have h6 := (hk5.below (Vc.one_alloc w5 (.cells #[.slice none 0 0, .slice none 0 0, .slice none 0 0, .slice none 0 0, .slice none 0 0] 65))).below n6
       have hr6 := (n6.block w5.heap.size (by simp)).trans (heap_alloc_new w5 (.cells #[.slice none 0 0, .slice none 0 0, .slice none 0 0, .slice none 0 0, .slice none 0 0] 65))
       exact shapeB hb5.size (by simp) hr6 hb6 h6 hk6)
    | (refine ⟨w2.heap.size, ea, ec, fa, fc, ta, tc, la, lc, rfl, ?_⟩
       have h6 := hk5.below n6
       have hr6 := (n6.block w2.heap.size sz5a).trans ((n5.block w2.heap.size (by simp)).trans (heap_alloc_new w2 (.cells #[.slice none 0 0, .slice none 0 0, .slice none 0 0, .slice none 0 0, .slice none 0 0] 65)))
       exact shapeB (Nat.le_refl _) sz5a hr6 hb6 h6 hk6)
 case rest =>
  obtain ⟨P, ea, ec, fa, fc, ta, tc, la, lc, rfl, hP, hrow, hWr, hRws, hb⟩ := hcut
  obtain ⟨hwi, hw1⟩ := walk_inv (unhide HK)
  have hA := ahead_ok (nxs c.bl) (unhide HK).nok.inn
  rw [nxs_len] at hA
  have hup := tree_up hwi hA
  rw [hwi.fl] at hup
  have hbw := (unhide HBw2).trans (hb.mono (Nat.le_of_lt hlt2))
  have hPlt : P < wc.heap.size := (Array.getElem?_eq_some_iff.1 hrow).1
  obtain ⟨x0, x1, x2, x3, x4, -, -⟩ := wb_cells hrow
  have htr := tree_call c.bl (unhide HK) (.slice va n vc) (.slice ea (nz (walk (nxs c.bl)).ent).length ec) (.slice fa (walk (nxs c.bl)).fr.length fc) (.slice ta (walk (nxs c.bl)).tn.length tc) (.slice la (nz (walk (nxs c.bl)).lf).length lc) u6 wc (hWr.re.up (Below.refl _ _)) (hWr.rf.up (Below.refl _ _)) (hWr.rt.up (Below.refl _ _)) hRws ⟨_, _, _, rfl⟩ ⟨_, _, _, rfl⟩
  have hwsI := wbs_inv (nx := nxs c.bl) (unhide HK).nok.inn (s := walk (nxs c.bl)) (by rw [nxs_len]; exact hwi) (tree (walk (nxs c.bl)) (ahead (nxs c.bl))) (nxs_rows (unhide HK).nok) _ (Nat.le_refl _)
  have hwb : ∀ W v, Below wc.heap.size wc W → NumsL W (fun k => k < W.heap.size) (tree (walk (nxs c.bl)) (ahead (nxs c.bl))) v → Calls Tryz.prog 48 #[.pointer (some ⟨P, 0, none⟩), v, .func (.func 49) #[] #[]] W fun e w' => ∃ a m, e = .returned (.slice a n m) ∧ Rws w' (fun k => k < w'.heap.size) (waysBack (nxs c.bl) (walk (nxs c.bl)) (tree (walk (nxs c.bl)) (ahead (nxs c.bl)))) (.slice a n m) ∧ Below wc.heap.size wc w' := fun W v hW hv =>
   (waysBack_any c.bl (unhide HK).nok (walk (nxs c.bl)) hwi (tree (walk (nxs c.bl)) (ahead (nxs c.bl))) hup P _ _ _ _ _ v W ((hW.block P hPlt).trans hrow) (unhide HBls W (hbw.trans (hW.mono hbw.size))) (hWr.re.up hW) (hWr.rt.up hW) hv).mono fun e w' h => by
    obtain ⟨u, e1, e2, e3⟩ := h
    have e4 := e2.wide (Nat.le_refl _) (fun k _ _ => rfl)
    obtain ⟨a, m, rfl, -, -, -⟩ := id e4
    rw [show (waysBack (nxs c.bl) (walk (nxs c.bl)) (tree (walk (nxs c.bl)) (ahead (nxs c.bl)))).length = n by rw [unhide HN, ← nxs_len c.bl]; exact hwsI.len] at e1 e4
    exact ⟨a, m, e1, e4, hW.trans (e3.mono hW.size)⟩
  have HEl := hide (show (walk (nxs c.bl)).ent.length ≤ 1048576 by have := hwi.ec; have := unhide HLen; omega)
  have HTr := hide htr; have HWb := hide hwb; have HRws := hide hRws; have HBw := hide hbw; have HWsI := hide hwsI; have HA := hide hA; have HBc := hide hb
  clear htr hwb hRws hbw hwsI hA hup hwi hw1 hWr hb hrow hP HW4 HA4 HBw2 d3 hlt2
  go_upto_region 7 with (first
   | (go_at_call 31; refine (unhide HTr).mono ?_; rintro e w7 ⟨v7, rfl, ht7, hb7⟩; have HT7 := hide (ht7.up (Below.refl _ _)); have HB7 := hide hb7; clear ht7 hb7)
   | (go_at_call 48; refine (unhide HWb _ _ (unhide HB7) (unhide HT7)).mono ?_; rintro e w8 ⟨a8, m8, rfl, hw8, hb8⟩; have HW8 := hide hw8; have HB8 := hide hb8; clear hw8 hb8))
  have hwi5 := unhide HWsI
  rw [nxs_len, ← unhide HN] at hwi5
  have hlp := loops_eq (nxs c.bl)
  rw [nxs_len, ← unhide HN] at hlp
  obtain ⟨ws, hws⟩ : ∃ ws, ws = waysBack (nxs c.bl) (walk (nxs c.bl)) (tree (walk (nxs c.bl)) (ahead (nxs c.bl))) := ⟨_, rfl⟩
  have hwi6 : WbI n ((walk (nxs c.bl)).ent.length * 1048576) ws := by rw [hws]; exact hwi5
  obtain ⟨ah, hah⟩ : ∃ ah, ah = ahead (nxs c.bl) := ⟨_, rfl⟩
  have hal : ∀ b, (ah.getD b []).length ≤ 2097152 := by rw [hah]; exact ahead_len (unhide HK).nok.inn (by rw [nxs_len]; exact unhide HLen)
  have hA := unhide HA
  rw [← unhide HN, ← hah] at hA
  have hw8 := unhide HW8
  rw [← hws] at hw8 hlp
  rw [← hah] at hlp
  have hrw := unhide HRws
  rw [← hah] at hrw
  have hel := unhide HEl
  have hb8 := unhide HB8
  have har : ∀ k W v, k < n → Below w8.heap.size w8 W → NumsL W (fun j => j < W.heap.size) (nz (ws.getD k [])) v → Calls Tryz.prog 50 #[.int .i64 (k : Int), v, u6] W fun e w' => ∃ a m, e = .returned (.slice a (nz (around ah k (ws.getD k []))).length m) ∧ NumsL w' (fun j => W.heap.size ≤ j ∧ j < w'.heap.size) (nz (around ah k (ws.getD k []))) (.slice a (nz (around ah k (ws.getD k []))).length m) ∧ Below W.heap.size W w' := fun k W v hk hW hv => by
   have hm : ws.getD k [] ∈ ws := getD_mem ws k [] (by rw [hwi6.len]; exact hk)
   have hr := hwi6.row _ hm
   have hbW := hb8.trans (hW.mono hb8.size)
   refine (around_any (by omega) ah hA hal k hk (ws.getD k []) hr.2 (by have := hr.1; omega) v u6 W hv (hrw.wide hbW.size (fun j hj _ => hbW.block j hj))).mono ?_
   rintro e w' ⟨u, rfl, h1, h2⟩
   obtain ⟨a, m, rfl, -⟩ := h1.sl
   exact ⟨a, m, rfl, h1.nums, h2⟩
  obtain ⟨ib, hib, hb0, hb1, hb2⟩ := info_parts infoLp
  have hbe8 := (unhide HBw).trans (hb8.mono (unhide HBw).size)
  have HAr := hide har; have HW := hide hw8; have HLp := hide hlp; have HBe8 := hide hbe8; have HWl := hide hwi6.len
  clear har hw8 hlp hbe8 hwi5 hwi6 hws hah hal hA hrw hel hb8 HWsI HA HW8 HRws HEl HTr HWb HT7 HB7 HBls HK HLen HOne HBc HB8 x0 x1 x2 x3 x4 hPlt
  go_loopw [7, 26] (fun v i wr => ∃ (k : Nat) (a : Option Addr) (m : Nat), k ≤ n ∧ i = .int .i64 (k : Int) ∧ v = .slice a (lps ah ws k).length m ∧ OwnL LpC 2 61 wr w8.heap.size (fun j => w8.heap.size ≤ j) (.slice a (lps ah ws k).length m) (lps ah ws k) ∧ Below w8.heap.size w8 wr) (fun _ i _ => n - (intOf i).toNat)
  case atStart => exact ⟨0, none, 0, Nat.zero_le _, rfl, rfl, Vc.OwnL_nil _ _ _ _ _ _, Below.refl _ _⟩
  case round =>
   obtain ⟨k, a, m, hk, rfl, rfl, hO, hb⟩ := hrel
   have hln := lps_len ah ws k
   obtain ⟨j, hj⟩ : ∃ j, j = (lps ah ws k).length := ⟨_, rfl⟩
   by_cases hlt : k < n
   ·obtain ⟨B, o, v, hea, -, -, hc, hnv⟩ := ((unhide HW).wide hb.size (fun q hq _ => hb.block q hq)).at_ (i := k) (by rw [unhide HWl]; exact hlt)
    subst hea
    obtain ⟨ra, rc, rfl, -, -, -⟩ := id hnv
    have hst := lps_succ ah ws k
    obtain ⟨L, hL⟩ : ∃ L, L = (nz (ws.getD k [])).length := ⟨_, rfl⟩
    have hkn : (k : Int) < (n : Int) := by omega
    have hLs : L = (ws.getD k []).length := by rw [hL, nz_len]
    rw [← hL] at hc
    by_cases h0 : L = 0
    ·subst h0
     rw [if_pos (List.eq_nil_of_length_eq_zero hLs.symm)] at hst
     rw [← hst] at hO
     rw [← hst]
     have HO := hide hO; have HB := hide hb; have HLt := hide hlt
     clear hO hb hlt hst hnv hLs hL hk hln hj
     go_wp2_with fail
     go_roundw
     case rel => exact ⟨k + 1, a, m, by have := unhide HLt; omega, by go_num, rfl, unhide HO, unhide HB⟩
     case measure => have := unhide HLt; simp [intOf]; omega
    ·rw [if_neg (by intro e; rw [e] at hLs; exact h0 hLs)] at hst
     rw [← hL] at hnv
     have hcall := unhide HAr k wr (.slice ra L rc) hlt hb hnv
     have hol := hO.lt
     obtain ⟨r, hr⟩ : ∃ r, r = around ah k (ws.getD k []) := ⟨_, rfl⟩
     obtain ⟨R, hR⟩ : ∃ R, R = (nz r).length := ⟨_, rfl⟩
     rw [← hr] at hst hcall
     rw [← hR] at hcall
     have hlen2 : (lps ah ws (k + 1)).length = j + 1 := by rw [hst, List.length_append, ← hj]; rfl
     rw [← hj] at hO hol ⊢
     obtain ⟨xs, hx, hits⟩ := hO
     rw [← hj] at hx
     have hbs := hb.size
     have h0i : (0 : Int) < (L : Int) := by omega
     have hjn : j ≤ 1048576 := by omega
     have HCa := hide hcall; have HX := hide hx; have HIts := hide hits; have HSt := hide hst; have HB := hide hb; have HLt := hide hlt; have HOl := hide hol; have HLen2 := hide hlen2; have HJ := hide hj
     clear hcall hx hits hst hb hlt hol hlen2 hj hnv hLs hL hln hk hr hR
     go_wp2_with (first
      | (go_at_call 50; refine (unhide HCa).mono ?_; rintro e w9 ⟨ba, bc, rfl, hn9, hb9⟩; have sz9 : w8.heap.size ≤ w9.heap.size := Nat.le_trans hbs hb9.size; have HX9 := hide (Vc.ownsRow_below (unhide HX) hb9); have HN9 := hide hn9; have HB9 := hide hb9; clear hn9 hb9)
      | (at_builtin; refine wpList_append_lies (w9.alloc (.cells #[.int .i64 (k : Int), .slice ba R bc] 61)) rfl (.tmp 34) (.tmp 41) 57 rfl w8.heap.size 61 ib (.agg #[.int .i64 0, .slice none 0 0]) 2 32 Tryz.underlying57 hib hb0 hb1 hb2 rfl (by decide) (.slice a j m) j xs rfl (Vc.ownsRow_below (unhide HX9) (Vc.one_alloc w9 _)) ⟨w9.heap.size, 0, none⟩ 1 1 (lpC k (.slice ba R bc)) rfl rfl (Vc.new_row w9 _ _) (lpC_one _ _ ⟨_, _, _, rfl⟩) (by omega) (by unfold maxLen; omega) (by omega) (by simp; omega) (w9.heap.size + 1) (by simp) ?_))
     intro gg cpn w5 hown5 hgrow hat5 hlt5
     have hal9 := Vc.one_alloc w9 (.cells #[.int .i64 (k : Int), .slice ba R bc] 61)
     have hb9 := unhide HB9
     have hbb := hb9.trans (hal9.mono hb9.size)
     have hit2 : Its (LpC (w9.alloc (.cells #[.int .i64 (k : Int), .slice ba R bc] 61)) (own (fun q => w8.heap.size ≤ q) (.slice a j m))) 2 (lps ah ws k) xs := (unhide HIts).mono fun x cs h => h.moved (Vc.Mv.below hbb fun _ _ h => h)
     have hxx : LpC (w9.alloc (.cells #[.int .i64 (k : Int), .slice ba R bc] 61)) (own (fun q => w8.heap.size ≤ q) (.slice a j m)) (k, r) (lpC k (.slice ba R bc)) := ⟨_, rfl, (unhide HN9).moved fun q hq h => ⟨⟨fun e => by have := (unhide HOl q e).2; omega, Nat.le_trans hbs h.1⟩, hal9.block q hq⟩⟩
     have hsn := Vc.OwnL.snoc (It := LpC) (c := 2) (T := 61) (w := w9.alloc (.cells #[.int .i64 (k : Int), .slice ba R bc] 61)) (w1 := w5) (B := w8.heap.size) (G := fun q => w8.heap.size ≤ q) (v := .slice a j m) (l := lps ah ws k) (x := (k, r)) (xs := xs) (cs := lpC k (.slice ba R bc)) (g := gg) (cap := cpn) (fun x cs h hm => h.moved hm) hit2 hxx rfl (by rw [← unhide HJ]; exact hown5) hgrow (hat5.imp id (fun e => by rw [e]; simp))
     rw [← unhide HSt, ← unhide HJ, ← unhide HLen2] at hsn
     have hbe := ((unhide HB).trans (hbb.mono hbs)).grown hgrow (by simp; omega) (fun q e => (unhide HOl q e).1)
     have HS := hide hsn; have HBe := hide hbe
     clear hsn hbe hit2 hxx hal9 hb9 hbb hown5 hgrow hat5 hlt5 hc
     go_wp2_with fail
     go_roundw
     case rel => exact ⟨k + 1, some ⟨gg, 0, none⟩, cpn, by have := unhide HLt; omega, by go_num, by rw [unhide HLen2], unhide HS, unhide HBe⟩
     case measure => have := unhide HLt; simp [intOf]; omega
   ·obtain rfl : k = n := by omega
    rw [← unhide HLp] at hO ⊢
    have hfin : OwnL LpC 2 61 wr w.heap.size (fun q => w.heap.size ≤ q) (.slice a (loops (nxs c.bl)).length m) (loops (nxs c.bl)) := by
     obtain ⟨xs, h1, h2⟩ := hO
     exact ⟨xs, own_base h1 (unhide HBe8).size, h2.mono fun x cs h => h.moved fun q _ hq => ⟨⟨hq.1, Nat.le_trans (unhide HBe8).size hq.2⟩, rfl⟩⟩
    have HF := hide hfin; have HB := hide ((unhide HBe8).trans (hb.mono (unhide HBe8).size))
    clear hfin hO hb hlt hk hln hj
    go_wp2_with fail
    go_ret2
    exact ⟨_, rfl, unhide HF, unhide HB⟩
end Fw
end Go.Proofs.YtglehoekehiaiaaGreatDoor
