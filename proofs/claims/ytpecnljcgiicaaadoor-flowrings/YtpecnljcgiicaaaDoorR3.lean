/- flow: Trim, whole. -/
import Derived.Test.YtpecnljcgiicaaaDoorR2
import Derived.Test.YtpecnljcgiicaaaDoorVcG

/- flow: Order. -/
namespace Go.Proofs.YtpecnljcgiicaaaDoor
open Go.RowKit
namespace Fw
set_option linter.unusedVariables false
set_option linter.unusedSimpArgs false
open Vc (NumsL Nums Lies LL Bls BlC InC Bl Co WfC chk siz Fms infoN infoBl own_base RowT cob cob_cells)

theorem siz_mem {l : List Bl} {b : Bl} (h : b ∈ l) : b.ins.length ≤ siz l := by
  induction l with
  | nil => cases h
  | cons x r ih =>
    have : siz (x :: r) = x.ins.length + siz r := by simp [siz]
    rcases List.mem_cons.1 h with rfl | h2
    · omega
    · have := ih h2; omega
theorem cok_of (c : Co) (h : chk c = true) : Cok c.bl := by
  unfold chk at h
  simp only [Bool.and_eq_true, decide_eq_true_eq, List.all_eq_true] at h
  obtain ⟨⟨⟨⟨-, -⟩, -⟩, ⟨⟨h1, h2⟩, h3⟩⟩, h4⟩ := h
  have hb : ∀ b ∈ c.bl, b.ins.length ≠ 0 ∧ Vc.lastL b.ins b.next.length = true ∧ Vc.allT b.next c.bl.length = true := fun b hm => by
    have := h4 b hm
    unfold Vc.blkM at this
    simp only [Bool.and_eq_true, Bool.not_eq_true', beq_eq_false_iff_ne] at this
    exact ⟨this.1.1, this.2.2.1, this.2.2.2⟩
  have hl : ∀ b ∈ c.bl, Vc.leads (endI b).op b.next.length = true := fun b hm => by
    obtain ⟨k1, k2, -⟩ := hb b hm
    unfold Vc.lastL at k2
    rw [get?_getD b.ins (b.ins.length - 1) dI (by omega)] at k2
    exact k2
  refine ⟨⟨by omega, fun b hm => ?_, fun b hm z hz => ?_⟩, h1, fun b hm => ⟨Nat.pos_of_ne_zero (hb b hm).1, by have := siz_mem hm; omega⟩, fun b hm ho => ?_, fun b hm ho => ?_⟩
  · have := hl b hm
    unfold Vc.leads at this
    split at this
    · simp at this; omega
    · split at this
      · simp at this; omega
      · split at this
        · simp at this; omega
        · simp at this; simp [this]
  · have := (hb b hm).2.2
    unfold Vc.allT at this
    rw [List.all_eq_true] at this
    have := this z hz
    unfold Vc.okN at this
    simpa using this
  · have := hl b hm
    rw [ho] at this
    unfold Vc.leads at this
    simp at this; omega
  · have := hl b hm
    rw [ho] at this
    unfold Vc.leads at this
    simp at this; omega

theorem rev_own {w : World} {N g n cap : Nat} {l : List Int} (h : Ro w N (.slice (some ⟨g, 0, none⟩) n cap) l) (hl : l.length ≤ 1048576) :
    Calls Tryd.prog 12 #[.slice (some ⟨g, 0, none⟩) n cap] w fun e w' => e = .returned (.tuple #[]) ∧ Ro w' N (.slice (some ⟨g, 0, none⟩) n cap) l.reverse ∧ w.grownBy w' (some g) := by
  obtain ⟨cur, hc, rfl, h4, h5, h6, h7, hN⟩ := h.cur
  refine (Tryd.slices_Reverse_int g 0 cap l w (holds_of_blockI hc h7) (by omega)).mono ?_
  rintro e w' ⟨rfl, k, rfl⟩
  have hr := ownsRow_sortedI (base := N) (n := k) (os := #[]) (ss := l) (ts := l.reverse) (by simp) hN hc h4 h5 h6
  have hg := grownBy_sortedI (w := w) (g := g) (n := k) (os := #[]) l.reverse.toArray
  rw [grow_0] at hr hg
  refine ⟨rfl, ?_, hg⟩
  unfold Ro; rw [List.length_reverse]; exact hr
theorem walk_lf {l : List Bl} (h : 1 ≤ l.length) : 0 < (walk (nxs l)).lf.length := by
  obtain ⟨n, hn⟩ : ∃ n, (nxs l).length = n + 1 := ⟨l.length - 1, by rw [nxs_len]; omega⟩
  unfold walk; rw [hn, go_succ]; simp

set_option maxRecDepth 100000 in
set_option maxHeartbeats 3200000 in
theorem order_yes (c : Co) (hw : WfC c) (hc : chk c = true) (g : Nat → Prop) (v : Value) (w : World) (hT : Fms w) (hv : Bls w g c.bl v) (hg : ∀ k, g k → k < w.heap.size) :
    Calls Tryd.prog 4 #[.agg #[.int .i64 c.pa, .int .i64 c.re, .bool c.rs, v]] w fun e w' => ∃ u, e = .returned (.tuple #[u, .nilIface]) ∧ Ro w' w.heap.size u (nz (walk (nxs c.bl)).lf).reverse ∧ Below w.heap.size w w' := by
  have hk := cok_of c hc
  have hz : siz c.bl ≤ 1099511627776 := by
    unfold chk at hc
    simp only [Bool.and_eq_true, decide_eq_true_eq] at hc
    have := hc.1.2.2
    omega
  obtain ⟨va, vc, rfl, -, -, -⟩ := id hv
  obtain ⟨n, hn⟩ : ∃ n, n = c.bl.length := ⟨_, rfl⟩
  have hb1 := Vc.one_alloc w (.cells (cob c.pa c.re c.rs (.slice va n vc)) 25)
  have hnew := heap_alloc_new w (.cells (cob c.pa c.re c.rs (.slice va n vc)) 25)
  have hck : ∀ W, Below w.heap.size w W → Calls Tryd.prog 10 #[.agg #[.int .i64 c.pa, .int .i64 c.re, .bool c.rs, .slice va n vc]] W fun e w' => e = .returned .nilIface ∧ Below W.heap.size W w' := fun W hW => by
    have h5 := Vc.check_any c hw g (.slice va c.bl.length vc) W (hT.below hW) (hv.moved (fun k _ h => ⟨h, hW.block k (hg k h)⟩) hW.size) hz
    rw [hc, ← hn] at h5
    exact h5.mono fun e w' h => ⟨by rw [h.1]; simp [errV_0], h.2⟩
  have hwk : ∀ W, Below w.heap.size w W → Calls Tryd.prog 11 #[.slice va n vc] W fun e w' => ∃ ve vf vt vl, e = .returned (.agg #[.slice va n vc, ve, vf, vt, vl]) ∧ Ro w' W.heap.size ve (nz (walk (nxs c.bl)).ent) ∧ Ro w' W.heap.size vf (walk (nxs c.bl)).fr ∧ Ro w' W.heap.size vt (walk (nxs c.bl)).tn ∧ Ro w' W.heap.size vl (nz (walk (nxs c.bl)).lf) ∧ Below W.heap.size W w' := fun W hW => by
    have h5 := walkOf_any c.bl hk.nok hk.one g (.slice va c.bl.length vc) W (hv.moved (fun k _ h => ⟨h, hW.block k (hg k h)⟩) hW.size) (fun k h => Nat.lt_of_lt_of_le (hg k h) hW.size)
    rw [← hn] at h5; exact h5
  have hlf := walk_lf hk.one
  have hwi := (walk_inv hk).1
  have hln : (walk (nxs c.bl)).lf.length ≤ 1048576 := by have := hwi.ll; have := hwi.ec; have := hk.nok.len; omega
  have c3 : (w.alloc (.cells (cob c.pa c.re c.rs (.slice va n vc)) 25)).cell? ⟨w.heap.size, 3, none⟩ = some (.slice va n vc) := (cob_cells hnew).2.2.2.1
  have HCk := hide (hck _ hb1); have HWk := hide hwk; have HLf := hide hlf; have HLn := hide hln; have HNew := hide hnew; have HB1 := hide hb1
  rw [← hn]
  clear hck hwk hlf hwi hln hk hz hv hc hw hT hg hn hnew hb1
  go_enter Tryd.func4, Tryd.ntmps4
  go_wp2_with (first
    | (go_at_call 10; refine (unhide HCk).mono ?_; rintro e w2 ⟨rfl, hb2⟩; have d3 := (hb2.cell (p := ⟨w.heap.size, 3, none⟩) (by simp)).trans c3; have hbw2 := (unhide HB1).trans (hb2.mono (unhide HB1).size); have HBw2 := hide hbw2; clear hb2 hbw2)
    | (go_at_call 11; refine (unhide HWk _ (unhide HBw2)).mono ?_; rintro e w3 ⟨ve, vf, vt, vl, rfl, k1, k2, k3, k4, hb3⟩; obtain ⟨ea, ec, rfl, -⟩ := k1.sl; obtain ⟨fa, fc, rfl, -⟩ := k2.sl; obtain ⟨ta, tc, rfl, -⟩ := k3.sl; obtain ⟨gl, lc, rfl, hgl, hgll, -, -, -⟩ := k4.at_ (by rw [nz_len]; exact unhide HLf); have K4 := hide k4; have HB3 := hide hb3; have HGl := hide hgll; have HGb := hide hgl; clear k1 k2 k3 k4 hb3 hgll hgl)
    | (go_at_call 12; refine (rev_own ((unhide K4).below (Vc.one_alloc w3 (.cells #[.slice va n vc, .slice ea (nz (walk (nxs c.bl)).ent).length ec, .slice fa (walk (nxs c.bl)).fr.length fc, .slice ta (walk (nxs c.bl)).tn.length tc, .slice (some ⟨gl, 0, none⟩) (nz (walk (nxs c.bl)).lf).length lc] 49))) (by rw [nz_len]; exact unhide HLn)).mono ?_; rintro e w5 ⟨rfl, hr5, hg5⟩; have p4 : w5.cell? ⟨w3.heap.size, 4, none⟩ = some (.slice (some ⟨gl, 0, none⟩) (nz (walk (nxs c.bl)).lf).length lc) := (World.cell?_of_block (a := ⟨w3.heap.size, 4, none⟩) (hg5.block w3.heap.size (by simp) (by intro e; have := unhide HGl; cases e; omega))).trans (by rw [cell_of_row _ _ _ _ _ _ (heap_alloc_new w3 (.cells #[.slice va n vc, .slice ea (nz (walk (nxs c.bl)).ent).length ec, .slice fa (walk (nxs c.bl)).fr.length fc, .slice ta (walk (nxs c.bl)).tn.length tc, .slice (some ⟨gl, 0, none⟩) (nz (walk (nxs c.bl)).lf).length lc] 49))]; rfl); have HR5 := hide (hr5.base (M := w.heap.size) (unhide HBw2).size); have HB5 := hide (((unhide HBw2).trans ((unhide HB3).mono (unhide HBw2).size)).trans (((Vc.one_alloc w3 (.cells #[.slice va n vc, .slice ea (nz (walk (nxs c.bl)).ent).length ec, .slice fa (walk (nxs c.bl)).fr.length fc, .slice ta (walk (nxs c.bl)).tn.length tc, .slice (some ⟨gl, 0, none⟩) (nz (walk (nxs c.bl)).lf).length lc] 49)).mono (by have := (unhide HB3).size; have := (unhide HBw2).size; omega)).grown hg5 (by simp; have := (unhide HB3).size; have := (unhide HBw2).size; omega) (fun k e => by cases e; have := unhide HGb; have := (unhide HBw2).size; omega))); clear hr5 hg5))
  go_ret2
  exact ⟨_, rfl, unhide HR5, unhide HB5⟩
end Fw
end Go.Proofs.YtpecnljcgiicaaaDoor

/- flow: Trim. -/
namespace Go.Proofs.YtpecnljcgiicaaaDoor
open Go.RowKit
namespace Fw
set_option linter.unusedVariables false
set_option linter.unusedSimpArgs false
open Vc (NumsL Nums Lies LL Bls BlC InC Bl Co WfC WfB chk siz Fms infoN infoBl own_base RowT cob cob_cells)

theorem anw_bd (r : List Int) (n : Nat) : ∀ k i, 0 ≤ (anw r n k).getD i 0 ∧ (anw r n k).getD i 0 ≤ (k : Int) := by
  intro k
  induction k with
  | zero =>
    intro i
    by_cases h : i < n
    · rw [show anw r n 0 = List.replicate n 0 from rfl, getD_get _ _ _ (by simpa using h)]; simp
    · rw [getD_out _ _ _ (by rw [anw_len]; omega)]; simp
  | succ k ih =>
    intro i
    rw [anw_succ]
    by_cases h : (r.getD k 0).toNat < n
    · rw [getD_set _ _ _ _ (by rw [anw_len]; exact h)]
      have := ih i
      split <;> omega
    · rw [List.set_eq_of_length_le (by rw [anw_len]; omega)]
      have := ih i
      omega
theorem wf_trim {c : Co} (hw : WfC c) (hk : Cok c.bl) : WfC ⟨c.pa, c.re, c.rs, trimB c.bl⟩ := by
  obtain ⟨h1, h2, h3⟩ := rch_ok hk
  have hl := hk.nok.len
  refine ⟨hw.pa, hw.re, fun b hb => ?_, ?_⟩
  · unfold trimB at hb
    obtain ⟨x, hx, rfl⟩ := List.mem_map.1 hb
    have hx2 := hw.bl x (pick_mem hk h3 x hx)
    refine ⟨hx2.ins, fun z hz => ?_, hx2.dep, hx2.len, by simpa [tellB] using hx2.nlen⟩
    obtain ⟨y, hy, rfl⟩ := List.mem_map.1 hz
    unfold tell Vc.i64
    have := anw_bd (rch c.bl) c.bl.length (rch c.bl).length y.toNat
    omega
  · show (trimB c.bl).length ≤ _
    unfold trimB pick
    rw [List.length_map, List.length_map]; omega

set_option maxRecDepth 100000 in
set_option maxHeartbeats 3200000 in
theorem madeT_yes (c : Co) (hw : WfC c) (hc : chk c = true) (g : Nat → Prop) (v : Value) (w : World) (hT : Fms w) (hv : Bls w g c.bl v) (hg : ∀ k, g k → k < w.heap.size) :
    Calls Tryd.prog 18 #[.agg #[.int .i64 c.pa, .int .i64 c.re, .bool c.rs, v], .func (.func 21) #[] #[]] w fun e w' => ∃ u, e = .returned (.tuple #[.agg #[.int .i64 c.pa, .int .i64 c.re, .bool c.rs, u], .nilIface]) ∧ Bls w' (fun k => w.heap.size ≤ k ∧ k < w'.heap.size) (trimB c.bl) u ∧ Below w.heap.size w w' := by
  have hk := cok_of c hc
  have hz : siz c.bl ≤ 1099511627776 := by
    unfold chk at hc
    simp only [Bool.and_eq_true, decide_eq_true_eq] at hc
    have := hc.1.2.2
    omega
  obtain ⟨va, vc, rfl, -, -, -⟩ := id hv
  obtain ⟨n, hn⟩ : ∃ n, n = c.bl.length := ⟨_, rfl⟩
  obtain ⟨X, hX⟩ : ∃ X, X = (w.alloc (.cells (cob c.pa c.re c.rs (.slice va n vc)) 25)).alloc (.cells (cob 0 0 false (.slice none 0 0)) 25) := ⟨_, rfl⟩
  have hXb : Below w.heap.size w X := by rw [hX]; exact Vc.two_allocs w _ _
  have hXz : X.heap.size = w.heap.size + 2 := by rw [hX]; simp
  have r0 : X.heap[w.heap.size]? = some (.cells (cob c.pa c.re c.rs (.slice va n vc)) 25 (0, 0)) := by rw [hX, Below.heap_alloc _ _ _ (by simp)]; exact heap_alloc_new _ _
  have r1 : X.heap[w.heap.size + 1]? = some (.cells (cob 0 0 false (.slice none 0 0)) 25 (0, 0)) := by
    have := heap_alloc_new (w.alloc (.cells (cob c.pa c.re c.rs (.slice va n vc)) 25)) (.cells (cob 0 0 false (.slice none 0 0)) 25)
    rw [show (w.alloc (.cells (cob c.pa c.re c.rs (.slice va n vc)) 25)).heap.size = w.heap.size + 1 by simp, ← hX] at this; exact this
  have hck : Calls Tryd.prog 10 #[.agg #[.int .i64 c.pa, .int .i64 c.re, .bool c.rs, .slice va n vc]] X fun e w' => e = .returned .nilIface ∧ Below X.heap.size X w' := by
    have h5 := Vc.check_any c hw g (.slice va c.bl.length vc) X (hT.below hXb) (hv.moved (fun k _ h => ⟨h, hXb.block k (hg k h)⟩) hXb.size) hz
    rw [hc, ← hn] at h5
    exact h5.mono fun e w' h => ⟨by rw [h.1]; simp [errV_0], h.2⟩
  have hby : ∀ W, Below X.heap.size X W → Calls Tryd.prog 21 #[.agg #[.int .i64 c.pa, .int .i64 c.re, .bool c.rs, .slice va n vc]] W fun e w' => ∃ v', e = .returned (.agg #[.int .i64 c.pa, .int .i64 c.re, .bool c.rs, v']) ∧ Bls w' (fun k => k < w'.heap.size) (trimB c.bl) v' ∧ Below W.heap.size W w' := fun W hW => by
    have hb : Below w.heap.size w W := hXb.trans (hW.mono (by omega))
    have h5 := trimmed_any c.bl hk c.pa c.re c.rs g (.slice va c.bl.length vc) W (hv.moved (fun k _ h => ⟨h, hb.block k (hg k h)⟩) hb.size) (fun k h => Nat.lt_of_lt_of_le (hg k h) hb.size)
    rw [← hn] at h5; exact h5
  have hcl : ∀ W v', Bls W (fun k => k < W.heap.size) (trimB c.bl) v' → Calls Tryd.prog 35 #[.agg #[.int .i64 c.pa, .int .i64 c.re, .bool c.rs, v']] W fun e w' => ∃ u, e = .returned (.agg #[.int .i64 c.pa, .int .i64 c.re, .bool c.rs, u]) ∧ (∀ w8, (∀ k, W.heap.size ≤ k → k < w'.heap.size → w8.heap[k]? = w'.heap[k]?) → w'.heap.size ≤ w8.heap.size → Bls w8 (fun k => W.heap.size ≤ k ∧ k < w8.heap.size) (trimB c.bl) u) ∧ (∃ a m cp, u = .slice a m cp) ∧ Below W.heap.size W w' := fun W v' h => by
    refine (Vc.clone_any ⟨c.pa, c.re, c.rs, trimB c.bl⟩ (wf_trim hw hk) _ v' W h (fun k h => h)).mono ?_
    rintro e w' ⟨u, rfl, ho, -, hb⟩
    refine ⟨u, rfl, fun w8 h8 hs => ?_, ?_, hb⟩
    · have h6 := Vc.CoO.bls (g := fun k => W.heap.size ≤ k ∧ k < w'.heap.size) ho (fun k a b => ⟨a, b⟩)
      exact h6.moved (fun k _ hg => ⟨⟨hg.1, by omega⟩, h8 k hg.1 hg.2⟩) hs
    · obtain ⟨a, cp, e, -⟩ := id ho
      exact ⟨a, _, cp, e⟩
  obtain ⟨c0, c1, c2, c3, cf, cl⟩ := cob_cells r0
  have HCk := hide hck; have HBy := hide hby; have HCl := hide hcl; have HXb := hide hXb; have HXz := hide hXz; have HR0 := hide r0; have HR1 := hide r1
  rw [← hn]
  clear hck hby hcl hk hz hv hc hw hT hg hn hXb hXz r0 r1
  go_enter Tryd.func18, Tryd.ntmps18
  go_upto_region 1 with fail
  rw [show (w.alloc (.cells #[.int .i64 c.pa, .int .i64 c.re, .bool c.rs, .slice va n vc] 25)).alloc (.cells #[.int .i64 0, .int .i64 0, .bool false, .slice none 0 0] 25) = X from hX.symm]
  clear hX
  go_wp2_with (first
    | (go_at_call 10; refine (unhide HCk).mono ?_; rintro e w2 ⟨rfl, hb2⟩; have q0 := (hb2.block w.heap.size cl).trans (unhide HR0); obtain ⟨d0, d1, d2, d3, df, dl⟩ := cob_cells q0; have HB2 := hide hb2; clear hb2 q0)
    | (go_at_call 21; refine (unhide HBy _ (unhide HB2)).mono ?_; rintro e w3 ⟨v3, rfl, hB3, hb3⟩; have HBl3 := hide hB3; have HB3 := hide hb3; clear hB3 hb3)
    | (go_at_call 35; refine (unhide HCl _ _ (unhide HBl3)).mono ?_; rintro e w4 ⟨u4, rfl, hB4, ⟨ua, um, uc, rfl⟩, hb4⟩; have HBl4 := hide hB4; have HB4 := hide hb4; have q1 := (hb4.block (w.heap.size + 1) (by have := (unhide HB3).size; have := (unhide HB2).size; have := unhide HXz; omega)).trans (((unhide HB3).block (w.heap.size + 1) (by have := (unhide HB2).size; have := unhide HXz; omega)).trans (((unhide HB2).block (w.heap.size + 1) (by have := unhide HXz; omega)).trans (unhide HR1))); obtain ⟨y0, y1, y2, y3, yf, yl⟩ := cob_cells q1; have HQ1 := hide q1; clear hB4 hb4 q1))
  have hs2 := (unhide HB2).size
  have hs3 := (unhide HB3).size
  have hs4 := (unhide HB4).size
  have hxz := unhide HXz
  have hr8 := set4c w4 (w.heap.size + 1) _ _ _ _ _ (.int .i64 c.pa) (.int .i64 c.re) (.bool c.rs) (.slice ua um uc) (unhide HQ1)
  have hbe : Below w.heap.size w w4 := (unhide HXb).trans (((unhide HB2).trans (((unhide HB3).trans ((unhide HB4).mono hs3)).mono hs2)).mono (by omega))
  have hb8 := Vc.bel4 hbe (w.heap.size + 1) (Nat.le_succ _) (.int .i64 c.pa) (.int .i64 c.re) (.bool c.rs) (.slice ua um uc)
  have hfin := unhide HBl4 ((((w4.setCell ⟨w.heap.size + 1, 0, none⟩ (.int .i64 c.pa)).setCell ⟨w.heap.size + 1, 1, none⟩ (.int .i64 c.re)).setCell ⟨w.heap.size + 1, 2, none⟩ (.bool c.rs)).setCell ⟨w.heap.size + 1, 3, none⟩ (.slice ua um uc)) (fun k h1 h2 => by
    have hk : k ≠ w.heap.size + 1 := by omega
    rw [heap_setCell_other _ _ _ _ (by exact hk), heap_setCell_other _ _ _ _ (by exact hk), heap_setCell_other _ _ _ _ (by exact hk), heap_setCell_other _ _ _ _ (by exact hk)]) (by simp)
  have hfin2 : Bls ((((w4.setCell ⟨w.heap.size + 1, 0, none⟩ (.int .i64 c.pa)).setCell ⟨w.heap.size + 1, 1, none⟩ (.int .i64 c.re)).setCell ⟨w.heap.size + 1, 2, none⟩ (.bool c.rs)).setCell ⟨w.heap.size + 1, 3, none⟩ (.slice ua um uc)) (fun k => w.heap.size ≤ k ∧ k < ((((w4.setCell ⟨w.heap.size + 1, 0, none⟩ (.int .i64 c.pa)).setCell ⟨w.heap.size + 1, 1, none⟩ (.int .i64 c.re)).setCell ⟨w.heap.size + 1, 2, none⟩ (.bool c.rs)).setCell ⟨w.heap.size + 1, 3, none⟩ (.slice ua um uc)).heap.size) (trimB c.bl) (.slice ua um uc) := hfin.moved (fun k _ h => ⟨⟨by omega, h.2⟩, rfl⟩) (Nat.le_refl _)
  generalize (((w4.setCell ⟨w.heap.size + 1, 0, none⟩ (.int .i64 c.pa)).setCell ⟨w.heap.size + 1, 1, none⟩ (.int .i64 c.re)).setCell ⟨w.heap.size + 1, 2, none⟩ (.bool c.rs)).setCell ⟨w.heap.size + 1, 3, none⟩ (.slice ua um uc) = W8 at *
  have u0 := cell_of_row W8 (w.heap.size + 1) 0 _ _ _ hr8; have u1 := cell_of_row W8 (w.heap.size + 1) 1 _ _ _ hr8; have u2 := cell_of_row W8 (w.heap.size + 1) 2 _ _ _ hr8; have u3 := cell_of_row W8 (w.heap.size + 1) 3 _ _ _ hr8
  simp only [List.getElem?_toArray, List.getElem?_cons_zero, List.getElem?_cons_succ] at u0 u1 u2 u3
  exact bodyPost_ret (v := .tuple #[.agg #[.int .i64 c.pa, .int .i64 c.re, .bool c.rs, .slice ua um uc], .nilIface]) (by simp [results, Tryd.results18, go_sem, u0, u1, u2, u3]) rfl ⟨_, rfl, hfin2, hb8⟩
end Fw
end Go.Proofs.YtpecnljcgiicaaaDoor

/- flow: Trim, whole. -/
namespace Go.Proofs.YtpecnljcgiicaaaDoor
open Go.RowKit
namespace Fw
set_option linter.unusedVariables false
set_option linter.unusedSimpArgs false
open Vc (NumsL Nums Lies LL Bls BlC InC Bl Co WfC WfB chk siz Fms infoN infoBl own_base RowT cob cob_cells)

set_option maxRecDepth 100000 in
set_option maxHeartbeats 3200000 in
theorem trim_yes (c : Co) (hw : WfC c) (hc : chk c = true) (g : Nat → Prop) (v : Value) (w : World) (hT : Fms w) (hv : Bls w g c.bl v) (hg : ∀ k, g k → k < w.heap.size) :
    Calls Tryd.prog 26 #[.agg #[.int .i64 c.pa, .int .i64 c.re, .bool c.rs, v]] w fun e w' => ∃ u, e = .returned (.tuple #[.agg #[.int .i64 c.pa, .int .i64 c.re, .bool c.rs, u], .nilIface]) ∧ Bls w' (fun k => w.heap.size ≤ k ∧ k < w'.heap.size) (trimB c.bl) u ∧ Below w.heap.size w w' := by
  obtain ⟨va, vc, rfl, -, -, -⟩ := id hv
  obtain ⟨n, hn⟩ : ∃ n, n = c.bl.length := ⟨_, rfl⟩
  obtain ⟨X, hX⟩ : ∃ X, X = (w.alloc (.cells (cob c.pa c.re c.rs (.slice va n vc)) 25)).alloc (.cells (cob 0 0 false (.slice none 0 0)) 25) := ⟨_, rfl⟩
  have hXb : Below w.heap.size w X := by rw [hX]; exact Vc.two_allocs w _ _
  have hXz : X.heap.size = w.heap.size + 2 := by rw [hX]; simp
  have r0 : X.heap[w.heap.size]? = some (.cells (cob c.pa c.re c.rs (.slice va n vc)) 25 (0, 0)) := by rw [hX, Below.heap_alloc _ _ _ (by simp)]; exact heap_alloc_new _ _
  have r1 : X.heap[w.heap.size + 1]? = some (.cells (cob 0 0 false (.slice none 0 0)) 25 (0, 0)) := by
    have := heap_alloc_new (w.alloc (.cells (cob c.pa c.re c.rs (.slice va n vc)) 25)) (.cells (cob 0 0 false (.slice none 0 0)) 25)
    rw [show (w.alloc (.cells (cob c.pa c.re c.rs (.slice va n vc)) 25)).heap.size = w.heap.size + 1 by simp, ← hX] at this; exact this
  have hby := madeT_yes c hw hc g (.slice va c.bl.length vc) X (hT.below hXb) (hv.moved (fun k _ h => ⟨h, hXb.block k (hg k h)⟩) hXb.size) (fun k h => Nat.lt_of_lt_of_le (hg k h) hXb.size)
  rw [← hn] at hby ⊢
  have hby2 : Calls Tryd.prog 18 #[.agg #[.int .i64 c.pa, .int .i64 c.re, .bool c.rs, .slice va n vc], .func (.func 21) #[] #[]] X fun e w' => ∃ a m cp, e = .returned (.tuple #[.agg #[.int .i64 c.pa, .int .i64 c.re, .bool c.rs, .slice a m cp], .nilIface]) ∧ Bls w' (fun k => X.heap.size ≤ k ∧ k < w'.heap.size) (trimB c.bl) (.slice a m cp) ∧ Below X.heap.size X w' := by
    refine hby.mono ?_
    rintro e w' ⟨u, rfl, h1, h2⟩
    obtain ⟨a, cp, e, -⟩ := id h1
    subst e
    exact ⟨_, _, _, rfl, h1, h2⟩
  obtain ⟨c0, c1, c2, c3, cf, cl⟩ := cob_cells r0
  have HBy := hide hby2; have HXb := hide hXb; have HXz := hide hXz; have HR1 := hide r1
  clear hby hby2 hv hc hw hT hg hn hXb hXz r0 r1
  go_enter Tryd.func26, Tryd.ntmps26
  go_upto_region 1 with fail
  rw [show (w.alloc (.cells #[.int .i64 c.pa, .int .i64 c.re, .bool c.rs, .slice va n vc] 25)).alloc (.cells #[.int .i64 0, .int .i64 0, .bool false, .slice none 0 0] 25) = X from hX.symm]
  clear hX
  go_wp2_with (go_at_call 18; refine (unhide HBy).mono ?_; rintro e w4 ⟨ua, um, uc, rfl, hB4, hb4⟩; have HBl4 := hide hB4; have HB4 := hide hb4; have q1 := (hb4.block (w.heap.size + 1) (by have := unhide HXz; omega)).trans (unhide HR1); obtain ⟨y0, y1, y2, y3, yf, yl⟩ := cob_cells q1; have HQ1 := hide q1; clear hB4 hb4 q1)
  have hs4 := (unhide HB4).size
  have hxz := unhide HXz
  have hr8 := set4c w4 (w.heap.size + 1) _ _ _ _ _ (.int .i64 c.pa) (.int .i64 c.re) (.bool c.rs) (.slice ua um uc) (unhide HQ1)
  have hbe : Below w.heap.size w w4 := (unhide HXb).trans ((unhide HB4).mono (by omega))
  have hb8 := Vc.bel4 hbe (w.heap.size + 1) (Nat.le_succ _) (.int .i64 c.pa) (.int .i64 c.re) (.bool c.rs) (.slice ua um uc)
  have hfin2 : Bls ((((w4.setCell ⟨w.heap.size + 1, 0, none⟩ (.int .i64 c.pa)).setCell ⟨w.heap.size + 1, 1, none⟩ (.int .i64 c.re)).setCell ⟨w.heap.size + 1, 2, none⟩ (.bool c.rs)).setCell ⟨w.heap.size + 1, 3, none⟩ (.slice ua um uc)) (fun k => w.heap.size ≤ k ∧ k < ((((w4.setCell ⟨w.heap.size + 1, 0, none⟩ (.int .i64 c.pa)).setCell ⟨w.heap.size + 1, 1, none⟩ (.int .i64 c.re)).setCell ⟨w.heap.size + 1, 2, none⟩ (.bool c.rs)).setCell ⟨w.heap.size + 1, 3, none⟩ (.slice ua um uc)).heap.size) (trimB c.bl) (.slice ua um uc) := (unhide HBl4).moved (fun k _ h => by
    have hk : k ≠ w.heap.size + 1 := by omega
    refine ⟨⟨by omega, by simpa using h.2⟩, ?_⟩
    rw [heap_setCell_other _ _ _ _ (by exact hk), heap_setCell_other _ _ _ _ (by exact hk), heap_setCell_other _ _ _ _ (by exact hk), heap_setCell_other _ _ _ _ (by exact hk)]) (by simp)
  generalize (((w4.setCell ⟨w.heap.size + 1, 0, none⟩ (.int .i64 c.pa)).setCell ⟨w.heap.size + 1, 1, none⟩ (.int .i64 c.re)).setCell ⟨w.heap.size + 1, 2, none⟩ (.bool c.rs)).setCell ⟨w.heap.size + 1, 3, none⟩ (.slice ua um uc) = W8 at *
  have u0 := cell_of_row W8 (w.heap.size + 1) 0 _ _ _ hr8; have u1 := cell_of_row W8 (w.heap.size + 1) 1 _ _ _ hr8; have u2 := cell_of_row W8 (w.heap.size + 1) 2 _ _ _ hr8; have u3 := cell_of_row W8 (w.heap.size + 1) 3 _ _ _ hr8
  simp only [List.getElem?_toArray, List.getElem?_cons_zero, List.getElem?_cons_succ] at u0 u1 u2 u3
  exact bodyPost_ret (v := .tuple #[.agg #[.int .i64 c.pa, .int .i64 c.re, .bool c.rs, .slice ua um uc], .nilIface]) (by simp [results, Tryd.results26, go_sem, u0, u1, u2, u3]) rfl ⟨_, rfl, hfin2, hb8⟩
end Fw
end Go.Proofs.YtpecnljcgiicaaaDoor
