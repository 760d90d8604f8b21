/- What the other claim had no use for. -/
import Derived.Test.YtglehoekehiaiaaGreatDoorK4
import Derived.Test.YtglehoekehiaiaaGreatDoorK11
namespace Go.Proofs.YtglehoekehiaiaaGreatDoor
open Go.RowKit
set_option linter.unusedVariables false
set_option linter.unusedSimpArgs false
set_option maxRecDepth 100000
set_option maxHeartbeats 32000000
namespace Fw
open Vc (NumsL Nums Lies LL Bls BlC InC Bl In Co infoN own_base)
theorem grow_0 (w : World) : Sort.grow w #[] = w := by simp [Sort.grow]
end Fw
namespace Fw
open Vc (NumsL Nums Lies LL Bls BlC InC Bl Co WfC chk siz Fms infoN infoBl own_base RowT cob cob_cells)
theorem rev_own {w : World} {N g n cap : Nat} {l : List Int} (h : Ro w N (.slice (some ⟨g, 0, none⟩) n cap) l) (hl : l.length ≤ 1048576) :
    Calls Tryz.prog 28 #[.slice (some ⟨g, 0, none⟩) n cap] w fun e w' => e = .returned (.tuple #[]) ∧ Ro w' N (.slice (some ⟨g, 0, none⟩) n cap) l.reverse ∧ w.grownBy w' (some g) := by
  obtain ⟨cur, hc, rfl, h4, h5, h6, h7, hN⟩ := h.cur
  refine (Tryz.slices_Reverse_int g 0 cap l w (holds_of_blockI hc h7) (by omega)).mono ?_
  rintro e w' ⟨rfl, k, rfl⟩
  have hr := ownsRow_sortedI (base := N) (n := k) (os := #[]) (ss := l) (ts := l.reverse) (by simp) hN hc h4 h5 h6
  have hg := grownBy_sortedI (w := w) (g := g) (n := k) (os := #[]) l.reverse.toArray
  rw [grow_0] at hr hg
  refine ⟨rfl, ?_, hg⟩
  unfold Ro; rw [List.length_reverse]; exact hr
theorem walk_lf {l : List Bl} (h : 1 ≤ l.length) : 0 < (walk (nxs l)).lf.length := by
  obtain ⟨n, hn⟩ : ∃ n, (nxs l).length = n + 1 := ⟨l.length - 1, by rw [nxs_len]; omega⟩
  unfold walk; rw [hn, go_succ]; simp

theorem order_yes (c : Co) (hw : WfC c) (hc : chk c = true) (g : Nat → Prop) (v : Value) (w : World) (hT : Fms w) (hv : Bls w g c.bl v) (hg : ∀ k, g k → k < w.heap.size) :
    Calls Tryz.prog 8 #[.agg #[.int .i64 c.pa, .int .i64 c.re, .bool c.rs, v]] w fun e w' => ∃ u, e = .returned (.tuple #[u, .nilIface]) ∧ Ro w' w.heap.size u (nz (walk (nxs c.bl)).lf).reverse ∧ Below w.heap.size w w' := by
  have hk := cok_of c hc
  have hz : siz c.bl ≤ 1099511627776 := by
    unfold chk at hc
    simp only [Bool.and_eq_true, decide_eq_true_eq] at hc
    have := hc.1.2.2
    omega
  obtain ⟨va, vc, rfl, -, -, -⟩ := id hv
  obtain ⟨n, hn⟩ : ∃ n, n = c.bl.length := ⟨_, rfl⟩
  have hb1 := Vc.one_alloc w (.cells (cob c.pa c.re c.rs (.slice va n vc)) 29)
  have hnew := heap_alloc_new w (.cells (cob c.pa c.re c.rs (.slice va n vc)) 29)
  have hck : ∀ W, Below w.heap.size w W → Calls Tryz.prog 26 #[.agg #[.int .i64 c.pa, .int .i64 c.re, .bool c.rs, .slice va n vc]] W fun e w' => e = .returned .nilIface ∧ Below W.heap.size W w' := fun W hW => by
    have h5 := Vc.check_any c hw g (.slice va c.bl.length vc) W (hT.below hW) (hv.moved (fun k _ h => ⟨h, hW.block k (hg k h)⟩) hW.size) hz
    rw [hc, ← hn] at h5
    exact h5.mono fun e w' h => ⟨by rw [h.1]; simp [errV_0], h.2⟩
  have hwk : ∀ W, Below w.heap.size w W → Calls Tryz.prog 27 #[.slice va n vc] W fun e w' => ∃ ve vf vt vl, e = .returned (.agg #[.slice va n vc, ve, vf, vt, vl]) ∧ Ro w' W.heap.size ve (nz (walk (nxs c.bl)).ent) ∧ Ro w' W.heap.size vf (walk (nxs c.bl)).fr ∧ Ro w' W.heap.size vt (walk (nxs c.bl)).tn ∧ Ro w' W.heap.size vl (nz (walk (nxs c.bl)).lf) ∧ Below W.heap.size W w' := fun W hW => by
    have h5 := walkOf_any c.bl hk.nok hk.one g (.slice va c.bl.length vc) W (hv.moved (fun k _ h => ⟨h, hW.block k (hg k h)⟩) hW.size) (fun k h => Nat.lt_of_lt_of_le (hg k h) hW.size)
    rw [← hn] at h5; exact h5
  have hlf := walk_lf hk.one
  have hwi := (walk_inv hk).1
  have hln : (walk (nxs c.bl)).lf.length ≤ 1048576 := by have := hwi.ll; have := hwi.ec; have := hk.nok.len; omega
  have c3 : (w.alloc (.cells (cob c.pa c.re c.rs (.slice va n vc)) 29)).cell? ⟨w.heap.size, 3, none⟩ = some (.slice va n vc) := (cob_cells hnew).2.2.2.1
  have HCk := hide (hck _ hb1); have HWk := hide hwk; have HLf := hide hlf; have HLn := hide hln; have HNew := hide hnew; have HB1 := hide hb1
  rw [← hn]
  clear hck hwk hlf hwi hln hk hz hv hc hw hT hg hn hnew hb1
  go_enter Tryz.func8, Tryz.ntmps8
  go_wp2_with (first
    | (go_at_call 26; refine (unhide HCk).mono ?_; rintro e w2 ⟨rfl, hb2⟩; have d3 := (hb2.cell (p := ⟨w.heap.size, 3, none⟩) (by simp)).trans c3; have hbw2 := (unhide HB1).trans (hb2.mono (unhide HB1).size); have HBw2 := hide hbw2; clear hb2 hbw2)
    | (go_at_call 27; refine (unhide HWk _ (unhide HBw2)).mono ?_; rintro e w3 ⟨ve, vf, vt, vl, rfl, k1, k2, k3, k4, hb3⟩; obtain ⟨ea, ec, rfl, -⟩ := k1.sl; obtain ⟨fa, fc, rfl, -⟩ := k2.sl; obtain ⟨ta, tc, rfl, -⟩ := k3.sl; obtain ⟨gl, lc, rfl, hgl, hgll, -, -, -⟩ := k4.at_ (by rw [nz_len]; exact unhide HLf); have K4 := hide k4; have HB3 := hide hb3; have HGl := hide hgll; have HGb := hide hgl; clear k1 k2 k3 k4 hb3 hgll hgl)
    | (go_at_call 28; refine (rev_own ((unhide K4).below (Vc.one_alloc w3 (.cells #[.slice va n vc, .slice ea (nz (walk (nxs c.bl)).ent).length ec, .slice fa (walk (nxs c.bl)).fr.length fc, .slice ta (walk (nxs c.bl)).tn.length tc, .slice (some ⟨gl, 0, none⟩) (nz (walk (nxs c.bl)).lf).length lc] 65))) (by rw [nz_len]; exact unhide HLn)).mono ?_; rintro e w5 ⟨rfl, hr5, hg5⟩; have p4 : w5.cell? ⟨w3.heap.size, 4, none⟩ = some (.slice (some ⟨gl, 0, none⟩) (nz (walk (nxs c.bl)).lf).length lc) := (World.cell?_of_block (a := ⟨w3.heap.size, 4, none⟩) (hg5.block w3.heap.size (by simp) (by intro e; have := unhide HGl; cases e; omega))).trans (by rw [cell_of_row _ _ _ _ _ _ (heap_alloc_new w3 (.cells #[.slice va n vc, .slice ea (nz (walk (nxs c.bl)).ent).length ec, .slice fa (walk (nxs c.bl)).fr.length fc, .slice ta (walk (nxs c.bl)).tn.length tc, .slice (some ⟨gl, 0, none⟩) (nz (walk (nxs c.bl)).lf).length lc] 65))]; rfl); have HR5 := hide (hr5.base (M := w.heap.size) (unhide HBw2).size); have HB5 := hide (((unhide HBw2).trans ((unhide HB3).mono (unhide HBw2).size)).trans (((Vc.one_alloc w3 (.cells #[.slice va n vc, .slice ea (nz (walk (nxs c.bl)).ent).length ec, .slice fa (walk (nxs c.bl)).fr.length fc, .slice ta (walk (nxs c.bl)).tn.length tc, .slice (some ⟨gl, 0, none⟩) (nz (walk (nxs c.bl)).lf).length lc] 65)).mono (by have := (unhide HB3).size; have := (unhide HBw2).size; omega)).grown hg5 (by simp; have := (unhide HB3).size; have := (unhide HBw2).size; omega) (fun k e => by cases e; have := unhide HGb; have := (unhide HBw2).size; omega))); clear hr5 hg5))
  go_ret2
  exact ⟨_, rfl, unhide HR5, unhide HB5⟩
end Fw
end Go.Proofs.YtglehoekehiaiaaGreatDoor
