/- flow: the tree; the ways back. -/
import Derived.Test.YtpecnljcgiicaaaDoorFwH
namespace Go.Proofs.YtpecnljcgiicaaaDoor
open Go.RowKit
namespace Fw
set_option linter.unusedVariables false
set_option linter.unusedSimpArgs false
open Vc (NumsL Nums Lies LL Bls BlC InC Bl In Co infoN own_base)

set_option maxRecDepth 100000 in
set_option maxHeartbeats 3200000 in
theorem treeOf_any {n : Nat} (s : St) (hI : Inv n s) (h1 : 1 ≤ s.ent.length) (hn : n ≤ 1048576) (ah : List (List Nat)) (hA : AhO n ah) (hAl : ∀ b, (ah.getD b []).length ≤ 2097152) (vb ve vf vt vl va : Value) (w : World) (he : NumsL w (fun k => k < w.heap.size) (nz s.ent) ve) (hf : NumsL w (fun k => k < w.heap.size) s.fr vf) (ht : NumsL w (fun k => k < w.heap.size) s.tn vt) (ha : Rws w (fun k => k < w.heap.size) ah va)
    (sb : ∃ a n c, vb = .slice a n c) (sl : ∃ a n c, vl = .slice a n c) :
    Calls Tryd.prog 15 #[.agg #[vb, ve, vf, vt, vl], va] w fun e w' => ∃ v, e = .returned v ∧ Ro w' w.heap.size v (tree s ah) ∧ Below w.heap.size w w' := by
  obtain ⟨L, hL⟩ : ∃ L, L = s.fr.length := ⟨_, rfl⟩
  have hLe : L = s.ent.length := by rw [hL, hI.fl]
  have hLn : L ≤ 1048576 := by have := hI.ec; omega
  have hL1 : 1 ≤ L := by omega
  have hwd := wis_inv hI hA (s.fr.length - 1) (Nat.le_refl _)
  have hwl : Lo L (widest s ah) := by rw [hL]; exact hwd.out
  have hup : Up L s.fr := by have := hI.up; rw [hLe]; exact this
  have hlt := hf
  obtain ⟨ba, bn, bc, rfl⟩ := sb
  obtain ⟨la, ln, lc, rfl⟩ := sl
  obtain ⟨ea, ec, rfl, -, -, -⟩ := id he
  obtain ⟨fa, fc, rfl, -, -, -⟩ := id hf
  obtain ⟨ta, tc, rfl, -, -, -⟩ := id ht
  obtain ⟨aa, ac, rfl, -, -, -⟩ := id ha
  obtain ⟨W, hW⟩ : ∃ W, W = w.alloc (.cells (wbc (.slice ba bn bc) (.slice ea (nz s.ent).length ec) (.slice fa s.fr.length fc) (.slice ta s.tn.length tc) (.slice la ln lc)) 49) := ⟨_, rfl⟩
  have hbW : Below w.heap.size w W := by rw [hW]; exact Vc.one_alloc w _
  have hWz : W.heap.size = w.heap.size + 1 := by rw [hW]; simp
  have hWb : W.heap[w.heap.size]? = some (.cells (wbc (.slice ba bn bc) (.slice ea (nz s.ent).length ec) (.slice fa s.fr.length fc) (.slice ta s.tn.length tc) (.slice la ln lc)) 49 (0, 0)) := by rw [hW]; exact heap_alloc_new _ _
  have hcl := clone_ro s.fr _ (.slice fa s.fr.length fc) W (hf.moved (g' := fun k => k < w.heap.size) fun k _ hk => ⟨hk, hbW.block k hk⟩) (by rw [← hL]; omega)
  obtain ⟨c0, c1, c2, c3, c4, cf, cl⟩ := wb_cells hWb
  have up : ∀ (X : World), Below W.heap.size W X → ∀ k, k < w.heap.size → k < X.heap.size ∧ X.heap[k]? = w.heap[k]? := fun X hX k hk => ⟨by have := hX.size; omega, (hX.block k (by omega)).trans (hbW.block k hk)⟩
  have hwide : ∀ X, Below W.heap.size W X → Calls Tryd.prog 33 #[.agg #[.slice ba bn bc, .slice ea (nz s.ent).length ec, .slice fa s.fr.length fc, .slice ta s.tn.length tc, .slice la ln lc], .slice aa ah.length ac] X fun e w' => ∃ v, e = .returned v ∧ Ro w' X.heap.size v (widest s ah) ∧ Below X.heap.size X w' := fun X hX =>
    widest_any s hI h1 hn ah hA hAl _ _ _ _ _ _ X (he.moved fun k _ hk => up X hX k hk) (hf.moved fun k _ hk => up X hX k hk) (ht.moved fun k _ hk => up X hX k hk) (ha.moved (fun k _ hk => up X hX k hk) (by have := hX.size; omega)) ⟨_, _, _, rfl⟩ ⟨_, _, _, rfl⟩
  have HCl := hide hcl; have HWi := hide hwide; have HBW := hide hbW; have HWb := hide hWb; have HL := hide hL; have HWl := hide hwl; have HUp := hide hup; have HL1 := hide hL1; have HWz := hide hWz
  have hLi : (L : Int) ≤ 1048576 := by omega
  clear hI h1 hn hA hAl he hf ht ha hcl hwide hbW hWb up hLe hLn hL hwd hwl hup hlt hL1 hWz
  go_enter Tryd.func15, Tryd.ntmps15
  go_upto_region 1 with fail
  rw [show w.alloc (.cells #[.slice ba bn bc, .slice ea (nz s.ent).length ec, .slice fa s.fr.length fc, .slice ta s.tn.length tc, .slice la ln lc] 49) = W from hW.symm]
  clear hW
  go_upto_region 2 with (go_at_call 32; refine (unhide HCl).mono ?_; rintro e w1 ⟨v1, rfl, ho1, hb1⟩; obtain ⟨ob, oc, rfl, hob, hobl, -, -, -⟩ := ho1.at_ (by rw [← unhide HL]; exact unhide HL1))
  rw [← unhide HL] at ho1 ⊢
  obtain ⟨d0, d1, d2, d3, d4, df, dl⟩ := wb_cells ((hb1.block w.heap.size cl).trans (unhide HWb))
  have HO1 := hide ho1; have HB1 := hide hb1
  clear ho1 hb1 c0 c1 c2 c3 c4 cf cl hob
  go_wp2_with (go_at_call 33; refine (unhide HWi _ (unhide HB1)).mono ?_; rintro e w2 ⟨v2, rfl, ho2, hb2⟩; obtain ⟨wb, wc, rfl, hwb, hwbl, -, -, -⟩ := ho2.at_ (by rw [(unhide HWl).len]; exact unhide HL1))
  obtain ⟨wd, hwd⟩ : ∃ wd, wd = widest s ah := ⟨_, rfl⟩
  have hwl := unhide HWl
  rw [← hwd] at ho2 hwl ⊢
  have hne : wb ≠ ob := by omega
  have hwc : ∀ wr, Fk ob ob w2 wr → ∀ i, i < L → wr.cell? ⟨wb, i, none⟩ = some (.int .i64 (wd.getD i 0)) := fun wr hf i hi => by
    have := (ho2.cells (i := i) (by rw [hwl.len]; exact hi)).1
    exact (World.cell?_of_block (a := ⟨wb, i, none⟩) (hf.keep wb hne hne)).trans this
  have hr0 : Ro w2 W.heap.size (.slice (some ⟨ob, 0, none⟩) L oc) s.fr := (unhide HO1).below hb2
  have hobW := (hr0.lt ob rfl).1
  rw [hwl.len]
  have hbe : Below W.heap.size W w2 := (unhide HB1).trans (hb2.mono (unhide HB1).size)
  have HWc := hide hwc; have HR0 := hide hr0; have HBe := hide hbe; have HWl2 := hide hwl; have HWd := hide hwd; have HObW := hide hobW
  clear hwc hr0 hbe hwl hwd ho2 hb2 d0 d1 d2 d3 d4 df dl hwb hwbl hobl hne hobW
  go_loopw [15] (fun c wr => ∃ k : Nat, k ≤ L ∧ c = .int .i64 (k : Int) ∧ Ro wr W.heap.size (.slice (some ⟨ob, 0, none⟩) L oc) (trs wd s.fr k) ∧ Fk ob ob w2 wr) (fun c _ => L - (intOf c).toNat)
  case atStart => exact ⟨0, Nat.zero_le _, rfl, unhide HR0, Fk.refl _ _ _⟩
  case round =>
    obtain ⟨k, hk, rfl, hRk, hFk⟩ := hrel
    by_cases hlt : k < L
    · have x1 := unhide HWc wr hFk k hlt
      have hUk := trs_up (unhide HWl2) (unhide HUp) k (Nat.le_of_lt hlt)
      obtain ⟨b, hb⟩ : ∃ b, b = wd.getD k 0 := ⟨_, rfl⟩
      have hb1 : -1 ≤ b := by rw [hb]; exact (unhide HWl2).row k hlt
      rw [← hb] at x1
      have hkL : (k : Int) < (L : Int) := by omega
      have hsu := trs_succ wd s.fr k
      rw [← hb] at hsu
      have HRk := hide hRk; have HFk := hide hFk; have HUk := hide hUk; have HSu := hide hsu; have HLt := hide hlt; have HK := hide hk
      clear hRk hFk hUk hsu hlt hb hk
      go_wp2_with fail
      clear x1
      go_loopg [] (k + 1) (fun f wq => ∃ cur : List Int, Up L cur ∧ cur.getD k 0 < (f : Int) ∧ cutF f cur k b = cutF (k + 1) (trs wd s.fr k) k b ∧ Ro wq W.heap.size (.slice (some ⟨ob, 0, none⟩) L oc) cur ∧ Fk ob ob w2 wq)
      case atStart => exact ⟨_, unhide HUk, by have := ((unhide HUk).row k (unhide HLt)).2; omega, rfl, unhide HRk, unhide HFk⟩
      case round =>
        generalize wr = wq at *
        obtain ⟨cur, hU, hg, hcut, hRq, hFq⟩ := hrel
        have hkl : k < cur.length := by rw [hU.len]; exact unhide HLt
        have hk1 := hU.row k (unhide HLt)
        obtain ⟨x1, x1f⟩ := hRq.cells (i := k) hkl
        by_cases hc : b < cur.getD k 0
        · obtain ⟨f, rfl⟩ : ∃ f, gk = f + 1 := ⟨gk - 1, by omega⟩
          obtain ⟨h1, h2⟩ := cut_step hU (unhide HLt) hb1 hc
          rw [cutF_yes f cur k b hc] at hcut
          obtain ⟨a, ha⟩ : ∃ a : Nat, cur.getD k 0 = (a : Int) := ⟨(cur.getD k 0).toNat, by omega⟩
          rw [ha] at x1 hc hg hk1
          rw [ha, Int.toNat_natCast] at hcut h1 h2
          have x2 := (hRq.cells (i := a) (by rw [hU.len]; have := unhide HLt; omega)).1
          obtain ⟨x, hx⟩ : ∃ x, x = cur.getD a 0 := ⟨_, rfl⟩
          rw [← hx] at x2 hcut h1 h2
          have haL : (a : Int) < (L : Int) := by omega
          have HR9 := hide (hRq.set hkl x); have HF9 := hide (hFq.set1 k (.int .i64 x)); have HCut := hide hcut; have HU1 := hide h1; have HU2 := hide h2
          clear hRq hFq hcut hU h1 h2 hx ha hk1
          go_wp2_with fail
          go_roundg f
          case measure => omega
          case rel => exact ⟨_, unhide HU1, by have := unhide HU2; omega, unhide HCut, unhide HR9, unhide HF9⟩
        · rw [cutF_no gk cur k b hc] at hcut
          obtain ⟨z, hz⟩ : ∃ z, z = cur.getD k 0 := ⟨_, rfl⟩
          rw [← hz] at x1 hc
          have HCut := hide hcut; have HRq := hide hRq; have HFq := hide hFq
          clear hcut hRq hFq hU hg hk1 hz
          go_wp2_with fail
          go_roundw
          case rel => exact ⟨k + 1, unhide HLt, by go_num, by rw [unhide HSu, ← unhide HCut]; exact unhide HRq, unhide HFq⟩
          case measure => have := unhide HLt; simp [intOf]; omega
    · obtain rfl : k = L := by omega
      have hfin : trs wd s.fr k = tree s ah := by unfold tree; rw [← unhide HWd, (unhide HWl2).len]
      rw [hfin] at hRk
      have HR := hide (hRk.base (unhide HBW).size); have HB9 := hide ((unhide HBW).trans (((unhide HBe).trans (hFk.below (unhide HObW) (unhide HObW))).mono (unhide HBW).size))
      clear hRk hFk hfin hlt hk
      go_wp2_with fail
      go_ret
      exact ⟨_, rfl, unhide HR, unhide HB9⟩
end Fw
end Go.Proofs.YtpecnljcgiicaaaDoor
