/- K27: what follows, part by part: each part tells what it holds. -/
import Derived.Test.YtglehoekehiaiaaGreatDoorK3
import Derived.Deep.Cut
import Derived.Deep.RegionLaw
import Derived.Deep.RegionHeld3
import Derived.Test.YtglehoekehiaiaaGreatDoorK15
import Derived.Test.YtglehoekehiaiaaGreatDoorK10
import Derived.Test.YtglehoekehiaiaaGreatDoorK6
namespace Go.Proofs.YtglehoekehiaiaaGreatDoor
open Go.RowKit
set_option linter.unusedVariables false
set_option linter.unusedSimpArgs false
set_option maxRecDepth 100000
set_option maxHeartbeats 32000000
namespace Vc
/- The statements' giveCode: the same code, in lists of its own. -/
theorem fun_take {α : Type} {l : List α} {k : Nat} {y : α} (h : l[k]? = some y) : l.take (k + 1) = l.take k ++ [y] := by
 have hj := (List.getElem?_eq_some_iff.1 h).1
 rw [List.take_succ_eq_append_getElem hj, (List.getElem?_eq_some_iff.1 h).2]
theorem give_any (c : Co) (hc : WfC c) (g : Nat → Prop) (v : Value) (w : World) (hv : Bls w g c.bl v) (hg : ∀ k, g k → k < w.heap.size) :
    Calls Tryz.prog 7 #[.agg #[.int .i64 c.pa, .int .i64 c.re, .bool c.rs, v]] w fun e w' => ∃ v', e = .returned (.agg #[.int .i64 c.pa, .int .i64 c.re, .bool c.rs, v']) ∧ Bls w' (fun k => k < w'.heap.size) c.bl v' ∧ Below w.heap.size w w' := by
 obtain ⟨a, cp, rfl, hcp, _, hA⟩ := hv
 have hlen := hc.len
 have hwf := hc.bl
 have HA := hide hA; have HG := hide hg; have HWf := hide hwf
 clear hA hg hwf hc
 obtain ⟨pa, re, rs, bl⟩ := c
 simp only at *
 obtain ⟨ib, hib, hb0, hb1, hb2⟩ := info_parts infoBl
 obtain ⟨ii, hii, hi0, hi1, hi2⟩ := info_parts infoIn
 have hstart : OutR w pa re rs (.slice a bl.length cp) [] (.slice none 0 0) (((w.alloc (.cells (cob pa re rs (.slice a bl.length cp)) 24)).alloc (.cells (cob 0 0 false (.slice none 0 0)) 29)).alloc (.cells (cob pa re rs (.slice none 0 0)) 29)) := by
  have s1 : (w.alloc (.cells (cob pa re rs (.slice a bl.length cp)) 24)).heap.size = w.heap.size + 1 := by simp
  have s2 : ((w.alloc (.cells (cob pa re rs (.slice a bl.length cp)) 24)).alloc (.cells (cob 0 0 false (.slice none 0 0)) 29)).heap.size = w.heap.size + 1 + 1 := by simp
  have a0 := heap_alloc_new w (.cells (cob pa re rs (.slice a bl.length cp)) 24)
  have a1 := heap_alloc_new (w.alloc (.cells (cob pa re rs (.slice a bl.length cp)) 24)) (.cells (cob 0 0 false (.slice none 0 0)) 29)
  have a2 := heap_alloc_new ((w.alloc (.cells (cob pa re rs (.slice a bl.length cp)) 24)).alloc (.cells (cob 0 0 false (.slice none 0 0)) 29)) (.cells (cob pa re rs (.slice none 0 0)) 29)
  rw [s1] at a1; rw [s2] at a2
  refine ⟨?_, ?_, a2, OwnL_nil _ _ _ _ _ _, (((Below.refl _ _).alloc (Nat.le_refl _) _).alloc (by omega) _).alloc (by omega) _⟩
  ·rw [Below.heap_alloc _ _ _ (by omega), Below.heap_alloc _ _ _ (by omega)]; exact a0
  ·rw [Below.heap_alloc _ _ _ (by omega)]; exact a1
 have HSt := hide hstart; clear hstart
 generalize hL : bl.length = n at *
 have HL := hide hL; clear hL
 go_enter Tryz.func7, Tryz.ntmps7
 go_wp2_with fail
 go_loopw [4] (fun c wr => ∃ (j : Nat) (vb : Value), c = .int .i64 j ∧ (j : Int) ≤ n ∧ OutR w pa re rs (.slice a n cp) (bl.take j) vb wr) (fun c _ => n - (intOf c).toNat)
 case atStart => exact ⟨0, _, rfl, by omega, by rw [List.take_zero]; exact unhide HSt⟩
 case round =>
  obtain ⟨j, vb, rfl, hj, hR⟩ := hrel
  have HR := hide hR
  obtain ⟨x0, x1, x2, x3, xf, xl⟩ := cob_cells hR.b0
  obtain ⟨y0, y1, y2, y3, yf, yl⟩ := cob_cells hR.b2
  have hbel := hR.be
  obtain ⟨bva, bvc, rfl⟩ := hR.ow.shape
  clear hR
  by_cases hlt : (j : Int) < n
  ·obtain ⟨x, hx⟩ : ∃ x, bl[j]? = some x := ⟨_, List.getElem?_eq_getElem (by have := unhide HL; omega)⟩
   have hwx := unhide HWf x (List.mem_of_getElem? hx)
   obtain ⟨b, o, rfl, hgb, hblt, hit⟩ := unhide HA (by omega)
   obtain ⟨cs, hcl, ⟨vi, vn, rfl, hi, hn⟩, hce⟩ := hit j x hx
   have cc := fun i u hu => (hbel.cell (p := ⟨b, o + j * 3 + i, none⟩) hblt).trans (hce i u hu)
   have e0 := cc 0 _ rfl; have e1 := cc 1 _ rfl; have e2 := cc 2 _ rfl
   simp only [Nat.add_zero] at e0
   have hb1' : b < wr.heap.size := World.block_lt_of_cell? wr _ e0
   have HI := hide hi; have HN := hide hn; have HWx := hide hwx; have HBel := hide hbel
   obtain ⟨ai, ci, rfl, hci, _, hII⟩ := hi
   obtain ⟨an, cn, rfl, _⟩ := hn
   have HII := hide hII; have HCe := hide hce
   have htl : (bl.take j).length = j := by rw [List.length_take]; have := unhide HL; omega
   have htl2 := htl
   rw [htl] at HR y3
   have HXb := hide hx
   clear hx hit hcl hce cc hwx hII hj hbel
   obtain ⟨ins, next, dep⟩ := x
   simp only at *
   generalize hil : ins.length = il at *
   generalize hnl : next.length = nl at *
   have Hil := hide hil; have Hnl := hide hnl; clear hil hnl
   go_upto_region 5 with fail
   go_region
   have hbx : BoxR g wr (.slice an nl cn) dep [] (.slice none 0 0) (wr.alloc (.cells #[.slice none 0 0, .slice an nl cn, .int .i64 dep] 56)).drew :=
    ⟨heap_alloc_new wr _, OwnL_nil _ _ _ _ _ _, ((Below.refl _ _).alloc (Nat.le_refl _) _).drew⟩
   have HBx := hide hbx
   clear hbx x0 x1 x2 x3 xf xl y0 y1 y2 y3 yf yl e0 e1 e2 hb1'
   have keep : ∀ wq, Below wr.heap.size wr wq → (wq.cell? ⟨w.heap.size, 3, none⟩ = some (.slice (some ⟨b, o, none⟩) n cp) ∧ w.heap.size < wq.heap.size) ∧ (∀ i u, [Value.slice ai il ci, .slice an nl cn, .int .i64 dep][i]? = some u → wq.cell? ⟨b, o + j * 3 + i, none⟩ = some u) := by
    intro wq hq
    have r0 := (hq.block _ (Array.getElem?_eq_some_iff.1 (unhide HR).b0).1).trans (unhide HR).b0
    obtain ⟨x0, x1, x2, x3, xf, xl⟩ := cob_cells r0
    have hN := (Array.getElem?_eq_some_iff.1 (unhide HR).b0).1
    have hq2 : Below w.heap.size w wq := (unhide HBel).trans (hq.mono (by omega))
    exact ⟨⟨x3, xl⟩, fun i u hu => (hq2.cell (p := ⟨b, o + j * 3 + i, none⟩) hblt).trans (unhide HCe i u hu)⟩
   have HKe := hide keep; clear keep HCe
   generalize wr = WO at *
   obtain ⟨⟨x3, xl⟩, cc⟩ := unhide HKe _ (unhide HBx).be
   have e0 := cc 0 _ rfl
   simp only [Nat.add_zero] at e0
   clear cc
   have hile : il ≤ 1099511627776 := by have := (unhide HWx).len; simp only at this; have := unhide Hil; omega
   go_wp2_with fail
   go_loopw [6] (fun c wq => ∃ (k : Nat) (vi : Value), c = .int .i64 k ∧ (k : Int) ≤ il ∧ BoxR g WO (.slice an nl cn) dep (ins.take k) vi wq) (fun c _ => il - (intOf c).toNat)
   case atStart => exact ⟨0, _, rfl, by omega, by rw [List.take_zero]; exact unhide HBx⟩
   case round =>
    obtain ⟨k, vq, rfl, hk, hB⟩ := hrel
    have HB := hide hB
    clear x3 xl e0
    obtain ⟨⟨x3, xl⟩, cc⟩ := unhide HKe _ hB.be
    have e0 := cc 0 _ rfl
    simp only [Nat.add_zero] at e0
    clear cc
    have hbr := hB.b
    have hxq := hB.ow
    have hbe := hB.be
    obtain ⟨qa, qc, rfl⟩ := hxq.shape
    have htk : (ins.take k).length = k := by rw [List.length_take]; have := unhide Hil; omega
    have z0 : wr.cell? ⟨WO.heap.size, 0, none⟩ = some (.slice qa k qc) := by rw [cell_of_row wr _ 0 _ _ _ hbr, htk]; rfl
    have z1 : wr.cell? ⟨WO.heap.size, 1, none⟩ = some (.slice an nl cn) := by rw [cell_of_row wr _ 1 _ _ _ hbr]; rfl
    have z2 : wr.cell? ⟨WO.heap.size, 2, none⟩ = some (.int .i64 dep) := by rw [cell_of_row wr _ 2 _ _ _ hbr]; rfl
    have zf : ∀ i, wr.frozen? ⟨WO.heap.size, i, none⟩ = false := fun i => by simp [World.frozen?, hbr]
    rw [htk] at hbr HB hxq
    have HBr := hide hbr; have HBe := hide hbe
    have zl : WO.heap.size < wr.heap.size := (Array.getElem?_eq_some_iff.1 hbr).1
    clear hB hbr hbe
    by_cases hklt : (k : Int) < il
    ·obtain ⟨y, hy⟩ : ∃ y, ins[k]? = some y := ⟨_, List.getElem?_eq_getElem (by have := unhide Hil; omega)⟩
     obtain ⟨bi, oi, rfl, hgi, hbi, hit⟩ := unhide HII (by have := unhide Hil; omega)
     obtain ⟨cs, hcl, ⟨vs, rfl, hs⟩, hce⟩ := hit k y hy
     have hlow : Below w.heap.size w wr := (unhide HBel).trans ((unhide HBe).mono (by have := (unhide HBel).size; omega))
     have cc := fun i u hu => (hlow.cell (p := ⟨bi, oi + k * 5 + i, none⟩) hbi).trans (hce i u hu)
     have f0 := cc 0 _ rfl; have f1 := cc 1 _ rfl; have f2 := cc 2 _ rfl; have f3 := cc 3 _ rfl; have f4 := cc 4 _ rfl
     simp only [Nat.add_zero] at f0
     have hbi2 : bi < wr.heap.size := World.block_lt_of_cell? wr _ f0
     obtain ⟨xs, hx, hits⟩ := hxq
     rw [htk] at hx
     have hsl := hx.lt
     have hmv : Mv w wr g (own g (.slice qa k qc)) := fun q hq hgq => ⟨⟨fun e => by have := (hsl q e).1; have := unhide HG q hgq; have := (unhide HBel).size; omega, hgq⟩, hlow.block q (unhide HG q hgq)⟩
     have hsm := hs.moved hmv
     obtain ⟨sa, sc, rfl, _⟩ := hs
     have HX := hide hx; have HIts := hide hits; have HSl := hide hsl; have HSm := hide hsm; have HY := hide hy
     clear hy hit hcl hce cc hlow hx hits hsl hmv hsm hk
     obtain ⟨op, dst, src, nn, of⟩ := y
     simp only at *
     generalize hsrl : src.length = sl at *
     have HSrl := hide hsrl; clear hsrl
     have hnb : ¬ bi = WO.heap.size := by have := (unhide HBel).size; omega
     go_upto_region 9 with fail
     go_region_law
      (first
       | go_loud (
           refine step_append_lies ((wr.alloc (.cells #[.int .u8 (op : Int), .int .i64 dst, .slice sa sl sc, .int .i64 nn, .int .u32 of] 53)).drew) (by rfl) (.tmp 46) (.tmp 56) 54 (by rfl) (WO.heap.size + 1) 53 ii (.agg #[.int .u8 0, .int .i64 0, .slice none 0 0, .int .i64 0, .int .u32 0]) 5 56 Tryz.underlying54 hii hi0 hi1 hi2 rfl (by decide) (.slice qa k qc) k xs (by rfl) (ownsRow_below (unhide HX) ((Below.refl _ _).alloc (Nat.le_refl _) _).drew) ⟨wr.heap.size, 0, none⟩ 1 1 (inC ⟨op, dst, src, nn, of⟩ (.slice sa sl sc)) (by rfl) (by rfl) (new_row wr _ _) (inC_one _ _ ⟨_, _, _, rfl⟩) (by omega) (by unfold maxLen; omega) (by omega) (by simp; omega) (wr.heap.size + 1) (by simp) ?_
           intro gg cpn w5 hown5 hgrow hat5 hlt5
           have hB5 : w5.heap[WO.heap.size]? = wr.heap[WO.heap.size]? := (hgrow.block WO.heap.size (by simp; omega) (fun e => by have := (unhide HSl _ e.symm).1; omega)).trans (Below.heap_alloc wr _ _ zl)
           have p0 : w5.cell? ⟨WO.heap.size, 0, none⟩ = some (.slice qa k qc) := (World.cell?_of_block (a := ⟨WO.heap.size, 0, none⟩) hB5).trans z0
           have pf : ∀ i, w5.frozen? ⟨WO.heap.size, i, none⟩ = false := fun i => by have := zf i; simp only [World.frozen?, hB5] at this ⊢; exact this
           have HOwn5 := hide hown5; have HGr := hide hgrow; have HAt := hide hat5; have HB5 := hide hB5
           clear hown5 hgrow hat5 hlt5 hB5)
       | fail)
     all_goals
      have hst := box_step (l := ins.take k) (y := ⟨op, dst, src, nn, of⟩) (by rw [List.length_take]; have := unhide Hil; omega) (fun q hq => Nat.lt_of_lt_of_le (unhide HG q hq) (unhide HBel).size) (unhide HBr) (unhide HBe) (unhide HX) (unhide HIts) (by rw [unhide HSrl] at *; exact unhide HSm) (unhide HOwn5) (unhide HGr) (unhide HAt)
      have HSt2 := hide hst
      clear hst p0 pf
      go_wp2
      go_roundw
      case rel => exact ⟨k + 1, _, by go_num, by omega, by rw [fun_take (unhide HY)]; exact unhide HSt2⟩
      case measure => simp [intOf]; omega
    ·obtain rfl : k = il := by omega
     have hBf : BoxR g WO (.slice an nl cn) dep ins (.slice qa k qc) wr := by
      have h := unhide HB
      rw [show ins.take k = ins by rw [← unhide Hil]; exact List.take_length] at h
      exact h
     have hOw := (unhide HR).below hBf.be
     have hitm := out_item (unhide HR) hBf (unhide HG) (unhide HN)
     obtain ⟨xs, hx, hits⟩ := hOw.ow
     rw [htl2] at hx
     obtain ⟨y0, y1, y2, y3, yf, yl⟩ := cob_cells hOw.b2
     have HX2 := hide hx; have HIts := hide hits; have HOw := hide hOw; have HItm := hide hitm
     clear hx hits hOw hitm hk hklt hxq hBf HB HBr HSt
     go_wp2_with (at_builtin; refine wpList_append_lies (wr.alloc (.cells #[.slice qa k qc, .slice an nl cn, .int .i64 dep] 56)) rfl (.tmp 60) (.tmp 62) 27 rfl w.heap.size 56 ib (.agg #[.slice none 0 0, .slice none 0 0, .int .i64 0]) 3 56 Tryz.underlying27 hib hb0 hb1 hb2 rfl (by decide) (.slice bva j bvc) j xs rfl (ownsRow_below (unhide HX2) ((Below.refl _ _).alloc (Nat.le_refl _) _)) ⟨wr.heap.size, 0, none⟩ 1 1 (blC dep (.slice qa k qc) (.slice an nl cn)) rfl rfl (new_row wr _ _) (blC_one _ _ _ ⟨_, _, _, rfl⟩ ⟨_, _, _, rfl⟩) (by omega) (by unfold maxLen; omega) (by omega) (by simp; omega) (wr.heap.size + 1) (by simp) ?_)
     intro gg cpn w5 hown5 hgrow hat5 hlt5
     have h2 := out_keep (unhide HOw) hgrow
     have hst := out_step (y := ⟨ins, next, dep⟩) (by rw [List.length_take]; have := unhide HL; omega) (unhide HOw) (unhide HX2) (unhide HIts) (unhide HItm) hown5 hgrow hat5
     have HSt2 := hide hst
     clear y0 y1 y2 y3 yf yl hst hown5 hgrow hat5 hlt5 z0 z1 z2 zf zl e0 x3 xl
     obtain ⟨y0, y1, y2, y3, yf, yl⟩ := cob_cells h2
     clear h2
     go_wp2
     go_roundw
     case rel => exact ⟨j + 1, _, by go_num, by omega, by rw [fun_take (unhide HXb)]; exact unhide HSt2⟩
     case measure => simp [intOf]; omega
  ·obtain rfl : j = n := by omega
   have htn : bl.take j = bl := by rw [← unhide HL]; exact List.take_length
   have hO := unhide HR
   have htl : (bl.take j).length = j := by rw [List.length_take]; have := unhide HL; omega
   rw [htl] at hO y3
   rw [htn] at hO
   obtain ⟨q0, q1, q2, q3, qf, ql⟩ := cob_cells hO.b1
   have HO := hide hO
   clear hO hj hlt htn htl HR
   go_wp2
   obtain ⟨hbb, hss, hoo⟩ := bel4b (unhide HO).be (w.heap.size + 1) (by omega) (.int .i64 pa) (.int .i64 re) (.bool rs) (.slice bva j bvc)
   have hr := set4 wr (w.heap.size + 1) _ _ _ _ _ (.int .i64 pa) (.int .i64 re) (.bool rs) (.slice bva j bvc) (unhide HO).b1
   clear q0 q1 q2 q3 qf ql x0 x1 x2 x3 xf xl y0 y1 y2 y3 yf yl
   generalize (((wr.setCell ⟨w.heap.size + 1, 0, none⟩ (.int .i64 pa)).setCell ⟨w.heap.size + 1, 1, none⟩ (.int .i64 re)).setCell ⟨w.heap.size + 1, 2, none⟩ (.bool rs)).setCell ⟨w.heap.size + 1, 3, none⟩ (.slice bva j bvc) = W2 at *
   have hfin := out_end (unhide HO) hoo hss
   have c0 := cell_of_row W2 (w.heap.size + 1) 0 _ _ _ hr; have c1 := cell_of_row W2 (w.heap.size + 1) 1 _ _ _ hr; have c2 := cell_of_row W2 (w.heap.size + 1) 2 _ _ _ hr; have c3 := cell_of_row W2 (w.heap.size + 1) 3 _ _ _ hr
   simp only [List.getElem?_toArray, List.getElem?_cons_zero, List.getElem?_cons_succ] at c0 c1 c2 c3
   refine bodyPost_ret (v := .agg #[.int .i64 pa, .int .i64 re, .bool rs, .slice bva j bvc]) (by simp [results, Tryz.results7, go_sem, c0, c1, c2, c3]) rfl ⟨_, rfl, hfin, hbb⟩
end Vc
namespace Fw
open Vc (NumsL Nums Lies LL Bls BlC InC Bl Co WfC WfB chk siz infoN infoBl own_base RowT cob cob_cells)
/- the statements' sameCodes. -/
theorem sames_any (x y : Co) (hx : WfC x) (hy : WfC y) {g g2 : Nat → Prop} {v v2 : Value} (w : World) (h1 : Bls w g x.bl v) (k1 : Bls w g2 y.bl v2) (hg : ∀ k, g k → k < w.heap.size) (hg2 : ∀ k, g2 k → k < w.heap.size) :
    Calls Tryz.prog 20 #[.agg #[.int .i64 x.pa, .int .i64 x.re, .bool x.rs, v], .agg #[.int .i64 y.pa, .int .i64 y.re, .bool y.rs, v2]] w fun e w' => e = .returned (.bool (Vc.sC x y)) ∧ Below w.heap.size w w' := by
 obtain ⟨va, vc, rfl, -, -, -⟩ := id h1
 obtain ⟨wa, wc, rfl, -, -, -⟩ := id k1
 obtain ⟨n, hn⟩ : ∃ n, n = x.bl.length := ⟨_, rfl⟩
 obtain ⟨m, hm⟩ : ∃ m, m = y.bl.length := ⟨_, rfl⟩
 obtain ⟨X, hX⟩ : ∃ X, X = (w.alloc (.cells (cob x.pa x.re x.rs (.slice va n vc)) 29)).alloc (.cells (cob y.pa y.re y.rs (.slice wa m wc)) 24) := ⟨_, rfl⟩
 have hXb : Below w.heap.size w X := by rw [hX]; exact Vc.two_allocs w _ _
 have hXz : X.heap.size = w.heap.size + 2 := by rw [hX]; simp
 have r0 : X.heap[w.heap.size]? = some (.cells (cob x.pa x.re x.rs (.slice va n vc)) 29 (0, 0)) := by rw [hX, Below.heap_alloc _ _ _ (by simp)]; exact heap_alloc_new _ _
 have r1 : X.heap[w.heap.size + 1]? = some (.cells (cob y.pa y.re y.rs (.slice wa m wc)) 24 (0, 0)) := by
  have := heap_alloc_new (w.alloc (.cells (cob x.pa x.re x.rs (.slice va n vc)) 29)) (.cells (cob y.pa y.re y.rs (.slice wa m wc)) 24)
  rw [show (w.alloc (.cells (cob x.pa x.re x.rs (.slice va n vc)) 29)).heap.size = w.heap.size + 1 by simp, ← hX] at this; exact this
 have hXX : ∀ W, Below X.heap.size X W → Bls W g x.bl (.slice va x.bl.length vc) ∧ Bls W g2 y.bl (.slice wa y.bl.length wc) := fun W hW => by
  have hb : Below w.heap.size w W := hXb.trans (hW.mono (by omega))
  exact ⟨h1.moved (fun k _ h => ⟨h, hb.block k (hg k h)⟩) hb.size, k1.moved (fun k _ h => ⟨h, hb.block k (hg2 k h)⟩) hb.size⟩
 have hgive : ∀ W, Below X.heap.size X W → Calls Tryz.prog 7 #[.agg #[.int .i64 y.pa, .int .i64 y.re, .bool y.rs, .slice wa m wc]] W fun e w' => ∃ a c, e = .returned (.agg #[.int .i64 y.pa, .int .i64 y.re, .bool y.rs, .slice a m c]) ∧ Bls w' (fun k => k < w'.heap.size) y.bl (.slice a m c) ∧ Below W.heap.size W w' := fun W hW => by
  have hb : Below w.heap.size w W := hXb.trans (hW.mono (by omega))
  have h := Vc.give_any y hy g2 (.slice wa y.bl.length wc) W (hXX W hW).2 (fun k hk => Nat.lt_of_lt_of_le (hg2 k hk) hb.size)
  rw [← hm] at h
  refine h.mono ?_
  rintro e w' ⟨vb, rfl, hl, hb'⟩
  obtain ⟨a, c, rfl, -, -, -⟩ := id hl
  rw [← hm] at hl ⊢
  exact ⟨a, c, rfl, hl, hb'⟩
 have hsame : ∀ W g3 vb, Below X.heap.size X W → Bls W g3 y.bl vb → Calls Tryz.prog 25 #[.agg #[.int .i64 x.pa, .int .i64 x.re, .bool x.rs, .slice va n vc], .agg #[.int .i64 y.pa, .int .i64 y.re, .bool y.rs, vb]] W fun e w' => e = .returned (.bool (Vc.sC x y)) ∧ Below W.heap.size W w' := fun W g3 vb hW hb => by
  have h := Vc.same_any x y hx hy (g := g) (g2 := g3) (v := .slice va x.bl.length vc) (v2 := vb) W (hXX W hW).1 hb
  rw [← hn] at h; exact h
 rw [← hn, ← hm]
 have HX := hide hXb; have HR0 := hide r0; have HR1 := hide r1; have HGi := hide hgive; have HSa := hide hsame; have HXz := hide hXz
 clear hXb r0 r1 hgive hsame h1 k1 hx hy hg hg2 hn hm hXX hXz
 go_enter Tryz.func20, Tryz.ntmps20
 go_upto_region 1 with fail
 rw [show (w.alloc (.cells #[.int .i64 x.pa, .int .i64 x.re, .bool x.rs, .slice va n vc] 29)).alloc (.cells #[.int .i64 y.pa, .int .i64 y.re, .bool y.rs, .slice wa m wc] 24) = X from hX.symm]
 clear hX
 have HW := hide (show Below X.heap.size X X.drew from bdrew (Below.refl _ _))
 have hcl : ∀ W, Below X.heap.size X W → (W.cell? ⟨w.heap.size, 0, none⟩ = some (.int .i64 x.pa) ∧ W.cell? ⟨w.heap.size, 1, none⟩ = some (.int .i64 x.re) ∧ W.cell? ⟨w.heap.size, 2, none⟩ = some (.bool x.rs) ∧ W.cell? ⟨w.heap.size, 3, none⟩ = some (.slice va n vc)) ∧
     (W.cell? ⟨w.heap.size + 1, 0, none⟩ = some (.int .i64 y.pa) ∧ W.cell? ⟨w.heap.size + 1, 1, none⟩ = some (.int .i64 y.re) ∧ W.cell? ⟨w.heap.size + 1, 2, none⟩ = some (.bool y.rs) ∧ W.cell? ⟨w.heap.size + 1, 3, none⟩ = some (.slice wa m wc)) := fun W hW => by
  obtain ⟨a0, a1, a2, a3, -, -⟩ := cob_cells ((hW.block w.heap.size (Array.getElem?_eq_some_iff.1 (unhide HR0)).1).trans (unhide HR0))
  obtain ⟨b0, b1, b2, b3, -, -⟩ := cob_cells ((hW.block (w.heap.size + 1) (Array.getElem?_eq_some_iff.1 (unhide HR1)).1).trans (unhide HR1))
  exact ⟨⟨a0, a1, a2, a3⟩, b0, b1, b2, b3⟩
 have hk := hcl _ (unhide HW)
 have HCl := hide hcl
 clear hcl
 go_region_held3 (fun W => (W.cell? ⟨w.heap.size, 0, none⟩ = some (.int .i64 x.pa) ∧ W.cell? ⟨w.heap.size, 1, none⟩ = some (.int .i64 x.re) ∧ W.cell? ⟨w.heap.size, 2, none⟩ = some (.bool x.rs) ∧ W.cell? ⟨w.heap.size, 3, none⟩ = some (.slice va n vc)) ∧
     (W.cell? ⟨w.heap.size + 1, 0, none⟩ = some (.int .i64 y.pa) ∧ W.cell? ⟨w.heap.size + 1, 1, none⟩ = some (.int .i64 y.re) ∧ W.cell? ⟨w.heap.size + 1, 2, none⟩ = some (.bool y.rs) ∧ W.cell? ⟨w.heap.size + 1, 3, none⟩ = some (.slice wa m wc)))
  (first | go_keep | exact hk)
  (first
   | (go_at_call 7; refine (unhide HGi _ (unhide HW)).mono ?_; rintro e w8 ⟨ac, cc, rfl, hlc, hb8⟩; have HLc := hide hlc; have HW := hide ((unhide HW).trans (hb8.mono (unhide HW).size)); clear hb8 hlc; have hk := unhide HCl _ (unhide HW))
   | (go_at_call 25; refine (unhide HSa _ _ _ (unhide HW) (unhide HLc)).mono ?_; rintro e w9 ⟨rfl, hb9⟩; have HW := hide ((unhide HW).trans (hb9.mono (unhide HW).size)); clear hb9; have hk := unhide HCl _ (unhide HW))
   | fail)
 all_goals (go_wp2_with fail)
 all_goals go_ret
 all_goals exact ⟨rfl, (unhide HX).trans ((unhide HW).mono (by have := unhide HXz; omega))⟩
end Fw
end Go.Proofs.YtglehoekehiaiaaGreatDoor
