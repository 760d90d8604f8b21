/- the document's Join. -/
import Derived.Test.YtglehoekehiaiaaGreatDoorK1
import Derived.Test.YtglehoekehiaiaaGreatDoorK24
namespace Go.Proofs.YtglehoekehiaiaaGreatDoor
open Go.RowKit
set_option linter.unusedVariables false
set_option linter.unusedSimpArgs false
set_option maxRecDepth 100000
set_option maxHeartbeats 32000000
namespace Fw
open Vc (NumsL Nums Lies LL Bls BlC InC Bl Co infoN infoBl own_base RowT cob cob_cells OwnL Its own)
theorem rjoin_any (l : List Bl) (hc : Cok l) (hf : Few l) (ho : Opb l) (pa re : Int) (rs : Bool) (vb : Value) (w : World) (hB : Bls w (fun k => k < w.heap.size) l vb) :
    Calls Tryz.prog 23 #[.agg #[.int .i64 pa, .int .i64 re, .bool rs, vb]] w fun e w' => ∃ v', e = .returned (.agg #[.int .i64 pa, .int .i64 re, .bool rs, v']) ∧ Bls w' (fun k => k < w'.heap.size) (trimD (joinA (trimD l))) v' ∧ Below w.heap.size w w' := by
 obtain ⟨va, vc, rfl, -, -, -⟩ := id hB
 obtain ⟨X, hX⟩ : ∃ X, X = (w.alloc (.cells (cob pa re rs (.slice va l.length vc)) 24)).alloc (.cells (cob 0 0 false (.slice none 0 0)) 24) := ⟨_, rfl⟩
 have hXb : Below w.heap.size w X := by rw [hX]; exact Vc.two_allocs w _ _
 have hXz : X.heap.size = w.heap.size + 2 := by rw [hX]; simp
 have r0 : X.heap[w.heap.size]? = some (.cells (cob pa re rs (.slice va l.length vc)) 24 (0, 0)) := by rw [hX, Below.heap_alloc _ _ _ (by simp)]; exact heap_alloc_new _ _
 have r1 : X.heap[w.heap.size + 1]? = some (.cells (cob 0 0 false (.slice none 0 0)) 24 (0, 0)) := by
  have := heap_alloc_new (w.alloc (.cells (cob pa re rs (.slice va l.length vc)) 24)) (.cells (cob 0 0 false (.slice none 0 0)) 24)
  rw [show (w.alloc (.cells (cob pa re rs (.slice va l.length vc)) 24)).heap.size = w.heap.size + 1 by simp, ← hX] at this; exact this
 have hBX := bls_at hB (fun k h => h) hXb
 have htr := rtrim_any l hc pa re rs (fun k => k < w.heap.size) (fun k => k = w.heap.size ∨ k = w.heap.size + 1) _ X hBX (fun k hk => ⟨by omega, by omega⟩) (fun k hk => by omega)
 obtain ⟨L, hL⟩ : ∃ L, L = trimD l := ⟨_, rfl⟩
 have hcL : Cok L := by rw [hL]; exact cok_trimD hc
 have hfL : Few L := by rw [hL]; exact few_trimD hc hf
 have hoL : Opb L := by rw [hL]; exact opb_trim ho
 have hRL : ∀ x, x < L.length → x ∈ reach (nxs L) := by rw [hL]; exact all_trimD hc
 rw [← hL] at htr ⊢
 obtain ⟨n, hn⟩ : ∃ n, n = L.length := ⟨_, rfl⟩
 rw [← hn] at htr
 have hni : (n : Int) ≤ 1048576 := by have := hcL.nok.len; omega
 have hn1 : 1 ≤ n := by rw [hn]; exact hcL.one
 have HC := hide hcL; have HF := hide hfL; have HOo := hide hoL; have HRL := hide hRL; have HN := hide hn; have HXb := hide hXb; have HXz := hide hXz; have HR0 := hide r0; have HR1 := hide r1; have HTr := hide htr; have HN1 := hide hn1
 obtain ⟨c0, c1, c2, c3, cf, cl⟩ := cob_cells r0
 clear hcL hfL hoL hRL hn hXb hXz r0 r1 htr hL hBX hB hc hf ho hn1
 go_enter Tryz.func23, Tryz.ntmps23
 go_upto_region 1 with fail
 rw [show (w.alloc (.cells #[.int .i64 pa, .int .i64 re, .bool rs, .slice va l.length vc] 24)).alloc (.cells #[.int .i64 0, .int .i64 0, .bool false, .slice none 0 0] 24) = X from hX.symm]
 clear hX
 have hpre : ∀ w1, Below X.heap.size X w1 → w1.cell? ⟨w.heap.size, 0, none⟩ = some (.int .i64 pa) ∧ w1.cell? ⟨w.heap.size, 1, none⟩ = some (.int .i64 re) ∧ w1.cell? ⟨w.heap.size, 2, none⟩ = some (.bool rs) ∧ w1.cell? ⟨w.heap.size, 3, none⟩ = some (.slice va l.length vc) ∧ ∀ q, w1.frozen? ⟨w.heap.size, q, none⟩ = false := fun w1 h1 => by
  have q := (h1.block w.heap.size cl).trans (unhide HR0)
  obtain ⟨k0, k1, k2, k3, kf, -⟩ := cob_cells q
  exact ⟨k0, k1, k2, k3, kf⟩
 have HPre := hide hpre
 clear hpre
 go_wp2_with (go_at_call 21; refine (unhide HTr).mono ?_; rintro e w1 ⟨B, cap, rfl, hbo, hb1⟩; obtain ⟨k0, k1, k2, k3, kf⟩ := unhide HPre w1 hb1; have HBo := hide hbo; have HB1 := hide hb1; clear hbo hb1)
 have hs1 := (unhide HB1).size
 have hXz := unhide HXz
 have hbo1 := unhide HBo
 have hnb := hbo1.nb
 have q0 := ((unhide HB1).block w.heap.size (by omega)).trans (unhide HR0)
 have q1 := ((unhide HB1).block (w.heap.size + 1) (by omega)).trans (unhide HR1)
 have hr2 := set4c w1 w.heap.size _ _ _ _ _ (.int .i64 pa) (.int .i64 re) (.bool rs) (.slice (some ⟨B, 0, none⟩) n cap) q0
 obtain ⟨hb2, hz2, ho2⟩ := Vc.bel4b ((unhide HXb).trans ((unhide HB1).mono (by omega))) w.heap.size (Nat.le_refl _) (.int .i64 pa) (.int .i64 re) (.bool rs) (.slice (some ⟨B, 0, none⟩) n cap)
 have hbo2 := (((hbo1.setA (a := w.heap.size) (i := 0) (.inl rfl) (by omega) (.int .i64 pa)).setA (a := w.heap.size) (i := 1) (.inl rfl) (by omega) (.int .i64 re)).setA (a := w.heap.size) (i := 2) (.inl rfl) (by omega) (.bool rs)).setA (a := w.heap.size) (i := 3) (.inl rfl) (by omega) (.slice (some ⟨B, 0, none⟩) n cap)
 have HR2 := hide hr2; have HB2 := hide hb2; have HBo2 := hide hbo2; have HQ1 := hide ((ho2 (w.heap.size + 1) (by omega)).trans q1); have HNb := hide hnb; have HZ2 := hide (show X.heap.size ≤ _ from (Nat.le_trans hs1 (Nat.le_of_eq hz2.symm)))
 clear hr2 hb2 hz2 ho2 hbo2 q0 q1 hbo1 hnb hs1 hXz k0 k1 k2 k3 kf c0 c1 c2 c3 cf cl HBo HB1 HPre HTr
 generalize (((w1.setCell ⟨w.heap.size, 0, none⟩ (.int .i64 pa)).setCell ⟨w.heap.size, 1, none⟩ (.int .i64 re)).setCell ⟨w.heap.size, 2, none⟩ (.bool rs)).setCell ⟨w.heap.size, 3, none⟩ (.slice (some ⟨B, 0, none⟩) n cap) = W2 at *
 go_loopw [3] (fun v wx => ∃ (cur : List Bl) (gone : List Nat) (K : Nat → Nat) (a : Option Addr) (c : Nat), v = .slice a (nzi gone).length c ∧ Jn L cur gone K ∧ Jl 67108864 cur gone ∧ BoR wx X.heap.size B (fun k => k = w.heap.size ∨ k = w.heap.size + 1 ∨ (Value.slice a (nzi gone).length c).ownBlock = some k) cap cur ∧ Ro wx X.heap.size (.slice a (nzi gone).length c) (nzi gone) ∧ (∀ k, (Value.slice a (nzi gone).length c).ownBlock = some k → k ≠ B) ∧ wx.heap[w.heap.size]? = some (.cells (cob pa re rs (.slice (some ⟨B, 0, none⟩) n cap)) 24 (0, 0)) ∧ wx.heap[w.heap.size + 1]? = some (.cells (cob 0 0 false (.slice none 0 0)) 24 (0, 0)) ∧ Below w.heap.size w wx) (fun v _ => n - (match v with | .slice _ k _ => k | _ => 0))
 case atStart =>
  refine ⟨L, [], fun _ => 0, none, 0, rfl, Jn.init L, Jl.init (unhide HF), ?_, World.ownsRow_nil _ _ _ _, fun k h => (by cases h), unhide HR2, unhide HQ1, unhide HB2⟩
  exact (unhide HBo2).weak (Nat.le_refl _) (fun k h => h.elim .inl fun h => h.elim .inr fun h => (by cases h))
 case round =>
  generalize wr = wa at *
  obtain ⟨cur, gone, K, a, c, rfl, hJ, hT, hBo, hRo, hne, hr0, hr1, hb⟩ := hrel
  have hcn : cur.length = n := by rw [hJ.len, unhide HN]
  have hck := hJ.cok (unhide HC) hT (by omega)
  have hgl := hJ.glen
  rw [← unhide HN] at hgl
  have hgi : (nzi gone).length ≤ 1048576 := by rw [nzi_len]; omega
  obtain ⟨G, hG⟩ : ∃ G, G = (nzi gone).length := ⟨_, rfl⟩
  have HJ := hide hJ; have HT := hide hT; have HBo := hide hBo; have HRo := hide hRo; have HNe := hide hne; have HRa := hide hr0; have HRb := hide hr1; have HBa := hide hb; have HCn := hide hcn; have HCk := hide hck; have HGl := hide hgl; have HGi := hide hgi; have HG := hide hG
  rw [← hG] at HBo HRo HNe ⊢
  clear hJ hT hBo hRo hne hr0 hr1 hb hcn hck hgl hgi hG
  go_wp2_with fail
  go_loopw [4, 5] (fun v d wx => ∃ (bn : Nat), bn ≤ n ∧ d = .int .i64 (bn : Int) ∧ ((v = .int .i64 (-1) ∧ ∀ b, b < bn → ¬ jc cur gone b) ∨ ∃ q, q < n ∧ v = .int .i64 (q : Int) ∧ jc cur gone q) ∧ Below wa.heap.size wa wx) (fun _ d _ => n - (intOf d).toNat)
  case atStart => exact ⟨0, Nat.zero_le _, rfl, .inl ⟨rfl, fun b h => absurd h (Nat.not_lt_zero _)⟩, Below.refl _ _⟩
  case round =>
   generalize wr = wb at *
   obtain ⟨bn, hbn, rfl, hat, hbb⟩ := hrel
   have hla := (Array.getElem?_eq_some_iff.1 (unhide HRa)).1
   have q0 := (hbb.block w.heap.size hla).trans (unhide HRa)
   obtain ⟨c0, c1, c2, c3, cf, cl⟩ := cob_cells q0
   rcases hat with ⟨rfl, hno⟩ | ⟨q, hq, rfl, hjq⟩
   ·by_cases hlt : bn < n
    ·have hbL : bn < L.length := by rw [← unhide HN]; exact hlt
     have hbc : bn < cur.length := by rw [unhide HCn]; exact hlt
     obtain ⟨x, hx⟩ : ∃ x, x = cur.getD bn dB := ⟨_, rfl⟩
     have hxl : cur[bn]? = some x := by rw [hx]; exact get?_getD _ _ _ hbc
     have hxm := List.mem_of_getElem? hxl
     have hxi := (unhide HCk).ins x hxm
     have hob := (unhide HJ).opb (unhide HC) (unhide HOo) hbL
     rw [← hx] at hob
     have hbo := (unhide HBo).below hbb
     obtain ⟨vx, vnx, x0, x1, x2, hxin, hxnn⟩ := hbo.it bn x hxl
     obtain ⟨xa, xc, rfl, -, -, -⟩ := id hxin
     obtain ⟨xna, xnc, rfl, -, -, -⟩ := id hxnn
     obtain ⟨p, hp⟩ : ∃ p, p = x.ins.length - 1 := ⟨_, rfl⟩
     have hlp : x.ins.length = p + 1 := by have := hxi.1; omega
     obtain ⟨Bi, oi, vs, hia, -, hBi, e0, -, -, -, -, -⟩ := ins_at hxin (k := p) (by omega)
     subst hia
     obtain ⟨op, hop⟩ : ∃ op, op = (endI x).op := ⟨_, rfl⟩
     have hen : (x.ins.getD p dI).op = op := by rw [hop, hp]; rfl
     rw [hen] at e0
     rw [← hop] at hob
     have hlx := hxi.2
     rw [hlp] at x0
     have hnm := fun W => Vc.rnm_any op hob W
     have hj := nm_jump op hob
     obtain ⟨S, hSs⟩ : ∃ S, S = str (Vc.rnm op) := ⟨_, rfl⟩
     rw [← hSs] at hj
     simp only [← hSs] at hnm
     have hbol := hbo.lt
     have hbnn : (bn : Int) < (n : Int) := by omega
     have hbn0 : (0 : Int) ≤ (bn : Int) := by omega
     have hpi : (p : Int) ≤ 1099511627776 := by omega
     have hpp1 : (p : Int) < (p : Int) + 1 := by omega
     have hwp : IntKind.i64.wrap (p : Int) = (p : Int) := by rw [IntKind.wrap_i64]; omega
     have hpi0 : (0 : Int) ≤ (p : Int) := by omega
     have hal := Vc.one_alloc wb (.cells #[.slice (some ⟨Bi, oi, none⟩) (p + 1) xc, .slice xna x.next.length xnc, .int .i64 x.dep] 49)
     have hyr := heap_alloc_new wb (.cells #[.slice (some ⟨Bi, oi, none⟩) (p + 1) xc, .slice xna x.next.length xnc, .int .i64 x.dep] 49)
     have hgd : decide ((bn : Int) ∈ nzi gone) = decide (bn ∈ gone) := decide_eq_decide.2 (mem_nzi gone bn)
     have hHas : ∀ W, Below wb.heap.size wb W → Calls Tryz.prog 37 #[.slice a G c, .int .i64 (bn : Int)] W fun e w' => e = .returned (.bool (decide (bn ∈ gone))) ∧ w' = W := fun W hW => by
      have h := has_any (nzi gone) (bn : Int) (.slice a G c) W ((((unhide HRo).below (hbb.trans (hW.mono hbb.size))).nums).moved fun k hk hg => ⟨hk, rfl⟩) (by have := unhide HGi; omega)
      rw [hgd] at h; exact h
     have hLd : ∀ W, Below wb.heap.size wb W → ∀ t : Nat, Calls Tryz.prog 47 #[.agg #[.int .i64 pa, .int .i64 re, .bool rs, .slice (some ⟨B, 0, none⟩) n cap], .slice a G c, .int .i64 (t : Int)] W fun e w' => e = .returned (.int .i64 (lds cur gone t : Nat)) ∧ Below W.heap.size W w' := fun W hW t => by
      exact leads_any cur (unhide HCk).nok pa re rs gone (by have := unhide HGi; rw [nzi_len] at this; omega) t W.heap.size _ _ W ((hbo.below hW).blsA (n := n) (unhide HCn).symm (fun k => k < W.heap.size) (fun k hk _ => hk)) ((((unhide HRo).below (hbb.trans (hW.mono hbb.size))).nums).moved fun k hk hg => ⟨hk, rfl⟩) (Nat.le_refl _)
     have HEnd := hide (show ∀ W, Below (wb.alloc (.cells #[.slice (some ⟨Bi, oi, none⟩) (p + 1) xc, .slice xna x.next.length xnc, .int .i64 x.dep] 49)).heap.size (wb.alloc (.cells #[.slice (some ⟨Bi, oi, none⟩) (p + 1) xc, .slice xna x.next.length xnc, .int .i64 x.dep] 49)) W → Below wa.heap.size wa W from fun W hW => hbb.trans ((hal.trans (hW.mono hal.size)).mono hbb.size))
     have HLt := hide (show bn + 1 ≤ n from hlt)
     have hyes : jc cur gone bn ↔ bn ∉ gone ∧ op = 193 ∧ nx0 x ≠ bn ∧ lds cur gone (nx0 x) = 1 := by unfold jc; rw [← hx, ← hop]
     have hnost : ¬ jc cur gone bn → ∀ b, b < bn + 1 → ¬ jc cur gone b := fun h b hb => by
      rcases Nat.lt_or_ge b bn with h1 | h1
      ·exact hno b h1
      ·obtain rfl : b = bn := by omega
       exact h
     have HYs := hide hyes; have HNs := hide hnost; have HNm := hide hnm; have HHs := hide hHas; have HLds := hide hLd; have HAl := hide hal; have HXnn := hide hxnn; have HXm := hide hxm; have HOp := hide hop; have HXl := hide hxl
     have HQ0 := hide q0; have HYr := hide hyr; have HE0 := hide e0; have HBol := hide hbol
     clear hyes hnost hnm hHas hLd hal hxnn hxm hop hxin hbo hxl hbL hbc hx hxi hob hgd hSs hlx hno hbb q0 hyr hBi hen hp hbol hlp
     go_upto_region 8 with fail
     obtain ⟨Y, hYe⟩ : ∃ Y, Y = wb.alloc (.cells #[.slice (some ⟨Bi, oi, none⟩) (p + 1) xc, .slice xna x.next.length xnc, .int .i64 x.dep] 49) := ⟨_, rfl⟩
     rw [← hYe] at HAl HYr HEnd
     rw [← hYe]
     clear hYe x0 x1 x2
     have hyr := unhide HYr
     obtain ⟨y0, y1, y2⟩ : Y.cell? ⟨wb.heap.size, 0, none⟩ = some (.slice (some ⟨Bi, oi, none⟩) (p + 1) xc) ∧ Y.cell? ⟨wb.heap.size, 1, none⟩ = some (.slice xna x.next.length xnc) ∧ Y.cell? ⟨wb.heap.size, 2, none⟩ = some (.int .i64 x.dep) := ⟨by rw [cell_of_row Y _ 0 _ _ _ hyr]; rfl, by rw [cell_of_row Y _ 1 _ _ _ hyr]; rfl, by rw [cell_of_row Y _ 2 _ _ _ hyr]; rfl⟩
     clear hyr
     have hE8 := ((unhide HAl).cell (p := ⟨Bi, oi + p * 5, none⟩) (block_lt_of_cell (unhide HE0))).trans (unhide HE0)
     have hpo : ∀ wx, Below Y.heap.size Y wx → wx.cell? ⟨wb.heap.size, 0, none⟩ = some (.slice (some ⟨Bi, oi, none⟩) (p + 1) xc) ∧ wx.cell? ⟨Bi, oi + p * 5, none⟩ = some (.int .u8 (op : Int)) := fun wx h6 => ⟨(h6.cell (p := ⟨wb.heap.size, 0, none⟩) (block_lt_of_cell y0)).trans y0, (h6.cell (p := ⟨Bi, oi + p * 5, none⟩) (block_lt_of_cell hE8)).trans hE8⟩
     have HHas0 := hide (fun W (h : Below Y.heap.size Y W) => unhide HHs W ((unhide HAl).trans (h.mono (unhide HAl).size)))
     have HPo1 := hide hpo
     have HE8 := hide hE8
     have HY1 := hide y1
     clear hpo hE8 HHs HE0 HYr y0 y1 y2 c0 c1 c2 c3 cf cl hla
     by_cases hg : bn ∈ gone
     ·have HNo := hide (unhide HNs fun h => ((unhide HYs).1 h).1 hg)
      have HHas : Hid (∀ W, Below Y.heap.size Y W → Calls Tryz.prog 37 #[.slice a G c, .int .i64 (bn : Int)] W fun e w' => e = .returned (.bool true) ∧ w' = W) := hide (by have h := unhide HHas0; rw [decide_eq_true hg] at h; exact h)
      have HPo := HPo1
      clear HHas0 hg hj
      have HKd := hide (unhide HPo Y.drew (bdrew (Below.refl _ _)))
      refine wp_region_held_drew (S := fun wx => wx.cell? ⟨wb.heap.size, 0, none⟩ = some (.slice (some ⟨Bi, oi, none⟩) (p + 1) xc) ∧ wx.cell? ⟨Bi, oi + p * 5, none⟩ = some (.int .u8 (op : Int))) (by kernel_rfl) (unhide HKd) (fun _ => ?_)
      refine tk 0 ?vtwA0 rfl ?ytwA0 (unhide HKd) ?_
      case ytwA0 => intro w hSw; obtain ⟨s0, s1⟩ := hSw; go_simp; first | done | rfl | assumption
      simp only [tq1, tq2, tq3, Act.put, tq4, tq5, tq6]
      refine tk 1 ?vtwA1 rfl ?ytwA1 (unhide HKd) ?_
      case ytwA1 => intro w hSw; obtain ⟨s0, s1⟩ := hSw; go_simp; first | done | rfl | assumption
      simp only [tq1, tq2, tq3, Act.put, tq4, tq5, tq6]
      refine wpAnyH_ready (rs := [2]) (by kernel_rfl) (by simp) ?_
      refine AllReadyH.cons rfl (fun K hK => ?_) AllReadyH.nil
      go_simp
      go_at_call 37
      refine (unhide HHas Y.drew (bdrew (Below.refl _ _))).mono ?_
      rintro e w5 ⟨rfl, hw5⟩
      have hw6 := hw5.symm
      clear hw5
      subst hw6
      go_wp2_with fail
      refine hK.out _ _ (unhide HKd) (fun _ => ?_)
      clear hK
      refine tk 3 ?vtwA3 rfl ?ytwA3 (unhide HKd) ?_
      case ytwA3 => intro w hSw; go_simp; first | done | rfl | assumption
      simp only [tq1, tq2, tq3, Act.put, tq4, tq5, tq6]
      refine tk 4 ?vtwA4 rfl ?ytwA4 (unhide HKd) ?_
      case ytwA4 => intro w hSw; go_simp; first | done | rfl | assumption
      simp only [tq1, tq2, tq3, Act.put, tq4, tq5, tq6]
      refine sk 5 rfl (unhide HKd) ?_
      simp only [tq1, tq2, tq3, Act.put, tq4, tq5, tq6]
      refine sk 6 rfl (unhide HKd) ?_
      simp only [tq1, tq2, tq3, Act.put, tq4, tq5, tq6]
      refine sk 7 rfl (unhide HKd) ?_
      simp only [tq1, tq2, tq3, Act.put, tq4, tq5, tq6]
      refine sk 8 rfl (unhide HKd) ?_
      simp only [tq1, tq2, tq3, Act.put, tq4, tq5, tq6]
      refine sk 9 rfl (unhide HKd) ?_
      simp only [tq1, tq2, tq3, Act.put, tq4, tq5, tq6]
      refine sk 10 rfl (unhide HKd) ?_
      simp only [tq1, tq2, tq3, Act.put, tq4, tq5, tq6]
      refine sk 11 rfl (unhide HKd) ?_
      simp only [tq1, tq2, tq3, Act.put, tq4, tq5, tq6]
      refine sk 12 rfl (unhide HKd) ?_
      simp only [tq1, tq2, tq3, Act.put, tq4, tq5, tq6]
      refine sk 13 rfl (unhide HKd) ?_
      simp only [tq1, tq2, tq3, Act.put, tq4, tq5, tq6]
      refine sk 14 rfl (unhide HKd) ?_
      simp only [tq1, tq2, tq3, Act.put, tq4, tq5, tq6]
      refine sk 15 rfl (unhide HKd) ?_
      simp only [tq1, tq2, tq3, Act.put, tq4, tq5, tq6]
      refine tk 16 ?vtwA16 rfl ?ytwA16 (unhide HKd) ?_
      case ytwA16 => intro w hSw; go_simp; first | done | rfl | assumption
      simp only [tq1, tq2, tq3, Act.put, tq4, tq5, tq6]
      refine tk 17 ?vtwA17 rfl ?ytwA17 (unhide HKd) ?_
      case ytwA17 => intro w hSw; go_simp; first | done | rfl | assumption
      simp only [tq1, tq2, tq3, Act.put, tq4, tq5, tq6]
      refine sk 18 rfl (unhide HKd) ?_
      simp only [tq1, tq2, tq3, Act.put, tq4, tq5, tq6]
      refine sk 19 rfl (unhide HKd) ?_
      simp only [tq1, tq2, tq3, Act.put, tq4, tq5, tq6]
      refine sk 20 rfl (unhide HKd) ?_
      simp only [tq1, tq2, tq3, Act.put, tq4, tq5, tq6]
      refine sk 21 rfl (unhide HKd) ?_
      simp only [tq1, tq2, tq3, Act.put, tq4, tq5, tq6]
      refine sk 22 rfl (unhide HKd) ?_
      simp only [tq1, tq2, tq3, Act.put, tq4, tq5, tq6]
      refine sk 23 rfl (unhide HKd) ?_
      simp only [tq1, tq2, tq3, Act.put, tq4, tq5, tq6]
      refine tk 24 ?vtwA24 rfl ?ytwA24 (unhide HKd) ?_
      case ytwA24 => intro w hSw; go_simp; first | done | rfl | assumption
      simp only [tq1, tq2, tq3, Act.put, tq4, tq5, tq6]
      refine tk 25 ?vtwA25 rfl ?ytwA25 (unhide HKd) ?_
      case ytwA25 => intro w hSw; go_simp; first | done | rfl | assumption
      simp only [tq1, tq2, tq3, Act.put, tq4, tq5, tq6]
      refine sk 26 rfl (unhide HKd) ?_
      simp only [tq1, tq2, tq3, Act.put, tq4, tq5, tq6]
      refine sk 27 rfl (unhide HKd) ?_
      simp only [tq1, tq2, tq3, Act.put, tq4, tq5, tq6]
      refine sk 28 rfl (unhide HKd) ?_
      simp only [tq1, tq2, tq3, Act.put, tq4, tq5, tq6]
      refine sk 29 rfl (unhide HKd) ?_
      simp only [tq1, tq2, tq3, Act.put, tq4, tq5, tq6]
      refine sk 30 rfl (unhide HKd) ?_
      simp only [tq1, tq2, tq3, Act.put, tq4, tq5, tq6]
      refine sk 31 rfl (unhide HKd) ?_
      simp only [tq1, tq2, tq3, Act.put, tq4, tq5, tq6]
      refine sk 32 rfl (unhide HKd) ?_
      simp only [tq1, tq2, tq3, Act.put, tq4, tq5, tq6]
      refine sk 33 rfl (unhide HKd) ?_
      simp only [tq1, tq2, tq3, Act.put, tq4, tq5, tq6]
      refine tk 34 ?vtwA34 rfl ?ytwA34 (unhide HKd) ?_
      case ytwA34 => intro w hSw; go_simp; first | done | rfl | assumption
      simp only [tq1, tq2, tq3, Act.put, tq4, tq5, tq6]
      refine wpAnyH_done (by kernel_rfl) ?_ _
      go_wp2_with fail
      go_roundw
      case rel => exact ⟨bn + 1, unhide HLt, by go_num, .inl ⟨rfl, unhide HNo⟩, unhide HEnd _ (bdrew (Below.refl _ _))⟩
      case measure => have := unhide HLt; simp [intOf]; omega
     ·have HHas : Hid (∀ W, Below Y.heap.size Y W → Calls Tryz.prog 37 #[.slice a G c, .int .i64 (bn : Int)] W fun e w' => e = .returned (.bool false) ∧ w' = W) := hide (by have h := unhide HHas0; rw [decide_eq_false hg] at h; exact h)
      clear HHas0
      by_cases ho : op = 193
      ·subst ho
       rw [decide_eq_true rfl] at hj
       have hM : x.next.length = 1 := (unhide HCk).jmp x (unhide HXm) (unhide HOp).symm
       obtain ⟨z, hz, hzl, -⟩ := (unhide HCk).nok.at_ (unhide HXl) (k := 0) (by omega)
       have hzn : nx0 x = z := by unfold Fw.nx0; rw [hz]; simp
       obtain ⟨Bn, on, hna, hBn, hnc⟩ := nums_at (unhide HXnn) (k := 0) (by omega)
       subst hna
       have n0 := hnc 0 (by omega)
       rw [hz, Nat.add_zero] at n0
       have y1 := unhide HY1
       rw [hM] at y1
       have n8 := ((unhide HAl).cell (p := ⟨Bn, on, none⟩) (block_lt_of_cell n0)).trans n0
       have hq0 := ((unhide HAl).block w.heap.size (Array.getElem?_eq_some_iff.1 (unhide HQ0)).1).trans (unhide HQ0)
       have hpo2 : ∀ wx, Below Y.heap.size Y wx → wx.cell? ⟨wb.heap.size, 0, none⟩ = some (.slice (some ⟨Bi, oi, none⟩) (p + 1) xc) ∧ wx.cell? ⟨Bi, oi + p * 5, none⟩ = some (.int .u8 ((193 : Nat) : Int)) ∧ wx.cell? ⟨wb.heap.size, 1, none⟩ = some (.slice (some ⟨Bn, on, none⟩) 1 xnc) ∧ wx.cell? ⟨Bn, on, none⟩ = some (.int .i64 (z : Int)) ∧ wx.cell? ⟨w.heap.size, 0, none⟩ = some (.int .i64 pa) ∧ wx.cell? ⟨w.heap.size, 1, none⟩ = some (.int .i64 re) ∧ wx.cell? ⟨w.heap.size, 2, none⟩ = some (.bool rs) ∧ wx.cell? ⟨w.heap.size, 3, none⟩ = some (.slice (some ⟨B, 0, none⟩) n cap) := fun wx h6 => by
        obtain ⟨k0, k1⟩ := unhide HPo1 wx h6
        obtain ⟨c0, c1, c2, c3, cf, cl⟩ := cob_cells ((h6.block w.heap.size (Array.getElem?_eq_some_iff.1 hq0).1).trans hq0)
        exact ⟨k0, k1, (h6.cell (p := ⟨wb.heap.size, 1, none⟩) (block_lt_of_cell y1)).trans y1, (h6.cell (p := ⟨Bn, on, none⟩) (block_lt_of_cell n8)).trans n8, c0, c1, c2, c3⟩
       have HPo := hide hpo2
       have hys := unhide HYs
       rw [hzn] at hys
       have HYs2 := hide hys
       clear hpo2 hq0 n8 y1 n0 hnc hBn hz hzl hzn hM hys HPo1 HY1 HXnn HXl HXm HOp HYs
       by_cases hzb : z = bn
       ·subst hzb
        have hzq : ((z : Int) == (z : Int)) = true := by simp
        have HNo := hide (unhide HNs fun h => ((unhide HYs2).1 h).2.2.1 rfl)
        clear hg
        have HKd := hide (unhide HPo Y.drew (bdrew (Below.refl _ _)))
        refine wp_region_held_drew (S := fun wx => wx.cell? ⟨wb.heap.size, 0, none⟩ = some (.slice (some ⟨Bi, oi, none⟩) (p + 1) xc) ∧ wx.cell? ⟨Bi, oi + p * 5, none⟩ = some (.int .u8 ((193 : Nat) : Int)) ∧ wx.cell? ⟨wb.heap.size, 1, none⟩ = some (.slice (some ⟨Bn, on, none⟩) 1 xnc) ∧ wx.cell? ⟨Bn, on, none⟩ = some (.int .i64 (z : Int)) ∧ wx.cell? ⟨w.heap.size, 0, none⟩ = some (.int .i64 pa) ∧ wx.cell? ⟨w.heap.size, 1, none⟩ = some (.int .i64 re) ∧ wx.cell? ⟨w.heap.size, 2, none⟩ = some (.bool rs) ∧ wx.cell? ⟨w.heap.size, 3, none⟩ = some (.slice (some ⟨B, 0, none⟩) n cap)) (by kernel_rfl) (unhide HKd) (fun _ => ?_)
        refine tk 0 ?vtwC0 rfl ?ytwC0 (unhide HKd) ?_
        case ytwC0 => intro w hSw; obtain ⟨s0, s1, s2, s3, s4, s5, s6, s7⟩ := hSw; go_simp; first | done | rfl | assumption
        simp only [tq1, tq2, tq3, Act.put, tq4, tq5, tq6]
        refine tk 1 ?vtwC1 rfl ?ytwC1 (unhide HKd) ?_
        case ytwC1 => intro w hSw; obtain ⟨s0, s1, s2, s3, s4, s5, s6, s7⟩ := hSw; go_simp; first | done | rfl | assumption
        simp only [tq1, tq2, tq3, Act.put, tq4, tq5, tq6]
        refine wpAnyH_ready (rs := [2]) (by kernel_rfl) (by simp) ?_
        refine AllReadyH.cons rfl (fun K hK => ?_) AllReadyH.nil
        go_simp
        go_at_call 37
        refine (unhide HHas Y.drew (bdrew (Below.refl _ _))).mono ?_
        rintro e w5 ⟨rfl, hw5⟩
        have hw6 := hw5.symm
        clear hw5
        subst hw6
        go_wp2_with fail
        refine hK.out _ _ (unhide HKd) (fun _ => ?_)
        clear hK
        refine tk 3 ?vtwC3 rfl ?ytwC3 (unhide HKd) ?_
        case ytwC3 => intro w hSw; obtain ⟨s0, s1, s2, s3, s4, s5, s6, s7⟩ := hSw; go_simp; first | done | rfl | assumption
        simp only [tq1, tq2, tq3, Act.put, tq4, tq5, tq6]
        refine tk 4 ?vtwC4 rfl ?ytwC4 (unhide HKd) ?_
        case ytwC4 => intro w hSw; obtain ⟨s0, s1, s2, s3, s4, s5, s6, s7⟩ := hSw; go_simp; first | done | rfl | assumption
        simp only [tq1, tq2, tq3, Act.put, tq4, tq5, tq6]
        refine tk 5 ?vtwC5 rfl ?ytwC5 (unhide HKd) ?_
        case ytwC5 => intro w hSw; obtain ⟨s0, s1, s2, s3, s4, s5, s6, s7⟩ := hSw; go_simp; first | done | rfl | assumption
        simp only [tq1, tq2, tq3, Act.put, tq4, tq5, tq6]
        refine tk 6 ?vtwC6 rfl ?ytwC6 (unhide HKd) ?_
        case ytwC6 => intro w hSw; obtain ⟨s0, s1, s2, s3, s4, s5, s6, s7⟩ := hSw; go_simp; first | done | rfl | assumption
        simp only [tq1, tq2, tq3, Act.put, tq4, tq5, tq6]
        refine tk 7 ?vtwC7 rfl ?ytwC7 (unhide HKd) ?_
        case ytwC7 => intro w hSw; obtain ⟨s0, s1, s2, s3, s4, s5, s6, s7⟩ := hSw; go_simp; first | done | rfl | assumption
        simp only [tq1, tq2, tq3, Act.put, tq4, tq5, tq6]
        refine tk 8 ?vtwC8 rfl ?ytwC8 (unhide HKd) ?_
        case ytwC8 => intro w hSw; obtain ⟨s0, s1, s2, s3, s4, s5, s6, s7⟩ := hSw; go_simp; first | done | rfl | assumption
        simp only [tq1, tq2, tq3, Act.put, tq4, tq5, tq6]
        refine tk 9 ?vtwC9 rfl ?ytwC9 (unhide HKd) ?_
        case ytwC9 => intro w hSw; obtain ⟨s0, s1, s2, s3, s4, s5, s6, s7⟩ := hSw; go_simp; first | done | rfl | assumption
        simp only [tq1, tq2, tq3, Act.put, tq4, tq5, tq6]
        refine tk 10 ?vtwC10 rfl ?ytwC10 (unhide HKd) ?_
        case ytwC10 => intro w hSw; obtain ⟨s0, s1, s2, s3, s4, s5, s6, s7⟩ := hSw; go_simp; first | done | rfl | assumption
        simp only [tq1, tq2, tq3, Act.put, tq4, tq5, tq6]
        refine tk 11 ?vtwC11 rfl ?ytwC11 (unhide HKd) ?_
        case ytwC11 => intro w hSw; obtain ⟨s0, s1, s2, s3, s4, s5, s6, s7⟩ := hSw; go_simp; first | done | rfl | assumption
        simp only [tq1, tq2, tq3, Act.put, tq4, tq5, tq6]
        refine tk 12 ?vtwC12 rfl ?ytwC12 (unhide HKd) ?_
        case ytwC12 => intro w hSw; obtain ⟨s0, s1, s2, s3, s4, s5, s6, s7⟩ := hSw; go_simp; first | done | rfl | assumption
        simp only [tq1, tq2, tq3, Act.put, tq4, tq5, tq6]
        refine tk 13 ?vtwC13 rfl ?ytwC13 (unhide HKd) ?_
        case ytwC13 => intro w hSw; obtain ⟨s0, s1, s2, s3, s4, s5, s6, s7⟩ := hSw; go_simp; first | done | rfl | assumption
        simp only [tq1, tq2, tq3, Act.put, tq4, tq5, tq6]
        refine wpAnyH_ready (rs := [14]) (by kernel_rfl) (by simp) ?_
        refine AllReadyH.cons rfl (fun K hK => ?_) AllReadyH.nil
        go_simp
        go_at_call 35
        refine (unhide HNm Y.drew).mono ?_
        rintro e w6 ⟨rfl, h6⟩
        have hb6 : Below Y.heap.size Y w6 := (bdrew (Below.refl Y.heap.size Y)).trans h6
        have HK6 := hide (unhide HPo w6 hb6)
        have HB6 := hide hb6
        clear hb6 h6
        go_wp2_with fail
        refine hK.out _ _ (unhide HK6) (fun _ => ?_)
        clear hK
        refine tk 15 (.bool true) rfl ?ytwC15 (unhide HK6) ?_
        case ytwC15 => intro w hSw; go_simp; first | done | rfl | assumption
        simp only [tq1, tq2, tq3, Act.put, tq4, tq5, tq6]
        refine tk 16 ?vtwC16 rfl ?ytwC16 (unhide HK6) ?_
        case ytwC16 => intro w hSw; go_simp; first | done | rfl | assumption
        simp only [tq1, tq2, tq3, Act.put, tq4, tq5, tq6]
        refine tk 17 ?vtwC17 rfl ?ytwC17 (unhide HK6) ?_
        case ytwC17 => intro w hSw; go_simp; first | done | rfl | assumption
        simp only [tq1, tq2, tq3, Act.put, tq4, tq5, tq6]
        refine tk 18 ?vtwC18 rfl ?ytwC18 (unhide HK6) ?_
        case ytwC18 => intro w hSw; obtain ⟨s0, s1, s2, s3, s4, s5, s6, s7⟩ := hSw; go_simp; first | done | rfl | assumption
        simp only [tq1, tq2, tq3, Act.put, tq4, tq5, tq6]
        refine tk 19 ?vtwC19 rfl ?ytwC19 (unhide HK6) ?_
        case ytwC19 => intro w hSw; obtain ⟨s0, s1, s2, s3, s4, s5, s6, s7⟩ := hSw; go_simp; first | done | rfl | assumption
        simp only [tq1, tq2, tq3, Act.put, tq4, tq5, tq6]
        refine tk 20 ?vtwC20 rfl ?ytwC20 (unhide HK6) ?_
        case ytwC20 => intro w hSw; obtain ⟨s0, s1, s2, s3, s4, s5, s6, s7⟩ := hSw; go_simp; first | done | rfl | assumption
        simp only [tq1, tq2, tq3, Act.put, tq4, tq5, tq6]
        refine tk 21 ?vtwC21 rfl ?ytwC21 (unhide HK6) ?_
        case ytwC21 => intro w hSw; obtain ⟨s0, s1, s2, s3, s4, s5, s6, s7⟩ := hSw; go_simp; first | done | rfl | assumption
        simp only [tq1, tq2, tq3, Act.put, tq4, tq5, tq6]
        refine tk 22 ?vtwC22 rfl ?ytwC22 (unhide HK6) ?_
        case ytwC22 => intro w hSw; obtain ⟨s0, s1, s2, s3, s4, s5, s6, s7⟩ := hSw; go_simp; first | done | rfl | assumption
        simp only [tq1, tq2, tq3, Act.put, tq4, tq5, tq6]
        refine tk 23 (.bool false) rfl ?ytwC23 (unhide HK6) ?_
        case ytwC23 => intro w hSw; go_simp; first | done | rfl | assumption
        simp only [tq1, tq2, tq3, Act.put, tq4, tq5, tq6]
        refine tk 24 ?vtwC24 rfl ?ytwC24 (unhide HK6) ?_
        case ytwC24 => intro w hSw; go_simp; first | done | rfl | assumption
        simp only [tq1, tq2, tq3, Act.put, tq4, tq5, tq6]
        refine tk 25 ?vtwC25 rfl ?ytwC25 (unhide HK6) ?_
        case ytwC25 => intro w hSw; go_simp; first | done | rfl | assumption
        simp only [tq1, tq2, tq3, Act.put, tq4, tq5, tq6]
        refine sk 26 rfl (unhide HK6) ?_
        simp only [tq1, tq2, tq3, Act.put, tq4, tq5, tq6]
        refine sk 27 rfl (unhide HK6) ?_
        simp only [tq1, tq2, tq3, Act.put, tq4, tq5, tq6]
        refine sk 28 rfl (unhide HK6) ?_
        simp only [tq1, tq2, tq3, Act.put, tq4, tq5, tq6]
        refine sk 29 rfl (unhide HK6) ?_
        simp only [tq1, tq2, tq3, Act.put, tq4, tq5, tq6]
        refine sk 30 rfl (unhide HK6) ?_
        simp only [tq1, tq2, tq3, Act.put, tq4, tq5, tq6]
        refine sk 31 rfl (unhide HK6) ?_
        simp only [tq1, tq2, tq3, Act.put, tq4, tq5, tq6]
        refine sk 32 rfl (unhide HK6) ?_
        simp only [tq1, tq2, tq3, Act.put, tq4, tq5, tq6]
        refine sk 33 rfl (unhide HK6) ?_
        simp only [tq1, tq2, tq3, Act.put, tq4, tq5, tq6]
        refine tk 34 ?vtwC34 rfl ?ytwC34 (unhide HK6) ?_
        case ytwC34 => intro w hSw; go_simp; first | done | rfl | assumption
        simp only [tq1, tq2, tq3, Act.put, tq4, tq5, tq6]
        refine wpAnyH_done (by kernel_rfl) ?_ _
        go_wp2_with fail
        go_roundw
        case rel => exact ⟨z + 1, unhide HLt, by go_num, .inl ⟨rfl, unhide HNo⟩, unhide HEnd _ (unhide HB6)⟩
        case measure => have := unhide HLt; simp [intOf]; omega
       ·have hzq : ((z : Int) == (bn : Int)) = false := by simp only [beq_eq_false_iff_ne, ne_eq]; omega
        have hzi : ¬ (z : Int) = (bn : Int) := by omega
        obtain ⟨r, hr⟩ : ∃ r, r = lds cur gone z := ⟨_, rfl⟩
        have hld := fun W (h : Below Y.heap.size Y W) => unhide HLds W ((unhide HAl).trans (h.mono (unhide HAl).size)) z
        rw [← hr] at hld
        have HLd := hide hld
        clear hld
        by_cases hr1 : r = 1
        ·have HYes := hide ((unhide HYs2).2 ⟨hg, rfl, hzb, by rw [← hr]; exact hr1⟩)
         subst hr1
         clear hr hzb hg
         have HKd := hide (unhide HPo Y.drew (bdrew (Below.refl _ _)))
         refine wp_region_held_drew (S := fun wx => wx.cell? ⟨wb.heap.size, 0, none⟩ = some (.slice (some ⟨Bi, oi, none⟩) (p + 1) xc) ∧ wx.cell? ⟨Bi, oi + p * 5, none⟩ = some (.int .u8 ((193 : Nat) : Int)) ∧ wx.cell? ⟨wb.heap.size, 1, none⟩ = some (.slice (some ⟨Bn, on, none⟩) 1 xnc) ∧ wx.cell? ⟨Bn, on, none⟩ = some (.int .i64 (z : Int)) ∧ wx.cell? ⟨w.heap.size, 0, none⟩ = some (.int .i64 pa) ∧ wx.cell? ⟨w.heap.size, 1, none⟩ = some (.int .i64 re) ∧ wx.cell? ⟨w.heap.size, 2, none⟩ = some (.bool rs) ∧ wx.cell? ⟨w.heap.size, 3, none⟩ = some (.slice (some ⟨B, 0, none⟩) n cap)) (by kernel_rfl) (unhide HKd) (fun _ => ?_)
         refine tk 0 ?vtwE0 rfl ?ytwE0 (unhide HKd) ?_
         case ytwE0 => intro w hSw; obtain ⟨s0, s1, s2, s3, s4, s5, s6, s7⟩ := hSw; go_simp; first | done | rfl | assumption
         simp only [tq1, tq2, tq3, Act.put, tq4, tq5, tq6]
         refine tk 1 ?vtwE1 rfl ?ytwE1 (unhide HKd) ?_
         case ytwE1 => intro w hSw; obtain ⟨s0, s1, s2, s3, s4, s5, s6, s7⟩ := hSw; go_simp; first | done | rfl | assumption
         simp only [tq1, tq2, tq3, Act.put, tq4, tq5, tq6]
         refine wpAnyH_ready (rs := [2]) (by kernel_rfl) (by simp) ?_
         refine AllReadyH.cons rfl (fun K hK => ?_) AllReadyH.nil
         go_simp
         go_at_call 37
         refine (unhide HHas Y.drew (bdrew (Below.refl _ _))).mono ?_
         rintro e w5 ⟨rfl, hw5⟩
         have hw6 := hw5.symm
         clear hw5
         subst hw6
         go_wp2_with fail
         refine hK.out _ _ (unhide HKd) (fun _ => ?_)
         clear hK
         refine tk 3 ?vtwE3 rfl ?ytwE3 (unhide HKd) ?_
         case ytwE3 => intro w hSw; obtain ⟨s0, s1, s2, s3, s4, s5, s6, s7⟩ := hSw; go_simp; first | done | rfl | assumption
         simp only [tq1, tq2, tq3, Act.put, tq4, tq5, tq6]
         refine tk 4 ?vtwE4 rfl ?ytwE4 (unhide HKd) ?_
         case ytwE4 => intro w hSw; obtain ⟨s0, s1, s2, s3, s4, s5, s6, s7⟩ := hSw; go_simp; first | done | rfl | assumption
         simp only [tq1, tq2, tq3, Act.put, tq4, tq5, tq6]
         refine tk 5 ?vtwE5 rfl ?ytwE5 (unhide HKd) ?_
         case ytwE5 => intro w hSw; obtain ⟨s0, s1, s2, s3, s4, s5, s6, s7⟩ := hSw; go_simp; first | done | rfl | assumption
         simp only [tq1, tq2, tq3, Act.put, tq4, tq5, tq6]
         refine tk 6 ?vtwE6 rfl ?ytwE6 (unhide HKd) ?_
         case ytwE6 => intro w hSw; obtain ⟨s0, s1, s2, s3, s4, s5, s6, s7⟩ := hSw; go_simp; first | done | rfl | assumption
         simp only [tq1, tq2, tq3, Act.put, tq4, tq5, tq6]
         refine tk 7 ?vtwE7 rfl ?ytwE7 (unhide HKd) ?_
         case ytwE7 => intro w hSw; obtain ⟨s0, s1, s2, s3, s4, s5, s6, s7⟩ := hSw; go_simp; first | done | rfl | assumption
         simp only [tq1, tq2, tq3, Act.put, tq4, tq5, tq6]
         refine tk 8 ?vtwE8 rfl ?ytwE8 (unhide HKd) ?_
         case ytwE8 => intro w hSw; obtain ⟨s0, s1, s2, s3, s4, s5, s6, s7⟩ := hSw; go_simp; first | done | rfl | assumption
         simp only [tq1, tq2, tq3, Act.put, tq4, tq5, tq6]
         refine tk 9 ?vtwE9 rfl ?ytwE9 (unhide HKd) ?_
         case ytwE9 => intro w hSw; obtain ⟨s0, s1, s2, s3, s4, s5, s6, s7⟩ := hSw; go_simp; first | done | rfl | assumption
         simp only [tq1, tq2, tq3, Act.put, tq4, tq5, tq6]
         refine tk 10 ?vtwE10 rfl ?ytwE10 (unhide HKd) ?_
         case ytwE10 => intro w hSw; obtain ⟨s0, s1, s2, s3, s4, s5, s6, s7⟩ := hSw; go_simp; first | done | rfl | assumption
         simp only [tq1, tq2, tq3, Act.put, tq4, tq5, tq6]
         refine tk 11 ?vtwE11 rfl ?ytwE11 (unhide HKd) ?_
         case ytwE11 => intro w hSw; obtain ⟨s0, s1, s2, s3, s4, s5, s6, s7⟩ := hSw; go_simp; first | done | rfl | assumption
         simp only [tq1, tq2, tq3, Act.put, tq4, tq5, tq6]
         refine tk 12 ?vtwE12 rfl ?ytwE12 (unhide HKd) ?_
         case ytwE12 => intro w hSw; obtain ⟨s0, s1, s2, s3, s4, s5, s6, s7⟩ := hSw; go_simp; first | done | rfl | assumption
         simp only [tq1, tq2, tq3, Act.put, tq4, tq5, tq6]
         refine tk 13 ?vtwE13 rfl ?ytwE13 (unhide HKd) ?_
         case ytwE13 => intro w hSw; obtain ⟨s0, s1, s2, s3, s4, s5, s6, s7⟩ := hSw; go_simp; first | done | rfl | assumption
         simp only [tq1, tq2, tq3, Act.put, tq4, tq5, tq6]
         refine wpAnyH_ready (rs := [14]) (by kernel_rfl) (by simp) ?_
         refine AllReadyH.cons rfl (fun K hK => ?_) AllReadyH.nil
         go_simp
         go_at_call 35
         refine (unhide HNm Y.drew).mono ?_
         rintro e w6 ⟨rfl, h6⟩
         have hb6 : Below Y.heap.size Y w6 := (bdrew (Below.refl Y.heap.size Y)).trans h6
         have HK6 := hide (unhide HPo w6 hb6)
         have HB6 := hide hb6
         clear hb6 h6
         go_wp2_with fail
         refine hK.out _ _ (unhide HK6) (fun _ => ?_)
         clear hK
         refine tk 15 (.bool true) rfl ?ytwE15 (unhide HK6) ?_
         case ytwE15 => intro w hSw; go_simp; first | done | rfl | assumption
         simp only [tq1, tq2, tq3, Act.put, tq4, tq5, tq6]
         refine tk 16 ?vtwE16 rfl ?ytwE16 (unhide HK6) ?_
         case ytwE16 => intro w hSw; go_simp; first | done | rfl | assumption
         simp only [tq1, tq2, tq3, Act.put, tq4, tq5, tq6]
         refine tk 17 ?vtwE17 rfl ?ytwE17 (unhide HK6) ?_
         case ytwE17 => intro w hSw; go_simp; first | done | rfl | assumption
         simp only [tq1, tq2, tq3, Act.put, tq4, tq5, tq6]
         refine tk 18 ?vtwE18 rfl ?ytwE18 (unhide HK6) ?_
         case ytwE18 => intro w hSw; obtain ⟨s0, s1, s2, s3, s4, s5, s6, s7⟩ := hSw; go_simp; first | done | rfl | assumption
         simp only [tq1, tq2, tq3, Act.put, tq4, tq5, tq6]
         refine tk 19 ?vtwE19 rfl ?ytwE19 (unhide HK6) ?_
         case ytwE19 => intro w hSw; obtain ⟨s0, s1, s2, s3, s4, s5, s6, s7⟩ := hSw; go_simp; first | done | rfl | assumption
         simp only [tq1, tq2, tq3, Act.put, tq4, tq5, tq6]
         refine tk 20 ?vtwE20 rfl ?ytwE20 (unhide HK6) ?_
         case ytwE20 => intro w hSw; obtain ⟨s0, s1, s2, s3, s4, s5, s6, s7⟩ := hSw; go_simp; first | done | rfl | assumption
         simp only [tq1, tq2, tq3, Act.put, tq4, tq5, tq6]
         refine tk 21 ?vtwE21 rfl ?ytwE21 (unhide HK6) ?_
         case ytwE21 => intro w hSw; obtain ⟨s0, s1, s2, s3, s4, s5, s6, s7⟩ := hSw; go_simp; first | done | rfl | assumption
         simp only [tq1, tq2, tq3, Act.put, tq4, tq5, tq6]
         refine tk 22 ?vtwE22 rfl ?ytwE22 (unhide HK6) ?_
         case ytwE22 => intro w hSw; obtain ⟨s0, s1, s2, s3, s4, s5, s6, s7⟩ := hSw; go_simp; first | done | rfl | assumption
         simp only [tq1, tq2, tq3, Act.put, tq4, tq5, tq6]
         refine tk 23 (.bool true) rfl ?ytwE23 (unhide HK6) ?_
         case ytwE23 => intro w hSw; go_simp; first | done | rfl | assumption
         simp only [tq1, tq2, tq3, Act.put, tq4, tq5, tq6]
         refine tk 24 ?vtwE24 rfl ?ytwE24 (unhide HK6) ?_
         case ytwE24 => intro w hSw; go_simp; first | done | rfl | assumption
         simp only [tq1, tq2, tq3, Act.put, tq4, tq5, tq6]
         refine tk 25 ?vtwE25 rfl ?ytwE25 (unhide HK6) ?_
         case ytwE25 => intro w hSw; go_simp; first | done | rfl | assumption
         simp only [tq1, tq2, tq3, Act.put, tq4, tq5, tq6]
         refine tk 26 ?vtwE26 rfl ?ytwE26 (unhide HK6) ?_
         case ytwE26 => intro w hSw; obtain ⟨s0, s1, s2, s3, s4, s5, s6, s7⟩ := hSw; go_simp; first | done | rfl | assumption
         simp only [tq1, tq2, tq3, Act.put, tq4, tq5, tq6]
         refine tk 27 ?vtwE27 rfl ?ytwE27 (unhide HK6) ?_
         case ytwE27 => intro w hSw; obtain ⟨s0, s1, s2, s3, s4, s5, s6, s7⟩ := hSw; go_simp; first | done | rfl | assumption
         simp only [tq1, tq2, tq3, Act.put, tq4, tq5, tq6]
         refine tk 28 ?vtwE28 rfl ?ytwE28 (unhide HK6) ?_
         case ytwE28 => intro w hSw; obtain ⟨s0, s1, s2, s3, s4, s5, s6, s7⟩ := hSw; go_simp; first | done | rfl | assumption
         simp only [tq1, tq2, tq3, Act.put, tq4, tq5, tq6]
         refine tk 29 ?vtwE29 rfl ?ytwE29 (unhide HK6) ?_
         case ytwE29 => intro w hSw; obtain ⟨s0, s1, s2, s3, s4, s5, s6, s7⟩ := hSw; go_simp; first | done | rfl | assumption
         simp only [tq1, tq2, tq3, Act.put, tq4, tq5, tq6]
         refine tk 30 ?vtwE30 rfl ?ytwE30 (unhide HK6) ?_
         case ytwE30 => intro w hSw; obtain ⟨s0, s1, s2, s3, s4, s5, s6, s7⟩ := hSw; go_simp; first | done | rfl | assumption
         simp only [tq1, tq2, tq3, Act.put, tq4, tq5, tq6]
         refine tk 31 ?vtwE31 rfl ?ytwE31 (unhide HK6) ?_
         case ytwE31 => intro w hSw; obtain ⟨s0, s1, s2, s3, s4, s5, s6, s7⟩ := hSw; go_simp; first | done | rfl | assumption
         simp only [tq1, tq2, tq3, Act.put, tq4, tq5, tq6]
         refine wpAnyH_ready (rs := [32]) (by kernel_rfl) (by simp) ?_
         refine AllReadyH.cons rfl (fun K hK => ?_) AllReadyH.nil
         go_simp
         go_at_call 47
         refine (unhide HLd w6 (unhide HB6)).mono ?_
         rintro e w7 ⟨rfl, h7⟩
         have hb7 : Below Y.heap.size Y w7 := (unhide HB6).trans (h7.mono (unhide HB6).size)
         have HK7 := hide (unhide HPo w7 hb7)
         have HB7 := hide hb7
         clear hb7 h7
         go_wp2_with fail
         refine hK.out _ _ (unhide HK7) (fun _ => ?_)
         clear hK
         refine tk 33 (.bool true) rfl ?ytwE33 (unhide HK7) ?_
         case ytwE33 => intro w hSw; go_simp; first | done | rfl | assumption
         simp only [tq1, tq2, tq3, Act.put, tq4, tq5, tq6]
         refine tk 34 ?vtwE34 rfl ?ytwE34 (unhide HK7) ?_
         case ytwE34 => intro w hSw; go_simp; first | done | rfl | assumption
         simp only [tq1, tq2, tq3, Act.put, tq4, tq5, tq6]
         refine wpAnyH_done (by kernel_rfl) ?_ _
         go_wp2_with fail
         go_roundw
         case rel => exact ⟨bn + 1, unhide HLt, by go_num, .inr ⟨bn, unhide HLt, rfl, unhide HYes⟩, unhide HEnd _ (unhide HB7)⟩
         case measure => have := unhide HLt; simp [intOf]; omega
        ·have HNo := hide (unhide HNs fun h => hr1 (by rw [hr]; exact ((unhide HYs2).1 h).2.2.2))
         have hrb : ((r : Int) == 1) = false := by simp only [beq_eq_false_iff_ne, ne_eq]; omega
         clear hr hzb hg hr1
         have HKd := hide (unhide HPo Y.drew (bdrew (Below.refl _ _)))
         refine wp_region_held_drew (S := fun wx => wx.cell? ⟨wb.heap.size, 0, none⟩ = some (.slice (some ⟨Bi, oi, none⟩) (p + 1) xc) ∧ wx.cell? ⟨Bi, oi + p * 5, none⟩ = some (.int .u8 ((193 : Nat) : Int)) ∧ wx.cell? ⟨wb.heap.size, 1, none⟩ = some (.slice (some ⟨Bn, on, none⟩) 1 xnc) ∧ wx.cell? ⟨Bn, on, none⟩ = some (.int .i64 (z : Int)) ∧ wx.cell? ⟨w.heap.size, 0, none⟩ = some (.int .i64 pa) ∧ wx.cell? ⟨w.heap.size, 1, none⟩ = some (.int .i64 re) ∧ wx.cell? ⟨w.heap.size, 2, none⟩ = some (.bool rs) ∧ wx.cell? ⟨w.heap.size, 3, none⟩ = some (.slice (some ⟨B, 0, none⟩) n cap)) (by kernel_rfl) (unhide HKd) (fun _ => ?_)
         refine tk 0 ?vtwD0 rfl ?ytwD0 (unhide HKd) ?_
         case ytwD0 => intro w hSw; obtain ⟨s0, s1, s2, s3, s4, s5, s6, s7⟩ := hSw; go_simp; first | done | rfl | assumption
         simp only [tq1, tq2, tq3, Act.put, tq4, tq5, tq6]
         refine tk 1 ?vtwD1 rfl ?ytwD1 (unhide HKd) ?_
         case ytwD1 => intro w hSw; obtain ⟨s0, s1, s2, s3, s4, s5, s6, s7⟩ := hSw; go_simp; first | done | rfl | assumption
         simp only [tq1, tq2, tq3, Act.put, tq4, tq5, tq6]
         refine wpAnyH_ready (rs := [2]) (by kernel_rfl) (by simp) ?_
         refine AllReadyH.cons rfl (fun K hK => ?_) AllReadyH.nil
         go_simp
         go_at_call 37
         refine (unhide HHas Y.drew (bdrew (Below.refl _ _))).mono ?_
         rintro e w5 ⟨rfl, hw5⟩
         have hw6 := hw5.symm
         clear hw5
         subst hw6
         go_wp2_with fail
         refine hK.out _ _ (unhide HKd) (fun _ => ?_)
         clear hK
         refine tk 3 ?vtwD3 rfl ?ytwD3 (unhide HKd) ?_
         case ytwD3 => intro w hSw; obtain ⟨s0, s1, s2, s3, s4, s5, s6, s7⟩ := hSw; go_simp; first | done | rfl | assumption
         simp only [tq1, tq2, tq3, Act.put, tq4, tq5, tq6]
         refine tk 4 ?vtwD4 rfl ?ytwD4 (unhide HKd) ?_
         case ytwD4 => intro w hSw; obtain ⟨s0, s1, s2, s3, s4, s5, s6, s7⟩ := hSw; go_simp; first | done | rfl | assumption
         simp only [tq1, tq2, tq3, Act.put, tq4, tq5, tq6]
         refine tk 5 ?vtwD5 rfl ?ytwD5 (unhide HKd) ?_
         case ytwD5 => intro w hSw; obtain ⟨s0, s1, s2, s3, s4, s5, s6, s7⟩ := hSw; go_simp; first | done | rfl | assumption
         simp only [tq1, tq2, tq3, Act.put, tq4, tq5, tq6]
         refine tk 6 ?vtwD6 rfl ?ytwD6 (unhide HKd) ?_
         case ytwD6 => intro w hSw; obtain ⟨s0, s1, s2, s3, s4, s5, s6, s7⟩ := hSw; go_simp; first | done | rfl | assumption
         simp only [tq1, tq2, tq3, Act.put, tq4, tq5, tq6]
         refine tk 7 ?vtwD7 rfl ?ytwD7 (unhide HKd) ?_
         case ytwD7 => intro w hSw; obtain ⟨s0, s1, s2, s3, s4, s5, s6, s7⟩ := hSw; go_simp; first | done | rfl | assumption
         simp only [tq1, tq2, tq3, Act.put, tq4, tq5, tq6]
         refine tk 8 ?vtwD8 rfl ?ytwD8 (unhide HKd) ?_
         case ytwD8 => intro w hSw; obtain ⟨s0, s1, s2, s3, s4, s5, s6, s7⟩ := hSw; go_simp; first | done | rfl | assumption
         simp only [tq1, tq2, tq3, Act.put, tq4, tq5, tq6]
         refine tk 9 ?vtwD9 rfl ?ytwD9 (unhide HKd) ?_
         case ytwD9 => intro w hSw; obtain ⟨s0, s1, s2, s3, s4, s5, s6, s7⟩ := hSw; go_simp; first | done | rfl | assumption
         simp only [tq1, tq2, tq3, Act.put, tq4, tq5, tq6]
         refine tk 10 ?vtwD10 rfl ?ytwD10 (unhide HKd) ?_
         case ytwD10 => intro w hSw; obtain ⟨s0, s1, s2, s3, s4, s5, s6, s7⟩ := hSw; go_simp; first | done | rfl | assumption
         simp only [tq1, tq2, tq3, Act.put, tq4, tq5, tq6]
         refine tk 11 ?vtwD11 rfl ?ytwD11 (unhide HKd) ?_
         case ytwD11 => intro w hSw; obtain ⟨s0, s1, s2, s3, s4, s5, s6, s7⟩ := hSw; go_simp; first | done | rfl | assumption
         simp only [tq1, tq2, tq3, Act.put, tq4, tq5, tq6]
         refine tk 12 ?vtwD12 rfl ?ytwD12 (unhide HKd) ?_
         case ytwD12 => intro w hSw; obtain ⟨s0, s1, s2, s3, s4, s5, s6, s7⟩ := hSw; go_simp; first | done | rfl | assumption
         simp only [tq1, tq2, tq3, Act.put, tq4, tq5, tq6]
         refine tk 13 ?vtwD13 rfl ?ytwD13 (unhide HKd) ?_
         case ytwD13 => intro w hSw; obtain ⟨s0, s1, s2, s3, s4, s5, s6, s7⟩ := hSw; go_simp; first | done | rfl | assumption
         simp only [tq1, tq2, tq3, Act.put, tq4, tq5, tq6]
         refine wpAnyH_ready (rs := [14]) (by kernel_rfl) (by simp) ?_
         refine AllReadyH.cons rfl (fun K hK => ?_) AllReadyH.nil
         go_simp
         go_at_call 35
         refine (unhide HNm Y.drew).mono ?_
         rintro e w6 ⟨rfl, h6⟩
         have hb6 : Below Y.heap.size Y w6 := (bdrew (Below.refl Y.heap.size Y)).trans h6
         have HK6 := hide (unhide HPo w6 hb6)
         have HB6 := hide hb6
         clear hb6 h6
         go_wp2_with fail
         refine hK.out _ _ (unhide HK6) (fun _ => ?_)
         clear hK
         refine tk 15 (.bool true) rfl ?ytwD15 (unhide HK6) ?_
         case ytwD15 => intro w hSw; go_simp; first | done | rfl | assumption
         simp only [tq1, tq2, tq3, Act.put, tq4, tq5, tq6]
         refine tk 16 ?vtwD16 rfl ?ytwD16 (unhide HK6) ?_
         case ytwD16 => intro w hSw; go_simp; first | done | rfl | assumption
         simp only [tq1, tq2, tq3, Act.put, tq4, tq5, tq6]
         refine tk 17 ?vtwD17 rfl ?ytwD17 (unhide HK6) ?_
         case ytwD17 => intro w hSw; go_simp; first | done | rfl | assumption
         simp only [tq1, tq2, tq3, Act.put, tq4, tq5, tq6]
         refine tk 18 ?vtwD18 rfl ?ytwD18 (unhide HK6) ?_
         case ytwD18 => intro w hSw; obtain ⟨s0, s1, s2, s3, s4, s5, s6, s7⟩ := hSw; go_simp; first | done | rfl | assumption
         simp only [tq1, tq2, tq3, Act.put, tq4, tq5, tq6]
         refine tk 19 ?vtwD19 rfl ?ytwD19 (unhide HK6) ?_
         case ytwD19 => intro w hSw; obtain ⟨s0, s1, s2, s3, s4, s5, s6, s7⟩ := hSw; go_simp; first | done | rfl | assumption
         simp only [tq1, tq2, tq3, Act.put, tq4, tq5, tq6]
         refine tk 20 ?vtwD20 rfl ?ytwD20 (unhide HK6) ?_
         case ytwD20 => intro w hSw; obtain ⟨s0, s1, s2, s3, s4, s5, s6, s7⟩ := hSw; go_simp; first | done | rfl | assumption
         simp only [tq1, tq2, tq3, Act.put, tq4, tq5, tq6]
         refine tk 21 ?vtwD21 rfl ?ytwD21 (unhide HK6) ?_
         case ytwD21 => intro w hSw; obtain ⟨s0, s1, s2, s3, s4, s5, s6, s7⟩ := hSw; go_simp; first | done | rfl | assumption
         simp only [tq1, tq2, tq3, Act.put, tq4, tq5, tq6]
         refine tk 22 ?vtwD22 rfl ?ytwD22 (unhide HK6) ?_
         case ytwD22 => intro w hSw; obtain ⟨s0, s1, s2, s3, s4, s5, s6, s7⟩ := hSw; go_simp; first | done | rfl | assumption
         simp only [tq1, tq2, tq3, Act.put, tq4, tq5, tq6]
         refine tk 23 (.bool true) rfl ?ytwD23 (unhide HK6) ?_
         case ytwD23 => intro w hSw; go_simp; first | done | rfl | assumption
         simp only [tq1, tq2, tq3, Act.put, tq4, tq5, tq6]
         refine tk 24 ?vtwD24 rfl ?ytwD24 (unhide HK6) ?_
         case ytwD24 => intro w hSw; go_simp; first | done | rfl | assumption
         simp only [tq1, tq2, tq3, Act.put, tq4, tq5, tq6]
         refine tk 25 ?vtwD25 rfl ?ytwD25 (unhide HK6) ?_
         case ytwD25 => intro w hSw; go_simp; first | done | rfl | assumption
         simp only [tq1, tq2, tq3, Act.put, tq4, tq5, tq6]
         refine tk 26 ?vtwD26 rfl ?ytwD26 (unhide HK6) ?_
         case ytwD26 => intro w hSw; obtain ⟨s0, s1, s2, s3, s4, s5, s6, s7⟩ := hSw; go_simp; first | done | rfl | assumption
         simp only [tq1, tq2, tq3, Act.put, tq4, tq5, tq6]
         refine tk 27 ?vtwD27 rfl ?ytwD27 (unhide HK6) ?_
         case ytwD27 => intro w hSw; obtain ⟨s0, s1, s2, s3, s4, s5, s6, s7⟩ := hSw; go_simp; first | done | rfl | assumption
         simp only [tq1, tq2, tq3, Act.put, tq4, tq5, tq6]
         refine tk 28 ?vtwD28 rfl ?ytwD28 (unhide HK6) ?_
         case ytwD28 => intro w hSw; obtain ⟨s0, s1, s2, s3, s4, s5, s6, s7⟩ := hSw; go_simp; first | done | rfl | assumption
         simp only [tq1, tq2, tq3, Act.put, tq4, tq5, tq6]
         refine tk 29 ?vtwD29 rfl ?ytwD29 (unhide HK6) ?_
         case ytwD29 => intro w hSw; obtain ⟨s0, s1, s2, s3, s4, s5, s6, s7⟩ := hSw; go_simp; first | done | rfl | assumption
         simp only [tq1, tq2, tq3, Act.put, tq4, tq5, tq6]
         refine tk 30 ?vtwD30 rfl ?ytwD30 (unhide HK6) ?_
         case ytwD30 => intro w hSw; obtain ⟨s0, s1, s2, s3, s4, s5, s6, s7⟩ := hSw; go_simp; first | done | rfl | assumption
         simp only [tq1, tq2, tq3, Act.put, tq4, tq5, tq6]
         refine tk 31 ?vtwD31 rfl ?ytwD31 (unhide HK6) ?_
         case ytwD31 => intro w hSw; obtain ⟨s0, s1, s2, s3, s4, s5, s6, s7⟩ := hSw; go_simp; first | done | rfl | assumption
         simp only [tq1, tq2, tq3, Act.put, tq4, tq5, tq6]
         refine wpAnyH_ready (rs := [32]) (by kernel_rfl) (by simp) ?_
         refine AllReadyH.cons rfl (fun K hK => ?_) AllReadyH.nil
         go_simp
         go_at_call 47
         refine (unhide HLd w6 (unhide HB6)).mono ?_
         rintro e w7 ⟨rfl, h7⟩
         have hb7 : Below Y.heap.size Y w7 := (unhide HB6).trans (h7.mono (unhide HB6).size)
         have HK7 := hide (unhide HPo w7 hb7)
         have HB7 := hide hb7
         clear hb7 h7
         go_wp2_with fail
         refine hK.out _ _ (unhide HK7) (fun _ => ?_)
         clear hK
         refine tk 33 (.bool false) rfl ?ytwD33 (unhide HK7) ?_
         case ytwD33 => intro w hSw; go_simp; first | done | rfl | assumption
         simp only [tq1, tq2, tq3, Act.put, tq4, tq5, tq6]
         refine tk 34 ?vtwD34 rfl ?ytwD34 (unhide HK7) ?_
         case ytwD34 => intro w hSw; go_simp; first | done | rfl | assumption
         simp only [tq1, tq2, tq3, Act.put, tq4, tq5, tq6]
         refine wpAnyH_done (by kernel_rfl) ?_ _
         go_wp2_with fail
         go_roundw
         case rel => exact ⟨bn + 1, unhide HLt, by go_num, .inl ⟨rfl, unhide HNo⟩, unhide HEnd _ (unhide HB7)⟩
         case measure => have := unhide HLt; simp [intOf]; omega
      ·rw [decide_eq_false ho] at hj
       have HNo := hide (unhide HNs fun h => ho ((unhide HYs).1 h).2.1)
       have HPo := HPo1
       clear hg ho
       have HKd := hide (unhide HPo Y.drew (bdrew (Below.refl _ _)))
       refine wp_region_held_drew (S := fun wx => wx.cell? ⟨wb.heap.size, 0, none⟩ = some (.slice (some ⟨Bi, oi, none⟩) (p + 1) xc) ∧ wx.cell? ⟨Bi, oi + p * 5, none⟩ = some (.int .u8 (op : Int))) (by kernel_rfl) (unhide HKd) (fun _ => ?_)
       refine tk 0 ?vtwB0 rfl ?ytwB0 (unhide HKd) ?_
       case ytwB0 => intro w hSw; obtain ⟨s0, s1⟩ := hSw; go_simp; first | done | rfl | assumption
       simp only [tq1, tq2, tq3, Act.put, tq4, tq5, tq6]
       refine tk 1 ?vtwB1 rfl ?ytwB1 (unhide HKd) ?_
       case ytwB1 => intro w hSw; obtain ⟨s0, s1⟩ := hSw; go_simp; first | done | rfl | assumption
       simp only [tq1, tq2, tq3, Act.put, tq4, tq5, tq6]
       refine wpAnyH_ready (rs := [2]) (by kernel_rfl) (by simp) ?_
       refine AllReadyH.cons rfl (fun K hK => ?_) AllReadyH.nil
       go_simp
       go_at_call 37
       refine (unhide HHas Y.drew (bdrew (Below.refl _ _))).mono ?_
       rintro e w5 ⟨rfl, hw5⟩
       have hw6 := hw5.symm
       clear hw5
       subst hw6
       go_wp2_with fail
       refine hK.out _ _ (unhide HKd) (fun _ => ?_)
       clear hK
       refine tk 3 ?vtwB3 rfl ?ytwB3 (unhide HKd) ?_
       case ytwB3 => intro w hSw; obtain ⟨s0, s1⟩ := hSw; go_simp; first | done | rfl | assumption
       simp only [tq1, tq2, tq3, Act.put, tq4, tq5, tq6]
       refine tk 4 ?vtwB4 rfl ?ytwB4 (unhide HKd) ?_
       case ytwB4 => intro w hSw; obtain ⟨s0, s1⟩ := hSw; go_simp; first | done | rfl | assumption
       simp only [tq1, tq2, tq3, Act.put, tq4, tq5, tq6]
       refine tk 5 ?vtwB5 rfl ?ytwB5 (unhide HKd) ?_
       case ytwB5 => intro w hSw; obtain ⟨s0, s1⟩ := hSw; go_simp; first | done | rfl | assumption
       simp only [tq1, tq2, tq3, Act.put, tq4, tq5, tq6]
       refine tk 6 ?vtwB6 rfl ?ytwB6 (unhide HKd) ?_
       case ytwB6 => intro w hSw; obtain ⟨s0, s1⟩ := hSw; go_simp; first | done | rfl | assumption
       simp only [tq1, tq2, tq3, Act.put, tq4, tq5, tq6]
       refine tk 7 ?vtwB7 rfl ?ytwB7 (unhide HKd) ?_
       case ytwB7 => intro w hSw; obtain ⟨s0, s1⟩ := hSw; go_simp; first | done | rfl | assumption
       simp only [tq1, tq2, tq3, Act.put, tq4, tq5, tq6]
       refine tk 8 ?vtwB8 rfl ?ytwB8 (unhide HKd) ?_
       case ytwB8 => intro w hSw; obtain ⟨s0, s1⟩ := hSw; go_simp; first | done | rfl | assumption
       simp only [tq1, tq2, tq3, Act.put, tq4, tq5, tq6]
       refine tk 9 ?vtwB9 rfl ?ytwB9 (unhide HKd) ?_
       case ytwB9 => intro w hSw; obtain ⟨s0, s1⟩ := hSw; go_simp; first | done | rfl | assumption
       simp only [tq1, tq2, tq3, Act.put, tq4, tq5, tq6]
       refine tk 10 ?vtwB10 rfl ?ytwB10 (unhide HKd) ?_
       case ytwB10 => intro w hSw; obtain ⟨s0, s1⟩ := hSw; go_simp; first | done | rfl | assumption
       simp only [tq1, tq2, tq3, Act.put, tq4, tq5, tq6]
       refine tk 11 ?vtwB11 rfl ?ytwB11 (unhide HKd) ?_
       case ytwB11 => intro w hSw; obtain ⟨s0, s1⟩ := hSw; go_simp; first | done | rfl | assumption
       simp only [tq1, tq2, tq3, Act.put, tq4, tq5, tq6]
       refine tk 12 ?vtwB12 rfl ?ytwB12 (unhide HKd) ?_
       case ytwB12 => intro w hSw; obtain ⟨s0, s1⟩ := hSw; go_simp; first | done | rfl | assumption
       simp only [tq1, tq2, tq3, Act.put, tq4, tq5, tq6]
       refine tk 13 ?vtwB13 rfl ?ytwB13 (unhide HKd) ?_
       case ytwB13 => intro w hSw; obtain ⟨s0, s1⟩ := hSw; go_simp; first | done | rfl | assumption
       simp only [tq1, tq2, tq3, Act.put, tq4, tq5, tq6]
       refine wpAnyH_ready (rs := [14]) (by kernel_rfl) (by simp) ?_
       refine AllReadyH.cons rfl (fun K hK => ?_) AllReadyH.nil
       go_simp
       go_at_call 35
       refine (unhide HNm Y.drew).mono ?_
       rintro e w6 ⟨rfl, h6⟩
       have hb6 : Below Y.heap.size Y w6 := (bdrew (Below.refl Y.heap.size Y)).trans h6
       have HK6 := hide (unhide HPo w6 hb6)
       have HB6 := hide hb6
       clear hb6 h6
       go_wp2_with fail
       refine hK.out _ _ (unhide HK6) (fun _ => ?_)
       clear hK
       refine tk 15 (.bool false) rfl ?ytwB15 (unhide HK6) ?_
       case ytwB15 => intro w hSw; go_simp; first | done | rfl | assumption
       simp only [tq1, tq2, tq3, Act.put, tq4, tq5, tq6]
       refine tk 16 ?vtwB16 rfl ?ytwB16 (unhide HK6) ?_
       case ytwB16 => intro w hSw; go_simp; first | done | rfl | assumption
       simp only [tq1, tq2, tq3, Act.put, tq4, tq5, tq6]
       refine tk 17 ?vtwB17 rfl ?ytwB17 (unhide HK6) ?_
       case ytwB17 => intro w hSw; go_simp; first | done | rfl | assumption
       simp only [tq1, tq2, tq3, Act.put, tq4, tq5, tq6]
       refine sk 18 rfl (unhide HK6) ?_
       simp only [tq1, tq2, tq3, Act.put, tq4, tq5, tq6]
       refine sk 19 rfl (unhide HK6) ?_
       simp only [tq1, tq2, tq3, Act.put, tq4, tq5, tq6]
       refine sk 20 rfl (unhide HK6) ?_
       simp only [tq1, tq2, tq3, Act.put, tq4, tq5, tq6]
       refine sk 21 rfl (unhide HK6) ?_
       simp only [tq1, tq2, tq3, Act.put, tq4, tq5, tq6]
       refine sk 22 rfl (unhide HK6) ?_
       simp only [tq1, tq2, tq3, Act.put, tq4, tq5, tq6]
       refine sk 23 rfl (unhide HK6) ?_
       simp only [tq1, tq2, tq3, Act.put, tq4, tq5, tq6]
       refine tk 24 ?vtwB24 rfl ?ytwB24 (unhide HK6) ?_
       case ytwB24 => intro w hSw; go_simp; first | done | rfl | assumption
       simp only [tq1, tq2, tq3, Act.put, tq4, tq5, tq6]
       refine tk 25 ?vtwB25 rfl ?ytwB25 (unhide HK6) ?_
       case ytwB25 => intro w hSw; go_simp; first | done | rfl | assumption
       simp only [tq1, tq2, tq3, Act.put, tq4, tq5, tq6]
       refine sk 26 rfl (unhide HK6) ?_
       simp only [tq1, tq2, tq3, Act.put, tq4, tq5, tq6]
       refine sk 27 rfl (unhide HK6) ?_
       simp only [tq1, tq2, tq3, Act.put, tq4, tq5, tq6]
       refine sk 28 rfl (unhide HK6) ?_
       simp only [tq1, tq2, tq3, Act.put, tq4, tq5, tq6]
       refine sk 29 rfl (unhide HK6) ?_
       simp only [tq1, tq2, tq3, Act.put, tq4, tq5, tq6]
       refine sk 30 rfl (unhide HK6) ?_
       simp only [tq1, tq2, tq3, Act.put, tq4, tq5, tq6]
       refine sk 31 rfl (unhide HK6) ?_
       simp only [tq1, tq2, tq3, Act.put, tq4, tq5, tq6]
       refine sk 32 rfl (unhide HK6) ?_
       simp only [tq1, tq2, tq3, Act.put, tq4, tq5, tq6]
       refine sk 33 rfl (unhide HK6) ?_
       simp only [tq1, tq2, tq3, Act.put, tq4, tq5, tq6]
       refine tk 34 ?vtwB34 rfl ?ytwB34 (unhide HK6) ?_
       case ytwB34 => intro w hSw; go_simp; first | done | rfl | assumption
       simp only [tq1, tq2, tq3, Act.put, tq4, tq5, tq6]
       refine wpAnyH_done (by kernel_rfl) ?_ _
       go_wp2_with fail
       go_roundw
       case rel => exact ⟨bn + 1, unhide HLt, by go_num, .inl ⟨rfl, unhide HNo⟩, unhide HEnd _ (unhide HB6)⟩
       case measure => have := unhide HLt; simp [intOf]; omega
    ·obtain rfl : bn = n := by omega
     have hfin := (unhide HJ).fin (unhide HC) (unhide HRL) (fun b hb => hno b (by rw [unhide HN]; exact hb))
     have hXz := unhide HXz
     have hbo := (unhide HBo).below hbb
     have hbl := hbo.blsA (n := bn) (unhide HCn).symm (fun k => k < wb.heap.size ∧ k ≠ w.heap.size + 1) (fun k hk h => ⟨hk, by
      rcases h with h | h
      ·have := unhide HNb; omega
      ·exact fun e => h (.inr (.inl e))⟩)
     have htr := rtrim_any cur (unhide HCk) pa re rs (fun k => k < wb.heap.size ∧ k ≠ w.heap.size + 1) (fun k => k = w.heap.size + 1) _ wb hbl (fun k hk => hk) (fun k hk => by rw [hk]; exact Nat.lt_of_lt_of_le (Array.getElem?_eq_some_iff.1 (unhide HRb)).1 hbb.size)
     rw [hfin] at htr
     have q1 := (hbb.block (w.heap.size + 1) (Array.getElem?_eq_some_iff.1 (unhide HRb)).1).trans (unhide HRb)
     have hpo : ∀ w5, Below wb.heap.size wb w5 → w5.heap[w.heap.size + 1]? = some (.cells (cob 0 0 false (.slice none 0 0)) 24 (0, 0)) ∧ Below w.heap.size w w5 := fun w5 h5 => ⟨(h5.block _ (Array.getElem?_eq_some_iff.1 q1).1).trans q1, ((unhide HBa).trans (hbb.mono (unhide HBa).size)).trans (h5.mono ((unhide HBa).trans (hbb.mono (unhide HBa).size)).size)⟩
     have HTr := hide htr; have HPo := hide hpo; have HWb := hide (show w.heap.size + 1 < wb.heap.size from (Array.getElem?_eq_some_iff.1 q1).1)
     clear hfin hbo hbl htr q1 hpo hno hlt hbn hbb hla q0 hXz
     go_wp2_with (go_at_call 21; refine (unhide HTr).mono ?_; rintro e w5 ⟨B5, cap5, rfl, hbo5, hb5⟩; obtain ⟨k1, k2⟩ := unhide HPo w5 hb5; obtain ⟨y0, y1, y2, y3, yf, yl⟩ := cob_cells k1; have HBo5 := hide hbo5; have HB5 := hide hb5; have HK1 := hide k1; have HK2 := hide k2; clear hbo5 hb5 k1 k2)
     have hwb := unhide HWb
     have hnb5 := (unhide HBo5).nb
     have hfin5 := ((((unhide HBo5).setA (a := w.heap.size + 1) (i := 0) rfl (by omega) (.int .i64 pa)).setA (a := w.heap.size + 1) (i := 1) rfl (by omega) (.int .i64 re)).setA (a := w.heap.size + 1) (i := 2) rfl (by omega) (.bool rs)).setA (a := w.heap.size + 1) (i := 3) rfl (by omega) (.slice (some ⟨B5, 0, none⟩) (trimD (joinA L)).length cap5)
     have hr8 := set4c w5 (w.heap.size + 1) _ _ _ _ _ (.int .i64 pa) (.int .i64 re) (.bool rs) (.slice (some ⟨B5, 0, none⟩) (trimD (joinA L)).length cap5) (unhide HK1)
     have hb8 := Vc.bel4 (unhide HK2) (w.heap.size + 1) (Nat.le_succ _) (.int .i64 pa) (.int .i64 re) (.bool rs) (.slice (some ⟨B5, 0, none⟩) (trimD (joinA L)).length cap5)
     generalize (((w5.setCell ⟨w.heap.size + 1, 0, none⟩ (.int .i64 pa)).setCell ⟨w.heap.size + 1, 1, none⟩ (.int .i64 re)).setCell ⟨w.heap.size + 1, 2, none⟩ (.bool rs)).setCell ⟨w.heap.size + 1, 3, none⟩ (.slice (some ⟨B5, 0, none⟩) (trimD (joinA L)).length cap5) = W8 at *
     have u0 := cell_of_row W8 (w.heap.size + 1) 0 _ _ _ hr8; have u1 := cell_of_row W8 (w.heap.size + 1) 1 _ _ _ hr8; have u2 := cell_of_row W8 (w.heap.size + 1) 2 _ _ _ hr8; have u3 := cell_of_row W8 (w.heap.size + 1) 3 _ _ _ hr8
     simp only [List.getElem?_toArray, List.getElem?_cons_zero, List.getElem?_cons_succ] at u0 u1 u2 u3
     exact bodyPost_ret (v := .agg #[.int .i64 pa, .int .i64 re, .bool rs, .slice (some ⟨B5, 0, none⟩) (trimD (joinA L)).length cap5]) (by simp [results, Tryz.results23, go_sem, u0, u1, u2, u3]) rfl ⟨_, rfl, hfin5.blsA rfl _ (fun k hk _ => hk), hb8⟩
   ·have hqL : q < L.length := by rw [← unhide HN]; exact hq
    have hqc : q < cur.length := by rw [unhide HCn]; exact hq
    obtain ⟨htl, htg, htq⟩ := (unhide HJ).next (unhide HC) (unhide HRL) hqL hjq
    obtain ⟨K', hJ'⟩ := (unhide HJ).step (unhide HC) (unhide HRL) hqL hjq
    obtain ⟨t, ht⟩ : ∃ t, t = Fw.nx0 (cur.getD q dB) := ⟨_, rfl⟩
    rw [← ht] at htl htg htq hJ'
    obtain ⟨x, hx⟩ : ∃ x, x = cur.getD q dB := ⟨_, rfl⟩
    obtain ⟨y, hy⟩ : ∃ y, y = cur.getD t dB := ⟨_, rfl⟩
    have htc : t < cur.length := by rw [(unhide HJ).len]; exact htl
    have hxl : cur[q]? = some x := by rw [hx]; exact get?_getD _ _ _ hqc
    have hyl : cur[t]? = some y := by rw [hy]; exact get?_getD _ _ _ htc
    have hxm := List.mem_of_getElem? hxl
    have hxi := (unhide HCk).ins x hxm
    have hT' := (unhide HT).step ht.symm hqc htc hjq.1 htg htq (by rw [← hx]; exact hxi.1)
    have hM := (unhide HCk).jmp x hxm (by rw [hx]; exact hjq.2.1)
    obtain ⟨z, hz, hzl, -⟩ := (unhide HCk).nok.at_ hxl (k := 0) (by omega)
    have hzt : z = t := by rw [ht, ← hx]; unfold Fw.nx0; rw [hz]; simp
    subst hzt
    have hbo := (unhide HBo).below hbb
    obtain ⟨vx, vnx, x0, x1, x2, hxin, hxnn⟩ := hbo.it q x hxl
    obtain ⟨vy, vny, y0, y1, y2, hyin, hynn⟩ := hbo.it z y hyl
    obtain ⟨xa, xc, rfl, -, -, -⟩ := id hxin
    obtain ⟨xna, xnc, rfl, -, -, -⟩ := id hxnn
    obtain ⟨ya, yc, rfl, -, -, -⟩ := id hyin
    obtain ⟨yna, ync, rfl, -, -, -⟩ := id hynn
    obtain ⟨Bn, on, hna, hBn, hnc⟩ := nums_at hxnn (k := 0) (by omega)
    subst hna
    have n0 := hnc 0 (by omega)
    rw [hz, Nat.add_zero] at n0
    rw [hM] at x1
    have hbol := hbo.lt
    have hnbB := hbo.nb
    have hq0 : ¬ (q : Int) < 0 := by omega
    have hq0b : decide ((q : Int) < 0) = false := decide_eq_false hq0
    have hqn : (q : Int) < (n : Int) := by omega
    have hzn : (z : Int) < (n : Int) := by have := unhide HN; omega
    have hjd : jdo cur q = cur.set q ⟨sta x ++ y.ins, y.next, x.dep⟩ := by unfold jdo; rw [← ht, ← hx, ← hy]
    have hall := (unhide HT).all q hqc
    have hall2 := (unhide HT).all z htc
    rw [← hx] at hall
    rw [← hy] at hall2
    have HJ2 := hide hJ'; have HT2 := hide hT'; have HXl := hide hxl; have HYl := hide hyl; have HXi := hide hxi; have HXin := hide hxin; have HYin := hide hyin; have HYnn := hide hynn; have HJd := hide hjd; have HBb := hide hbb; have HBow := hide hbo; have HAll := hide (And.intro hall hall2); have HBol := hide hbol; have HnbB := hide hnbB; have HZtg := hide htg
    have HQ0 := hide q0
    rcases Nat.lt_or_ge bn n with hlt | hge
    case' inl =>
     have hbnn : (bn : Int) < (n : Int) := by omega
     clear hJ' hT' hxl hyl hxm hxi hM hz hxin hyin hynn hxnn hjd hbb hbo hall hall2 htl htg htq ht hx hy htc hqL hqc hjq hnc hBn hbn hlt hq hzl q0
     go_upto_region 10 with fail
    case' inr =>
     have hbnn : ¬ (bn : Int) < (n : Int) := by omega
     clear hJ' hT' hxl hyl hxm hxi hM hz hxin hyin hynn hxnn hjd hbb hbo hall hall2 htl htg htq ht hx hy htc hqL hqc hjq hnc hBn hbn hge hq hzl q0
     go_upto_region 10 with fail
    all_goals
     go_upto_region 13 with fail
     have hal := Vc.one_alloc wb (.cells #[.slice xa x.ins.length xc, .slice (some ⟨Bn, on, none⟩) 1 xnc, .int .i64 x.dep] 49)
     have hyr := heap_alloc_new wb (.cells #[.slice xa x.ins.length xc, .slice (some ⟨Bn, on, none⟩) 1 xnc, .int .i64 x.dep] 49)
     have hyz : (wb.alloc (.cells #[.slice xa x.ins.length xc, .slice (some ⟨Bn, on, none⟩) 1 xnc, .int .i64 x.dep] 49)).heap.size = wb.heap.size + 1 := by simp
     obtain ⟨Y, hYe⟩ : ∃ Y, Y = wb.alloc (.cells #[.slice xa x.ins.length xc, .slice (some ⟨Bn, on, none⟩) 1 xnc, .int .i64 x.dep] 49) := ⟨_, rfl⟩
     rw [← hYe] at hal hyr hyz ⊢
     have m0 := (hal.cell (p := ⟨Bn, on, none⟩) (block_lt_of_cell n0)).trans n0
     have m3 := (hal.cell (p := ⟨w.heap.size, 3, none⟩) (block_lt_of_cell c3)).trans c3
     have my0 := (hal.cell (p := ⟨B, z * 3, none⟩) hbol).trans y0
     have my1 := (hal.cell (p := ⟨B, z * 3 + 1, none⟩) hbol).trans y1
     obtain ⟨z0, z1, z2, zf⟩ : Y.cell? ⟨wb.heap.size, 0, none⟩ = some (.slice xa x.ins.length xc) ∧ Y.cell? ⟨wb.heap.size, 1, none⟩ = some (.slice (some ⟨Bn, on, none⟩) 1 xnc) ∧ Y.cell? ⟨wb.heap.size, 2, none⟩ = some (.int .i64 x.dep) ∧ ∀ q, Y.frozen? ⟨wb.heap.size, q, none⟩ = false := ⟨by rw [cell_of_row Y _ 0 _ _ _ hyr]; rfl, by rw [cell_of_row Y _ 1 _ _ _ hyr]; rfl, by rw [cell_of_row Y _ 2 _ _ _ hyr]; rfl, fun q => frozen_of_row Y _ q _ _ hyr⟩
     have HAl := hide hal; have HYr := hide hyr; have HYz := hide hyz
     clear hYe hal hyr hyz x0 x1 x2 y0 y1 y2 n0 c0 c1 c2 c3 cf cl hla hnbB hbol hq0b
     obtain ⟨p, hp⟩ : ∃ p, p = x.ins.length - 1 := ⟨_, rfl⟩
     have hlp : x.ins.length = p + 1 := by have := (unhide HXi).1; omega
     have hA0 : ∀ k, (k ≠ B ∧ ¬ (k = w.heap.size ∨ k = w.heap.size + 1 ∨ (Value.slice a G c).ownBlock = some k)) → True := fun _ _ => trivial
     have hmv : ∀ W, (∀ k, k < wb.heap.size → W.heap[k]? = wb.heap[k]?) → Y.heap.size ≤ W.heap.size → Vc.Mv wb W (fun k => k ≠ B ∧ ¬ (k = w.heap.size ∨ k = w.heap.size + 1 ∨ (Value.slice a G c).ownBlock = some k)) (fun k => (k ≠ B ∧ ¬ (k = w.heap.size ∨ k = w.heap.size + 1 ∨ (Value.slice a G c).ownBlock = some k)) ∧ k < wb.heap.size) := fun W h1 h2 q hq hk => ⟨⟨hk, by have := unhide HYz; omega⟩, h1 q hq⟩
     have hYb : ∀ k, k < wb.heap.size → Y.drew.heap[k]? = wb.heap[k]? := fun k hk => (unhide HAl).block k hk
     have hlx := Vc.LL.moved (hmv Y.drew hYb (Nat.le_refl _)) (by have := unhide HYz; show wb.heap.size ≤ Y.heap.size; omega) (fun _ _ q => q.moved (hmv Y.drew hYb (Nat.le_refl _))) (unhide HXin)
     have hly := Vc.LL.moved (hmv Y.drew hYb (Nat.le_refl _)) (by have := unhide HYz; show wb.heap.size ≤ Y.heap.size; omega) (fun _ _ q => q.moved (hmv Y.drew hYb (Nat.le_refl _))) (unhide HYin)
     have hyi := (unhide HCk).ins y (List.mem_of_getElem? (unhide HYl))
     obtain ⟨Bx, ox, -, hxa, -, -, -, -, -, -, -, -⟩ := ins_at hlx (k := 0) (by omega)
     obtain ⟨By, oy, -, hya, -, -, -, -, -, -, -, -⟩ := ins_at hly (k := 0) (by omega)
     subst hxa
     subst hya
     obtain ⟨news, hm1, hits1, hce1, h11⟩ := ll_news (ll_take (p := p) hlx (by omega))
     have hy2 : ∀ W, Below Y.heap.size Y.drew W → ∃ news, Its (InC W (fun k => (k ≠ B ∧ ¬ (k = w.heap.size ∨ k = w.heap.size + 1 ∨ (Value.slice a G c).ownBlock = some k)) ∧ k < wb.heap.size)) 5 y.ins news ∧ (∀ j u, news[j]? = some u → W.cell? ((⟨By, oy, none⟩ : Addr).add j) = some u) ∧ ∀ u ∈ news, u.oneCell' = true := fun W hW => by
      have hm2 : Vc.Mv Y.drew W (fun k => (k ≠ B ∧ ¬ (k = w.heap.size ∨ k = w.heap.size + 1 ∨ (Value.slice a G c).ownBlock = some k)) ∧ k < wb.heap.size) (fun k => (k ≠ B ∧ ¬ (k = w.heap.size ∨ k = w.heap.size + 1 ∨ (Value.slice a G c).ownBlock = some k)) ∧ k < wb.heap.size) := fun q hq hk => ⟨hk, hW.block q (by have := hk.2; have := unhide HYz; omega)⟩
      obtain ⟨n2, -, i2, c2, o2⟩ := ll_news (Vc.LL.moved hm2 hW.size (fun _ _ q => q.moved hm2) hly)
      exact ⟨n2, i2, c2, o2⟩
     have hSc : ∀ W, Below Y.heap.size Y W → W.cell? ⟨w.heap.size, 3, none⟩ = some (.slice (some ⟨B, 0, none⟩) n cap) ∧ W.cell? ⟨B, z * 3, none⟩ = some (.slice (some ⟨By, oy, none⟩) y.ins.length yc) := fun W hW => ⟨(hW.cell (p := ⟨w.heap.size, 3, none⟩) (block_lt_of_cell m3)).trans m3, (hW.cell (p := ⟨B, z * 3, none⟩) (block_lt_of_cell my0)).trans my0⟩
     have hwB : wb.heap.size ≠ B := by have := unhide HBol; omega
     have hww : wb.heap.size ≠ w.heap.size := by have := block_lt_of_cell m3; have h2 := (Array.getElem?_eq_some_iff.1 (unhide HQ0)).1; omega
     have hSs : ∀ W v, Below Y.heap.size Y W → (W.setCell ⟨wb.heap.size, 0, none⟩ v).cell? ⟨w.heap.size, 3, none⟩ = some (.slice (some ⟨B, 0, none⟩) n cap) ∧ (W.setCell ⟨wb.heap.size, 0, none⟩ v).cell? ⟨B, z * 3, none⟩ = some (.slice (some ⟨By, oy, none⟩) y.ins.length yc) := fun W v hW => by
      rw [World.cell?_setCell_far _ _ _ _ hww, World.cell?_setCell_far _ _ _ _ hwB]; exact hSc W hW
     have hz0 : Y.cell? ⟨wb.heap.size, 0, none⟩ = some (.slice (some ⟨Bx, ox, none⟩) (p + 1) xc) := by rw [← hlp]; exact z0
     have hbp : p + 1 ≤ 67108864 := by have := (unhide HAll).1; omega
     have hby := (unhide HAll).2
     have hpi : (p : Int) ≤ 67108864 := by omega
     have hpp1 : (p : Int) < (p : Int) + 1 := by omega
     have hwp : IntKind.i64.wrap (p : Int) = (p : Int) := by rw [IntKind.wrap_i64]; omega
     have hpx : p + 1 ≤ xc := by obtain ⟨a9, cp9, e9, h9, -, -⟩ := hlx; injection e9 with e1 e2 e3; rw [e3]; have h2 : x.ins.length ≤ cp9 := h9; omega
     have hpxi : (p : Int) ≤ (xc : Int) := by omega
     have hpi0 : (0 : Int) ≤ (p : Int) := by omega
     obtain ⟨YL, hYL⟩ : ∃ YL, YL = y.ins.length := ⟨_, rfl⟩
     have HBp := hide hbp; have HBy := hide hby; have HLp := hide hlp; have HP := hide hp; have HM1 := hide hm1; have HI1 := hide hits1; have HC1 := hide hce1; have H11 := hide h11; have HY2 := hide hy2; have HSc := hide hSc; have HSs := hide hSs; have HwB := hide hwB; have HwW := hide hww; have HYb := hide hYb; have HYL := hide hYL
     clear z0 hbp hby hlp hp hm1 hits1 hce1 h11 hy2 hSc hwB hww hYb hlx hly hyi hmv hA0 hSs hYL
     have z0 := hz0
     clear hz0
     have HDr := hide (bdrew (Below.refl Y.heap.size Y))
     go_upto_region 15 with fail
     -- HAND15
     have HKd := hide (unhide HSc Y.drew (unhide HDr))
     refine wp_region_held_drew (S := fun W => W.cell? ⟨w.heap.size, 3, none⟩ = some (.slice (some ⟨B, 0, none⟩) n cap) ∧ W.cell? ⟨B, z * 3, none⟩ = some (.slice (some ⟨By, oy, none⟩) y.ins.length yc)) (by kernel_rfl) (unhide HKd) (fun _ => ?_)
     refine tk 0 ?vt0 rfl ?yt0 (unhide HKd) ?_
     case yt0 => intro w hSw; obtain ⟨s0, s1⟩ := hSw; go_simp; first | done | rfl
     simp only [tq1, tq2, tq3, Act.put, tq4, tq5, tq6]
     refine tk 1 ?vt1 rfl ?yt1 (unhide HKd) ?_
     case yt1 => intro w hSw; obtain ⟨s0, s1⟩ := hSw; go_simp; first | done | rfl
     simp only [tq1, tq2, tq3, Act.put, tq4, tq5, tq6]
     refine tk 3 ?vt3 rfl ?yt3 (unhide HKd) ?_
     case yt3 => intro w hSw; obtain ⟨s0, s1⟩ := hSw; go_simp; first | done | rfl
     simp only [tq1, tq2, tq3, Act.put, tq4, tq5, tq6]
     refine tk 9 ?vt9 rfl ?yt9 (unhide HKd) ?_
     case yt9 => intro w hSw; obtain ⟨s0, s1⟩ := hSw; go_simp; first | done | rfl
     simp only [tq1, tq2, tq3, Act.put, tq4, tq5, tq6]
     refine tk 10 ?vt10 rfl ?yt10 (unhide HKd) ?_
     case yt10 => intro w hSw; obtain ⟨s0, s1⟩ := hSw; go_simp; first | done | rfl
     simp only [tq1, tq2, tq3, Act.put, tq4, tq5, tq6]
     refine tk 11 ?vt11 rfl ?yt11 (unhide HKd) ?_
     case yt11 => intro w hSw; obtain ⟨s0, s1⟩ := hSw; go_simp; first | done | rfl
     simp only [tq1, tq2, tq3, Act.put, tq4, tq5, tq6]
     refine tk 12 ?vt12 rfl ?yt12 (unhide HKd) ?_
     case yt12 => intro w hSw; obtain ⟨s0, s1⟩ := hSw; go_simp; first | done | rfl
     simp only [tq1, tq2, tq3, Act.put, tq4, tq5, tq6]
     refine tk 13 ?vt13 rfl ?yt13 (unhide HKd) ?_
     case yt13 => intro w hSw; obtain ⟨s0, s1⟩ := hSw; go_simp; first | done | rfl
     simp only [tq1, tq2, tq3, Act.put, tq4, tq5, tq6]
     refine tk 14 (.slice (some ⟨By, oy, none⟩) y.ins.length yc) rfl ?yt14 (unhide HKd) ?_
     case yt14 => intro w hSw; obtain ⟨s0, s1⟩ := hSw; go_simp; first | done | rfl
     simp only [tq1, tq2, tq3, Act.put, tq4, tq5, tq6]
     refine wpAnyH_ready (rs := [2, 4]) (by kernel_rfl) (by simp) ?_
     refine AllReadyH.cons rfl (fun K hK => ?_) (AllReadyH.cons rfl (fun K hK => ?_) AllReadyH.nil)
     focus
      go_simp
      refine hK.out _ _ (unhide HKd) (fun _ => ?_)
      clear hK
      try simp only [tq1, tq2, tq3, Act.put, tq4, tq5, tq6]
      refine wpAnyH_ready (rs := [4]) (by kernel_rfl) (by simp) ?_
      refine AllReadyH.cons rfl (fun K hK => ?_) AllReadyH.nil
      go_simp
      refine hK.out _ _ (unhide HKd) (fun _ => ?_)
      clear hK
      try simp only [tq1, tq2, tq3, Act.put, tq4, tq5, tq6]
      refine tk 5 (.int .i64 ((p : Int) + 1)) rfl ?yta5 (unhide HKd) ?_
      case yta5 => intro w hSw; obtain ⟨s0, s1⟩ := hSw; go_simp; first | done | rfl
      simp only [tq1, tq2, tq3, Act.put, tq4, tq5, tq6]
      refine tk 6 (.int .i64 (p : Int)) rfl ?yta6 (unhide HKd) ?_
      case yta6 => intro w hSw; obtain ⟨s0, s1⟩ := hSw; go_simp; first | done | rfl
      simp only [tq1, tq2, tq3, Act.put, tq4, tq5, tq6]
      refine tk 7 (.slice (some ⟨Bx, ox, none⟩) p xc) rfl ?yta7 (unhide HKd) ?_
      case yta7 => intro w hSw; obtain ⟨s0, s1⟩ := hSw; go_simp; first | done | rfl
      simp only [tq1, tq2, tq3, Act.put, tq4, tq5, tq6]
      refine wpAnyH_ready (rs := [8]) (by kernel_rfl) (by simp) ?_
      refine AllReadyH.cons rfl (fun K hK => ?_) AllReadyH.nil
      refine step_lsr (w := Y.drew) (N := Y.heap.size) (g := fun k => (k ≠ B ∧ ¬ (k = w.heap.size ∨ k = w.heap.size + 1 ∨ (Value.slice a G c).ownBlock = some k)) ∧ k < wb.heap.size) (l := []) (z := x.ins.take p) rfl (.tmp 77) (.tmp 84) rfl rfl (.inl ⟨[], World.ownsRow_nil _ _ _ _, Its.nil _ _⟩) (fun k hk => by have h1 := hk.2; have := unhide HYz; omega) (Nat.le_refl _) (ad := ⟨Bx, ox, none⟩) (m := p) (c := xc) rfl (unhide HM1) (unhide HI1) (unhide HC1) (unhide H11) (by rw [← unhide HM1]; have := unhide HBp; simp; omega) ?_
      rintro b2 n2 c3 w7 hn2 hl8 hb8
      have h8 : Below Y.heap.size Y w7 := (unhide HDr).trans hb8
      have HK7 := hide (unhide HSc w7 h8)
      have HN2 := hide hn2; have HL8 := hide hl8; have HB8 := hide hb8
      clear hn2 hl8 hb8 h8
      refine hK.out _ _ (unhide HK7) (fun _ => ?_)
      clear hK
      try simp only [tq1, tq2, tq3, Act.put, tq4, tq5, tq6]
      obtain ⟨news2, i2, ce2, on2⟩ := unhide HY2 w7 (unhide HB8)
      refine wpAnyH_ready (rs := [15]) (by kernel_rfl) (by simp) ?_
      refine AllReadyH.cons rfl (fun K hK => ?_) AllReadyH.nil
      have hn2 := unhide HN2
      subst hn2
      refine step_lsr (w := w7) (N := Y.heap.size) (g := fun k => (k ≠ B ∧ ¬ (k = w.heap.size ∨ k = w.heap.size + 1 ∨ (Value.slice a G c).ownBlock = some k)) ∧ k < wb.heap.size) (l := [] ++ x.ins.take p) (z := y.ins) rfl (.tmp 85) (.tmp 91) rfl rfl (unhide HL8) (fun k hk => by have h1 := hk.2; have := unhide HYz; omega) (unhide HB8).size (ad := ⟨By, oy, none⟩) (m := y.ins.length) (c := yc) rfl rfl i2 ce2 on2 (by have h1 := unhide HBp; have h2 := unhide HBy; have h3 := unhide HM1; rw [List.nil_append, ← h3]; omega) ?_
      rintro b3 n3 c4 w8 hn3 hl9 hb9
      have h9 : Below Y.heap.size Y w8 := ((unhide HDr).trans (unhide HB8)).trans hb9
      have HK8 := hide (unhide HSc w8 h9)
      have HS8 := hide (unhide HSs w8 (.slice b3 n3 c4) h9)
      have hr8 := (h9.block wb.heap.size (by have := unhide HYz; omega)).trans (unhide HYr)
      have x0 : w8.cell? ⟨wb.heap.size, 0, none⟩ = some (.slice (some ⟨Bx, ox, none⟩) x.ins.length xc) := (by rw [cell_of_row w8 _ 0 _ _ _ hr8]; rfl)
      have xf : ∀ q, w8.frozen? ⟨wb.heap.size, q, none⟩ = false := fun q => frozen_of_row w8 _ q _ _ hr8
      have HL9 := hide hl9; have HB9 := hide h9; have HR8 := hide hr8
      clear hn3 hl9 hb9 h9 hr8 i2 ce2 on2
      refine hK.out _ _ (unhide HK8) (fun _ => ?_)
      clear hK
      try simp only [tq1, tq2, tq3, Act.put, tq4, tq5, tq6]
      refine tk 16 (.pointer (some ⟨wb.heap.size, 0, none⟩)) rfl ?yta16 (unhide HK8) ?_
      case yta16 => intro w hSw; obtain ⟨s0, s1⟩ := hSw; go_simp; first | done | rfl
      simp only [tq1, tq2, tq3, Act.put, tq4, tq5, tq6]
      refine wpAnyH_ready (rs := [17]) (by kernel_rfl) (by simp) ?_
      refine AllReadyH.cons rfl (fun K hK => ?_) AllReadyH.nil
      go_simp
      refine hK.out _ _ (unhide HS8) (fun _ => ?_)
      clear hK
      refine wpAnyH_done (by kernel_rfl) ?_ _
     rotate_left
     focus
      go_simp
      refine hK.out _ _ (unhide HKd) (fun _ => ?_)
      clear hK
      try simp only [tq1, tq2, tq3, Act.put, tq4, tq5, tq6]
      refine tk 5 (.int .i64 ((p : Int) + 1)) rfl ?ytb5 (unhide HKd) ?_
      case ytb5 => intro w hSw; obtain ⟨s0, s1⟩ := hSw; go_simp; first | done | rfl
      simp only [tq1, tq2, tq3, Act.put, tq4, tq5, tq6]
      refine tk 6 (.int .i64 (p : Int)) rfl ?ytb6 (unhide HKd) ?_
      case ytb6 => intro w hSw; obtain ⟨s0, s1⟩ := hSw; go_simp; first | done | rfl
      simp only [tq1, tq2, tq3, Act.put, tq4, tq5, tq6]
      refine wpAnyH_ready (rs := [2]) (by kernel_rfl) (by simp) ?_
      refine AllReadyH.cons rfl (fun K hK => ?_) AllReadyH.nil
      go_simp
      refine hK.out _ _ (unhide HKd) (fun _ => ?_)
      clear hK
      try simp only [tq1, tq2, tq3, Act.put, tq4, tq5, tq6]
      refine tk 7 (.slice (some ⟨Bx, ox, none⟩) p xc) rfl ?ytb7 (unhide HKd) ?_
      case ytb7 => intro w hSw; obtain ⟨s0, s1⟩ := hSw; go_simp; first | done | rfl
      simp only [tq1, tq2, tq3, Act.put, tq4, tq5, tq6]
      refine wpAnyH_ready (rs := [8]) (by kernel_rfl) (by simp) ?_
      refine AllReadyH.cons rfl (fun K hK => ?_) AllReadyH.nil
      refine step_lsr (w := Y.drew) (N := Y.heap.size) (g := fun k => (k ≠ B ∧ ¬ (k = w.heap.size ∨ k = w.heap.size + 1 ∨ (Value.slice a G c).ownBlock = some k)) ∧ k < wb.heap.size) (l := []) (z := x.ins.take p) rfl (.tmp 77) (.tmp 84) rfl rfl (.inl ⟨[], World.ownsRow_nil _ _ _ _, Its.nil _ _⟩) (fun k hk => by have h1 := hk.2; have := unhide HYz; omega) (Nat.le_refl _) (ad := ⟨Bx, ox, none⟩) (m := p) (c := xc) rfl (unhide HM1) (unhide HI1) (unhide HC1) (unhide H11) (by rw [← unhide HM1]; have := unhide HBp; simp; omega) ?_
      rintro b2 n2 c3 w7 hn2 hl8 hb8
      have h8 : Below Y.heap.size Y w7 := (unhide HDr).trans hb8
      have HK7 := hide (unhide HSc w7 h8)
      have HN2 := hide hn2; have HL8 := hide hl8; have HB8 := hide hb8
      clear hn2 hl8 hb8 h8
      refine hK.out _ _ (unhide HK7) (fun _ => ?_)
      clear hK
      try simp only [tq1, tq2, tq3, Act.put, tq4, tq5, tq6]
      obtain ⟨news2, i2, ce2, on2⟩ := unhide HY2 w7 (unhide HB8)
      refine wpAnyH_ready (rs := [15]) (by kernel_rfl) (by simp) ?_
      refine AllReadyH.cons rfl (fun K hK => ?_) AllReadyH.nil
      have hn2 := unhide HN2
      subst hn2
      refine step_lsr (w := w7) (N := Y.heap.size) (g := fun k => (k ≠ B ∧ ¬ (k = w.heap.size ∨ k = w.heap.size + 1 ∨ (Value.slice a G c).ownBlock = some k)) ∧ k < wb.heap.size) (l := [] ++ x.ins.take p) (z := y.ins) rfl (.tmp 85) (.tmp 91) rfl rfl (unhide HL8) (fun k hk => by have h1 := hk.2; have := unhide HYz; omega) (unhide HB8).size (ad := ⟨By, oy, none⟩) (m := y.ins.length) (c := yc) rfl rfl i2 ce2 on2 (by have h1 := unhide HBp; have h2 := unhide HBy; have h3 := unhide HM1; rw [List.nil_append, ← h3]; omega) ?_
      rintro b3 n3 c4 w8 hn3 hl9 hb9
      have h9 : Below Y.heap.size Y w8 := ((unhide HDr).trans (unhide HB8)).trans hb9
      have HK8 := hide (unhide HSc w8 h9)
      have HS8 := hide (unhide HSs w8 (.slice b3 n3 c4) h9)
      have hr8 := (h9.block wb.heap.size (by have := unhide HYz; omega)).trans (unhide HYr)
      have x0 : w8.cell? ⟨wb.heap.size, 0, none⟩ = some (.slice (some ⟨Bx, ox, none⟩) x.ins.length xc) := (by rw [cell_of_row w8 _ 0 _ _ _ hr8]; rfl)
      have xf : ∀ q, w8.frozen? ⟨wb.heap.size, q, none⟩ = false := fun q => frozen_of_row w8 _ q _ _ hr8
      have HL9 := hide hl9; have HB9 := hide h9; have HR8 := hide hr8
      clear hn3 hl9 hb9 h9 hr8 i2 ce2 on2
      refine hK.out _ _ (unhide HK8) (fun _ => ?_)
      clear hK
      try simp only [tq1, tq2, tq3, Act.put, tq4, tq5, tq6]
      refine tk 16 (.pointer (some ⟨wb.heap.size, 0, none⟩)) rfl ?ytb16 (unhide HK8) ?_
      case ytb16 => intro w hSw; obtain ⟨s0, s1⟩ := hSw; go_simp; first | done | rfl
      simp only [tq1, tq2, tq3, Act.put, tq4, tq5, tq6]
      refine wpAnyH_ready (rs := [17]) (by kernel_rfl) (by simp) ?_
      refine AllReadyH.cons rfl (fun K hK => ?_) AllReadyH.nil
      go_simp
      refine hK.out _ _ (unhide HS8) (fun _ => ?_)
      clear hK
      refine wpAnyH_done (by kernel_rfl) ?_ _
     all_goals
      have hyz := unhide HYz
      have hr9 : (w8.setCell ⟨wb.heap.size, 0, none⟩ (.slice b3 n3 c4)).heap[wb.heap.size]? = some (.cells #[.slice b3 n3 c4, .slice (some ⟨Bn, on, none⟩) 1 xnc, .int .i64 x.dep] 49 (0, 0)) := (heap_setCell_same w8 wb.heap.size 0 _ _ _ (unhide HR8)).trans rfl
      have hot9 : ∀ k, k ≠ wb.heap.size → (w8.setCell ⟨wb.heap.size, 0, none⟩ (.slice b3 n3 c4)).heap[k]? = w8.heap[k]? := fun k hk => heap_setCell_other w8 ⟨wb.heap.size, 0, none⟩ k _ hk
      have hz9 : (w8.setCell ⟨wb.heap.size, 0, none⟩ (.slice b3 n3 c4)).heap.size = w8.heap.size := by simp
      have hbb9 : Below wb.heap.size wb (w8.setCell ⟨wb.heap.size, 0, none⟩ (.slice b3 n3 c4)) := ((unhide HAl).trans ((unhide HB9).mono (unhide HAl).size)).setCell (p := ⟨wb.heap.size, 0, none⟩) (Nat.le_refl _) _
      have hk1 : (w8.setCell ⟨wb.heap.size, 0, none⟩ (.slice b3 n3 c4)).cell? ⟨B, z * 3 + 1, none⟩ = some (.slice yna y.next.length ync) := (World.cell?_of_block (a := ⟨B, z * 3 + 1, none⟩) (hot9 B (by have := unhide HBol; omega))).trans (((unhide HB9).cell (p := ⟨B, z * 3 + 1, none⟩) (block_lt_of_cell my1)).trans my1)
      have HR9 := hide hr9; have HOt9 := hide hot9; have HZ9 := hide hz9; have HBb9 := hide hbb9
      clear hr9 hot9 hz9 hbb9 x0 xf z1 z2 zf m0 m3 my0 my1 z0
      generalize w8.setCell ⟨wb.heap.size, 0, none⟩ (.slice b3 n3 c4) = W9 at *
      obtain ⟨x0, x1, x2, xf⟩ : W9.cell? ⟨wb.heap.size, 0, none⟩ = some (.slice b3 n3 c4) ∧ W9.cell? ⟨wb.heap.size, 1, none⟩ = some (.slice (some ⟨Bn, on, none⟩) 1 xnc) ∧ W9.cell? ⟨wb.heap.size, 2, none⟩ = some (.int .i64 x.dep) ∧ ∀ q, W9.frozen? ⟨wb.heap.size, q, none⟩ = false := ⟨by rw [cell_of_row W9 _ 0 _ _ _ (unhide HR9)]; rfl, by rw [cell_of_row W9 _ 1 _ _ _ (unhide HR9)]; rfl, by rw [cell_of_row W9 _ 2 _ _ _ (unhide HR9)]; rfl, fun q => frozen_of_row W9 _ q _ _ (unhide HR9)⟩
      have q09 := ((unhide HBb9).block w.heap.size (Array.getElem?_eq_some_iff.1 (unhide HQ0)).1).trans (unhide HQ0)
      obtain ⟨-, -, -, c3, -, -⟩ := cob_cells q09
      clear hyz q09
      go_upto_region 17 with fail
      have hr10 : (W9.setCell ⟨wb.heap.size, 1, none⟩ (.slice yna y.next.length ync)).heap[wb.heap.size]? = some (.cells #[.slice b3 n3 c4, .slice yna y.next.length ync, .int .i64 x.dep] 49 (0, 0)) := (heap_setCell_same W9 wb.heap.size 1 _ _ _ (unhide HR9)).trans rfl
      have hot10 : ∀ k, k ≠ wb.heap.size → (W9.setCell ⟨wb.heap.size, 1, none⟩ (.slice yna y.next.length ync)).heap[k]? = w8.heap[k]? := fun k hk => (heap_setCell_other W9 ⟨wb.heap.size, 1, none⟩ k _ hk).trans (unhide HOt9 k hk)
      have hz10 : (W9.setCell ⟨wb.heap.size, 1, none⟩ (.slice yna y.next.length ync)).heap.size = w8.heap.size := by rw [← unhide HZ9]; simp
      have hbb10 : Below wb.heap.size wb (W9.setCell ⟨wb.heap.size, 1, none⟩ (.slice yna y.next.length ync)) := (unhide HBb9).setCell (p := ⟨wb.heap.size, 1, none⟩) (Nat.le_refl _) _
      clear x0 x1 x2 xf c3 hk1
      generalize W9.setCell ⟨wb.heap.size, 1, none⟩ (.slice yna y.next.length ync) = W10 at *
      obtain ⟨x0, x1, x2⟩ : W10.cell? ⟨wb.heap.size, 0, none⟩ = some (.slice b3 n3 c4) ∧ W10.cell? ⟨wb.heap.size, 1, none⟩ = some (.slice yna y.next.length ync) ∧ W10.cell? ⟨wb.heap.size, 2, none⟩ = some (.int .i64 x.dep) := ⟨by rw [cell_of_row W10 _ 0 _ _ _ hr10]; rfl, by rw [cell_of_row W10 _ 1 _ _ _ hr10]; rfl, by rw [cell_of_row W10 _ 2 _ _ _ hr10]; rfl⟩
      have q010 := (hbb10.block w.heap.size (Array.getElem?_eq_some_iff.1 (unhide HQ0)).1).trans (unhide HQ0)
      obtain ⟨-, -, -, c3, -, -⟩ := cob_cells q010
      have hbo10 := (unhide HBow).below hbb10
      obtain ⟨vi9, vn9', b0, b1, b2, -, -⟩ := hbo10.it q x (unhide HXl)
      have bf := hbo10.bt.frozen
      have hyz := unhide HYz
      have hwB := unhide HBol
      have hA9 : ∀ k, Y.heap.size ≤ k → k ≠ B ∧ ¬ (k = w.heap.size ∨ k = w.heap.size + 1 ∨ (Value.slice a G c).ownBlock = some k) := fun k hk => ⟨by omega, fun h => by
       have h1 := (Array.getElem?_eq_some_iff.1 (unhide HRb)).1
       have h2 := (unhide HBb).size
       rcases h with h | h | h
       ·omega
       ·omega
       ·have := ((unhide HRo).lt k h).2; omega⟩
      have hm3 : Vc.Mv w8 W10 (fun k => k ≠ wb.heap.size ∧ (k ≠ B ∧ ¬ (k = w.heap.size ∨ k = w.heap.size + 1 ∨ (Value.slice a G c).ownBlock = some k))) (fun k => k ≠ B ∧ ¬ (k = w.heap.size ∨ k = w.heap.size + 1 ∨ (Value.slice a G c).ownBlock = some k)) := fun q hq hk => ⟨hk.2, hot10 q hk.1⟩
      have hl10 := Vc.LL.moved hm3 (Nat.le_of_eq hz10.symm) (fun _ _ q => q.moved hm3) ((unhide HL9).ll (G := fun k => k ≠ wb.heap.size ∧ (k ≠ B ∧ ¬ (k = w.heap.size ∨ k = w.heap.size + 1 ∨ (Value.slice a G c).ownBlock = some k))) (fun k hk => ⟨by have := hk.2; omega, hk.1⟩) (fun k h1 _ => ⟨by omega, hA9 k h1⟩))
      rw [List.nil_append] at hl10
      have hset := hbo10.setAll (y := ⟨sta x ++ y.ins, y.next, x.dep⟩) (unhide HXl) (vi := .slice b3 n3 c4) (vn := .slice yna y.next.length ync) (by unfold sta; rw [← unhide HP]; exact hl10) ((unhide HYnn).moved fun q hq hk => ⟨hk, hbb10.block q hq⟩)
      rw [← unhide HJd] at hset
      have ot11 : ∀ k, k ≠ B → (((W10.setCell ⟨B, q * 3, none⟩ (.slice b3 n3 c4)).setCell ⟨B, q * 3 + 1, none⟩ (.slice yna y.next.length ync)).setCell ⟨B, q * 3 + 2, none⟩ (.int .i64 x.dep)).heap[k]? = W10.heap[k]? := fun k hk => by
       rw [heap_setCell_other _ _ _ _ (by exact hk), heap_setCell_other _ _ _ _ (by exact hk), heap_setCell_other _ _ _ _ (by exact hk)]
      have oz11 : (((W10.setCell ⟨B, q * 3, none⟩ (.slice b3 n3 c4)).setCell ⟨B, q * 3 + 1, none⟩ (.slice yna y.next.length ync)).setCell ⟨B, q * 3 + 2, none⟩ (.int .i64 x.dep)).heap.size = W10.heap.size := by simp
      have hwa := unhide HBa
      have hb11 : Below w.heap.size w (((W10.setCell ⟨B, q * 3, none⟩ (.slice b3 n3 c4)).setCell ⟨B, q * 3 + 1, none⟩ (.slice yna y.next.length ync)).setCell ⟨B, q * 3 + 2, none⟩ (.int .i64 x.dep)) := ((((hwa.trans ((unhide HBb).mono hwa.size)).trans (hbb10.mono (hwa.trans ((unhide HBb).mono hwa.size)).size)).setCell (p := ⟨B, q * 3, none⟩) (by have := unhide HNb; have := unhide HXz; show w.heap.size ≤ B; omega) _).setCell (p := ⟨B, q * 3 + 1, none⟩) (by have := unhide HNb; have := unhide HXz; show w.heap.size ≤ B; omega) _).setCell (p := ⟨B, q * 3 + 2, none⟩) (by have := unhide HNb; have := unhide HXz; show w.heap.size ≤ B; omega) _
      have HSet := hide hset; have HOt11 := hide ot11; have HOz11 := hide oz11; have HB11 := hide hb11; have HBb10 := hide hbb10
      have HQ10 := hide q010
      clear q010 hset ot11 oz11 hb11 hwa hl10 hm3 hA9 hyz hwB hbo10 hr10 hot10 hz10 hbb10
      go_upto_region 18 with fail
      generalize ((W10.setCell ⟨B, q * 3, none⟩ (.slice b3 n3 c4)).setCell ⟨B, q * 3 + 1, none⟩ (.slice yna y.next.length ync)).setCell ⟨B, q * 3 + 2, none⟩ (.int .i64 x.dep) = W11 at *
      clear b0 b1 b2 bf x0 x1 x2 c3
      have hne := unhide HNe
      have hXz := unhide HXz
      have hNb := unhide HNb
      have hrl := (unhide HRo).lt
      have hla1 := (Array.getElem?_eq_some_iff.1 (unhide HRb)).1
      have hbbs := (unhide HBb).size
      have hlb0 := (Array.getElem?_eq_some_iff.1 (unhide HQ10)).1
      have hro11 : Ro W11 X.heap.size (.slice a G c) (nzi gone) := (unhide HRo).keep fun k hk => (unhide HOt11 k (hne k hk)).trans (((unhide HBb10).block k (by have := (hrl k hk).2; omega)).trans ((unhide HBb).block k (hrl k hk).2))
      have hr011 : W11.heap[w.heap.size]? = some (.cells (cob pa re rs (.slice (some ⟨B, 0, none⟩) n cap)) 24 (0, 0)) := (unhide HOt11 w.heap.size (by omega)).trans (unhide HQ10)
      have hr111 : W11.heap[w.heap.size + 1]? = some (.cells (cob 0 0 false (.slice none 0 0)) 24 (0, 0)) := (unhide HOt11 (w.heap.size + 1) (by omega)).trans (((unhide HBb10).block _ (by omega)).trans (((unhide HBb).block _ hla1).trans (unhide HRb)))
      have hal11 := Vc.one_alloc W11 (.cells #[.int .i64 (z : Int)] 3)
      have hs11 : (W11.alloc (.cells #[.int .i64 (z : Int)] 3)).heap.size = W11.heap.size + 1 := by simp
      have hbz := (unhide HSet).lt
      have HRo11 := hide (hro11.below hal11); have HR011 := hide ((hal11.block _ (Array.getElem?_eq_some_iff.1 hr011).1).trans hr011); have HR111 := hide ((hal11.block _ (Array.getElem?_eq_some_iff.1 hr111).1).trans hr111); have HSet12 := hide ((unhide HSet).below hal11); have HB12 := hide ((unhide HB11).trans (hal11.mono (unhide HB11).size)); have HNw := hide (Array.getElem?_eq_some_iff.1 hr111).1; have HS11 := hide hs11; have HRl := hide (show ∀ k, (Value.slice a G c).ownBlock = some k → X.heap.size ≤ k from fun k hk => (hrl k hk).1)
      clear hne hXz hNb hrl hla1 hbbs hlb0 hro11 hr011 hr111 hal11 hs11 hbz
      go_wp2_with (at_builtin
                   refine wpList_push (unhide HRo11) (z : Int) rfl (.tmp 106) (.tmp 108) rfl rfl (B := W11.heap.size) rfl (by rw [cell_of_row _ _ 0 _ _ _ (heap_alloc_new W11 _)]; rfl) (by have := unhide HGi; omega) (by have := unhide HS11; have := unhide HNw; have := unhide HXz; omega) ?_
                   intro b9 c9 w9 h1 h2 h3
                   have HP1 := hide h1; have HP2 := hide h2; have HP3 := hide h3
                   clear h1 h2 h3)
      have hs11 := unhide HS11
      have hXz := unhide HXz
      have hNw := unhide HNw
      have hNb := unhide HNb
      have hl1 : (nzi gone).length + 1 = (nzi (gone ++ [z])).length := by rw [nzi_len, nzi_len, List.length_append]; rfl
      have ho9 : ∀ k, (Value.slice b9 ((nzi gone).length + 1) c9).ownBlock = some k → (Value.slice a G c).ownBlock = some k ∨ k = (W11.alloc (.cells #[.int .i64 (z : Int)] 3)).heap.size := fun k hk => by
       rcases unhide HP3 with h | h
       ·exact .inl (by rw [← h]; exact hk)
       ·rw [hk] at h; cases h; exact .inr rfl
      have hset9 := ((unhide HSet12).grow (unhide HP2) (fun k hk => ⟨.inr (.inr hk), unhide HNe k hk⟩)).weak (A' := fun k => k = w.heap.size ∨ k = w.heap.size + 1 ∨ (Value.slice b9 ((nzi gone).length + 1) c9).ownBlock = some k) (Nat.le_refl _) (fun k h => by
       rcases h with h | h | h
       ·exact .inl (.inl h)
       ·exact .inl (.inr (.inl h))
       ·rcases ho9 k h with h | h
        ·exact .inl (.inr (.inr h))
        ·exact .inr (Nat.le_of_eq h.symm))
      have hne9 : ∀ k, (Value.slice b9 ((nzi gone).length + 1) c9).ownBlock = some k → k ≠ B := fun k hk => by
       rcases ho9 k hk with h | h
       ·exact unhide HNe k h
       ·have := (unhide HSet12).lt; omega
      have hr09 := ((unhide HP2).block w.heap.size (by omega) (fun e => by have := unhide HRl _ e.symm; omega)).trans (unhide HR011)
      have hr19 := ((unhide HP2).block (w.heap.size + 1) (by omega) (fun e => by have := unhide HRl _ e.symm; omega)).trans (unhide HR111)
      have hb19 := (unhide HB12).grown (unhide HP2) (by omega) (fun q e => by have := unhide HRl q e; omega)
      have hro9 := unhide HP1
      rw [← nzi_app] at hro9
      have hgl2 := (unhide HJ2).glen
      have HM := hide (show G + 1 ≤ n by
       have h1 := unhide HN
       have h2 := unhide HG
       rw [List.length_append, ← h1] at hgl2
       rw [nzi_len] at h2
       have h3 : [z].length = 1 := rfl
       omega)
      rw [hl1] at hset9 hne9 hro9
      have HF1 := hide hset9; have HF2 := hide hro9; have HF3 := hide hne9; have HF4 := hide hr09; have HF5 := hide hr19; have HF6 := hide hb19; have HL1 := hide hl1
      clear hset9 hro9 hne9 hr09 hr19 hb19 hl1 hgl2 ho9 hs11 hXz hNw hNb
      go_roundw
      case rel => exact ⟨jdo cur q, gone ++ [z], K', b9, c9, by rw [unhide HL1], unhide HJ2, unhide HT2, unhide HF1, unhide HF2, unhide HF3, unhide HF4, unhide HF5, unhide HF6⟩
      case measure => have := unhide HM; have := unhide HG; simp; omega
end Fw
end Go.Proofs.YtglehoekehiaiaaGreatDoor
