/- vcode.Clone. -/
import Derived.Test.YtpecnljcgiicaaaDoorVcV
import Derived.Deep.Cut
import Derived.Deep.RegionLaw
namespace Go.Proofs.YtpecnljcgiicaaaDoor
open Go.RowKit
namespace Vc
set_option linter.unusedVariables false

theorem Row.keep {α : Type} {New : World → Nat → Nat → α → List Value → Prop} {Old : α → List Value → Prop} {c : Nat} {T : TypeId} {l : List α} {k B p : Nat} {w w' : World} (hN : Moves New) (h : Row New Old c T l k B p w) (hq : ∀ q, B ≤ q → w'.heap[q]? = w.heap[q]?) (hs : w'.heap.size = w.heap.size) : Row New Old c T l k B p w' := by
  refine ⟨h.t.move (hq B (Nat.le_refl _)), h.lp, by rw [hs]; exact h.ph, fun i x hx => ?_⟩
  obtain ⟨cs, k1, k2, k3, k4⟩ := h.it i x hx
  refine ⟨cs, k1, fun hlt => ?_, k3, fun j u hu => (World.cell?_of_block (a := ⟨B, i * c + j, none⟩) (hq B (Nat.le_refl _))).trans (k4 j u hu)⟩
  have h5 := k2 hlt
  have := h.lp
  rw [hs]
  exact hN _ _ _ _ _ _ _ _ h5 (fun q a b => hq q (by split at a <;> omega)) (Nat.le_refl _) (Nat.le_refl _)
/-- while blocks are cloned -/
structure COut (w : World) (g : Nat → Prop) (pa re : Int) (rs : Bool) (bl : List Bl) (n cap B j p : Nat) (wr : World) : Prop where
  b0 : wr.heap[w.heap.size]? = some (.cells (cob pa re rs (.slice (some ⟨B, 0, none⟩) n cap)) 25 (0, 0))
  b1 : wr.heap[w.heap.size + 1]? = some (.cells (cob 0 0 false (.slice none 0 0)) 25 (0, 0))
  hB : w.heap.size + 2 ≤ B
  row : Row BlO (BlC w g) 3 32 bl j B p wr
  be : Below w.heap.size w wr
theorem COut.next {w : World} {g : Nat → Prop} {pa re : Int} {rs : Bool} {bl : List Bl} {n cap B j p : Nat} {wr wq : World} {x : Bl} {cs : List Value} (h : COut w g pa re rs bl n cap B j p wr) (ht : Turn 3 B j wr wq) (hT : RowT wq B 32) (hbe : Below w.heap.size w wq) (hx : bl[j]? = some x) (hc : cs.length = 3) (hn : BlO wq wr.heap.size wq.heap.size x cs)
    (hce : ∀ q u, cs[q]? = some u → wq.cell? ⟨B, j * 3 + q, none⟩ = some u) : ∃ p', COut w g pa re rs bl n cap B (j + 1) p' wq := by
  have hB := h.hB
  have h0 := (Array.getElem?_eq_some_iff.1 h.b0).1
  have h1 := (Array.getElem?_eq_some_iff.1 h.b1).1
  obtain ⟨p', hr⟩ := h.row.step BlO.moves ht hT hx hc hn hce
  exact ⟨p', (ht.ot _ h0 (by omega)).trans h.b0, (ht.ot _ h1 (by omega)).trans h.b1, hB, hr, hbe⟩
theorem COut.fin {w : World} {g : Nat → Prop} {pa re : Int} {rs : Bool} {bl : List Bl} {n cap B j p q : Nat} {wr wq : World} {ins : List In} {next : List Int} {dep : Int} {vi vn : Value} (h : COut w g pa re rs bl n cap B j p wr) (hx : bl[j]? = some ⟨ins, next, dep⟩) (ht : Turn 3 B j wr wq) (hT : RowT wq B 32) (hbe : Below w.heap.size w wq) (h1 : wr.heap.size ≤ q) (h2 : q ≤ wq.heap.size)
    (hn : NumO wq wr.heap.size q next vn) (hi : Own InO 5 29 wq q wq.heap.size ins vi) (c0 : wq.cell? ⟨B, j * 3, none⟩ = some vi) (c1 : wq.cell? ⟨B, j * 3 + 1, none⟩ = some vn) (c2 : wq.cell? ⟨B, j * 3 + 2, none⟩ = some (.int .i64 dep)) : ∃ p', COut w g pa re rs bl n cap B (j + 1) p' wq := by
  refine h.next (cs := [vi, vn, .int .i64 dep]) ht hT hbe hx rfl ⟨vi, vn, q, rfl, h1, h2, hn, hi⟩ (fun q u hu => ?_)
  match q, hu with
  | 0, hu => cases hu; exact c0
  | 1, hu => cases hu; exact c1
  | 2, hu => cases hu; exact c2
  | q + 3, hu => simp at hu
/-- while a block's instructions are cloned -/
structure CIn (w : World) (g : Nat → Prop) (ins : List In) (BI k p : Nat) (W wq : World) : Prop where
  row : Row InO (InC w g) 5 29 ins k BI p wq
  sz : W.heap.size ≤ wq.heap.size
  ot : ∀ q, q < W.heap.size → q ≠ BI → wq.heap[q]? = W.heap[q]?
  be : Below w.heap.size w wq
theorem CIn.next {w : World} {g : Nat → Prop} {ins : List In} {BI k p : Nat} {W wq w5 : World} {y : In} {vs v5 : Value} (h : CIn w g ins BI k p W wq) (hy : ins[k]? = some y) (hb : Below wq.heap.size wq w5) (hn : NumO w5 wq.heap.size w5.heap.size y.src v5) (hlt : w.heap.size ≤ BI)
    (f0 : wq.cell? ⟨BI, k * 5 + 0, none⟩ = some (.int .u8 (y.op : Int))) (f1 : wq.cell? ⟨BI, k * 5 + 1, none⟩ = some (.int .i64 y.dst)) (f2 : wq.cell? ⟨BI, k * 5 + 2, none⟩ = some vs) (f3 : wq.cell? ⟨BI, k * 5 + 3, none⟩ = some (.int .i64 y.n)) (f4 : wq.cell? ⟨BI, k * 5 + 4, none⟩ = some (.int .u32 y.of)) :
    ∃ p', CIn w g ins BI (k + 1) p' W (w5.setCell ⟨BI, k * 5 + 2, none⟩ v5) := by
  have hl := h.row.t.lt
  have ht : Turn 5 BI k wq (w5.setCell ⟨BI, k * 5 + 2, none⟩ v5) := ((Turn.refl 5 BI k wq).below hl hb).set 2 (by omega) v5
  have hT : RowT (w5.setCell ⟨BI, k * 5 + 2, none⟩ v5) BI 29 := (h.row.t.move (hb.block BI hl)).set
  have oth : ∀ q u, q ≠ 2 → wq.cell? ⟨BI, k * 5 + q, none⟩ = some u → (w5.setCell ⟨BI, k * 5 + 2, none⟩ v5).cell? ⟨BI, k * 5 + q, none⟩ = some u := fun q u hq hu => by
    have hne : (⟨BI, k * 5 + 2, none⟩ : Addr) ≠ ⟨BI, k * 5 + q, none⟩ := by intro e; injection e with _ e2 _; omega
    exact (World.cell?_setCell_other w5 _ _ v5 hne).trans ((hb.cell (p := ⟨BI, k * 5 + q, none⟩) hl).trans hu)
  have h2 : (w5.setCell ⟨BI, k * 5 + 2, none⟩ v5).cell? ⟨BI, k * 5 + 2, none⟩ = some v5 := World.cell?_setCell_same w5 _ v5 ((hb.cell (p := ⟨BI, k * 5 + 2, none⟩) hl).trans f2)
  obtain ⟨p', hr⟩ := h.row.step (x := y) (cs := [.int .u8 (y.op : Int), .int .i64 y.dst, v5, .int .i64 y.n, .int .u32 y.of]) InO.moves ht hT hy rfl
    ⟨v5, rfl, hn.move (fun q a b => heap_setCell_other _ _ _ _ (by show q ≠ BI; omega)) (Nat.le_refl _) (by simp)⟩
    (fun q u hu => by
      match q, hu with
      | 0, hu => cases hu; exact oth 0 _ (by omega) f0
      | 1, hu => cases hu; exact oth 1 _ (by omega) f1
      | 2, hu => cases hu; exact h2
      | 3, hu => cases hu; exact oth 3 _ (by omega) f3
      | 4, hu => cases hu; exact oth 4 _ (by omega) f4
      | q + 5, hu => simp at hu)
  refine ⟨p', hr, Nat.le_trans h.sz ht.sz, fun q hq hne => (ht.ot q (Nat.lt_of_lt_of_le hq h.sz) hne).trans (h.ot q hq hne), ?_⟩
  exact (h.be.trans (hb.mono h.be.size)).setCell (p := ⟨BI, k * 5 + 2, none⟩) hlt v5
theorem CoO_nil (w : World) (lo hi : Nat) (a : Option Addr) (cap : Nat) (h : a = none → cap = 0) : CoO w lo hi [] (.slice a 0 cap) := ⟨a, cap, rfl, Nat.zero_le _, h, fun h => by simp at h⟩
theorem InsO_nil (w : World) (lo hi : Nat) (a : Option Addr) (cap : Nat) (h : a = none → cap = 0) : Own InO 5 29 w lo hi [] (.slice a 0 cap) := ⟨a, cap, rfl, Nat.zero_le _, h, fun h => by simp at h⟩

set_option maxRecDepth 100000 in
set_option maxHeartbeats 6400000 in
theorem clone_any (c : Co) (hc : WfC c) (g : Nat → Prop) (v : Value) (w : World) (hv : Bls w g c.bl v) (hg : ∀ k, g k → k < w.heap.size) :
    Calls Tryd.prog 35 #[.agg #[.int .i64 c.pa, .int .i64 c.re, .bool c.rs, v]] w fun e w' => ∃ v', e = .returned (.agg #[.int .i64 c.pa, .int .i64 c.re, .bool c.rs, v']) ∧ CoO w' w.heap.size w'.heap.size c.bl v' ∧ (c.bl = [] → w'.ownsRow w.heap.size 32 3 v' 0 []) ∧ Below w.heap.size w w' := by
  have hlen := hc.len
  have HWf := hide hc.bl; have HV := hide hv; have HG := hide hg
  clear hc hg
  obtain ⟨pa, re, rs, bl⟩ := c
  simp only at *
  obtain ⟨a, cp, rfl, _⟩ := hv
  have hb2 : Below w.heap.size w ((w.alloc (.cells #[.int .i64 pa, .int .i64 re, .bool rs, .slice a bl.length cp] 25)).alloc (.cells #[.int .i64 0, .int .i64 0, .bool false, .slice none 0 0] 25)) := two_allocs w _ _
  have r0 : ((w.alloc (.cells #[.int .i64 pa, .int .i64 re, .bool rs, .slice a bl.length cp] 25)).alloc (.cells #[.int .i64 0, .int .i64 0, .bool false, .slice none 0 0] 25)).heap[w.heap.size]? = some (.cells (cob pa re rs (.slice a bl.length cp)) 25 (0, 0)) := by
    rw [Below.heap_alloc _ _ _ (by simp)]; exact heap_alloc_new _ _
  have r1 : ((w.alloc (.cells #[.int .i64 pa, .int .i64 re, .bool rs, .slice a bl.length cp] 25)).alloc (.cells #[.int .i64 0, .int .i64 0, .bool false, .slice none 0 0] 25)).heap[w.heap.size + 1]? = some (.cells (cob 0 0 false (.slice none 0 0)) 25 (0, 0)) := by
    have := heap_alloc_new (w.alloc (.cells #[.int .i64 pa, .int .i64 re, .bool rs, .slice a bl.length cp] 25)) (.cells #[.int .i64 0, .int .i64 0, .bool false, .slice none 0 0] 25)
    rwa [show (w.alloc (.cells #[.int .i64 pa, .int .i64 re, .bool rs, .slice a bl.length cp] 25)).heap.size = w.heap.size + 1 by simp] at this
  have hz2 : ((w.alloc (.cells #[.int .i64 pa, .int .i64 re, .bool rs, .slice a bl.length cp] 25)).alloc (.cells #[.int .i64 0, .int .i64 0, .bool false, .slice none 0 0] 25)).heap.size = w.heap.size + 2 := by simp
  have HB2 := hide hb2; have HR0 := hide r0; have HR1 := hide r1; have HZ2 := hide hz2
  have x3 : ((w.alloc (.cells #[.int .i64 pa, .int .i64 re, .bool rs, .slice a bl.length cp] 25)).alloc (.cells #[.int .i64 0, .int .i64 0, .bool false, .slice none 0 0] 25)).cell? ⟨w.heap.size, 3, none⟩ = some (.slice a bl.length cp) := (cob_cells r0).2.2.2.1
  have xl : w.heap.size < ((w.alloc (.cells #[.int .i64 pa, .int .i64 re, .bool rs, .slice a bl.length cp] 25)).alloc (.cells #[.int .i64 0, .int .i64 0, .bool false, .slice none 0 0] 25)).heap.size := by rw [hz2]; omega
  clear hb2 r0 r1 hz2
  go_enter Tryd.func35, Tryd.ntmps35
  go_upto_region 1 with fail
  generalize (w.alloc (.cells #[.int .i64 pa, .int .i64 re, .bool rs, .slice a bl.length cp] 25)).alloc (.cells #[.int .i64 0, .int .i64 0, .bool false, .slice none 0 0] 25) = W2 at *
  have HCl := hide (clBls BlO (BlC w g) blC_ones bl (.slice a bl.length cp) W2 (LLf.of (unhide HV) (fun k hk hl => (unhide HB2).block k hl) (unhide HB2).size) hlen)
  go_wp2_with fail
  refine (unhide HCl).mono ?_
  rintro e w1 ⟨v1, rfl, hraw, hb1⟩
  have hN1 : w.heap.size < w1.heap.size := by have := hb1.size; omega
  have q0 := (hb1.block _ xl).trans (unhide HR0)
  have q1 := (hb1.block (w.heap.size + 1) (by rw [unhide HZ2]; omega)).trans (unhide HR1)
  have c3 := (cob_cells q0).2.2.2.1
  have cf := (cob_cells q0).2.2.2.2.1
  have hbe : Below w.heap.size w (w1.setCell ⟨w.heap.size, 3, none⟩ v1) := ((unhide HB2).trans (hb1.mono (by rw [unhide HZ2]; omega))).setCell (p := ⟨w.heap.size, 3, none⟩) (Nat.le_refl _) v1
  have s0 : (w1.setCell ⟨w.heap.size, 3, none⟩ v1).heap[w.heap.size]? = some (.cells (cob pa re rs v1) 25 (0, 0)) := (heap_setCell_same w1 _ 3 _ _ v1 q0).trans rfl
  have s1 : (w1.setCell ⟨w.heap.size, 3, none⟩ v1).heap[w.heap.size + 1]? = some (.cells (cob 0 0 false (.slice none 0 0)) 25 (0, 0)) := (heap_setCell_other _ _ _ _ (by show w.heap.size + 1 ≠ w.heap.size; omega)).trans q1
  have HS0 := hide s0; have HS1 := hide s1; have HBe := hide hbe; have HQ1 := hide q1
  clear s0 s1 hbe q0 q1 x3 xl HCl
  rcases hraw with ⟨rfl, ho1⟩ | ⟨hpos, B, cap, rfl, hrow, hB, hcap⟩
  · obtain ⟨a1, cap1, rfl, hnil⟩ := own0 ho1
    have hoW := ownsRow_setCell_below ho1 (a := ⟨w.heap.size, 3, none⟩) (by rw [unhide HZ2]; show w.heap.size < _; omega) (.slice a1 0 cap1)
    have HOw := hide (own_base hoW (show w.heap.size + 2 ≤ W2.heap.size by rw [unhide HZ2]; exact Nat.le_refl _))
    clear hoW ho1
    have HNil := hide hnil
    clear hnil hb1 hlen HWf HV
    go_upto_region 2 with fail
    generalize w1.setCell ⟨w.heap.size, 3, none⟩ (.slice a1 0 cap1) = W3 at *
    obtain ⟨x0, x1, x2, x3, xf, xl⟩ := cob_cells (unhide HS0)
    obtain ⟨y0, y1, y2, y3, yf, yl⟩ := cob_cells (unhide HS1)
    clear c3 cf hN1
    go_wp2_with fail
    go_loopw [13] (fun c wr => c = .int .i64 0 ∧ wr = W3) (fun c _ => 0)
    case atStart => exact ⟨rfl, rfl⟩
    case round =>
      obtain ⟨rfl, rfl⟩ := hrel
      go_wp2
      obtain ⟨hbb, hss, hoo⟩ := bel4b (unhide HBe) (w.heap.size + 1) (by omega) (.int .i64 pa) (.int .i64 re) (.bool rs) (.slice a1 0 cap1)
      have HOe := hide (own_base (ownsRow_setCell_below (ownsRow_setCell_below (ownsRow_setCell_below (ownsRow_setCell_below (unhide HOw) (a := ⟨w.heap.size + 1, 0, none⟩) (by show w.heap.size + 1 < _; omega) (.int .i64 pa)) (a := ⟨w.heap.size + 1, 1, none⟩) (by show w.heap.size + 1 < _; omega) (.int .i64 re)) (a := ⟨w.heap.size + 1, 2, none⟩) (by show w.heap.size + 1 < _; omega) (.bool rs)) (a := ⟨w.heap.size + 1, 3, none⟩) (by show w.heap.size + 1 < _; omega) (.slice a1 0 cap1)) (show w.heap.size ≤ w.heap.size + 2 by omega))
      have hr := set4 wr (w.heap.size + 1) _ _ _ _ _ (.int .i64 pa) (.int .i64 re) (.bool rs) (.slice a1 0 cap1) (unhide HS1)
      clear x0 x1 x2 x3 xf xl y0 y1 y2 y3 yf yl
      generalize (((wr.setCell ⟨w.heap.size + 1, 0, none⟩ (.int .i64 pa)).setCell ⟨w.heap.size + 1, 1, none⟩ (.int .i64 re)).setCell ⟨w.heap.size + 1, 2, none⟩ (.bool rs)).setCell ⟨w.heap.size + 1, 3, none⟩ (.slice a1 0 cap1) = WE at *
      have hfin : CoO WE w.heap.size WE.heap.size _ (.slice a1 0 cap1) := CoO_nil _ _ _ _ _ (unhide HNil)
      have c0 := cell_of_row WE (w.heap.size + 1) 0 _ _ _ hr; have c1 := cell_of_row WE (w.heap.size + 1) 1 _ _ _ hr; have c2 := cell_of_row WE (w.heap.size + 1) 2 _ _ _ hr; have c3 := cell_of_row WE (w.heap.size + 1) 3 _ _ _ hr
      simp only [List.getElem?_toArray, List.getElem?_cons_zero, List.getElem?_cons_succ] at c0 c1 c2 c3
      refine bodyPost_ret (v := .agg #[.int .i64 pa, .int .i64 re, .bool rs, .slice a1 0 cap1]) (by simp [results, Tryd.results35, go_sem, c0, c1, c2, c3]) rfl ⟨_, rfl, hfin, unhide HOe, hbb⟩
  · have hn1 : (bl.length : Int) ≤ 1099511627776 := by omega
    have HNe := hide (show ¬ bl = [] from fun h => by rw [h] at hpos; simp at hpos)
    have hB2 : w.heap.size + 2 ≤ B := by rw [← unhide HZ2]; exact hB
    have hout : COut w g pa re rs bl bl.length cap B 0 w1.heap.size (w1.setCell ⟨w.heap.size, 3, none⟩ (.slice (some ⟨B, 0, none⟩) bl.length cap)) := by
      refine ⟨unhide HS0, unhide HS1, hB2, hrow.keep BlO.moves (fun q hq => heap_setCell_other _ _ _ _ ?_) (by simp), unhide HBe⟩
      show q ≠ w.heap.size; omega
    have HOut := hide hout; have HCap := hide hcap
    clear hout hrow hB hb1 hB2 hcap hlen
    generalize hnl : bl.length = n at *
    have HN := hide hnl; clear hnl
    go_upto_region 2 with fail
    generalize w1.setCell ⟨w.heap.size, 3, none⟩ (.slice (some ⟨B, 0, none⟩) n cap) = W3 at *
    obtain ⟨x0, x1, x2, x3, xf, xl⟩ := cob_cells (unhide HS0)
    clear c3 cf hN1
    go_wp2_with fail
    go_loopw [13] (fun c wr => ∃ j p : Nat, c = .int .i64 j ∧ (j : Int) ≤ n ∧ COut w g pa re rs bl n cap B j p wr) (fun c _ => n - (intOf c).toNat)
    case atStart => exact ⟨0, _, rfl, by omega, unhide HOut⟩
    case round =>
      obtain ⟨j, p, rfl, hj, hR⟩ := hrel
      have HR := hide hR
      clear x0 x1 x2 x3 xf xl
      obtain ⟨x0, x1, x2, x3, xf, xl⟩ := cob_cells hR.b0
      by_cases hlt : (j : Int) < n
      · obtain ⟨x, hx⟩ : ∃ x, bl[j]? = some x := ⟨_, List.getElem?_eq_getElem (by have := unhide HN; omega)⟩
        have hwx := unhide HWf x (List.mem_of_getElem? hx)
        obtain ⟨cs, hcl, _, hold, hce⟩ := hR.row.it j x hx
        obtain ⟨vi, vn, rfl, hi, hn⟩ := hold (Nat.le_refl _)
        have e0 := hce 0 _ rfl; have e1 := hce 1 _ rfl; have e2 := hce 2 _ rfl
        have hBl := hR.row.t.lt
        have hfz := hR.row.t.frozen
        have hbe := hR.be
        have hBg := hR.hB
        have hNw : NumsL wr g x.next vn := hn.moved fun k _ hk => ⟨hk, hbe.block k (unhide HG k hk)⟩
        have HI := hide hi; have HXb := hide hx; have HWx := hide hwx; have HBe := hide hbe; have HE2 := hide e2
        obtain ⟨ai, ci, rfl, _⟩ := hi
        obtain ⟨an, cn, rfl, _⟩ := id hn
        have HCn := hide (clNums x.next g _ wr hNw hwx.nlen)
        clear hx hwx hcl hold hce hn hNw hbe hR hj e2
        obtain ⟨ins, next, dep⟩ := x
        simp only [Nat.add_zero] at *
        generalize hil : ins.length = il at *
        generalize hnl : next.length = nl at *
        have Hil := hide hil; have Hnl := hide hnl; clear hil hnl
        go_upto_region 6 with fail
        go_wp2_with fail
        refine (unhide HCn).mono ?_
        rintro e w4 ⟨vn4, rfl, hno, hb4⟩
        have HNo := hide hno
        obtain ⟨a4, c4, rfl, _⟩ := id hno
        have e04 := (hb4.cell (p := ⟨B, j * 3, none⟩) hBl).trans e0
        have e14 := (hb4.cell (p := ⟨B, j * 3 + 1, none⟩) hBl).trans e1
        have hfz4 : ∀ i, w4.frozen? ⟨B, i, none⟩ = false := ((unhide HR).row.t.move (hb4.block B hBl)).frozen
        have hBl4 : B < w4.heap.size := Nat.lt_of_lt_of_le hBl hb4.size
        simp only at *
        rw [unhide Hnl]
        have HB4 := hide hb4
        clear hno x0 x1 x2 x3 xf xl hfz e0 e1 hb4 HCn
        go_upto_region 7 with fail
        have ht5 : Turn 3 B j wr (w4.setCell ⟨B, j * 3 + 1, none⟩ (.slice a4 nl c4)) := ((Turn.refl 3 B j wr).below hBl (unhide HB4)).set 1 (by omega) _
        have hT5 : RowT (w4.setCell ⟨B, j * 3 + 1, none⟩ (.slice a4 nl c4)) B 32 := ((unhide HR).row.t.move ((unhide HB4).block B hBl)).set
        have hz5 : (w4.setCell ⟨B, j * 3 + 1, none⟩ (.slice a4 nl c4)).heap.size = w4.heap.size := by simp
        have hbe5 : Below w.heap.size w (w4.setCell ⟨B, j * 3 + 1, none⟩ (.slice a4 nl c4)) := ((unhide HBe).trans ((unhide HB4).mono (unhide HBe).size)).setCell (p := ⟨B, j * 3 + 1, none⟩) (by simp only; omega) _
        have e05 : (w4.setCell ⟨B, j * 3 + 1, none⟩ (.slice a4 nl c4)).cell? ⟨B, j * 3, none⟩ = some (.slice ai il ci) := (World.cell?_setCell_other w4 _ _ _ (by intro e; injection e with _ e2 _; omega)).trans e04
        have e15 : (w4.setCell ⟨B, j * 3 + 1, none⟩ (.slice a4 nl c4)).cell? ⟨B, j * 3 + 1, none⟩ = some (.slice a4 nl c4) := World.cell?_setCell_same w4 _ _ e14
        have e25 : (w4.setCell ⟨B, j * 3 + 1, none⟩ (.slice a4 nl c4)).cell? ⟨B, j * 3 + 2, none⟩ = some (.int .i64 dep) := (World.cell?_setCell_other w4 _ _ _ (by intro e; injection e with _ e2 _; omega)).trans (((unhide HB4).cell (p := ⟨B, j * 3 + 2, none⟩) hBl).trans (unhide HE2))
        have hno5 : NumO (w4.setCell ⟨B, j * 3 + 1, none⟩ (.slice a4 nl c4)) wr.heap.size w4.heap.size next (.slice a4 nl c4) := by
          have := unhide HNo
          simp only [unhide Hnl] at this
          exact this.move (fun q a b => heap_setCell_other _ _ _ _ (by show q ≠ B; omega)) (Nat.le_refl _) (Nat.le_refl _)
        have HT5 := hide ht5; have HTT5 := hide hT5; have HZ5 := hide hz5; have HBe5 := hide hbe5; have HE15 := hide e15; have HE25 := hide e25; have HNo5 := hide hno5
        have hBl5 : B < (w4.setCell ⟨B, j * 3 + 1, none⟩ (.slice a4 nl c4)).heap.size := by rw [hz5]; exact hBl4
        clear ht5 hT5 hz5 hbe5 e15 e25 hno5 HNo HBe HE2 e04 e14 hfz4
        generalize w4.setCell ⟨B, j * 3 + 1, none⟩ (.slice a4 nl c4) = W5 at *
        have hLf : LLf (InC w g) 5 W5 ins (.slice ai il ci) := LLf.of (unhide HI) (fun k hk hl => (unhide HBe5).block k hl) (unhide HBe5).size
        have HCi := hide (clIns InO (InC w g) inC_ones ins _ W5 hLf (unhide HWx).len)
        clear hLf
        go_wp2_with fail
        refine (unhide HCi).mono ?_
        rintro e w6 ⟨vi6, rfl, hraw, hb6⟩
        obtain ⟨a6, c6, rfl⟩ : ∃ a6 c6, vi6 = .slice a6 il c6 := by
          rcases hraw with ⟨e, ho6⟩ | ⟨_, B6, c6, e2, _⟩
          · obtain ⟨a6, c6, e2, _⟩ := own0 ho6
            exact ⟨a6, c6, by rw [e2, ← unhide Hil, e]; rfl⟩
          · exact ⟨_, c6, by rw [e2, unhide Hil]⟩
        have e06 := (hb6.cell (p := ⟨B, j * 3, none⟩) hBl5).trans e05
        have hfz6 : ∀ i, w6.frozen? ⟨B, i, none⟩ = false := ((unhide HTT5).move (hb6.block B hBl5)).frozen
        have hBl6 : B < w6.heap.size := Nat.lt_of_lt_of_le hBl5 hb6.size
        have HB6 := hide hb6; have HRaw := hide hraw
        clear hraw hb6 e05 HCi
        go_upto_region 8 with fail
        have ht7 : Turn 3 B j wr (w6.setCell ⟨B, j * 3, none⟩ (.slice a6 il c6)) := ((unhide HT5).below hBl5 (unhide HB6)).set 0 (by omega) _
        have hT7 : RowT (w6.setCell ⟨B, j * 3, none⟩ (.slice a6 il c6)) B 32 := ((unhide HTT5).move ((unhide HB6).block B hBl5)).set
        have hz7 : (w6.setCell ⟨B, j * 3, none⟩ (.slice a6 il c6)).heap.size = w6.heap.size := by simp
        have hbe7 : Below w.heap.size w (w6.setCell ⟨B, j * 3, none⟩ (.slice a6 il c6)) := ((unhide HBe5).trans ((unhide HB6).mono (unhide HBe5).size)).setCell (p := ⟨B, j * 3, none⟩) (by simp only; omega) _
        have e07 : (w6.setCell ⟨B, j * 3, none⟩ (.slice a6 il c6)).cell? ⟨B, j * 3, none⟩ = some (.slice a6 il c6) := World.cell?_setCell_same w6 _ _ e06
        have e17 : (w6.setCell ⟨B, j * 3, none⟩ (.slice a6 il c6)).cell? ⟨B, j * 3 + 1, none⟩ = some (.slice a4 nl c4) := (World.cell?_setCell_other w6 _ _ _ (by intro e; injection e with _ e2 _; omega)).trans (((unhide HB6).cell (p := ⟨B, j * 3 + 1, none⟩) hBl5).trans (unhide HE15))
        have e27 : (w6.setCell ⟨B, j * 3, none⟩ (.slice a6 il c6)).cell? ⟨B, j * 3 + 2, none⟩ = some (.int .i64 dep) := (World.cell?_setCell_other w6 _ _ _ (by intro e; injection e with _ e2 _; omega)).trans (((unhide HB6).cell (p := ⟨B, j * 3 + 2, none⟩) hBl5).trans (unhide HE25))
        have hno7 : NumO (w6.setCell ⟨B, j * 3, none⟩ (.slice a6 il c6)) wr.heap.size w4.heap.size next (.slice a4 nl c4) :=
          ((unhide HNo5).move (Mo.below (unhide HB6) (by rw [unhide HZ5]; exact Nat.le_refl _)) (Nat.le_refl _) (Nat.le_refl _)).move (fun q a b => heap_setCell_other _ _ _ _ (by show q ≠ B; omega)) (Nat.le_refl _) (Nat.le_refl _)
        have hsz46 : w4.heap.size ≤ w6.heap.size := by rw [← unhide HZ5]; exact (unhide HB6).size
        have hraw7 : RawO InO (InC w g) 5 29 w4.heap.size (w6.setCell ⟨B, j * 3, none⟩ (.slice a6 il c6)) ins (.slice a6 il c6) := by
          have := unhide HRaw
          rw [unhide HZ5] at this
          rcases this with ⟨h, ho6⟩ | ⟨h1, B6, c6', e2, hrow, h3, h4⟩
          · exact .inl ⟨h, ownsRow_setCell_below ho6 (a := ⟨B, j * 3, none⟩) hBl4 _⟩
          · refine .inr ⟨h1, B6, c6', e2, ?_, h3, h4⟩
            rw [hz7]
            exact hrow.keep InO.moves (fun q a => heap_setCell_other _ _ _ _ (by show q ≠ B; omega)) (by simp)
        have HT7 := hide ht7; have HTT7 := hide hT7; have HZ7 := hide hz7; have HBe7 := hide hbe7; have HE17 := hide e17; have HE27 := hide e27; have HNo7 := hide hno7; have HE07 := hide e07; have HSz46 := hide hsz46
        have hBl7 : B < (w6.setCell ⟨B, j * 3, none⟩ (.slice a6 il c6)).heap.size := by rw [hz7]; exact hBl6
        clear ht7 hT7 hz7 hbe7 e17 e27 hno7 hsz46 HT5 HTT5 HBe5 HE15 HE25 HNo5 HB6 HRaw e06 hfz6
        generalize w6.setCell ⟨B, j * 3, none⟩ (.slice a6 il c6) = W7 at *
        go_wp2_with fail
        rcases hraw7 with ⟨rfl, hnil⟩ | ⟨hpos, BI, cI, e2, hrow, hBI, hcI⟩
        · obtain rfl : 0 = il := by rw [← unhide Hil]; rfl
          obtain ⟨aa, ca, ee, hna⟩ := own0 hnil
          clear hnil
          simp only [Value.slice.injEq] at ee
          obtain ⟨rfl, hee, rfl⟩ := ee
          clear hee
          have hfin := COut.fin (unhide HR) (unhide HXb) (unhide HT7) (unhide HTT7) (unhide HBe7) (unhide HB4).size (by rw [unhide HZ7]; exact unhide HSz46) (unhide HNo7) (InsO_nil _ _ _ _ _ hna) e07 (unhide HE17) (unhide HE27)
          obtain ⟨p7, hfin⟩ := hfin
          have HFin := hide hfin
          clear hfin hna HR HI HT7 HTT7 HBe7 HE17 HE27 HNo7 HSz46 HZ7 HB4 hBl hBl4 hBl5 hBl6
          go_loopw [41] (fun c wq => c = .int .i64 0 ∧ wq = W7) (fun c _ => 0)
          case atStart => exact ⟨rfl, rfl⟩
          case round =>
            obtain ⟨rfl, rfl⟩ := hrel
            go_wp2
            go_roundw
            case rel => exact ⟨j + 1, p7, by go_num, by omega, unhide HFin⟩
            case measure => simp [intOf]; omega
        · have hpi : 0 < il := by rw [← unhide Hil]; exact hpos
          simp only [Value.slice.injEq] at e2
          obtain ⟨rfl, hee, rfl⟩ := e2
          clear hee
          rw [unhide Hil] at hcI
          have hin : CIn w g ins BI 0 W7.heap.size W7 W7 := ⟨hrow, Nat.le_refl _, fun _ _ _ => rfl, unhide HBe7⟩
          have hwBI : w.heap.size ≤ BI := by have := (unhide HB4).size; omega
          have hilb : (il : Int) ≤ 1099511627776 := by have := (unhide HWx).len; simp only at this; rw [unhide Hil] at this; omega
          have hBBI : B < BI := by omega
          have HIn := hide hin; have HCI := hide hcI; have HBI := hide hBI; have HSm := hide (unhide HWx).ins
          clear hin hrow hcI hBI hpos
          generalize wr = WO at *
          go_loopw [41] (fun c wq => ∃ k p : Nat, c = .int .i64 k ∧ (k : Int) ≤ il ∧ CIn w g ins BI k p W7 wq) (fun c _ => il - (intOf c).toNat)
          case atStart => exact ⟨0, _, rfl, by omega, unhide HIn⟩
          case round =>
            obtain ⟨k, pk, rfl, hk, hI⟩ := hrel
            have HI2 := hide hI
            clear e07
            have hW7B := hI.ot B hBl7 (by omega)
            have e07 : wr.cell? ⟨B, j * 3, none⟩ = some (.slice (some ⟨BI, 0, none⟩) il c6) := (World.cell?_of_block (a := ⟨B, j * 3, none⟩) hW7B).trans (unhide HE07)
            by_cases hklt : (k : Int) < il
            · obtain ⟨y, hy⟩ : ∃ y, ins[k]? = some y := ⟨_, List.getElem?_eq_getElem (by have := unhide Hil; omega)⟩
              obtain ⟨cs, hcl, _, hold, hce⟩ := hI.row.it k y hy
              obtain ⟨vs, rfl, hs⟩ := hold (Nat.le_refl _)
              have f0 := hce 0 _ rfl; have f1 := hce 1 _ rfl; have f2 := hce 2 _ rfl; have f3 := hce 3 _ rfl; have f4 := hce 4 _ rfl
              have hbe := hI.be
              have hNw : NumsL wr g y.src vs := hs.moved fun q _ hq => ⟨hq, hbe.block q (unhide HG q hq)⟩
              have hwy := unhide HSm y (List.mem_of_getElem? hy)
              obtain ⟨sa, sc, rfl, _⟩ := id hs
              have hBIl := hI.row.t.lt
              have hBlq : B < wr.heap.size := by omega
              have hfzI := hI.row.t.frozen
              have HCs := hide (fun W (h : Below wr.heap.size wr W) => clNums y.src g _ W (hNw.below h) hwy.len)
              have HY := hide hy; have HF0 := hide f0; have HF1 := hide f1; have HF2 := hide f2; have HF3 := hide f3; have HF4 := hide f4
              clear hy hcl hold hce hs hNw hwy hk f0 f1 f3 f4 hI hbe hW7B
              obtain ⟨op, dst, src, nn, of⟩ := y
              simp only at *
              generalize hsl : src.length = sl at *
              have Hsl := hide hsl; clear hsl
              go_upto_region 11 with fail
              have hk5 : k * 5 + 2 = k * 5 + 2 := rfl
              clear hk5
              go_region_law
                (first
                  | go_loud (
                      go_simp
                      go_at_call 32
                      refine (unhide HCs _ (Below.refl _ _).drew).mono ?_
                      rintro e w8 ⟨v8, rfl, hno8, hb8⟩
                      have HNo8 := hide hno8
                      obtain ⟨a8, c8, rfl, _⟩ := id hno8
                      have hb8' : Below wr.heap.size wr w8 := ((Below.refl _ _).drew).trans (hb8.mono (by simp))
                      have HB8 := hide hb8'
                      have g0 := (hb8'.cell (p := ⟨B, j * 3, none⟩) hBlq).trans e07
                      have g2 := (hb8'.cell (p := ⟨BI, k * 5 + 2, none⟩) hBIl).trans f2
                      have gf : ∀ i, w8.frozen? ⟨BI, i, none⟩ = false := fun i => by have h1 := hb8'.block BI hBIl; have h2 := hfzI i; simp only [World.frozen?, h1] at h2 ⊢; exact h2
                      clear hno8 hb8 hb8')
                  | fail)
              all_goals
                obtain ⟨p', hnx⟩ := CIn.next (v5 := .slice a8 src.length c8) (unhide HI2) (unhide HY) (unhide HB8) (unhide HNo8) hwBI (unhide HF0) (unhide HF1) (unhide HF2) (unhide HF3) (unhide HF4)
                have HNx := hide hnx
                clear hnx g0 g2 gf
                go_wp2
                go_roundw
                case rel => exact ⟨k + 1, p', by go_num, by omega, unhide HNx⟩
                case measure => simp [intOf]; omega
            · obtain rfl : k = il := by omega
              have hrowE := hI.row
              rw [← unhide Hil] at hrowE
              have hdone := hrowE.done (lo := w4.heap.size) (cap := c6) (unhide HBI) (by rw [unhide Hil]; exact unhide HCI)
              rw [unhide Hil] at hdone
              have hot : ∀ q, q < W7.heap.size → q < w4.heap.size → wr.heap[q]? = W7.heap[q]? := fun q a b => hI.ot q a (by have := unhide HBI; omega)
              have h4 := (unhide HB4).size
              have hzz : w4.heap.size ≤ W7.heap.size := by rw [unhide HZ7]; exact unhide HSz46
              have hfin := COut.fin (unhide HR) (unhide HXb) ((unhide HT7).other hBl7 hI.sz (fun q a b => hot q a (by omega)) hBl) ((unhide HTT7).move hW7B) hI.be h4 (Nat.le_trans hzz hI.sz) ((unhide HNo7).move (fun q a b => hot q (by omega) b) (Nat.le_refl _) (Nat.le_refl _)) hdone e07 ((World.cell?_of_block (a := ⟨B, j * 3 + 1, none⟩) hW7B).trans (unhide HE17)) ((World.cell?_of_block (a := ⟨B, j * 3 + 2, none⟩) hW7B).trans (unhide HE27))
              obtain ⟨p7, hfin⟩ := hfin
              have HFin := hide hfin
              clear hfin hdone hrowE hot h4 hzz hk hklt hI hW7B HI2
              go_wp2
              go_roundw
              case rel => exact ⟨j + 1, p7, by go_num, by omega, unhide HFin⟩
              case measure => simp [intOf]; omega
      · obtain rfl : j = n := by omega
        have hrowE := hR.row
        rw [← unhide HN] at hrowE
        have hdone := hrowE.done (lo := w.heap.size + 2) (cap := cap) hR.hB (by rw [unhide HN]; exact unhide HCap)
        rw [unhide HN] at hdone
        have hbe := hR.be
        have hb1 := hR.b1
        obtain ⟨y0, y1, y2, y3, yf, yl⟩ := cob_cells hb1
        have HDone := hide hdone; have HBe := hide hbe; have HB1 := hide hb1
        clear hdone hrowE hbe hb1 hR hj hlt HR
        go_wp2
        obtain ⟨hbb, hss, hoo⟩ := bel4b (unhide HBe) (w.heap.size + 1) (by omega) (.int .i64 pa) (.int .i64 re) (.bool rs) (.slice (some ⟨B, 0, none⟩) j cap)
        have hr := set4 wr (w.heap.size + 1) _ _ _ _ _ (.int .i64 pa) (.int .i64 re) (.bool rs) (.slice (some ⟨B, 0, none⟩) j cap) (unhide HB1)
        clear x0 x1 x2 x3 xf xl y0 y1 y2 y3 yf yl
        generalize (((wr.setCell ⟨w.heap.size + 1, 0, none⟩ (.int .i64 pa)).setCell ⟨w.heap.size + 1, 1, none⟩ (.int .i64 re)).setCell ⟨w.heap.size + 1, 2, none⟩ (.bool rs)).setCell ⟨w.heap.size + 1, 3, none⟩ (.slice (some ⟨B, 0, none⟩) j cap) = WE at *
        have hfin : CoO WE w.heap.size WE.heap.size bl (.slice (some ⟨B, 0, none⟩) j cap) := Own.move BlO.moves (unhide HDone) (fun q a b => hoo q (by omega)) (by omega) (by rw [hss]; exact Nat.le_refl _)
        have c0 := cell_of_row WE (w.heap.size + 1) 0 _ _ _ hr; have c1 := cell_of_row WE (w.heap.size + 1) 1 _ _ _ hr; have c2 := cell_of_row WE (w.heap.size + 1) 2 _ _ _ hr; have c3 := cell_of_row WE (w.heap.size + 1) 3 _ _ _ hr
        simp only [List.getElem?_toArray, List.getElem?_cons_zero, List.getElem?_cons_succ] at c0 c1 c2 c3
        refine bodyPost_ret (v := .agg #[.int .i64 pa, .int .i64 re, .bool rs, .slice (some ⟨B, 0, none⟩) j cap]) (by simp [results, Tryd.results35, go_sem, c0, c1, c2, c3]) rfl ⟨_, rfl, hfin, fun h => absurd h (unhide HNe), hbb⟩
end Vc
end Go.Proofs.YtpecnljcgiicaaaDoor
