/- O4: what follows, part by part: each part tells what it holds. -/
import Derived.Test.YtglehoekehiaiaaGreatDoorO3
import Derived.Test.YtglehoekehiaiaaGreatDoorK11
namespace Go.Proofs.YtglehoekehiaiaaGreatDoor
open Go.RowKit
set_option linter.unusedVariables false
set_option linter.unusedSimpArgs false
set_option maxRecDepth 100000
set_option maxHeartbeats 32000000
namespace Fw
open Vc (NumsL Nums Lies LL Bls BlC InC Bl Co infoN infoBl own_base RowT cob cob_cells)
/- the document's Order. -/
theorem Gf2.bel {w w' : World} (h : Gf2 none none w w') : Below w.heap.size w w' := ⟨h.os, h.tape, h.output, h.size, fun k hk => h.keep k hk (by simp) (by simp)⟩
theorem rorder_any (l : List Bl) (hc : Nok l) (h1 : 0 < l.length) (pa re : Int) (rs : Bool) (vb : Value) (w : World) (hB : Bls w (fun k => k < w.heap.size) l vb) :
    Calls Tryz.prog 15 #[.agg #[.int .i64 pa, .int .i64 re, .bool rs, vb]] w fun e w' => ∃ v', e = .returned v' ∧ NumsL w' (fun k => k < w'.heap.size) (nz (walk (nxs l)).lf).reverse v' ∧ Below w.heap.size w w' := by
 obtain ⟨va, vc, rfl, -, -, -⟩ := id hB
 have hin := hc.inn
 have hnl := nxs_len l
 have hlen := hc.len
 obtain ⟨X, hX⟩ : ∃ X, X = w.alloc (.cells (cob pa re rs (.slice va l.length vc)) 24) := ⟨_, rfl⟩
 have hXb : Below w.heap.size w X := by rw [hX]; exact Vc.one_alloc w _
 have hrow : X.heap[w.heap.size]? = some (.cells (cob pa re rs (.slice va l.length vc)) 24 (0, 0)) := by rw [hX]; exact heap_alloc_new _ _
 have hBX : Bls X (fun k => k < X.heap.size) l (.slice va l.length vc) := hB.moved (fun k hk _ => ⟨Nat.lt_of_lt_of_le hk hXb.size, hXb.block k hk⟩) hXb.size
 have hwk := rwalk_all l hc X.heap.size (fun k => k < X.heap.size) (fun k hk => hk) pa re rs va vc l.length 0 ([], []) (.slice none 0 0) (.slice none 0 0) X h1 (by simp) (by simp) (by simp) (by simp) (by simp) (by simp) (Nat.le_refl _) hBX (World.ownsRow_nil _ _ _ _) (World.ownsRow_nil _ _ _ _) (fun k h => by cases h)
 have hlf := walk_wk hin (by rw [hnl]; exact h1)
 rw [hnl] at hlf
 have hwn := wk_wn (nxs l) hin l.length 0 ([], []) (by simp) (by simp) (by simp) (by rw [hnl]; exact h1) (by simp)
 obtain ⟨O, hO⟩ : ∃ O, O = (wk (nxs l) l.length 0 ([], [])).2 := ⟨_, rfl⟩
 have hOl : O.length ≤ 1048576 := by
  have h2 := nodup_le _ _ hwn.nd hwn.lt
  have h3 := hwn.ll
  rw [hO]
  simp only [List.length_nil] at h3
  omega
 obtain ⟨I, hI⟩ : ∃ I, I = (wk (nxs l) l.length 0 ([], [])).1 := ⟨_, rfl⟩
 rw [← hO, ← hI] at hwk
 rw [hlf, ← hO]
 obtain ⟨K, hK⟩ : ∃ K, K = O.length := ⟨_, rfl⟩
 obtain ⟨c0, c1, c2, c3, cf, cl⟩ := cob_cellsR hrow
 have HWk := hide hwk; have HX := hide hXb; have HOl := hide hOl; have HK := hide hK
 clear hwk hXb hrow hBX hlen hnl hin hB h1 hc hlf hwn hO hI hOl hK
 go_enter Tryz.func15, Tryz.ntmps15
 go_upto_region 1 with fail
 rw [show w.alloc (.cells #[.int .i64 pa, .int .i64 re, .bool rs, .slice va l.length vc] 24) = X from hX.symm]
 clear hX
 go_upto_region 2 with (go_at_call 38; refine (unhide HWk).mono ?_; rintro e w2 ⟨x1, x2, rfl, k1, k2, -, k4, -, -⟩; obtain ⟨p1, d1, rfl, -⟩ := k1.sl; obtain ⟨p2, d2, rfl, -⟩ := k2.sl; have HN2 := hide k2.nums; have HB2 := hide (Gf2.bel k4); clear k1 k2 k4)
 have hal := Vc.one_alloc w2 (.cells #[.slice p1 (nz I).length d1, .slice p2 (nz O).length d2] 81)
 have hr3 := heap_alloc_new w2 (.cells #[.slice p1 (nz I).length d1, .slice p2 (nz O).length d2] 81)
 obtain ⟨W3, hW3⟩ : ∃ W3, W3 = w2.alloc (.cells #[.slice p1 (nz I).length d1, .slice p2 (nz O).length d2] 81) := ⟨_, rfl⟩
 rw [← hW3] at hal hr3 ⊢
 have hn3 : NumsL W3 (fun k => k < w2.heap.size) (nz O) (.slice p2 (nz O).length d2) := (unhide HN2).moved fun k hk h => ⟨hk, hal.block k hk⟩
 have hb3 := (unhide HX).trans (((unhide HB2).trans (hal.mono (unhide HB2).size)).mono (unhide HX).size)
 have hsz3 : w2.heap.size < W3.heap.size := (Array.getElem?_eq_some_iff.1 hr3).1
 have HN3 := hide hn3; have HB3 := hide hb3; have HR3 := hide hr3; have HS3 := hide hsz3
 have y1 := cell_of_row W3 w2.heap.size 1 _ _ _ hr3
 simp only [List.getElem?_toArray, List.getElem?_cons_zero, List.getElem?_cons_succ] at y1
 have hKO : (nz O).length = K := by rw [nz_len, unhide HK]
 rw [hKO] at y1
 have HKO := hide hKO
 have hKi : (K : Int) ≤ 1048576 := by have := unhide HOl; have := unhide HK; omega
 clear hW3 hal hr3 hn3 hb3 hsz3 c0 c1 c2 c3 cf cl HN2 HB2 HX HWk hKO
 go_upto_region 4 with fail
 go_loopw [4, 5] (fun v d wx => ∃ (k : Nat) (a : Option Addr) (c : Nat), k ≤ K ∧ d = .int .i64 ((K : Int) - 1 - (k : Int)) ∧ v = .slice a (nz (O.reverse.take k)).length c ∧ Ro wx W3.heap.size (.slice a (nz (O.reverse.take k)).length c) (nz (O.reverse.take k)) ∧ Below W3.heap.size W3 wx) (fun _ d _ => ((intOf d) + 1).toNat)
 case atStart => exact ⟨0, none, 0, Nat.zero_le _, by go_num, rfl, World.ownsRow_nil _ _ _ _, Below.refl _ _⟩
 case round =>
  obtain ⟨k, a, c, hk, rfl, rfl, hro, hb⟩ := hrel
  have y1' := (hb.cell (p := ⟨w2.heap.size, 1, none⟩) (unhide HS3)).trans y1
  by_cases hlt : k < K
  ·have hnum := (unhide HN3).moved (w' := wr) (g' := fun k => k < w2.heap.size) fun q _ h => ⟨h, hb.block q (by have := unhide HS3; omega)⟩
   obtain ⟨Bn, on, hna, hBn, hnc⟩ := nums_at hnum (k := K - 1 - k) (by rw [unhide HKO]; omega)
   subst hna
   have x1 := hnc (K - 1 - k) (by rw [unhide HKO]; omega)
   rw [nz_getD _ _ (by rw [← unhide HK]; omega)] at x1
   obtain ⟨t, ht⟩ : ∃ t, t = O.getD (K - 1 - k) 0 := ⟨_, rfl⟩
   rw [← ht] at x1
   have hst : O.reverse.take (k + 1) = O.reverse.take k ++ [t] := by
    have hkl : k < O.reverse.length := by rw [List.length_reverse, ← unhide HK]; exact hlt
    rw [List.take_succ_eq_append_getElem hkl, List.getElem_reverse, ht, unhide HK, getD_get _ _ _ (by have := unhide HK; omega)]
   have hcast : (K : Int) - 1 - (k : Int) = ((K - 1 - k : Nat) : Int) := by omega
   rw [hcast]
   obtain ⟨i, hi⟩ : ∃ i, i = K - 1 - k := ⟨_, rfl⟩
   rw [← hi] at x1 ⊢
   have hiK : (i : Int) < (K : Int) := by omega
   have hi0 : (0 : Int) ≤ (i : Int) := by omega
   have hal := Vc.one_alloc wr (.cells #[.int .i64 (t : Int)] 3)
   have HRo3 := hide (hro.below hal); have HB4 := hide (hb.trans (hal.mono hb.size)); have HSt := hide hst; have HI := hide hi; have HLt := hide hlt; have HLo := hide hro.lt
   have HS4 := hide (show W3.heap.size ≤ (wr.alloc (.cells #[.int .i64 (t : Int)] 3)).heap.size from Nat.le_trans hb.size hal.size)
   have HTl := hide (show (nz (O.reverse.take k)).length ≤ 1048576 by rw [nz_len, List.length_take]; have := unhide HOl; rw [List.length_reverse]; omega)
   clear hnum hnc hBn hst hcast hi hlt hk hro hb hal ht
   go_wp2_with (at_builtin
                refine wpList_push (unhide HRo3) (t : Int) rfl (.tmp 17) (.tmp 23) rfl rfl (B := wr.heap.size) rfl (by rw [cell_of_row _ _ 0 _ _ _ (heap_alloc_new wr _)]; rfl) (by have := unhide HTl; omega) (unhide HS4) ?_
                intro b9 c9 w9 q1 q2 q3
                have hb9 := (unhide HB4).grown q2 (unhide HS4) (fun q e => (unhide HLo q e).1)
                have q1' : Ro w9 W3.heap.size (.slice b9 ((nz (O.reverse.take k)).length + 1) c9) (nz (O.reverse.take (k + 1))) := by rw [unhide HSt, nz_app]; exact q1
                have HP1 := hide q1'; have HP2 := hide hb9
                clear q1 q2 q3 q1' hb9)
   have hl9 : (nz (O.reverse.take k)).length + 1 = (nz (O.reverse.take (k + 1))).length := by rw [unhide HSt, nz_len, nz_len, List.length_append]; rfl
   rw [hl9] at HP1
   rw [hl9]
   go_roundw
   case rel => exact ⟨k + 1, b9, c9, unhide HLt, by have := unhide HI; have := unhide HLt; go_num, rfl, unhide HP1, unhide HP2⟩
   case measure => have := unhide HI; have := unhide HLt; simp only [intOf]; omega
  ·obtain rfl : k = K := by omega
   have hrv : nz (O.reverse.take k) = (nz O).reverse := by rw [List.take_of_length_le (by rw [List.length_reverse, ← unhide HK]; exact Nat.le_refl _)]; unfold nz; rw [List.map_reverse]
   have hro9 := hro.nums.moved (g' := fun q => q < wr.heap.size) fun q _ h => ⟨h.2, rfl⟩
   rw [hrv] at hro9
   have hbw := (unhide HB3).trans (hb.mono (unhide HB3).size)
   have hii : (k : Int) - 1 - (k : Int) = -1 := by omega
   rw [hii]
   have HN9 := hide hro9; have HB9 := hide hbw; have HL9 := hide (show (nz (O.reverse.take k)).length = (nz O).reverse.length by rw [hrv])
   clear hro hb hlt hk hro9 hbw hrv hii
   go_wp2_with fail
   go_ret
   exact ⟨_, rfl, by have := unhide HN9; rw [← unhide HL9] at this; exact this, unhide HB9⟩
end Fw
namespace Fw
open Vc (NumsL Nums Lies LL Bls BlC InC Bl Co infoN infoBl own_base RowT cob cob_cells OwnL Its own)
/- the document's Ahead. -/
def rwk (nx : List (List Nat)) (b i : Nat) : List Nat := (List.range i).filter fun x => decide (b ∈ nx.getD x [])
theorem rwk_succ (nx : List (List Nat)) (b i : Nat) : rwk nx b (i + 1) = if b ∈ nx.getD i [] then rwk nx b i ++ [i] else rwk nx b i := by
 unfold rwk
 rw [List.range_succ, List.filter_append]
 by_cases h : b ∈ nx.getD i []
 ·rw [if_pos h, List.filter_cons_of_pos (by simpa using h)]; rfl
 ·rw [if_neg h, List.filter_cons_of_neg (by simpa using h)]; simp
theorem rwk_len (nx : List (List Nat)) (b i : Nat) : (rwk nx b i).length ≤ i := by
 have := List.length_filter_le (fun x => decide (b ∈ nx.getD x [])) (List.range i)
 rw [List.length_range] at this; exact this
def ahl (nx : List (List Nat)) (k : Nat) : List (List Nat) := (List.range k).map fun b => rwk nx b nx.length
theorem ahl_succ (nx : List (List Nat)) (k : Nat) : ahl nx (k + 1) = ahl nx k ++ [rwk nx k nx.length] := by unfold ahl; rw [List.range_succ, List.map_append]; rfl
theorem ahl_len (nx : List (List Nat)) (k : Nat) : (ahl nx k).length = k := by simp [ahl]
theorem mem_next {l : List Bl} (hc : Nok l) {i : Nat} {x : Bl} (hx : l[i]? = some x) (b : Nat) : (b : Int) ∈ x.next ↔ b ∈ (nxs l).getD i [] := by
 rw [nxs_at hx, List.mem_map]
 constructor
 ·intro h; exact ⟨_, h, by simp⟩
 ·rintro ⟨y, hy, e⟩
  obtain ⟨k, hk, e2⟩ := List.getElem_of_mem hy
  obtain ⟨z, hz, -⟩ := hc.at_ hx (k := k) hk
  rw [getD_get _ _ _ hk, e2] at hz
  have : y = (b : Int) := by omega
  rw [← this]; exact hy
theorem RwC.moved {w w' : World} {g g' : Nat → Prop} {x : List Nat} {cs : List Value} (hm : Vc.Mv w w' g g') (h : RwC w g x cs) : RwC w' g' x cs := by
 obtain ⟨v, e, h⟩ := h
 exact ⟨v, e, h.moved hm⟩
theorem rahead_any (l : List Bl) (hc : Nok l) (pa re : Int) (rs : Bool) (vb : Value) (w : World) (hB : Bls w (fun k => k < w.heap.size) l vb) :
    Calls Tryz.prog 13 #[.agg #[.int .i64 pa, .int .i64 re, .bool rs, vb]] w fun e w' => ∃ v', e = .returned v' ∧ Rws w' (fun k => k < w'.heap.size) (ahl (nxs l) l.length) v' ∧ Below w.heap.size w w' := by
 obtain ⟨va, vc, rfl, -, -, -⟩ := id hB
 obtain ⟨ir, hir, hr0, hr1, hr2⟩ := info_parts infoR
 have hnl := nxs_len l
 have hlen := hc.len
 obtain ⟨X, hX⟩ : ∃ X, X = w.alloc (.cells (cob pa re rs (.slice va l.length vc)) 24) := ⟨_, rfl⟩
 have hXb : Below w.heap.size w X := by rw [hX]; exact Vc.one_alloc w _
 have hrow : X.heap[w.heap.size]? = some (.cells (cob pa re rs (.slice va l.length vc)) 24 (0, 0)) := by rw [hX]; exact heap_alloc_new _ _
 have hBX : Bls X (fun k => k < X.heap.size) l (.slice va l.length vc) := hB.moved (fun k hk _ => ⟨Nat.lt_of_lt_of_le hk hXb.size, hXb.block k hk⟩) hXb.size
 obtain ⟨n, hn⟩ : ∃ n, n = l.length := ⟨_, rfl⟩
 have hni : (n : Int) ≤ 1048576 := by omega
 obtain ⟨c0, c1, c2, c3, cf, cl⟩ := cob_cellsR hrow
 obtain ⟨nx, hnx⟩ : ∃ nx, nx = nxs l := ⟨_, rfl⟩
 rw [← hnx] at hnl ⊢
 rw [← hn] at c3 hX hnl hBX ⊢
 have HX := hide hXb; have HBX := hide hBX; have HC := hide hc; have HN := hide hn; have HNx := hide hnx; have HNl := hide hnl
 clear hXb hrow hBX hlen hnl hB hc hn hnx c0 c1 c2
 go_enter Tryz.func13, Tryz.ntmps13
 go_upto_region 3 with fail
 rw [show w.alloc (.cells #[.int .i64 pa, .int .i64 re, .bool rs, .slice va n vc] 24) = X from hX.symm]
 clear hX
 have HC3 := hide (fun W (h : Below X.heap.size X W) => (h.cell (p := ⟨w.heap.size, 3, none⟩) cl).trans c3)
 clear c3 cf cl
 go_loopw [3, 4] (fun v d wx => ∃ (k : Nat) (a : Option Addr) (c : Nat), k ≤ n ∧ d = .int .i64 (k : Int) ∧ v = .slice a (ahl nx k).length c ∧ OwnL RwC 1 31 wx X.heap.size (fun q => X.heap.size ≤ q) (.slice a (ahl nx k).length c) (ahl nx k) ∧ Below X.heap.size X wx) (fun _ d _ => n - (intOf d).toNat)
 case atStart => exact ⟨0, none, 0, Nat.zero_le _, rfl, rfl, Vc.OwnL_nil _ _ _ _ _ _, Below.refl _ _⟩
 case round =>
  generalize wr = wa at *
  obtain ⟨k, a, c, hk, rfl, rfl, hO, hb⟩ := hrel
  have c3 := unhide HC3 wa hb
  by_cases hlt : k < n
  ·have hkn : (k : Int) < (n : Int) := by omega
   have HO := hide hO; have HB := hide hb; have HLt := hide hlt
   have HC4 := hide (fun W (h : Below wa.heap.size wa W) => unhide HC3 W (hb.trans (h.mono hb.size)))
   have HBl := hide (fun W (h : Below wa.heap.size wa W) => bls_at (unhide HBX) (fun k h => h) (hb.trans (h.mono hb.size)))
   clear hO hb hlt hk
   go_upto_region 7 with fail
   clear c3
   go_loopw [5, 6] (fun v d wx => ∃ (i : Nat) (a1 : Option Addr) (c1 : Nat), i ≤ n ∧ d = .int .i64 (i : Int) ∧ v = .slice a1 (nz (rwk nx k i)).length c1 ∧ Ro wx wa.heap.size (.slice a1 (nz (rwk nx k i)).length c1) (nz (rwk nx k i)) ∧ Below wa.heap.size wa wx) (fun _ d _ => n - (intOf d).toNat)
   case atStart => exact ⟨0, none, 0, Nat.zero_le _, rfl, rfl, World.ownsRow_nil _ _ _ _, Below.refl _ _⟩
   case round =>
    obtain ⟨i, a1, c1, hi, rfl, rfl, hro, hbi⟩ := hrel
    have c3 := unhide HC4 wr hbi
    by_cases hin : i < n
    ·obtain ⟨x, hx⟩ : ∃ x, l[i]? = some x := ⟨_, List.getElem?_eq_getElem (by rw [← unhide HN]; exact hin)⟩
     have hBr := unhide HBl wr hbi
     rw [unhide HN] at hBr
     obtain ⟨Bb, ob, vi, vn, hva, hBN, hBl, -, d0, d1, d2, hin', hnn⟩ := blk_next hBr hx
     subst hva
     obtain ⟨na, nc, rfl, -, -, -⟩ := id hnn
     have hxl := (unhide HC).nlen x (List.mem_of_getElem? hx)
     have hini : (i : Int) < (n : Int) := by omega
     have hhas := has_any x.next (k : Int) (.slice na x.next.length nc) wr (hnn.moved fun q hq hg => ⟨hq, rfl⟩) (by omega)
     have hmn := mem_next (unhide HC) hx k
     rw [← unhide HNx] at hmn
     have HRo := hide hro; have HBi := hide hbi; have HIn := hide hin
     have HLo := hide (show (nz (rwk nx k i)).length ≤ 1048576 by rw [nz_len]; have := rwk_len nx k i; omega)
     have HS := hide (rwk_succ nx k i)
     by_cases hm : k ∈ nx.getD i []
     ·rw [decide_eq_true (hmn.2 hm)] at hhas
      have HH := hide hhas
      have HSt := hide ((unhide HS).trans (if_pos hm))
      have hal := Vc.one_alloc wr (.cells #[.int .i64 (i : Int)] 3)
      have HRo3 := hide (hro.below hal); have HB4 := hide (hbi.trans (hal.mono hbi.size))
      have HS4 := hide (show wa.heap.size ≤ (wr.alloc (.cells #[.int .i64 (i : Int)] 3)).heap.size from Nat.le_trans hbi.size hal.size)
      have HLw := hide hro.lt
      clear hhas hmn hm hxl hnn hin' hBN hBr hx hro hbi hin hi d0 d2 hal
      go_wp2_with (first
       | (go_at_call 37; refine (unhide HH).mono ?_; rintro e w7 ⟨rfl, hw7⟩; have hw8 := hw7.symm; clear hw7; subst hw8)
       | (at_builtin
          refine wpList_push (unhide HRo3) (i : Int) rfl (.tmp 29) (.tmp 31) rfl rfl (B := wr.heap.size) rfl (by rw [cell_of_row _ _ 0 _ _ _ (heap_alloc_new wr _)]; rfl) (by have := unhide HLo; omega) (unhide HS4) ?_
          intro b9 c9 w9 q1 q2 q3
          have hb9 := (unhide HB4).grown q2 (unhide HS4) (fun q e => (unhide HLw q e).1)
          have q1' : Ro w9 wa.heap.size (.slice b9 ((nz (rwk nx k i)).length + 1) c9) (nz (rwk nx k (i + 1))) := by rw [unhide HSt, nz_app]; exact q1
          have HP1 := hide q1'; have HP2 := hide hb9
          clear q1 q2 q3 q1' hb9))
      have hl9 : (nz (rwk nx k i)).length + 1 = (nz (rwk nx k (i + 1))).length := by rw [unhide HSt, nz_len, nz_len, List.length_append]; rfl
      rw [hl9] at HP1
      rw [hl9]
      go_roundw
      case rel => exact ⟨i + 1, b9, c9, unhide HIn, by go_num, rfl, unhide HP1, unhide HP2⟩
      case measure => have := unhide HIn; simp [intOf]; omega
     ·rw [decide_eq_false (fun h => hm (hmn.1 h))] at hhas
      have HH := hide hhas
      have HSt := hide ((unhide HS).trans (if_neg hm))
      clear hhas hmn hm hxl hnn hin' hBN hBr hx hro hbi hin hi d0 d2
      go_wp2_with (go_at_call 37; refine (unhide HH).mono ?_; rintro e w7 ⟨rfl, hw7⟩; have hw8 := hw7.symm; clear hw7; subst hw8)
      go_roundw
      case rel => exact ⟨i + 1, a1, c1, unhide HIn, by go_num, by rw [unhide HSt], by rw [unhide HSt]; exact unhide HRo, unhide HBi⟩
      case measure => have := unhide HIn; simp [intOf]; omega
    ·obtain rfl : i = n := by omega
     -- the row is laid behind the others
     obtain ⟨xs, hxo, hits⟩ := unhide HO
     have hol : ∀ q, (Value.slice a (ahl nx k).length c).ownBlock = some q → X.heap.size ≤ q ∧ q < wa.heap.size := fun q e => World.ownsRow.lt hxo q e
     have hal := Vc.one_alloc wr (.cells #[.slice a1 (nz (rwk nx k i)).length c1] 31)
     have hnew := Vc.new_row wr [.slice a1 (nz (rwk nx k i)).length c1] 31
     obtain ⟨W9, hW9⟩ : ∃ W9, W9 = wr.alloc (.cells #[.slice a1 (nz (rwk nx k i)).length c1] 31) := ⟨_, rfl⟩
     have hs9 : W9.heap.size = wr.heap.size + 1 := by rw [hW9]; simp
     have hnew9 : ∀ q u, [Value.slice a1 (nz (rwk nx k i)).length c1][q]? = some u → W9.cell? ((⟨wr.heap.size, 0, none⟩ : Addr).add q) = some u := by rw [hW9]; exact hnew
     rw [← hW9] at hal
     have hb9 : Below wa.heap.size wa W9 := hbi.trans (hal.mono hbi.size)
     have hbX := (unhide HB).size
     have hcs : RwC W9 (own (fun q => X.heap.size ≤ q) (.slice a (ahl nx k).length c)) (rwk nx k nx.length) [.slice a1 (nz (rwk nx k i)).length c1] := by
      refine ⟨_, rfl, ?_⟩
      rw [unhide HNl]
      exact hro.nums.moved fun q hq hg => ⟨⟨fun e => by have := (hol q e).2; have := hg.1; omega, by have := hg.1; show X.heap.size ≤ q; omega⟩, hal.block q hq⟩
     have hx9 := Vc.ownsRow_below hxo hb9
     have hits9 : Its (RwC W9 (own (fun q => X.heap.size ≤ q) (.slice a (ahl nx k).length c))) 1 (ahl nx k) xs := hits.mono fun x cs h => h.moved (Vc.Mv.below hb9 fun _ _ h => h)
     have hahl := ahl_len nx k
     have HX9 := hide hx9; have HIts9 := hide hits9; have HCs := hide hcs; have HNew9 := hide hnew9; have HB9 := hide ((unhide HB).trans (hb9.mono hbX)); have HOl := hide hol; have HS9 := hide hs9; have HTl := hide (show (ahl nx k).length ≤ 1048576 by have := unhide HLt; omega)
     have HBase := hide (show X.heap.size ≤ W9.heap.size by have := hb9.size; omega)
     have HTs := hide (ahl_succ nx k)
     clear hal hb9 hnew hs9 hxo hits hol hnew9 hcs hx9 hits9 hahl HO hro hbi hin hi hbX
     go_wp2_with (at_builtin
                  rw [← hW9]
                  refine wpList_append_lies W9 rfl (.tmp 33) (.tmp 35) 36 rfl X.heap.size 31 ir (.slice none 0 0) 1 24 Tryz.underlying36 hir hr0 hr1 hr2 rfl (by decide) (.slice a (ahl nx k).length c) (ahl nx k).length xs rfl (unhide HX9) ⟨wr.heap.size, 0, none⟩ 1 1 [.slice a1 (nz (rwk nx k i)).length c1] rfl rfl (unhide HNew9) (by intro u hu; simp at hu; subst hu; rfl) (by omega) (by have := unhide HTl; unfold maxLen; omega) (by have := unhide HTl; omega) (unhide HBase) (wr.heap.size + 1) (unhide HS9) ?_
                  intro gg cpn w5 hown5 hgrow hat5 hlt5
                  have hsn := Vc.OwnL.snoc (It := RwC) (c := 1) (T := 31) (w := W9) (w1 := w5) (B := X.heap.size) (G := fun q => X.heap.size ≤ q) (v := .slice a (ahl nx k).length c) (l := ahl nx k) (x := rwk nx k nx.length) (xs := xs) (cs := [.slice a1 (nz (rwk nx k i)).length c1]) (g := gg) (cap := cpn) (fun x cs h hm => h.moved hm) (unhide HIts9) (unhide HCs) rfl hown5 hgrow (hat5.imp id (fun e => by rw [e, unhide HS9]))
                  rw [← unhide HTs] at hsn
                  have hln : (ahl nx k).length + 1 = (ahl nx (k + 1)).length := by rw [unhide HTs, List.length_append]; rfl
                  rw [hln] at hsn ⊢
                  have hbe5 := (unhide HB9).grown hgrow (unhide HBase) (fun q e => (unhide HOl q e).1)
                  have HSn := hide hsn; have HBe5 := hide hbe5
                  clear hsn hbe5 hown5 hgrow hat5 hlt5)
     go_roundw
     case rel => exact ⟨k + 1, some ⟨gg, 0, none⟩, cpn, unhide HLt, by go_num, rfl, unhide HSn, unhide HBe5⟩
     case measure => have := unhide HLt; simp [intOf]; omega
  ·obtain rfl : k = n := by omega
   have hbl : Rws wa (fun q => q < wa.heap.size) (ahl nx k) (.slice a (ahl nx k).length c) := by
    refine hO.made (fun x cs h => h.moved fun q hq _ => ⟨hq, rfl⟩) (fun q _ h => h)
   have hbw := (unhide HX).trans (hb.mono (unhide HX).size)
   have HN9 := hide hbl; have HB9 := hide hbw
   clear hO hb hlt hk hbl hbw
   go_wp2_with fail
   go_ret
   exact ⟨_, rfl, unhide HN9, unhide HB9⟩
end Fw
namespace Fw
open Vc (NumsL Nums Lies LL Bls BlC InC Bl Co WfC WfB chk siz Fms infoN infoBl own_base RowT cob cob_cells)
/- flow: Ahead; Order, Ahead and Over of code that may not be. -/
theorem ahead_eq {nx : List (List Nat)} (hn : In nx) : ahead nx = ahl nx nx.length := by
 have hl : (ahead nx).length = nx.length := (ahs_inv nx hn nx.length).len
 refine List.ext_getElem (by rw [hl, ahl_len]) fun i h1 h2 => ?_
 have := ahead_at nx hn i (by omega)
 rw [getD_get _ _ _ h1] at this
 rw [this]
 unfold ahl rwk
 simp
theorem ahead_yes (c : Co) (hw : WfC c) (hc : chk c = true) (g : Nat → Prop) (v : Value) (w : World) (hT : Fms w) (hv : Bls w g c.bl v) (hg : ∀ k, g k → k < w.heap.size) :
    Calls Tryz.prog 9 #[.agg #[.int .i64 c.pa, .int .i64 c.re, .bool c.rs, v]] w fun e w' => ∃ u, e = .returned (.tuple #[u, .nilIface]) ∧ Rws w' (fun k => k < w'.heap.size) (ahl (nxs c.bl) c.bl.length) u ∧ Below w.heap.size w w' := by
 have hk := cok_of c hc
 have hz : siz c.bl ≤ 1099511627776 := by
  unfold chk at hc
  simp only [Bool.and_eq_true, decide_eq_true_eq] at hc
  have := hc.1.2.2
  omega
 obtain ⟨va, vc, rfl, -, -, -⟩ := id hv
 obtain ⟨n, hn⟩ : ∃ n, n = c.bl.length := ⟨_, rfl⟩
 have hb1 := Vc.one_alloc w (.cells (cob c.pa c.re c.rs (.slice va n vc)) 29)
 have hck : ∀ W, Below w.heap.size w W → Calls Tryz.prog 26 #[.agg #[.int .i64 c.pa, .int .i64 c.re, .bool c.rs, .slice va n vc]] W fun e w' => e = .returned (.nilIface) ∧ Below W.heap.size W w' := fun W hW => by
  have h5 := Vc.check_any c hw g (.slice va c.bl.length vc) W (hT.below hW) (hv.moved (fun k _ h => ⟨h, hW.block k (hg k h)⟩) hW.size) hz
  rw [hc, ← hn] at h5
  exact h5.mono fun e w' h => ⟨by rw [h.1]; simp [errV_0], h.2⟩
 have hnew := heap_alloc_new w (.cells (cob c.pa c.re c.rs (.slice va n vc)) 29)
 have hah : ∀ W, Below w.heap.size w W → Calls Tryz.prog 29 #[.slice va n vc] W fun e w' => ∃ v, e = .returned v ∧ Rws w' (fun k => k < w'.heap.size) (ahl (nxs c.bl) n) v ∧ Below W.heap.size W w' := fun W hW => by
  have h5 := aheadOf_any c.bl hk.nok g (.slice va c.bl.length vc) W (hv.moved (fun k _ h => ⟨h, hW.block k (hg k h)⟩) hW.size) (fun k h => Nat.lt_of_lt_of_le (hg k h) hW.size)
  rw [← hn, ahead_eq hk.nok.inn, nxs_len, ← hn] at h5
  refine h5.mono ?_
  rintro e w' ⟨v, rfl, h6, h7⟩
  exact ⟨v, rfl, h6.moved (fun q hq h => ⟨h.2, rfl⟩) (Nat.le_refl _), h7⟩
 have c3 : (w.alloc (.cells (cob c.pa c.re c.rs (.slice va n vc)) 29)).cell? ⟨w.heap.size, 3, none⟩ = some (.slice va n vc) := (cob_cells hnew).2.2.2.1
 have HCk := hide (hck _ hb1); have HB1 := hide hb1; have HAh := hide hah
 rw [← hn]
 clear hck hz hv hc hw hT hg hn hb1 hnew hah hk
 go_enter Tryz.func9, Tryz.ntmps9
 go_wp2_with (first
  | (go_at_call 26; refine (unhide HCk).mono ?_; rintro e w2 ⟨rfl, hb2⟩; have d3 := (hb2.cell (p := ⟨w.heap.size, 3, none⟩) (by simp)).trans c3; have hbw2 := (unhide HB1).trans (hb2.mono (unhide HB1).size); have HBw2 := hide hbw2; clear hb2 hbw2)
  | (go_at_call 29; refine (unhide HAh _ (unhide HBw2)).mono ?_; rintro e w3 ⟨v3, rfl, k1, hb3⟩; obtain ⟨a3, cp3, rfl, -⟩ := id k1; have HR3 := hide k1; have HB3 := hide ((unhide HBw2).trans (hb3.mono (unhide HBw2).size)); clear k1 hb3))
 go_ret2
 exact ⟨_, rfl, unhide HR3, unhide HB3⟩
theorem order_no (c : Co) (hw : WfC c) (hc : chk c = false) (hz : siz c.bl ≤ 1099511627776) (g : Nat → Prop) (v : Value) (w : World) (hT : Fms w) (hv : Bls w g c.bl v) (hg : ∀ k, g k → k < w.heap.size) :
    Calls Tryz.prog 8 #[.agg #[.int .i64 c.pa, .int .i64 c.re, .bool c.rs, v]] w fun e w' => e = .returned (.tuple #[.slice none 0 0, .iface 76 (.int .i64 1)]) ∧ Below w.heap.size w w' := by
 obtain ⟨va, vc, rfl, -, -, -⟩ := id hv
 obtain ⟨n, hn⟩ : ∃ n, n = c.bl.length := ⟨_, rfl⟩
 have hb1 := Vc.one_alloc w (.cells (cob c.pa c.re c.rs (.slice va n vc)) 29)
 have hck : ∀ W, Below w.heap.size w W → Calls Tryz.prog 26 #[.agg #[.int .i64 c.pa, .int .i64 c.re, .bool c.rs, .slice va n vc]] W fun e w' => e = .returned (.iface 76 (.int .i64 1)) ∧ Below W.heap.size W w' := fun W hW => by
  have h5 := Vc.check_any c hw g (.slice va c.bl.length vc) W (hT.below hW) (hv.moved (fun k _ h => ⟨h, hW.block k (hg k h)⟩) hW.size) hz
  rw [hc, ← hn] at h5
  exact h5.mono fun e w' h => ⟨by rw [h.1]; simp [errV_1], h.2⟩
 have HCk := hide (hck _ hb1); have HB1 := hide hb1
 rw [← hn]
 clear hck hz hv hc hw hT hg hn hb1
 go_enter Tryz.func8, Tryz.ntmps8
 go_wp2_with (go_at_call 26; refine (unhide HCk).mono ?_; rintro e w2 ⟨rfl, hb2⟩; have hbw2 := (unhide HB1).trans (hb2.mono (unhide HB1).size); have HBw2 := hide hbw2; clear hb2 hbw2)
 go_ret2
 exact ⟨rfl, unhide HBw2⟩
theorem ahead_no (c : Co) (hw : WfC c) (hc : chk c = false) (hz : siz c.bl ≤ 1099511627776) (g : Nat → Prop) (v : Value) (w : World) (hT : Fms w) (hv : Bls w g c.bl v) (hg : ∀ k, g k → k < w.heap.size) :
    Calls Tryz.prog 9 #[.agg #[.int .i64 c.pa, .int .i64 c.re, .bool c.rs, v]] w fun e w' => e = .returned (.tuple #[.slice none 0 0, .iface 76 (.int .i64 1)]) ∧ Below w.heap.size w w' := by
 obtain ⟨va, vc, rfl, -, -, -⟩ := id hv
 obtain ⟨n, hn⟩ : ∃ n, n = c.bl.length := ⟨_, rfl⟩
 have hb1 := Vc.one_alloc w (.cells (cob c.pa c.re c.rs (.slice va n vc)) 29)
 have hck : ∀ W, Below w.heap.size w W → Calls Tryz.prog 26 #[.agg #[.int .i64 c.pa, .int .i64 c.re, .bool c.rs, .slice va n vc]] W fun e w' => e = .returned (.iface 76 (.int .i64 1)) ∧ Below W.heap.size W w' := fun W hW => by
  have h5 := Vc.check_any c hw g (.slice va c.bl.length vc) W (hT.below hW) (hv.moved (fun k _ h => ⟨h, hW.block k (hg k h)⟩) hW.size) hz
  rw [hc, ← hn] at h5
  exact h5.mono fun e w' h => ⟨by rw [h.1]; simp [errV_1], h.2⟩
 have HCk := hide (hck _ hb1); have HB1 := hide hb1
 rw [← hn]
 clear hck hz hv hc hw hT hg hn hb1
 go_enter Tryz.func9, Tryz.ntmps9
 go_wp2_with (go_at_call 26; refine (unhide HCk).mono ?_; rintro e w2 ⟨rfl, hb2⟩; have hbw2 := (unhide HB1).trans (hb2.mono (unhide HB1).size); have HBw2 := hide hbw2; clear hb2 hbw2)
 go_ret2
 exact ⟨rfl, unhide HBw2⟩
theorem over_no (c : Co) (hw : WfC c) (hc : chk c = false) (hz : siz c.bl ≤ 1099511627776) (g : Nat → Prop) (v : Value) (w : World) (hT : Fms w) (hv : Bls w g c.bl v) (hg : ∀ k, g k → k < w.heap.size) :
    Calls Tryz.prog 10 #[.agg #[.int .i64 c.pa, .int .i64 c.re, .bool c.rs, v]] w fun e w' => e = .returned (.tuple #[.slice none 0 0, .iface 76 (.int .i64 1)]) ∧ Below w.heap.size w w' := by
 obtain ⟨va, vc, rfl, -, -, -⟩ := id hv
 obtain ⟨n, hn⟩ : ∃ n, n = c.bl.length := ⟨_, rfl⟩
 have hb1 := Vc.one_alloc w (.cells (cob c.pa c.re c.rs (.slice va n vc)) 29)
 have hck : ∀ W, Below w.heap.size w W → Calls Tryz.prog 26 #[.agg #[.int .i64 c.pa, .int .i64 c.re, .bool c.rs, .slice va n vc]] W fun e w' => e = .returned (.iface 76 (.int .i64 1)) ∧ Below W.heap.size W w' := fun W hW => by
  have h5 := Vc.check_any c hw g (.slice va c.bl.length vc) W (hT.below hW) (hv.moved (fun k _ h => ⟨h, hW.block k (hg k h)⟩) hW.size) hz
  rw [hc, ← hn] at h5
  exact h5.mono fun e w' h => ⟨by rw [h.1]; simp [errV_1], h.2⟩
 have HCk := hide (hck _ hb1); have HB1 := hide hb1
 rw [← hn]
 clear hck hz hv hc hw hT hg hn hb1
 go_enter Tryz.func10, Tryz.ntmps10
 go_wp2_with (go_at_call 26; refine (unhide HCk).mono ?_; rintro e w2 ⟨rfl, hb2⟩; have hbw2 := (unhide HB1).trans (hb2.mono (unhide HB1).size); have HBw2 := hide hbw2; clear hb2 hbw2)
 go_ret2
 exact ⟨rfl, unhide HBw2⟩
end Fw
end Go.Proofs.YtglehoekehiaiaaGreatDoor
