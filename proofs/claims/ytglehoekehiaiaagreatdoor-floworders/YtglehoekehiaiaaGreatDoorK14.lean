/- K14: what follows, part by part: each part tells what it holds. -/
import Derived.Test.YtglehoekehiaiaaGreatDoorK1
import Derived.Test.YtglehoekehiaiaaGreatDoorK12
import Derived.Deep.CutRange
import Derived.Deep.RegionHeld3
import Derived.Test.YtglehoekehiaiaaGreatDoorK11
namespace Go.Proofs.YtglehoekehiaiaaGreatDoor
open Go.RowKit
set_option linter.unusedVariables false
set_option linter.unusedSimpArgs false
set_option maxRecDepth 100000
set_option maxHeartbeats 32000000
namespace Fw
open Vc (NumsL Nums Lies LL Bls BlC InC Bl Co infoN infoBl own_base RowT cob cob_cells Its)
/- flow: threaded. -/
def thr? (x : Bl) : Bool := decide ((endI x).op = 194) && decide (x.next.getD 0 0 = x.next.getD 1 0)
theorem thr1_eq (x : Bl) : thr1 x = if thr? x = true then ⟨x.ins.take (x.ins.length - 1) ++ [jmpI], x.next.take 1, x.dep⟩ else x := by unfold thr1 thr?; simp
/-- a jump that is laid into new memory -/
theorem jmp_its (W : World) (g : Nat → Prop) : Its (InC W g) 5 [jmpI] (Vc.inC jmpI (.slice none 0 0)) := ⟨rfl, fun i x hx => by
 have hi : i = 0 := by have := (List.getElem?_eq_some_iff.1 hx).1; simp at this; omega
 subst hi
 cases hx
 exact ⟨_, rfl, ⟨_, rfl, ⟨none, 0, rfl, Nat.le_refl _, fun _ => rfl, fun h => by simp [jmpI] at h⟩⟩, fun j _ => by rw [Nat.zero_mul, Nat.zero_add]; rfl⟩⟩
theorem set_same {α : Type} {l : List α} {j : Nat} {x : α} (h : l[j]? = some x) : l.set j x = l := by
 refine List.ext_getElem? fun i => ?_
 rw [List.getElem?_set]
 split
 ·rename_i e; subst e; rw [if_pos (List.getElem?_eq_some_iff.1 h).1, h]
 ·rfl
theorem nums_take1 {w : World} {g : Nat → Prop} {l : List Int} {B o n c : Nat} (h : NumsL w g l (.slice (some ⟨B, o, none⟩) n c)) (h0 : 0 < l.length) : NumsL w g (l.take 1) (.slice (some ⟨B, o, none⟩) 1 c) := by
 obtain ⟨a, cp, e, hle, hno, hl⟩ := h
 cases e
 have hlen : (l.take 1).length = 1 := by rw [List.length_take]; omega
 refine ⟨_, _, by rw [hlen], by omega, (by intro h; cases h), fun _ => ?_⟩
 obtain ⟨b, o', e, hg, hp⟩ := hl h0
 cases e
 refine ⟨_, _, rfl, hg, fun j hj => ?_⟩
 have hj0 : j = 0 := by omega
 subst hj0
 have h2 := hp 0 h0
 have h3 : (l.take 1).getD 0 0 = l.getD 0 0 := by rw [List.getD_eq_getElem?_getD, List.getD_eq_getElem?_getD, List.getElem?_take_of_lt (by omega)]
 rw [h3]; exact h2
theorem fieldI0 (a b c d e : Value) (W : World) : (Instr.field 53 (.agg #[a, b, c, d, e]) 0).run Tryz.prog W = .ok a W := by
 have hu := Tryz.underlying53
 simp [Instr.field, run_underlying hu, asAgg, go_sem]
theorem threaded_any (l : List Bl) (hc : Cok l) (pa re : Int) (rs : Bool) (g : Nat → Prop) (vb : Value) (w : World) (hB : Bls w g l vb) (hg : ∀ k, g k → k < w.heap.size) :
    Calls Tryz.prog 43 #[.agg #[.int .i64 pa, .int .i64 re, .bool rs, vb]] w fun e w' => ∃ v', e = .returned (.agg #[.int .i64 pa, .int .i64 re, .bool rs, v']) ∧ Bls w' (fun k => k < w'.heap.size) (thrB l) v' ∧ Below w.heap.size w w' := by
 obtain ⟨va, vc, rfl, -, -, -⟩ := id hB
 obtain ⟨i0, hi, hz0, hz1, hz2⟩ := info_parts infoN
 have hlen := hc.nok.len
 obtain ⟨n, hn⟩ : ∃ n, n = l.length := ⟨_, rfl⟩
 have hn1 : 0 < n := by rw [hn]; exact hc.one
 have hmkI := fun wx => run_make (P := Tryz.prog) wx 31 3 i0 (.int .i64 0) Tryz.underlying31 hi hz0 .i64 .i64 (n : Int) (n : Int) (by omega) (by omega) (by rw [hz2]; omega) (by omega)
 rw [hz1] at hmkI
 simp only [Int.toNat_natCast, Nat.mul_one] at hmkI
 rw [show (Value.int IntKind.i64 0).cells = #[Value.int IntKind.i64 0] from rfl] at hmkI
 obtain ⟨X, hX⟩ : ∃ X, X = (w.alloc (.cells (cob pa re rs (.slice va n vc)) 29)).alloc (.cells (cob 0 0 false (.slice none 0 0)) 29) := ⟨_, rfl⟩
 have hXb : Below w.heap.size w X := by rw [hX]; exact Vc.two_allocs w _ _
 have hXz : X.heap.size = w.heap.size + 2 := by rw [hX]; simp
 have r0 : X.heap[w.heap.size]? = some (.cells (cob pa re rs (.slice va n vc)) 29 (0, 0)) := by rw [hX, Below.heap_alloc _ _ _ (by simp)]; exact heap_alloc_new _ _
 have r1 : X.heap[w.heap.size + 1]? = some (.cells (cob 0 0 false (.slice none 0 0)) 29 (0, 0)) := by
  have := heap_alloc_new (w.alloc (.cells (cob pa re rs (.slice va n vc)) 29)) (.cells (cob 0 0 false (.slice none 0 0)) 29)
  rw [show (w.alloc (.cells (cob pa re rs (.slice va n vc)) 29)).heap.size = w.heap.size + 1 by simp, ← hX] at this; exact this
 rw [← hn] at hB ⊢
 have hBw : Bls w (fun k => k < w.heap.size) l (.slice va n vc) := hB.moved (fun k _ h => ⟨hg k h, rfl⟩) (Nat.le_refl _)
 have hro := Ro.made X n (by omega)
 have hb1 := Vc.one_alloc X (.cells (madeCells (Value.int .i64 0).cells n) 3)
 rw [show (Value.int IntKind.i64 0).cells = #[Value.int IntKind.i64 0] from rfl] at hro hb1
 obtain ⟨c0, c1, c2, c3, cf, cl⟩ := cob_cells r0
 have HC := hide hc; have HN := hide hn; have HXb := hide hXb; have HXz := hide hXz; have HR0 := hide r0; have HR1 := hide r1; have HBw := hide hBw; have HRo := hide hro; have HB1 := hide hb1
 have HLn := hide hlen; have HN1 := hide hn1
 have hni : (n : Int) ≤ 1048576 := by omega
 clear hc hn hXb hXz r0 r1 hBw hB hg hlen hro hb1 hn1
 go_enter Tryz.func43, Tryz.ntmps43
 go_upto_region 1 with fail
 rw [show (w.alloc (.cells #[.int .i64 pa, .int .i64 re, .bool rs, .slice va n vc] 29)).alloc (.cells #[.int .i64 0, .int .i64 0, .bool false, .slice none 0 0] 29) = X from hX.symm]
 clear hX
 go_wp2_with fail
 generalize X.alloc (.cells (madeCells #[.int .i64 0] n) 3) = W1 at *
 clear c0 c1 c2 c3
 go_loopw [13] (fun c wr => ∃ k : Nat, k ≤ n ∧ c = .int .i64 (k : Int) ∧ Ro wr X.heap.size (.slice (some ⟨X.heap.size, 0, none⟩) n n) (bhk l k) ∧ Below X.heap.size X wr) (fun c _ => n - (intOf c).toNat)
 case atStart => exact ⟨0, Nat.zero_le _, rfl, by rw [show bhk l 0 = List.replicate n 0 by rw [unhide HN]; rfl]; exact unhide HRo, unhide HB1⟩
 case round =>
  obtain ⟨k, hk, rfl, hR, hb⟩ := hrel
  have q0 := (hb.block w.heap.size (by have := unhide HXz; omega)).trans (unhide HR0)
  have hbw := (unhide HXb).trans (hb.mono (by have := unhide HXz; omega))
  by_cases hlt : k < n
  ·have hkl : k < l.length := by rw [← unhide HN]; exact hlt
   obtain ⟨c0, c1, c2, c3, -, -⟩ := cob_cells q0
   have hcall := behind_any l (unhide HC) k hkl (.slice va n vc) w.heap.size wr (bls_on (unhide HBw) hbw) (by have := hbw.size; omega)
   have hst := bhk_succ l k
   obtain ⟨y, hy⟩ : ∃ y, y = bjF l k l.length k := ⟨_, rfl⟩
   rw [← hy] at hcall hst
   have hpost : ∀ w6, Below wr.heap.size wr w6 → (∃ z, w6.cell? ⟨X.heap.size, k, none⟩ = some (.int .i64 z)) ∧ w6.frozen? ⟨X.heap.size, k, none⟩ = false ∧ Ro (w6.setCell ⟨X.heap.size, k, none⟩ (.int .i64 (y : Int))) X.heap.size (.slice (some ⟨X.heap.size, 0, none⟩) n n) (bhk l (k + 1)) ∧ Below X.heap.size X (w6.setCell ⟨X.heap.size, k, none⟩ (.int .i64 (y : Int))) := fun w6 h6 => by
    have h7 := hR.below h6
    have h8 := h7.cells (i := k) (by rw [bhk_len]; exact hkl)
    have h9 := h7.set (i := k) (by rw [bhk_len]; exact hkl) (y : Int)
    rw [← hst] at h9
    exact ⟨⟨_, h8.1⟩, h8.2, h9, (hb.trans (h6.mono hb.size)).setCell (p := ⟨X.heap.size, k, none⟩) (Nat.le_refl _) _⟩
   have hkn : (k : Int) < (n : Int) := by omega
   have HCa := hide hcall; have HPo := hide hpost; have HLt := hide hlt
   clear hcall hpost hst hy hR hb q0 hbw hlt hk hkl
   go_wp2_with (go_at_call 69; refine (unhide HCa).mono ?_; rintro e w6 ⟨rfl, h6⟩; obtain ⟨⟨z, x1⟩, x2, x3, x4⟩ := unhide HPo w6 h6; have X3 := hide x3; have X4 := hide x4; clear h6 x3 x4)
   go_roundw
   case rel => exact ⟨k + 1, by have := unhide HLt; omega, by go_num, unhide X3, unhide X4⟩
   case measure => have := unhide HLt; simp [intOf]; omega
  ·obtain rfl : k = n := by omega
   have hcl := clone_bo l (by rw [← unhide HN]; exact unhide HN1) (by have := unhide HLn; omega) (fun q => q < w.heap.size) (fun q => q = X.heap.size ∨ q = w.heap.size ∨ q = w.heap.size + 1) (.slice va k vc) wr (bls_on (unhide HBw) hbw) (fun q hq => by have := hbw.size; have := unhide HXz; exact ⟨by omega, by omega⟩)
   have hRr := hR
   rw [show bhk l k = bhs l by unfold bhs; rw [unhide HN]] at hRr
   obtain ⟨c0, c1, c2, c3, cf, cl2⟩ := cob_cells q0
   have q1 := (hb.block (w.heap.size + 1) (by have := unhide HXz; omega)).trans (unhide HR1)
   have hsx := hb.size
   have hlX : X.heap.size < wr.heap.size := (hR.lt X.heap.size rfl).2
   have HCl := hide hcl; have HRr := hide hRr; have HQ0 := hide q0; have HQ1 := hide q1; have HBw2 := hide hbw; have HlX := hide hlX
   clear hcl hRr q0 q1 hbw hR hb hlt hk HRo HB1
   go_upto_region 8 with (go_at_call 70; refine (unhide HCl).mono ?_; rintro e w5 ⟨B, cap, rfl, hBo, hb5⟩; rw [← unhide HN]; have e0 := (hb5.cell (p := ⟨w.heap.size, 3, none⟩) cl2).trans c3; have ef := (hb5.frozen (p := ⟨w.heap.size, 3, none⟩) cl2).trans (cf 3); have HBo := hide hBo; have HB5 := hide hb5; clear hBo hb5)
   have hBo5 := unhide HBo
   have hb5 := unhide HB5
   have hBB := hBo5.nb
   have hxz := unhide HXz
   have hlX := unhide HlX
   have hs5 := hb5.size
   have hBlt := hBo5.lt
   have q6 : (w5.setCell ⟨w.heap.size, 3, none⟩ (.slice (some ⟨B, 0, none⟩) k cap)).heap[w.heap.size]? = some (.cells (cob pa re rs (.slice (some ⟨B, 0, none⟩) k cap)) 29 (0, 0)) := (heap_setCell_same w5 w.heap.size 3 _ _ _ ((hb5.block w.heap.size cl2).trans (unhide HQ0))).trans rfl
   have q7 : (w5.setCell ⟨w.heap.size, 3, none⟩ (.slice (some ⟨B, 0, none⟩) k cap)).heap[w.heap.size + 1]? = some (.cells (cob 0 0 false (.slice none 0 0)) 29 (0, 0)) := (heap_setCell_other w5 ⟨w.heap.size, 3, none⟩ _ _ (by show w.heap.size + 1 ≠ w.heap.size; omega)).trans ((hb5.block (w.heap.size + 1) (by omega)).trans (unhide HQ1))
   have hBo6 := hBo5.setA (i := 3) (.inr (.inl rfl)) (by omega) (.slice (some ⟨B, 0, none⟩) k cap)
   have hRo6 : Ro (w5.setCell ⟨w.heap.size, 3, none⟩ (.slice (some ⟨B, 0, none⟩) k cap)) X.heap.size (.slice (some ⟨X.heap.size, 0, none⟩) k k) (bhs l) := ((unhide HRr).below hb5).keep fun q hq => by
    have h9 : X.heap.size = q := Option.some.inj hq
    exact heap_setCell_other w5 ⟨w.heap.size, 3, none⟩ q _ (by show q ≠ w.heap.size; omega)
   have hbw6 : Below w.heap.size w (w5.setCell ⟨w.heap.size, 3, none⟩ (.slice (some ⟨B, 0, none⟩) k cap)) := ((unhide HBw2).trans (hb5.mono (unhide HBw2).size)).setCell (p := ⟨w.heap.size, 3, none⟩) (Nat.le_refl _) _
   have hs6 : (w5.setCell ⟨w.heap.size, 3, none⟩ (.slice (some ⟨B, 0, none⟩) k cap)).heap.size = w5.heap.size := by simp
   generalize w5.setCell ⟨w.heap.size, 3, none⟩ (.slice (some ⟨B, 0, none⟩) k cap) = W6 at *
   have hcall := tellNext_any l (unhide HC).nok.len (unhide HC).nok.nlen (bhs l) (fun b hb z hz => by rw [show (bhs l).length = l.length from bhk_len l _]; exact (unhide HC).nok.rng b hb z hz) wr.heap.size B (fun q => q = X.heap.size ∨ q = w.heap.size ∨ q = w.heap.size + 1) cap (.slice (some ⟨X.heap.size, 0, none⟩) k k) W6 hBo6 (hRo6.nums2 _ ⟨by omega, by omega⟩) (by rw [show (bhs l).length = l.length from bhk_len l _]; exact (unhide HC).nok.len) (fun q hq => by omega)
   rw [← unhide HN] at hcall
   obtain ⟨l2, hl2⟩ : ∃ l2, l2 = l.map (tellB (bhs l)) := ⟨_, rfl⟩
   rw [← hl2] at hcall
   have hfin : l2.map thr1 = thrB l := by rw [hl2]; rfl
   have hll : l2.length = k := by rw [hl2, List.length_map, unhide HN]
   have hx2 : ∀ x ∈ l2, 0 < x.ins.length ∧ x.ins.length ≤ 1099511627776 ∧ ((endI x).op = 194 → x.next.length = 2) := fun x hx => by
    rw [hl2] at hx
    obtain ⟨y, hy, rfl⟩ := List.mem_map.1 hx
    have := (unhide HC).ins y hy
    exact ⟨this.1, this.2, fun h => by have := (unhide HC).brn y hy h; simpa [tellB] using this⟩
   have c36 := (cob_cells q6).2.2.2.1
   have hpost : ∀ w7, Fo B W6 w7 → w7.heap[w.heap.size]? = some (.cells (cob pa re rs (.slice (some ⟨B, 0, none⟩) k cap)) 29 (0, 0)) ∧ w7.heap[w.heap.size + 1]? = some (.cells (cob 0 0 false (.slice none 0 0)) 29 (0, 0)) ∧ Below w.heap.size w w7 := fun w7 h7 => ⟨(h7.keep _ (by omega) (by omega)).trans q6, (h7.keep _ (by omega) (by omega)).trans q7, hbw6.trans (h7.below (by omega) (by omega))⟩
   have HCa := hide hcall; have HPo := hide hpost; have HFin := hide hfin; have HLl := hide hll; have HX2 := hide hx2
   have hBw9 : w.heap.size + 1 < B := by omega
   have hA9 : ∀ q, (q = X.heap.size ∨ q = w.heap.size ∨ q = w.heap.size + 1) → q < wr.heap.size := fun q hq => by omega
   have HA9 := hide hA9
   clear hcall hpost hfin hll hx2 hBo5 hb5 hBB hxz hlX hs5 hBlt q6 q7 hBo6 hRo6 hbw6 hs6 hA9 HBo HB5 HRr HQ0 HQ1 e0 ef c0 c1 c2 c3 cf hsx
   generalize hNN : wr.heap.size = NN at *
   clear hNN
   go_wp2_with (go_at_call 68; refine (unhide HCa).mono ?_; rintro e w7 ⟨rfl, h1, h2⟩; have H1 := hide h1; have H2 := hide h2; have c37 := (cob_cells (unhide HPo w7 h2).1).2.2.2.1; clear h1 h2)
   go_loopw [35] (fun c wr => ∃ j : Nat, j ≤ k ∧ c = .int .i64 (j : Int) ∧ Bo wr NN B (fun q => q = X.heap.size ∨ q = w.heap.size ∨ q = w.heap.size + 1) cap (half thr1 l2 j) ∧ Fo B W6 wr) (fun c _ => k - (intOf c).toNat)
   case atStart => exact ⟨0, Nat.zero_le _, rfl, by rw [half_0]; exact unhide H1, unhide H2⟩
   case round =>
    obtain ⟨j, hj, rfl, hBo, hFo⟩ := hrel
    obtain ⟨p0, p1, p2⟩ := unhide HPo wr hFo
    by_cases hlt : j < k
    ·obtain ⟨x, hx⟩ : ∃ x, l2[j]? = some x := ⟨_, List.getElem?_eq_getElem (by rw [unhide HLl]; exact hlt)⟩
     have hxh : (half thr1 l2 j)[j]? = some x := by rw [half_at _ _ _ (by rw [unhide HLl]; exact hlt)]; exact hx
     obtain ⟨hi0, hi1, hbr⟩ := unhide HX2 x (List.mem_of_getElem? hx)
     obtain ⟨vi, vn, d0, d1, d2, hin, hnn⟩ := hBo.it j x hxh
     obtain ⟨ia, ic, rfl, -, -, -⟩ := id hin
     obtain ⟨na, nc, rfl, hnc, -, -⟩ := id hnn
     have c38 := (cob_cells p0).2.2.2.1
     have hBl := hBo.lt
     have hcall : ∀ W, Below wr.heap.size wr W → Calls Tryz.prog 71 #[.agg #[.slice ia x.ins.length ic, .slice na x.next.length nc, .int .i64 x.dep]] W fun e w' => ∃ vs, e = .returned (.agg #[.int .u8 ((endI x).op : Int), .int .i64 (endI x).dst, vs, .int .i64 (endI x).n, .int .u32 (endI x).of]) ∧ Below wr.heap.size wr w' := fun W hW => by
      refine (end_any x hi0 hi1 _ _ _ W (Vc.Inss.below hW hin) ⟨_, _, _, rfl⟩).mono ?_
      rintro e w' ⟨vs, rfl, -, hb⟩
      exact ⟨vs, rfl, hW.trans (hb.mono hW.size)⟩
     obtain ⟨op, hop⟩ : ∃ op, op = (endI x).op := ⟨_, rfl⟩
     obtain ⟨t, ht⟩ : ∃ t, t = thr? x := ⟨_, rfl⟩
     have htd : t = (decide (op = 194) && decide (x.next.getD 0 0 = x.next.getD 1 0)) := by rw [ht, hop]; rfl
     rw [← hop] at hcall hbr
     have hjk : (j : Int) < (k : Int) := by omega
     have HCall := hide hcall; have HBo := hide hBo; have HFo := hide hFo; have HNn := hide hnn; have HXh := hide hxh; have HI := hide (And.intro hi0 hi1); have HT := hide ht; have HTd := hide htd; have HLt := hide hlt; have HBr := hide hbr; have HX := hide hx; have HNc := hide hnc; have HP2 := hide p2
     clear hcall hBo hFo hnn hin hxh hi0 hi1 ht htd hlt hbr hop hx hj p0 p1 hnc p2
     go_upto_region 13 with fail
     go_cut [35, 62] from 35 to 81 (fun c b wx => c = .int .i64 (j : Int) ∧ b = .bool t ∧ Below wr.heap.size wr wx)
     case first =>
      have hj2 := unhide HLt
      have hfd := fieldI0
      by_cases ho : op = 194
      ·subst ho
       have hM : x.next.length = 2 := unhide HBr rfl
       obtain ⟨Bn, on, hna, hBn, hnc⟩ := nums_at (unhide HNn) (k := 0) (by omega)
       subst hna
       obtain ⟨z0, hz0⟩ : ∃ z, z = x.next.getD 0 0 := ⟨_, rfl⟩
       obtain ⟨z1, hz1⟩ : ∃ z, z = x.next.getD 1 0 := ⟨_, rfl⟩
       have f0 := hnc 0 (by omega)
       have f1 := hnc 1 (by omega)
       rw [Nat.add_zero, ← hz0] at f0
       rw [← hz1] at f1
       have htd := unhide HTd
       rw [← hz0, ← hz1] at htd
       rw [hM] at d1
       have hpo : ∀ w6, Below wr.heap.size wr w6 → w6.cell? ⟨B, j * 3, none⟩ = some (.slice ia x.ins.length ic) ∧ w6.cell? ⟨B, j * 3 + 1, none⟩ = some (.slice (some ⟨Bn, on, none⟩) 2 nc) ∧ w6.cell? ⟨B, j * 3 + 2, none⟩ = some (.int .i64 x.dep) ∧ w6.cell? ⟨Bn, on, none⟩ = some (.int .i64 z0) ∧ w6.cell? ⟨Bn, on + 1, none⟩ = some (.int .i64 z1) := fun w6 h6 => ⟨(h6.cell (p := ⟨B, j * 3, none⟩) hBl).trans d0, (h6.cell (p := ⟨B, j * 3 + 1, none⟩) hBl).trans d1, (h6.cell (p := ⟨B, j * 3 + 2, none⟩) hBl).trans d2, (h6.cell (p := ⟨Bn, on, none⟩) (block_lt_of_cell f0)).trans f0, (h6.cell (p := ⟨Bn, on + 1, none⟩) (block_lt_of_cell f1)).trans f1⟩
       have HPo6 := hide hpo
       clear hpo hnc hBn
       have hca := unhide HCall
       rw [hM] at hca
       have HCall := hide hca
       clear hca
       by_cases hz : z0 = z1
       ·subst hz
        have htt : t = true := by rw [htd]; simp
        subst htt
        clear htd hz0 hz1
        go_region_held3 (fun w' => w'.cell? ⟨B, j * 3, none⟩ = some (.slice ia x.ins.length ic) ∧ w'.cell? ⟨B, j * 3 + 1, none⟩ = some (.slice (some ⟨Bn, on, none⟩) 2 nc) ∧ w'.cell? ⟨B, j * 3 + 2, none⟩ = some (.int .i64 x.dep) ∧ w'.cell? ⟨Bn, on, none⟩ = some (.int .i64 z0) ∧ w'.cell? ⟨Bn, on + 1, none⟩ = some (.int .i64 z0)) (first | go_keep | exact gk)
         (first
          | (go_at_call 71; refine (unhide HCall _ (bdrew (Below.refl _ _))).mono ?_; rintro e w6 ⟨vs, rfl, hb6⟩; have gk := unhide HPo6 w6 hb6; have HB6 := hide hb6; clear hb6))
        all_goals
         go_wp2_with fail
         go_meet
         exact ⟨rfl, rfl, unhide HB6⟩
       ·have hzb : (z0 == z1) = false := by simpa using hz
        have htt : t = false := by rw [htd]; simp [hz]
        subst htt
        clear htd hz0 hz1
        go_region_held3 (fun w' => w'.cell? ⟨B, j * 3, none⟩ = some (.slice ia x.ins.length ic) ∧ w'.cell? ⟨B, j * 3 + 1, none⟩ = some (.slice (some ⟨Bn, on, none⟩) 2 nc) ∧ w'.cell? ⟨B, j * 3 + 2, none⟩ = some (.int .i64 x.dep) ∧ w'.cell? ⟨Bn, on, none⟩ = some (.int .i64 z0) ∧ w'.cell? ⟨Bn, on + 1, none⟩ = some (.int .i64 z1)) (first | go_keep | exact gk)
         (first
          | (go_at_call 71; refine (unhide HCall _ (bdrew (Below.refl _ _))).mono ?_; rintro e w6 ⟨vs, rfl, hb6⟩; have gk := unhide HPo6 w6 hb6; have HB6 := hide hb6; clear hb6))
        all_goals
         go_wp2_with fail
         go_meet
         exact ⟨rfl, rfl, unhide HB6⟩
      ·have htt : t = false := by rw [unhide HTd]; simp [ho]
       subst htt
       have hob : ((op : Int) == 194) = false := by simp; omega
       have hob2 : decide ((op : Int) = 194) = false := by simp; omega
       have hob3 : ¬ (op : Int) = 194 := by omega
       have hpo : ∀ w6, Below wr.heap.size wr w6 → w6.cell? ⟨B, j * 3, none⟩ = some (.slice ia x.ins.length ic) ∧ w6.cell? ⟨B, j * 3 + 1, none⟩ = some (.slice na x.next.length nc) ∧ w6.cell? ⟨B, j * 3 + 2, none⟩ = some (.int .i64 x.dep) := fun w6 h6 => ⟨(h6.cell (p := ⟨B, j * 3, none⟩) hBl).trans d0, (h6.cell (p := ⟨B, j * 3 + 1, none⟩) hBl).trans d1, (h6.cell (p := ⟨B, j * 3 + 2, none⟩) hBl).trans d2⟩
       have HPo6 := hide hpo
       clear hpo
       -- BYHAND
       have HKd := hide (unhide HPo6 wr.drew (bdrew (Below.refl _ _)))
       refine wp_region_held_drew (S := fun wx => wx.cell? ⟨B, j * 3, none⟩ = some (.slice ia x.ins.length ic) ∧ wx.cell? ⟨B, j * 3 + 1, none⟩ = some (.slice na x.next.length nc) ∧ wx.cell? ⟨B, j * 3 + 2, none⟩ = some (.int .i64 x.dep)) (by kernel_rfl) (unhide HKd) (fun _ => ?_)
       refine tk 0 ?vt0 rfl ?yt0 (unhide HKd) ?_
       case yt0 => intro w hSw; obtain ⟨s0, s1, s2⟩ := hSw; go_simp; first | done | rfl
       simp only [tq1, tq2, tq3, Act.put, tq4, tq5, tq6]
       refine tk 1 ?vt1 rfl ?yt1 (unhide HKd) ?_
       case yt1 => intro w hSw; obtain ⟨s0, s1, s2⟩ := hSw; go_simp; first | done | rfl
       simp only [tq1, tq2, tq3, Act.put, tq4, tq5, tq6]
       refine tk 2 ?vt2 rfl ?yt2 (unhide HKd) ?_
       case yt2 => intro w hSw; obtain ⟨s0, s1, s2⟩ := hSw; go_simp; first | done | rfl
       simp only [tq1, tq2, tq3, Act.put, tq4, tq5, tq6]
       refine wpAnyH_ready (rs := [3]) (by kernel_rfl) (by simp) ?_
       refine AllReadyH.cons rfl (fun K hK => ?_) AllReadyH.nil
       go_simp
       go_at_call 71
       refine (unhide HCall _ (bdrew (Below.refl _ _))).mono ?_
       rintro e w6 ⟨vs, rfl, hb6⟩
       have HK6 := hide (unhide HPo6 w6 hb6)
       have HB6 := hide hb6
       clear hb6
       go_wp2_with fail
       refine hK.out _ _ (unhide HK6) (fun _ => ?_)
       clear hK
       refine tk 4 ?vt4 rfl ?yt4 (unhide HK6) ?_
       case yt4 => intro w hSw; go_simp; first | done | rfl
       simp only [tq1, tq2, tq3, Act.put, tq4, tq5, tq6]
       refine tk 5 (.bool false) rfl ?yt5 (unhide HK6) ?_
       case yt5 => intro w hSw; go_simp; first | done | rfl
       simp only [tq1, tq2, tq3, Act.put, tq4, tq5, tq6]
       refine tk 6 ?vt6 rfl ?yt6 (unhide HK6) ?_
       case yt6 => intro w hSw; go_simp; first | done | rfl
       simp only [tq1, tq2, tq3, Act.put, tq4, tq5, tq6]
       refine sk 7 rfl (unhide HK6) ?_
       simp only [tq1, tq2, tq3, Act.put, tq4, tq5, tq6]
       refine sk 8 rfl (unhide HK6) ?_
       simp only [tq1, tq2, tq3, Act.put, tq4, tq5, tq6]
       refine sk 9 rfl (unhide HK6) ?_
       simp only [tq1, tq2, tq3, Act.put, tq4, tq5, tq6]
       refine sk 10 rfl (unhide HK6) ?_
       simp only [tq1, tq2, tq3, Act.put, tq4, tq5, tq6]
       refine sk 11 rfl (unhide HK6) ?_
       simp only [tq1, tq2, tq3, Act.put, tq4, tq5, tq6]
       refine sk 12 rfl (unhide HK6) ?_
       simp only [tq1, tq2, tq3, Act.put, tq4, tq5, tq6]
       refine sk 13 rfl (unhide HK6) ?_
       simp only [tq1, tq2, tq3, Act.put, tq4, tq5, tq6]
       refine sk 14 rfl (unhide HK6) ?_
       simp only [tq1, tq2, tq3, Act.put, tq4, tq5, tq6]
       refine sk 15 rfl (unhide HK6) ?_
       simp only [tq1, tq2, tq3, Act.put, tq4, tq5, tq6]
       refine sk 16 rfl (unhide HK6) ?_
       simp only [tq1, tq2, tq3, Act.put, tq4, tq5, tq6]
       refine sk 17 rfl (unhide HK6) ?_
       simp only [tq1, tq2, tq3, Act.put, tq4, tq5, tq6]
       refine sk 18 rfl (unhide HK6) ?_
       simp only [tq1, tq2, tq3, Act.put, tq4, tq5, tq6]
       refine sk 19 rfl (unhide HK6) ?_
       simp only [tq1, tq2, tq3, Act.put, tq4, tq5, tq6]
       refine tk 20 ?vt20 rfl ?yt20 (unhide HK6) ?_
       case yt20 => intro w hSw; go_simp; first | done | rfl
       simp only [tq1, tq2, tq3, Act.put, tq4, tq5, tq6]
       refine wpAnyH_done (by kernel_rfl) ?_ _
       -- HANDEND
       all_goals
        go_wp2_with fail
        go_meet
        exact ⟨rfl, rfl, unhide HB6⟩
     case rest =>
      obtain ⟨rfl, rfl, hb⟩ := hcut
      have hBo2 := (unhide HBo).below hb
      have hFo2 := (unhide HFo).trans (Fo.of hb)
      obtain ⟨hi0, hi1⟩ := unhide HI
      have hst := half_step thr1 l2 j (unhide HX)
      cases t with
      | false =>
        rw [thr1_eq, if_neg (by rw [← unhide HT]; decide), set_same (unhide HXh)] at hst
        have HB := hide hBo2; have HF := hide hFo2; have HS := hide hst
        clear hBo2 hFo2 hst hb d0 d1 d2
        go_wp2_with fail
        go_roundw
        case rel => exact ⟨j + 1, by have := unhide HLt; omega, by go_num, by rw [← unhide HS]; exact unhide HB, unhide HF⟩
        case measure => have := unhide HLt; simp [intOf]; omega
      | true =>
        rw [thr1_eq, if_pos (unhide HT).symm] at hst
        have hth := unhide HT
        have hM : x.next.length = 2 := unhide HBr (by have h := unhide HTd; simp at h; exact h.1)
        obtain ⟨vi, vn, e0, e1, e2, hin, hnn⟩ := hBo2.it j x (unhide HXh)
        obtain ⟨ja, jc, rfl, -, -, -⟩ := id hin
        obtain ⟨ma, mc, rfl, hmc, -, -⟩ := id hnn
        have hstr := straight_any x hi0 hi1 _ _ (.slice ma x.next.length mc) wc hin ⟨_, _, _, rfl⟩
        have hsl : (sta x).length = x.ins.length - 1 := by unfold sta; rw [List.length_take]; omega
        have hA9 := unhide HA9
        have hBw9 : B < wc.heap.size := hBo2.lt
        have hNs : NN ≤ B := hBo2.nb
        have HSt := hide hstr; have HBo2 := hide hBo2; have HFo2 := hide hFo2; have HSl := hide hsl; have HStp := hide hst; have HMm := hide hM; have HBw9 := hide hBw9; have HNs := hide hNs; have HI1 := hide hi1
        clear hstr hBo2 hFo2 hsl hst hM hb hin hnn d0 d1 d2 hth hi0 hi1 hmc hBw9 hNs hA9
        go_upto_region 15 with (first
         | (go_at_call 72; refine (unhide HSt).mono ?_; rintro e w5 ⟨B5, o5, rfl, hl5, hb5⟩; have HL5 := hide hl5; have HB5 := hide hb5; clear hl5 hb5)
         | (at_builtin
            have hl5 : LL InC 5 wc (fun k => k ≠ B ∧ ¬ (k = X.heap.size ∨ k = w.heap.size ∨ k = w.heap.size + 1)) (sta x) (.slice (some ⟨B5, o5, none⟩) (x.ins.length - 1) (x.ins.length - 1)) := unhide HL5
            have hbe := (unhide HB5).trans ((Vc.one_alloc w5 (.cells #[.int .u8 193, .int .i64 (-1), .slice none 0 0, .int .i64 0, .int .u32 0] 53)).mono (unhide HB5).size)
            have hmv : Vc.Mv wc (w5.alloc (.cells #[.int .u8 193, .int .i64 (-1), .slice none 0 0, .int .i64 0, .int .u32 0] 53)) (fun k => k ≠ B ∧ ¬ (k = X.heap.size ∨ k = w.heap.size ∨ k = w.heap.size + 1)) (fun k => (k ≠ B ∧ ¬ (k = X.heap.size ∨ k = w.heap.size ∨ k = w.heap.size + 1)) ∧ k < (w5.alloc (.cells #[.int .u8 193, .int .i64 (-1), .slice none 0 0, .int .i64 0, .int .u32 0] 53)).heap.size) := fun k hk hg => ⟨⟨hg, Nat.lt_of_lt_of_le hk hbe.size⟩, hbe.block k hk⟩
            have hl6 := Vc.LL.moved hmv hbe.size (fun _ _ q => q.moved hmv) hl5
            refine wpList_lst (N := (w5.alloc (.cells #[.int .u8 193, .int .i64 (-1), .slice none 0 0, .int .i64 0, .int .u32 0] 53)).heap.size) (l := sta x) (z := [jmpI]) rfl (.tmp 67) (.tmp 69) rfl rfl (.inr ⟨B5, o5, by rw [unhide HSl]; rfl, hl6⟩) (fun k hk => hk.2) (Nat.le_refl _) (ad := ⟨w5.heap.size, 0, none⟩) (m := 1) (c := 1) rfl rfl (jmp_its _ _) (Vc.new_row w5 (Vc.inC jmpI (.slice none 0 0)) _) (Vc.inC_one jmpI _ ⟨_, _, _, rfl⟩) (by rw [unhide HSl]; have := unhide HI1; show x.ins.length - 1 + 1 ≤ _; omega) ?_
            rintro b2 n2 c2 w8 hn2 hl8 hb8
            clear hn2
            have hb9 := hbe.trans (hb8.mono hbe.size)
            have hBo8 := (unhide HBo2).below hb9
            obtain ⟨vi8, vn8, g0, g1, g2, -, -⟩ := hBo8.it j x (unhide HXh)
            have gf := hBo8.bt.frozen (j * 3)
            have hll := hl8.ll (G := fun k => k ≠ B ∧ ¬ (k = X.heap.size ∨ k = w.heap.size ∨ k = w.heap.size + 1)) (fun k hk => hk.1) (fun k h1 _ => by
             have h2 := hbe.size
             have h3 := unhide HBw9
             have h4 := unhide HNs
             exact ⟨by omega, fun h => by have := unhide HA9 k h; omega⟩)
            have hBo9 := hBo8.setIns (unhide HXh) hll
            have hFo9 := ((unhide HFo2).trans (Fo.of hb9)).set (j * 3) (.slice b2 n2 c2)
            have HBo9 := hide hBo9; have HFo9 := hide hFo9
            clear hBo9 hFo9 hll hBo8 hb9 hl8 hb8 hl6 hmv hbe hl5 g1 g2 e0 e1 e2))
        generalize w8.setCell ⟨B, j * 3, none⟩ (.slice b2 n2 c2) = W9 at *
        clear g0 gf
        have hxs : ((half thr1 l2 j).set j ⟨sta x ++ [jmpI], x.next, x.dep⟩)[j]? = some ⟨sta x ++ [jmpI], x.next, x.dep⟩ := by
         rw [List.getElem?_set, if_pos rfl, if_pos (by have := (List.getElem?_eq_some_iff.1 (unhide HXh)).1; exact this)]
        obtain ⟨vi9, vn9, g0, g1, g2, -, hn9⟩ := (unhide HBo9).it j _ hxs
        simp only at hn9
        obtain ⟨a9, c9, rfl, hc9, -, -⟩ := id hn9
        have hM := unhide HMm
        obtain ⟨Bn, on, rfl, -, -⟩ := nums_at hn9 (k := 0) (by omega)
        have hn10 := nums_take1 hn9 (by omega)
        have hBo10 := (unhide HBo9).setNext hxs hn10
        rw [hM] at g1 hc9
        have hfin : (((half thr1 l2 j).set j ⟨sta x ++ [jmpI], x.next, x.dep⟩).set j ⟨sta x ++ [jmpI], x.next.take 1, x.dep⟩) = half thr1 l2 (j + 1) := by
         rw [List.set_set]; exact unhide HStp
        have hBo11 : Bo (W9.setCell ⟨B, j * 3 + 1, none⟩ (.slice (some ⟨Bn, on, none⟩) 1 c9)) NN B (fun q => q = X.heap.size ∨ q = w.heap.size ∨ q = w.heap.size + 1) cap (half thr1 l2 (j + 1)) := by rw [← hfin]; exact hBo10
        have hFo11 := (unhide HFo9).set (j * 3 + 1) (.slice (some ⟨Bn, on, none⟩) 1 c9)
        have gf := (unhide HBo9).bt.frozen (j * 3 + 1)
        have hc9i : (1 : Int) ≤ (c9 : Int) := by omega
        have HBo11 := hide hBo11; have HFo11 := hide hFo11
        clear hBo11 hFo11 hfin hBo10 hn10 hn9 hxs hM g0 g2
        go_wp2_with fail
        go_roundw
        case rel => exact ⟨j + 1, by have := unhide HLt; omega, by go_num, unhide HBo11, unhide HFo11⟩
        case measure => have := unhide HLt; simp [intOf]; omega
    ·obtain rfl : j = k := by omega
     rw [show half thr1 l2 j = thrB l by rw [← unhide HFin, ← unhide HLl, half_all]] at hBo
     have hll2 : (thrB l).length = j := by rw [thrB_len, unhide HN]
     obtain ⟨c0, c1, c2, c3, cf, cl3⟩ := cob_cells p0
     obtain ⟨y0, y1, y2, y3, yf, yl⟩ := cob_cells p1
     have hfin : Bls ((((wr.setCell ⟨w.heap.size + 1, 0, none⟩ (.int .i64 pa)).setCell ⟨w.heap.size + 1, 1, none⟩ (.int .i64 re)).setCell ⟨w.heap.size + 1, 2, none⟩ (.bool rs)).setCell ⟨w.heap.size + 1, 3, none⟩ (.slice (some ⟨B, 0, none⟩) j cap)) (fun q => q < ((((wr.setCell ⟨w.heap.size + 1, 0, none⟩ (.int .i64 pa)).setCell ⟨w.heap.size + 1, 1, none⟩ (.int .i64 re)).setCell ⟨w.heap.size + 1, 2, none⟩ (.bool rs)).setCell ⟨w.heap.size + 1, 3, none⟩ (.slice (some ⟨B, 0, none⟩) j cap)).heap.size) (thrB l) (.slice (some ⟨B, 0, none⟩) j cap) := by
      have hb := (((hBo.setA (a := w.heap.size + 1) (i := 0) (.inr (.inr rfl)) (by omega) (.int .i64 pa)).setA (a := w.heap.size + 1) (i := 1) (.inr (.inr rfl)) (by omega) (.int .i64 re)).setA (a := w.heap.size + 1) (i := 2) (.inr (.inr rfl)) (by omega) (.bool rs)).setA (a := w.heap.size + 1) (i := 3) (.inr (.inr rfl)) (by omega) (.slice (some ⟨B, 0, none⟩) j cap)
      exact hb.bls hll2.symm _ (fun q hq => hq)
     have hr8 := set4c wr (w.heap.size + 1) _ _ _ _ _ (.int .i64 pa) (.int .i64 re) (.bool rs) (.slice (some ⟨B, 0, none⟩) j cap) p1
     have hb8 := Vc.bel4 p2 (w.heap.size + 1) (Nat.le_succ _) (.int .i64 pa) (.int .i64 re) (.bool rs) (.slice (some ⟨B, 0, none⟩) j cap)
     have HFn := hide hfin; have HR8 := hide hr8; have HB8 := hide hb8
     clear hfin hr8 hb8 hBo hFo p0 p1 p2 hlt hj hll2
     go_wp2_with fail
     generalize (((wr.setCell ⟨w.heap.size + 1, 0, none⟩ (.int .i64 pa)).setCell ⟨w.heap.size + 1, 1, none⟩ (.int .i64 re)).setCell ⟨w.heap.size + 1, 2, none⟩ (.bool rs)).setCell ⟨w.heap.size + 1, 3, none⟩ (.slice (some ⟨B, 0, none⟩) j cap) = W8 at *
     have u0 := cell_of_row W8 (w.heap.size + 1) 0 _ _ _ (unhide HR8); have u1 := cell_of_row W8 (w.heap.size + 1) 1 _ _ _ (unhide HR8); have u2 := cell_of_row W8 (w.heap.size + 1) 2 _ _ _ (unhide HR8); have u3 := cell_of_row W8 (w.heap.size + 1) 3 _ _ _ (unhide HR8)
     simp only [List.getElem?_toArray, List.getElem?_cons_zero, List.getElem?_cons_succ] at u0 u1 u2 u3
     exact bodyPost_ret (v := .agg #[.int .i64 pa, .int .i64 re, .bool rs, .slice (some ⟨B, 0, none⟩) j cap]) (by simp [results, Tryz.results43, go_sem, u0, u1, u2, u3]) rfl ⟨_, rfl, unhide HFn, unhide HB8⟩
end Fw
namespace Fw
open Vc (NumsL Nums Lies LL Bls BlC InC Bl Co WfC WfB WfI chk siz Fms infoN infoBl own_base RowT cob cob_cells)
/- flow: Thread, whole. By mkmade.py. -/
theorem bhs_bd (l : List Bl) (i : Nat) (h : Cok l) : 0 ≤ (bhs l).getD i 0 ∧ (bhs l).getD i 0 ≤ (l.length : Int) := by
 by_cases hi : i < l.length
 ·have := bhs_rng h _ (getD_mem (bhs l) i 0 (by unfold bhs; rw [bhk_len]; exact hi)); omega
 ·rw [getD_out _ _ _ (by unfold bhs; rw [bhk_len]; omega)]; omega
theorem jmp_wf : WfI jmpI := ⟨by decide, by unfold Vc.i64 jmpI; decide, fun z hz => by simp [jmpI] at hz, by unfold Vc.i64 jmpI; decide, by decide, by decide, by decide⟩
theorem tell_wf {r : List Int} {x : Bl} (hx : WfB x) (hr : ∀ i, 0 ≤ r.getD i 0 ∧ r.getD i 0 ≤ 1048576) : WfB (tellB r x) := by
 refine ⟨hx.ins, fun z hz => ?_, hx.dep, hx.len, by simpa [tellB] using hx.nlen⟩
 obtain ⟨y, hy, rfl⟩ := List.mem_map.1 hz
 unfold tell Vc.i64
 have := hr y.toNat
 omega
theorem thr1_wf {x : Bl} (hx : WfB x) : WfB (thr1 x) := by
 unfold thr1
 split
 ·refine ⟨fun y hy => ?_, fun z hz => hx.next z (List.mem_of_mem_take hz), hx.dep, ?_, ?_⟩
  ·rcases List.mem_append.1 hy with h | h
   ·exact hx.ins y (List.mem_of_mem_take h)
   ·rw [List.mem_singleton] at h; rw [h]; exact jmp_wf
  ·have := hx.len
   simp only [List.length_append, List.length_take, List.length_cons, List.length_nil]; omega
  ·have := hx.nlen
   simp only [List.length_take]; omega
 ·exact hx
theorem wf_thr {c : Co} (hw : WfC c) (hk : Cok c.bl) : WfC ⟨c.pa, c.re, c.rs, thrB c.bl⟩ := by
 refine ⟨hw.pa, hw.re, fun b hb => ?_, by show (thrB c.bl).length ≤ _; rw [thrB_len]; exact hw.len⟩
 obtain ⟨y, hy, rfl⟩ := List.mem_map.1 hb
 obtain ⟨x, hx, rfl⟩ := List.mem_map.1 hy
 exact thr1_wf (tell_wf (hw.bl x hx) fun i => by have := bhs_bd c.bl i hk; have := hk.nok.len; omega)
theorem madeH_yes (c : Co) (hw : WfC c) (hc : chk c = true) (g : Nat → Prop) (v : Value) (w : World) (hT : Fms w) (hv : Bls w g c.bl v) (hg : ∀ k, g k → k < w.heap.size) :
    Calls Tryz.prog 41 #[.agg #[.int .i64 c.pa, .int .i64 c.re, .bool c.rs, v], .func (.func 43) #[] #[]] w fun e w' => ∃ u, e = .returned (.tuple #[.agg #[.int .i64 c.pa, .int .i64 c.re, .bool c.rs, u], .nilIface]) ∧ Bls w' (fun k => w.heap.size ≤ k ∧ k < w'.heap.size) (thrB c.bl) u ∧ Below w.heap.size w w' := by
 have hk := cok_of c hc
 have hz : siz c.bl ≤ 1099511627776 := by
  unfold chk at hc
  simp only [Bool.and_eq_true, decide_eq_true_eq] at hc
  have := hc.1.2.2
  omega
 obtain ⟨va, vc, rfl, -, -, -⟩ := id hv
 obtain ⟨n, hn⟩ : ∃ n, n = c.bl.length := ⟨_, rfl⟩
 obtain ⟨X, hX⟩ : ∃ X, X = (w.alloc (.cells (cob c.pa c.re c.rs (.slice va n vc)) 29)).alloc (.cells (cob 0 0 false (.slice none 0 0)) 29) := ⟨_, rfl⟩
 have hXb : Below w.heap.size w X := by rw [hX]; exact Vc.two_allocs w _ _
 have hXz : X.heap.size = w.heap.size + 2 := by rw [hX]; simp
 have r0 : X.heap[w.heap.size]? = some (.cells (cob c.pa c.re c.rs (.slice va n vc)) 29 (0, 0)) := by rw [hX, Below.heap_alloc _ _ _ (by simp)]; exact heap_alloc_new _ _
 have r1 : X.heap[w.heap.size + 1]? = some (.cells (cob 0 0 false (.slice none 0 0)) 29 (0, 0)) := by
  have := heap_alloc_new (w.alloc (.cells (cob c.pa c.re c.rs (.slice va n vc)) 29)) (.cells (cob 0 0 false (.slice none 0 0)) 29)
  rw [show (w.alloc (.cells (cob c.pa c.re c.rs (.slice va n vc)) 29)).heap.size = w.heap.size + 1 by simp, ← hX] at this; exact this
 have hck : Calls Tryz.prog 26 #[.agg #[.int .i64 c.pa, .int .i64 c.re, .bool c.rs, .slice va n vc]] X fun e w' => e = .returned .nilIface ∧ Below X.heap.size X w' := by
  have h5 := Vc.check_any c hw g (.slice va c.bl.length vc) X (hT.below hXb) (hv.moved (fun k _ h => ⟨h, hXb.block k (hg k h)⟩) hXb.size) hz
  rw [hc, ← hn] at h5
  exact h5.mono fun e w' h => ⟨by rw [h.1]; simp [errV_0], h.2⟩
 have hby : ∀ W, Below X.heap.size X W → Calls Tryz.prog 43 #[.agg #[.int .i64 c.pa, .int .i64 c.re, .bool c.rs, .slice va n vc]] W fun e w' => ∃ v', e = .returned (.agg #[.int .i64 c.pa, .int .i64 c.re, .bool c.rs, v']) ∧ Bls w' (fun k => k < w'.heap.size) (thrB c.bl) v' ∧ Below W.heap.size W w' := fun W hW => by
  have hb : Below w.heap.size w W := hXb.trans (hW.mono (by omega))
  have h5 := threaded_any c.bl hk c.pa c.re c.rs g (.slice va c.bl.length vc) W (hv.moved (fun k _ h => ⟨h, hb.block k (hg k h)⟩) hb.size) (fun k h => Nat.lt_of_lt_of_le (hg k h) hb.size)
  rw [← hn] at h5; exact h5
 have hcl : ∀ W v', Bls W (fun k => k < W.heap.size) (thrB c.bl) v' → Calls Tryz.prog 66 #[.agg #[.int .i64 c.pa, .int .i64 c.re, .bool c.rs, v']] W fun e w' => ∃ u, e = .returned (.agg #[.int .i64 c.pa, .int .i64 c.re, .bool c.rs, u]) ∧ (∀ w8, (∀ k, W.heap.size ≤ k → k < w'.heap.size → w8.heap[k]? = w'.heap[k]?) → w'.heap.size ≤ w8.heap.size → Bls w8 (fun k => W.heap.size ≤ k ∧ k < w8.heap.size) (thrB c.bl) u) ∧ (∃ a m cp, u = .slice a m cp) ∧ Below W.heap.size W w' := fun W v' h => by
  refine (Vc.clone_any ⟨c.pa, c.re, c.rs, thrB c.bl⟩ (wf_thr hw hk) _ v' W h (fun k h => h)).mono ?_
  rintro e w' ⟨u, rfl, ho, -, hb⟩
  refine ⟨u, rfl, fun w8 h8 hs => ?_, ?_, hb⟩
  ·have h6 := Vc.CoO.bls (g := fun k => W.heap.size ≤ k ∧ k < w'.heap.size) ho (fun k a b => ⟨a, b⟩)
   exact h6.moved (fun k _ hg => ⟨⟨hg.1, by omega⟩, h8 k hg.1 hg.2⟩) hs
  ·obtain ⟨a, cp, e, -⟩ := id ho
   exact ⟨a, _, cp, e⟩
 obtain ⟨c0, c1, c2, c3, cf, cl⟩ := cob_cells r0
 have HCk := hide hck; have HBy := hide hby; have HCl := hide hcl; have HXb := hide hXb; have HXz := hide hXz; have HR0 := hide r0; have HR1 := hide r1
 rw [← hn]
 clear hck hby hcl hk hz hv hc hw hT hg hn hXb hXz r0 r1
 go_enter Tryz.func41, Tryz.ntmps41
 go_upto_region 1 with fail
 rw [show (w.alloc (.cells #[.int .i64 c.pa, .int .i64 c.re, .bool c.rs, .slice va n vc] 29)).alloc (.cells #[.int .i64 0, .int .i64 0, .bool false, .slice none 0 0] 29) = X from hX.symm]
 clear hX
 go_wp2_with (first
  | (go_at_call 26; refine (unhide HCk).mono ?_; rintro e w2 ⟨rfl, hb2⟩; have q0 := (hb2.block w.heap.size cl).trans (unhide HR0); obtain ⟨d0, d1, d2, d3, df, dl⟩ := cob_cells q0; have HB2 := hide hb2; clear hb2 q0)
  | (go_at_call 43; refine (unhide HBy _ (unhide HB2)).mono ?_; rintro e w3 ⟨v3, rfl, hB3, hb3⟩; have HBl3 := hide hB3; have HB3 := hide hb3; clear hB3 hb3)
  | (go_at_call 66; refine (unhide HCl _ _ (unhide HBl3)).mono ?_; rintro e w4 ⟨u4, rfl, hB4, ⟨ua, um, uc, rfl⟩, hb4⟩; have HBl4 := hide hB4; have HB4 := hide hb4; have q1 := (hb4.block (w.heap.size + 1) (by have := (unhide HB3).size; have := (unhide HB2).size; have := unhide HXz; omega)).trans (((unhide HB3).block (w.heap.size + 1) (by have := (unhide HB2).size; have := unhide HXz; omega)).trans (((unhide HB2).block (w.heap.size + 1) (by have := unhide HXz; omega)).trans (unhide HR1))); obtain ⟨y0, y1, y2, y3, yf, yl⟩ := cob_cells q1; have HQ1 := hide q1; clear hB4 hb4 q1))
 have hs2 := (unhide HB2).size
 have hs3 := (unhide HB3).size
 have hs4 := (unhide HB4).size
 have hxz := unhide HXz
 have hr8 := set4c w4 (w.heap.size + 1) _ _ _ _ _ (.int .i64 c.pa) (.int .i64 c.re) (.bool c.rs) (.slice ua um uc) (unhide HQ1)
 have hbe : Below w.heap.size w w4 := (unhide HXb).trans (((unhide HB2).trans (((unhide HB3).trans ((unhide HB4).mono hs3)).mono hs2)).mono (by omega))
 have hb8 := Vc.bel4 hbe (w.heap.size + 1) (Nat.le_succ _) (.int .i64 c.pa) (.int .i64 c.re) (.bool c.rs) (.slice ua um uc)
 have hfin := unhide HBl4 ((((w4.setCell ⟨w.heap.size + 1, 0, none⟩ (.int .i64 c.pa)).setCell ⟨w.heap.size + 1, 1, none⟩ (.int .i64 c.re)).setCell ⟨w.heap.size + 1, 2, none⟩ (.bool c.rs)).setCell ⟨w.heap.size + 1, 3, none⟩ (.slice ua um uc)) (fun k h1 h2 => by
  have hk : k ≠ w.heap.size + 1 := by omega
  rw [heap_setCell_other _ _ _ _ (by exact hk), heap_setCell_other _ _ _ _ (by exact hk), heap_setCell_other _ _ _ _ (by exact hk), heap_setCell_other _ _ _ _ (by exact hk)]) (by simp)
 have hfin2 : Bls ((((w4.setCell ⟨w.heap.size + 1, 0, none⟩ (.int .i64 c.pa)).setCell ⟨w.heap.size + 1, 1, none⟩ (.int .i64 c.re)).setCell ⟨w.heap.size + 1, 2, none⟩ (.bool c.rs)).setCell ⟨w.heap.size + 1, 3, none⟩ (.slice ua um uc)) (fun k => w.heap.size ≤ k ∧ k < ((((w4.setCell ⟨w.heap.size + 1, 0, none⟩ (.int .i64 c.pa)).setCell ⟨w.heap.size + 1, 1, none⟩ (.int .i64 c.re)).setCell ⟨w.heap.size + 1, 2, none⟩ (.bool c.rs)).setCell ⟨w.heap.size + 1, 3, none⟩ (.slice ua um uc)).heap.size) (thrB c.bl) (.slice ua um uc) := hfin.moved (fun k _ h => ⟨⟨by omega, h.2⟩, rfl⟩) (Nat.le_refl _)
 generalize (((w4.setCell ⟨w.heap.size + 1, 0, none⟩ (.int .i64 c.pa)).setCell ⟨w.heap.size + 1, 1, none⟩ (.int .i64 c.re)).setCell ⟨w.heap.size + 1, 2, none⟩ (.bool c.rs)).setCell ⟨w.heap.size + 1, 3, none⟩ (.slice ua um uc) = W8 at *
 have u0 := cell_of_row W8 (w.heap.size + 1) 0 _ _ _ hr8; have u1 := cell_of_row W8 (w.heap.size + 1) 1 _ _ _ hr8; have u2 := cell_of_row W8 (w.heap.size + 1) 2 _ _ _ hr8; have u3 := cell_of_row W8 (w.heap.size + 1) 3 _ _ _ hr8
 simp only [List.getElem?_toArray, List.getElem?_cons_zero, List.getElem?_cons_succ] at u0 u1 u2 u3
 exact bodyPost_ret (v := .tuple #[.agg #[.int .i64 c.pa, .int .i64 c.re, .bool c.rs, .slice ua um uc], .nilIface]) (by simp [results, Tryz.results41, go_sem, u0, u1, u2, u3]) rfl ⟨_, rfl, hfin2, hb8⟩
theorem thread_yes (c : Co) (hw : WfC c) (hc : chk c = true) (g : Nat → Prop) (v : Value) (w : World) (hT : Fms w) (hv : Bls w g c.bl v) (hg : ∀ k, g k → k < w.heap.size) :
    Calls Tryz.prog 18 #[.agg #[.int .i64 c.pa, .int .i64 c.re, .bool c.rs, v]] w fun e w' => ∃ u, e = .returned (.tuple #[.agg #[.int .i64 c.pa, .int .i64 c.re, .bool c.rs, u], .nilIface]) ∧ Bls w' (fun k => w.heap.size ≤ k ∧ k < w'.heap.size) (thrB c.bl) u ∧ Below w.heap.size w w' := by
 obtain ⟨va, vc, rfl, -, -, -⟩ := id hv
 obtain ⟨n, hn⟩ : ∃ n, n = c.bl.length := ⟨_, rfl⟩
 obtain ⟨X, hX⟩ : ∃ X, X = (w.alloc (.cells (cob c.pa c.re c.rs (.slice va n vc)) 29)).alloc (.cells (cob 0 0 false (.slice none 0 0)) 29) := ⟨_, rfl⟩
 have hXb : Below w.heap.size w X := by rw [hX]; exact Vc.two_allocs w _ _
 have hXz : X.heap.size = w.heap.size + 2 := by rw [hX]; simp
 have r0 : X.heap[w.heap.size]? = some (.cells (cob c.pa c.re c.rs (.slice va n vc)) 29 (0, 0)) := by rw [hX, Below.heap_alloc _ _ _ (by simp)]; exact heap_alloc_new _ _
 have r1 : X.heap[w.heap.size + 1]? = some (.cells (cob 0 0 false (.slice none 0 0)) 29 (0, 0)) := by
  have := heap_alloc_new (w.alloc (.cells (cob c.pa c.re c.rs (.slice va n vc)) 29)) (.cells (cob 0 0 false (.slice none 0 0)) 29)
  rw [show (w.alloc (.cells (cob c.pa c.re c.rs (.slice va n vc)) 29)).heap.size = w.heap.size + 1 by simp, ← hX] at this; exact this
 have hby := madeH_yes c hw hc g (.slice va c.bl.length vc) X (hT.below hXb) (hv.moved (fun k _ h => ⟨h, hXb.block k (hg k h)⟩) hXb.size) (fun k h => Nat.lt_of_lt_of_le (hg k h) hXb.size)
 rw [← hn] at hby ⊢
 have hby2 : Calls Tryz.prog 41 #[.agg #[.int .i64 c.pa, .int .i64 c.re, .bool c.rs, .slice va n vc], .func (.func 43) #[] #[]] X fun e w' => ∃ a m cp, e = .returned (.tuple #[.agg #[.int .i64 c.pa, .int .i64 c.re, .bool c.rs, .slice a m cp], .nilIface]) ∧ Bls w' (fun k => X.heap.size ≤ k ∧ k < w'.heap.size) (thrB c.bl) (.slice a m cp) ∧ Below X.heap.size X w' := by
  refine hby.mono ?_
  rintro e w' ⟨u, rfl, h1, h2⟩
  obtain ⟨a, cp, e, -⟩ := id h1
  subst e
  exact ⟨_, _, _, rfl, h1, h2⟩
 obtain ⟨c0, c1, c2, c3, cf, cl⟩ := cob_cells r0
 have HBy := hide hby2; have HXb := hide hXb; have HXz := hide hXz; have HR1 := hide r1
 clear hby hby2 hv hc hw hT hg hn hXb hXz r0 r1
 go_enter Tryz.func18, Tryz.ntmps18
 go_upto_region 1 with fail
 rw [show (w.alloc (.cells #[.int .i64 c.pa, .int .i64 c.re, .bool c.rs, .slice va n vc] 29)).alloc (.cells #[.int .i64 0, .int .i64 0, .bool false, .slice none 0 0] 29) = X from hX.symm]
 clear hX
 go_wp2_with (go_at_call 41; refine (unhide HBy).mono ?_; rintro e w4 ⟨ua, um, uc, rfl, hB4, hb4⟩; have HBl4 := hide hB4; have HB4 := hide hb4; have q1 := (hb4.block (w.heap.size + 1) (by have := unhide HXz; omega)).trans (unhide HR1); obtain ⟨y0, y1, y2, y3, yf, yl⟩ := cob_cells q1; have HQ1 := hide q1; clear hB4 hb4 q1)
 have hs4 := (unhide HB4).size
 have hxz := unhide HXz
 have hr8 := set4c w4 (w.heap.size + 1) _ _ _ _ _ (.int .i64 c.pa) (.int .i64 c.re) (.bool c.rs) (.slice ua um uc) (unhide HQ1)
 have hbe : Below w.heap.size w w4 := (unhide HXb).trans ((unhide HB4).mono (by omega))
 have hb8 := Vc.bel4 hbe (w.heap.size + 1) (Nat.le_succ _) (.int .i64 c.pa) (.int .i64 c.re) (.bool c.rs) (.slice ua um uc)
 have hfin2 : Bls ((((w4.setCell ⟨w.heap.size + 1, 0, none⟩ (.int .i64 c.pa)).setCell ⟨w.heap.size + 1, 1, none⟩ (.int .i64 c.re)).setCell ⟨w.heap.size + 1, 2, none⟩ (.bool c.rs)).setCell ⟨w.heap.size + 1, 3, none⟩ (.slice ua um uc)) (fun k => w.heap.size ≤ k ∧ k < ((((w4.setCell ⟨w.heap.size + 1, 0, none⟩ (.int .i64 c.pa)).setCell ⟨w.heap.size + 1, 1, none⟩ (.int .i64 c.re)).setCell ⟨w.heap.size + 1, 2, none⟩ (.bool c.rs)).setCell ⟨w.heap.size + 1, 3, none⟩ (.slice ua um uc)).heap.size) (thrB c.bl) (.slice ua um uc) := (unhide HBl4).moved (fun k _ h => by
  have hk : k ≠ w.heap.size + 1 := by omega
  refine ⟨⟨by omega, by simpa using h.2⟩, ?_⟩
  rw [heap_setCell_other _ _ _ _ (by exact hk), heap_setCell_other _ _ _ _ (by exact hk), heap_setCell_other _ _ _ _ (by exact hk), heap_setCell_other _ _ _ _ (by exact hk)]) (by simp)
 generalize (((w4.setCell ⟨w.heap.size + 1, 0, none⟩ (.int .i64 c.pa)).setCell ⟨w.heap.size + 1, 1, none⟩ (.int .i64 c.re)).setCell ⟨w.heap.size + 1, 2, none⟩ (.bool c.rs)).setCell ⟨w.heap.size + 1, 3, none⟩ (.slice ua um uc) = W8 at *
 have u0 := cell_of_row W8 (w.heap.size + 1) 0 _ _ _ hr8; have u1 := cell_of_row W8 (w.heap.size + 1) 1 _ _ _ hr8; have u2 := cell_of_row W8 (w.heap.size + 1) 2 _ _ _ hr8; have u3 := cell_of_row W8 (w.heap.size + 1) 3 _ _ _ hr8
 simp only [List.getElem?_toArray, List.getElem?_cons_zero, List.getElem?_cons_succ] at u0 u1 u2 u3
 exact bodyPost_ret (v := .tuple #[.agg #[.int .i64 c.pa, .int .i64 c.re, .bool c.rs, .slice ua um uc], .nilIface]) (by simp [results, Tryz.results18, go_sem, u0, u1, u2, u3]) rfl ⟨_, rfl, hfin2, hb8⟩
end Fw
end Go.Proofs.YtglehoekehiaiaaGreatDoor
