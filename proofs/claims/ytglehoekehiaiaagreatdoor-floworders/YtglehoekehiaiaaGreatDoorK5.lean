/- K5: what follows, part by part: each part tells what it holds. -/
import Derived.Test.YtglehoekehiaiaaGreatDoorK4
import Derived.Deep.RegionHeld3
namespace Go.Proofs.YtglehoekehiaiaaGreatDoor
open Go.RowKit
set_option linter.unusedVariables false
set_option linter.unusedSimpArgs false
set_option maxRecDepth 100000
set_option maxHeartbeats 32000000
namespace Fw
open Vc (NumsL Nums Lies LL Bls BlC InC Bl In Co infoN own_base)
/- flow: what is ahead of each block: the walk of it. -/
theorem infoR : (Tryz.prog.info? 31).map (fun i => (i.zero, i.size, i.bytes)) = some (some (.slice none 0 0), 1, 24) := by kernel_rfl
/-- behind so many ways of one block -/
def aw (i : Nat) (l : List Int) (o : List (List Nat)) (k : Nat) : List (List Nat) := ((l.map Int.toNat).take k).foldl (ah1 i) o
theorem aw_succ (i : Nat) (l : List Int) (o : List (List Nat)) {k n : Nat} (h : (l.map Int.toNat)[k]? = some n) : aw i l o (k + 1) = ah1 i (aw i l o k) n := by unfold aw; rw [fold_take _ _ _ _ h]
theorem aw_all (i : Nat) (l : List Int) (o : List (List Nat)) : aw i l o l.length = (l.map Int.toNat).foldl (ah1 i) o := by unfold aw; rw [List.take_of_length_le (by simp)]
theorem aw_inv {l : List Bl} (hl : Nok l) {x : Bl} {i : Nat} (hx : l[i]? = some x) {o : List (List Nat)} (h : AhI l.length i o) (k : Nat) : AhI l.length i (aw i x.next o k) :=
 AhI.steps _ h fun y hy => by rw [← nxs_at hx] at hy; rw [← nxs_len]; exact hl.inn i y (List.mem_of_mem_take hy)
theorem nz_last (l : List Nat) (h : l ≠ []) : (nz l).getD (l.length - 1) 0 = ((l.getLast h : Nat) : Int) := by
 have h0 := List.length_pos_iff.2 h
 rw [nz_getD _ _ (by omega), getD_get _ _ _ (by omega), List.getLast_eq_getElem]
theorem nums_via {w wr wq : World} {N : Nat} {l : List Int} {v : Value} (h : NumsL wr (fun k => k < N) l v) (h1 : Below N w wr) (h2 : Below N w wq) : NumsL wq (fun k => k < N) l v := h.moved fun k _ hg => ⟨hg, (h2.block k hg).trans (h1.block k hg).symm⟩
theorem aheadOf_any (l : List Bl) (hl : Nok l) (g : Nat → Prop) (vb : Value) (w : World) (hB : Bls w g l vb) (hg : ∀ k, g k → k < w.heap.size) :
    Calls Tryz.prog 29 #[vb] w fun e w' => ∃ v, e = .returned v ∧ Rws w' (fun k => w.heap.size ≤ k ∧ k < w'.heap.size) (ahead (nxs l)) v ∧ Below w.heap.size w w' := by
 obtain ⟨va, vc, rfl, -, -, -⟩ := id hB
 have hB' : Bls w (fun k => k < w.heap.size) l (.slice va l.length vc) := hB.moved (fun k _ h => ⟨hg k h, rfl⟩) (Nat.le_refl _)
 obtain ⟨i0, hi, hz0, hz1, hz2⟩ := info_parts infoN
 obtain ⟨ir, hir, hr0, hr1, hr2⟩ := info_parts infoR
 have hlen := hl.len
 obtain ⟨n, hn⟩ : ∃ n, n = l.length := ⟨_, rfl⟩
 have hmk := fun wx => run_make (P := Tryz.prog) wx 36 31 ir (.slice none 0 0) Tryz.underlying36 hir hr0 .i64 .i64 (n : Int) (n : Int) (by omega) (by omega) (by rw [hr2]; omega) (by omega)
 rw [hr1] at hmk
 simp only [Int.toNat_natCast, Nat.mul_one] at hmk
 rw [show (Value.slice none 0 0).cells = #[Value.slice none 0 0] from rfl] at hmk
 rw [← hn] at hlen
 have hG := Gr.start w n
 have hb1 := Vc.one_alloc w (.cells (madeCells #[.slice none 0 0] n) 31)
 have HB := hide hB'; have HL := hide hl; have HN := hide hn; have HLn := hide hlen; have HG := hide hG; have HB1 := hide hb1
 rw [show Calls Tryz.prog 29 #[.slice va l.length vc] w = Calls Tryz.prog 29 #[.slice va n vc] w by rw [hn]]
 have hni : (n : Int) ≤ 1048576 := by omega
 clear hB hB' hl hg hn hlen hG hb1
 go_enter Tryz.func29, Tryz.ntmps29
 go_wp2_with fail
 generalize w.alloc (.cells (madeCells #[.slice none 0 0] n) 31) = W1 at *
 go_loopw [14] (fun c wr => ∃ (i : Nat) (cs : Array Value), i ≤ n ∧ c = .int .i64 (i : Int) ∧ Gr wr w.heap.size w.heap.size cs (ahs (nxs l) i) ∧ Below w.heap.size w wr) (fun c _ => n - (intOf c).toNat)
 case atStart => exact ⟨0, _, Nat.zero_le _, rfl, by rw [show ahs (nxs l) 0 = List.replicate n [] by rw [unhide HN]; simp [ahs, nxs_len]]; exact unhide HG, unhide HB1⟩
 case round =>
  obtain ⟨i, cs, hi2, rfl, hGi, hbi⟩ := hrel
  by_cases hlt : i < n
  ·obtain ⟨x, hx⟩ : ∃ x, l[i]? = some x := ⟨_, List.getElem?_eq_getElem (by rw [← unhide HN]; exact hlt)⟩
   have hBi := bls_on (unhide HB) hbi
   obtain ⟨Bb, ob, vi, vn, rfl, hBN, hBl, -, d0, d1, d2, hin, hnn⟩ := blk_next hBi hx
   obtain ⟨ia, ic, rfl, -, -, -⟩ := id hin
   obtain ⟨na, nc, rfl, -, -, -⟩ := id hnn
   have hxl : x.next.length ≤ 1048576 := (unhide HL).nlen x (List.mem_of_getElem? hx)
   have hah := ahs_inv (nxs l) (unhide HL).inn i
   rw [nxs_len] at hah
   obtain ⟨m, hm⟩ : ∃ m, m = x.next.length := ⟨_, rfl⟩
   rw [← hm] at d1 hxl
   have hmi : (m : Int) ≤ 1048576 := by omega
   have hbx := Vc.one_alloc wr (.cells #[.slice ia x.ins.length ic, .slice na m nc, .int .i64 x.dep] 56)
   have hG1 := hGi.below hbx
   have HX := hide hx; have HNn := hide hnn; have HM := hide hm; have HXl := hide hxl; have HBi := hide hbi; have HAh := hide hah; have HG1 := hide hG1; have HBx := hide (hbi.trans (hbx.mono hbi.size))
   have hii : (i : Int) < (n : Int) := by omega
   have HLt := hide hlt; have HI2 := hide hi2
   clear hx hnn hin hm hxl hbi hah hG1 hbx hBi hGi HG HB1 hlt hi2
   go_wp2_with fail
   generalize wr.alloc (.cells #[.slice ia x.ins.length ic, .slice na m nc, .int .i64 x.dep] 56) = WX at *
   clear d0 d1 d2
   go_loopw [22] (fun c wq => ∃ (j : Nat) (cq : Array Value), j ≤ m ∧ c = .int .i64 (j : Int) ∧ Gr wq w.heap.size w.heap.size cq (aw i x.next (ahs (nxs l) i) j) ∧ Below w.heap.size w wq) (fun c _ => m - (intOf c).toNat)
   case atStart => exact ⟨0, _, Nat.zero_le _, rfl, unhide HG1, unhide HBx⟩
   case round =>
    generalize wr = wq at *
    obtain ⟨j, cq, hj, rfl, hGq, hbq⟩ := hrel
    by_cases hjm : j < m
    ·obtain ⟨t, hz, htl, hgt⟩ := (unhide HL).at_ (unhide HX) (k := j) (by rw [← unhide HM]; exact hjm)
     have hnn1 := nums_via (unhide HNn) (unhide HBi) hbq
     obtain ⟨Bn, on, rfl, hBnN, hnc⟩ := nums_at hnn1 (k := j) (by rw [← unhide HM]; exact hjm)
     have hck := hnc j (by rw [← unhide HM]; exact hjm)
     rw [hz] at hck
     have hAj := aw_inv (unhide HL) (unhide HX) (unhide HAh) j
     obtain ⟨ro, hro⟩ : ∃ ro, ro = (aw i x.next (ahs (nxs l) i) j).getD t [] := ⟨_, rfl⟩
     obtain ⟨ra, rc, hcr, hrc, hRo, hrl, hrf⟩ := hGq.at_ (i := t) (by rw [hAj.len]; exact htl)
     rw [← hro] at hcr hrc hRo hrl
     obtain ⟨L, hL⟩ : ∃ L, L = ro.length := ⟨_, rfl⟩
     have htn : (t : Int) < (n : Int) := by rw [unhide HN]; omega
     have hjm2 : (j : Int) < (m : Int) := by omega
     have hrm := hAj.row ro (by rw [hro]; exact getD_mem _ _ _ (by rw [hAj.len]; exact htl))
     have hLL : L ≤ i + 1 := by rw [hL]; have := hrm.2; omega
     rw [← hL] at hcr hrc hRo
     by_cases h0 : L = 0
     ·subst h0
      have hlast : ¬ ((aw i x.next (ahs (nxs l) i) j).getD t []).getLast? = some i := by rw [← hro, List.eq_nil_of_length_eq_zero hL.symm]; simp
      have hA := hGq.below (Vc.one_alloc wq (.cells #[.int .i64 (i : Int)] 3))
      have hAR : (wq.alloc (.cells #[.int .i64 (i : Int)] 3)).ownsRow w.heap.size 3 1 (.slice ra 0 rc) 0 (iv (nz ro)) := by
       obtain ⟨v9, k1, k2⟩ := hA.row t ro hrl
       rw [hrc] at k1; cases k1
       unfold Ro at k2; rw [nz_len, ← hL] at k2; exact k2
      have hS : w.heap.size ≤ wq.heap.size := hbq.size
      have hst := aw_succ i x.next (ahs (nxs l) i) hgt
      rw [ah1_add i hlast] at hst
      have HA := hide hA; have HAR := hide hAR; have HS := hide hS; have HSt := hide hst; have HRl := hide hrl; have HRc := hide hrc; have HL2 := hide hL; have HLL := hide hLL; have HBq := hide hbq; have HRo := hide hro
      clear hA hAR hS hst hrl hrc hGq hRo hbq hro hgt hz hnn1 hnc hAj hlast hrm hL hLL
      go_wp2_with (at_builtin; refine wpList_append_own_at _ rfl (.tmp 45) (.tmp 47) 31 rfl w.heap.size 3 i0 (.int .i64 0) 1 8 Tryz.underlying31 hi hz0 hz1 hz2 rfl (by decide) (.slice ra 0 rc) 0 (iv (nz ro)) rfl (unhide HAR) ⟨wq.heap.size, 0, none⟩ 1 1 [.int .i64 (i : Int)] rfl rfl (cell_one_new _ _ _) (one_ones _) ?d3 ?d4 ?d5 ?_)
      case d3 => have := unhide HLL; have := unhide HLn; have := unhide HI2; unfold maxLen; omega
      case d4 => have := unhide HLL; have := unhide HLn; have := unhide HI2; omega
      case d5 => have := unhide HS; simp; omega
      intro v2 w2 hown hgrow _ hat
      obtain ⟨a2, cp2, rfl⟩ := own_slice hown
      obtain ⟨g1, g2, g3⟩ := (unhide HA).push (unhide HRl) (unhide HRc) (by rw [nz_len, ← unhide HL2]; exact hown) hgrow (hat_of hat (by simp))
      have cf := frozen_of_row w2 w.heap.size t _ _ g1
      have cc := (cell_of_row w2 w.heap.size t _ _ _ g1).trans (unhide HRc)
      have HG2 := hide g2; have HB2 := hide ((Below.mono (Vc.one_alloc wq (.cells #[.int .i64 (i : Int)] 3)) (unhide HS)).trans g3)
      clear g1 g2 g3 hown hgrow hat HA HAR
      go_wp2_with fail
      go_roundw
      case rel => exact ⟨j + 1, _, by omega, by go_num, by rw [unhide HSt, ← unhide HRo]; exact unhide HG2, (unhide HBq).trans (unhide HB2)⟩
      case measure => simp [intOf]; omega
     ·obtain ⟨p, rfl⟩ : ∃ p, L = p + 1 := ⟨L - 1, by omega⟩
      have hne : ro ≠ [] := fun e => by rw [e] at hL; simp at hL
      obtain ⟨g', cap', e, -, hgl', hcx, -, -⟩ := hRo.at_ (by rw [nz_len, ← hL]; omega)
      have hcl := hcx p (by rw [nz_len, ← hL]; omega)
      have hlz := nz_last ro hne
      rw [← hL, Nat.add_sub_cancel] at hlz
      rw [hlz] at hcl
      rw [nz_len, ← hL] at e
      simp only [Value.slice.injEq] at e
      obtain ⟨rfl, -, rfl⟩ := e
      obtain ⟨z, hzz⟩ : ∃ z, z = ro.getLast hne := ⟨_, rfl⟩
      rw [← hzz] at hcl
      have hpb : (p : Int) ≤ 1048576 := by have := unhide HLn; have := unhide HI2; omega
      have hL1 : (((p + 1 : Nat) : Int) == 0) = false := by simp; omega
      have hz2 : ro.getLast? = some z := by rw [List.getLast?_eq_some_getLast hne, hzz]
      have hRo0 := hRo
      by_cases hzi : z = i
      ·subst hzi
       have hst := aw_succ z x.next (ahs (nxs l) z) hgt
       rw [ah1_same z (by rw [← hro]; exact hz2)] at hst
       have HSt := hide hst; have HGq := hide hGq; have HBq := hide hbq
       clear hst hGq hbq hrl hrc hRo hRo0 hro hgt hz hnn1 hnc hAj hrm hL hLL hzz hcx hlz hne hz2
       go_wp2_with fail
       go_roundw
       case rel => exact ⟨j + 1, _, by omega, by go_num, by rw [unhide HSt]; exact unhide HGq, unhide HBq⟩
       case measure => simp [intOf]; omega
      ·have hlast : ¬ ((aw i x.next (ahs (nxs l) i) j).getD t []).getLast? = some i := by rw [← hro, hz2]; intro e; cases e; exact hzi rfl
       have hzt : ((z : Int) != (i : Int)) = true := by simp; omega
       clear hz2
       have hA := hGq.below (Vc.one_alloc wq (.cells #[.int .i64 (i : Int)] 3))
       have hAR : (wq.alloc (.cells #[.int .i64 (i : Int)] 3)).ownsRow w.heap.size 3 1 (.slice (some ⟨g', 0, none⟩) (p + 1) rc) (p + 1) (iv (nz ro)) := by
        obtain ⟨v9, k1, k2⟩ := hA.row t ro hrl
        rw [hrc] at k1; cases k1
        unfold Ro at k2; rw [nz_len, ← hL] at k2; exact k2
       have hS : w.heap.size ≤ wq.heap.size := hbq.size
       have hst := aw_succ i x.next (ahs (nxs l) i) hgt
       rw [ah1_add i hlast] at hst
       have HA := hide hA; have HAR := hide hAR; have HS := hide hS; have HSt := hide hst; have HRl := hide hrl; have HRc := hide hrc; have HL2 := hide hL; have HLL := hide hLL; have HBq := hide hbq; have HRo := hide hro
       clear hA hAR hS hst hrl hrc hGq hRo hbq hro hgt hz hnn1 hnc hAj hlast hrm hL hLL hzz hcx hlz hne hzi hRo0
       go_wp2_with (at_builtin; refine wpList_append_own_at _ rfl (.tmp 45) (.tmp 47) 31 rfl w.heap.size 3 i0 (.int .i64 0) 1 8 Tryz.underlying31 hi hz0 hz1 hz2 rfl (by decide) (.slice (some ⟨g', 0, none⟩) (p + 1) rc) (p + 1) (iv (nz ro)) rfl (unhide HAR) ⟨wq.heap.size, 0, none⟩ 1 1 [.int .i64 (i : Int)] rfl rfl (cell_one_new _ _ _) (one_ones _) ?d3 ?d4 ?d5 ?_)
       case d3 => have := unhide HLL; have := unhide HLn; have := unhide HI2; unfold maxLen; omega
       case d4 => have := unhide HLL; have := unhide HLn; have := unhide HI2; omega
       case d5 => have := unhide HS; simp; omega
       intro v2 w2 hown hgrow _ hat
       obtain ⟨a2, cp2, rfl⟩ := own_slice hown
       obtain ⟨g1, g2, g3⟩ := (unhide HA).push (unhide HRl) (unhide HRc) (by rw [nz_len, ← unhide HL2]; exact hown) hgrow (hat_of hat (by simp))
       have cf := frozen_of_row w2 w.heap.size t _ _ g1
       have cc := (cell_of_row w2 w.heap.size t _ _ _ g1).trans (unhide HRc)
       have HG2 := hide g2; have HB2 := hide ((Below.mono (Vc.one_alloc wq (.cells #[.int .i64 (i : Int)] 3)) (unhide HS)).trans g3)
       clear g1 g2 g3 hown hgrow hat HA HAR
       go_wp2_with fail
       go_roundw
       case rel => exact ⟨j + 1, _, by omega, by go_num, by rw [unhide HSt, ← unhide HRo]; exact unhide HG2, (unhide HBq).trans (unhide HB2)⟩
       case measure => simp [intOf]; omega
    ·obtain rfl : j = m := by omega
     have hfin : aw i x.next (ahs (nxs l) i) j = ahs (nxs l) (i + 1) := by rw [unhide HM, aw_all, ahs_succ, nxs_at (unhide HX)]
     rw [hfin] at hGq
     have HGq := hide hGq; have HBq := hide hbq; have HLt2 := hide (unhide HLt)
     clear hGq hbq hfin hjm hj
     go_wp2_with fail
     go_roundw
     case rel => exact ⟨i + 1, _, unhide HLt, by go_num, unhide HGq, unhide HBq⟩
     case measure => have := unhide HLt; simp [intOf]; omega
  ·obtain rfl : i = n := by omega
   have hr := hGi.rws (n := i) (by rw [unhide HN, (ahs_inv (nxs l) (unhide HL).inn l.length).len, nxs_len])
   have hfin : ahs (nxs l) i = ahead (nxs l) := by unfold ahead; rw [nxs_len, unhide HN]
   rw [hfin] at hr
   have HR := hide hr; have HBi := hide hbi
   clear hr hbi hGi hfin hi2 hlt
   go_wp2_with fail
   go_ret
   exact ⟨_, rfl, unhide HR, unhide HBi⟩
/- flow: what is over what: the least behind. -/
theorem covers_any {L : Nat} (tl : List Int) (hU : Up L tl) (hL : L ≤ 1048576) (a : Int) (ha : -1 ≤ a) (g : Nat → Prop) (v : Value) (w : World) (hv : NumsL w g tl v) (f : Nat) (b : Int) (hb : -1 ≤ b) (hbL : b < (L : Int)) (hf : b < (f : Int)) :
    Calls Tryz.prog 49 #[v, .int .i64 a, .int .i64 b] w fun e w' => e = .returned (.bool (cov tl a f b)) ∧ w = w' := by
 obtain ⟨va, vc, rfl, -, -, -⟩ := id hv
 have HV := hide hv; have HU := hide hU; have HF := hide hf
 have hlen : tl.length = L := hU.len
 obtain ⟨r, hr⟩ : ∃ r, r = cov tl a f b := ⟨_, rfl⟩
 have HR := hide hr
 rw [← hr, hlen]
 clear hv hU hr hlen hf
 go_enter Tryz.func49, Tryz.ntmps49
 go_wp2_with fail
 go_loopw [2] (fun c wr => ∃ (f2 : Nat) (b2 : Int), -1 ≤ b2 ∧ b2 < (L : Int) ∧ b2 < (f2 : Int) ∧ c = .int .i64 b2 ∧ r = cov tl a f2 b2 ∧ wr = w) (fun c _ => (intOf c + 1).toNat)
 case atStart => exact ⟨f, b, hb, hbL, unhide HF, rfl, unhide HR, rfl⟩
 case round =>
  obtain ⟨f2, b2, h1, h2, h3, rfl, hr2, rfl⟩ := hrel
  by_cases hlt : a < b2
  ·obtain ⟨n, rfl⟩ : ∃ n : Nat, b2 = (n : Int) := ⟨b2.toNat, by omega⟩
   obtain ⟨f3, rfl⟩ : ∃ f3, f2 = f3 + 1 := ⟨f2 - 1, by omega⟩
   obtain ⟨Bn, on, rfl, -, hnc⟩ := nums_at (unhide HV) (k := n) (by rw [(unhide HU).len]; omega)
   have hck := hnc n (by rw [(unhide HU).len]; omega)
   have hu := (unhide HU).row n (by omega)
   rw [cov_yes tl a f3 (n : Int) hlt, Int.toNat_natCast] at hr2
   obtain ⟨z, hz⟩ : ∃ z, z = tl.getD n 0 := ⟨_, rfl⟩
   rw [← hz] at hck hu hr2
   have HR2 := hide hr2; have HZ := hide hz
   clear hr2 hz hnc
   go_wp2_with fail
   go_roundw
   case rel => exact ⟨f3, z, hu.1, by omega, by omega, rfl, unhide HR2, by trivial⟩
   case measure => simp [intOf]; omega
  ·rw [cov_no tl a f2 b2 hlt] at hr2
   go_wp2_with fail
   go_ret
   exact ⟨rfl, rfl⟩
def cbc (a b : Value) : Array Value := #[a, b]
/-- what climbs: its box, and both rows -/
structure Cb (w : World) (N B gu cu gl cl L : Nat) (s : List Int × List Int) : Prop where
 bx : w.heap[B]? = some (.cells (cbc (.slice (some ⟨gu, 0, none⟩) L cu) (.slice (some ⟨gl, 0, none⟩) L cl)) 137 (0, 0))
 ru : Ro w N (.slice (some ⟨gu, 0, none⟩) L cu) s.1
 rl : Ro w N (.slice (some ⟨gl, 0, none⟩) L cl) s.2
 ne : gu ≠ gl
/-- all but two blocks stays -/
structure Fk (a b : Nat) (w w' : World) : Prop where
 os : w'.os = w.os
 tape : w'.tape = w.tape
 output : w'.output = w.output
 size : w'.heap.size = w.heap.size
 keep : ∀ k, k ≠ a → k ≠ b → w'.heap[k]? = w.heap[k]?
theorem Fk.refl (a b : Nat) (w : World) : Fk a b w w := ⟨rfl, rfl, rfl, rfl, fun _ _ _ => rfl⟩
theorem Fk.trans {a b : Nat} {w w1 w2 : World} (h : Fk a b w w1) (k : Fk a b w1 w2) : Fk a b w w2 := ⟨k.os.trans h.os, k.tape.trans h.tape, k.output.trans h.output, k.size.trans h.size, fun j h1 h2 => (k.keep j h1 h2).trans (h.keep j h1 h2)⟩
theorem Fk.drew {a b : Nat} {w w1 : World} (h : Fk a b w w1) : Fk a b w w1.drew := ⟨h.os, h.tape, h.output, h.size, h.keep⟩
theorem Fk.set1 {a b : Nat} {w w1 : World} (h : Fk a b w w1) (i : Nat) (v : Value) : Fk a b w (w1.setCell ⟨a, i, none⟩ v) := ⟨h.os, h.tape, h.output, by simp [h.size], fun k h1 h2 => (heap_setCell_other w1 ⟨a, i, none⟩ k v h1).trans (h.keep k h1 h2)⟩
theorem Fk.set2 {a b : Nat} {w w1 : World} (h : Fk a b w w1) (i : Nat) (v : Value) : Fk a b w (w1.setCell ⟨b, i, none⟩ v) := ⟨h.os, h.tape, h.output, by simp [h.size], fun k h1 h2 => (heap_setCell_other w1 ⟨b, i, none⟩ k v h2).trans (h.keep k h1 h2)⟩
theorem Fk.below {a b N : Nat} {w w' : World} (h : Fk a b w w') (ha : N ≤ a) (hb : N ≤ b) : Below N w w' := ⟨h.os, h.tape, h.output, Nat.le_of_eq h.size.symm, fun k hk => h.keep k (by omega) (by omega)⟩
theorem Cb.ne_box {w : World} {N B gu cu gl cl L : Nat} {s : List Int × List Int} (h : Cb w N B gu cu gl cl L s) : B ≠ gu ∧ B ≠ gl ∧ N ≤ gu ∧ N ≤ gl := by
 have h1 := row_ne h.bx (by decide) h.ru gu rfl
 have h2 := row_ne h.bx (by decide) h.rl gl rfl
 exact ⟨fun e => h1.1 e.symm, fun e => h2.1 e.symm, h1.2.2, h2.2.2⟩
theorem cb_cells {w : World} {B : Nat} {a b : Value} (h : w.heap[B]? = some (.cells (cbc a b) 137 (0, 0))) : w.cell? ⟨B, 0, none⟩ = some a ∧ w.cell? ⟨B, 1, none⟩ = some b ∧ B < w.heap.size := by
 refine ⟨?_, ?_, (Array.getElem?_eq_some_iff.1 h).1⟩ <;> (rw [cell_of_row w B _ _ _ _ h]; rfl)
theorem Cb.drew {w : World} {N B gu cu gl cl L : Nat} {s : List Int × List Int} (h : Cb w N B gu cu gl cl L s) : Cb w.drew N B gu cu gl cl L s := ⟨h.bx, h.ru, h.rl, h.ne⟩
theorem Cb.setU {w : World} {N B gu cu gl cl L : Nat} {s : List Int × List Int} (h : Cb w N B gu cu gl cl L s) {i : Nat} (hi : i < s.1.length) (x : Int) : Cb (w.setCell ⟨gu, i, none⟩ (.int .i64 x)) N B gu cu gl cl L (s.1.set i x, s.2) := by
 have q := h.ne_box
 exact ⟨(heap_setCell_other w ⟨gu, i, none⟩ B _ q.1).trans h.bx, h.ru.set hi x, h.rl.keep fun k hk => heap_setCell_other w ⟨gu, i, none⟩ k _ (by cases hk; exact fun e => h.ne e.symm), h.ne⟩
theorem Cb.setL {w : World} {N B gu cu gl cl L : Nat} {s : List Int × List Int} (h : Cb w N B gu cu gl cl L s) {i : Nat} (hi : i < s.2.length) (x : Int) : Cb (w.setCell ⟨gl, i, none⟩ (.int .i64 x)) N B gu cu gl cl L (s.1, s.2.set i x) := by
 have q := h.ne_box
 exact ⟨(heap_setCell_other w ⟨gl, i, none⟩ B _ q.2.1).trans h.bx, h.ru.keep fun k hk => heap_setCell_other w ⟨gl, i, none⟩ k _ (by cases hk; exact h.ne), h.rl.set hi x, h.ne⟩
theorem Ro.cells {w : World} {N g L c : Nat} {l : List Int} (h : Ro w N (.slice (some ⟨g, 0, none⟩) L c) l) {i : Nat} (hi : i < l.length) : w.cell? ⟨g, i, none⟩ = some (.int .i64 (l.getD i 0)) ∧ w.frozen? ⟨g, i, none⟩ = false := by
 obtain ⟨g', c', e, -, -, hc, hf, -⟩ := h.at_ (by omega)
 simp only [Value.slice.injEq, Option.some.injEq, Addr.mk.injEq] at e
 obtain ⟨⟨rfl, -⟩, -, -⟩ := e
 exact ⟨hc i hi, hf i⟩
theorem least_no {L : Nat} (hL : L ≤ 1048576) (lim : Int) (N B gu cu gl cl t : Nat) (s : List Int × List Int) (hI : LbI L s) (ht : t < L) (w : World) (hC : Cb w N B gu cu gl cl L s) (hno : ¬ lim < s.1.getD t 0) :
    Calls Tryz.prog 86 #[.pointer (some ⟨B, 0, none⟩), .int .i64 lim, .int .i64 (t : Int)] w fun e w' => e = .returned (.int .i64 (s.2.getD t 0)) ∧ w = w' := by
 obtain ⟨c0, c1, cl'⟩ := cb_cells hC.bx
 have k1 := (hC.ru.cells (i := t) (by rw [hI.up.len]; exact ht)).1
 have k2 := (hC.rl.cells (i := t) (by rw [hI.lo.len]; exact ht)).1
 obtain ⟨u, hu⟩ : ∃ u, u = s.1.getD t 0 := ⟨_, rfl⟩
 obtain ⟨z, hz⟩ : ∃ z, z = s.2.getD t 0 := ⟨_, rfl⟩
 rw [← hu] at k1 hno
 rw [← hz] at k2 ⊢
 have hti : (t : Int) < (L : Int) := by omega
 have hLi : (L : Int) ≤ 1048576 := by omega
 clear hu hz hI hC ht hL
 go_enter Tryz.func86, Tryz.ntmps86
 go_wp2_with fail
 go_ret
 exact ⟨rfl, rfl⟩
theorem least_any {L : Nat} (hL : L ≤ 1048576) (lim : Int) (hlim : 0 ≤ lim) (N B gu cu gl cl : Nat) : ∀ (f t : Nat) (s : List Int × List Int), LbI L s → t < L → t ≤ f → ∀ w : World, Cb w N B gu cu gl cl L s →
    Calls Tryz.prog 86 #[.pointer (some ⟨B, 0, none⟩), .int .i64 lim, .int .i64 (t : Int)] w fun e w' => e = .returned (.int .i64 ((lb lim f s t).2.getD t 0)) ∧ Cb w' N B gu cu gl cl L (lb lim f s t) ∧ Fk gu gl w w' := by
 intro f
 induction f with
 | zero =>
   intro t s hI ht hf w hC
   obtain rfl : t = 0 := by omega
   have hu := hI.up.row 0 ht
   rw [lb_no lim 0 s 0 (by omega)]
   refine (least_no hL lim N B gu cu gl cl 0 s hI ht w hC (by omega)).mono ?_
   rintro e w' ⟨rfl, rfl⟩
   exact ⟨rfl, hC, Fk.refl _ _ _⟩
 | succ f ih =>
   intro t s hI ht hf w hC
   by_cases hc : lim < s.1.getD t 0
   ·obtain ⟨a, ha⟩ : ∃ a : Nat, s.1.getD t 0 = (a : Int) := ⟨(s.1.getD t 0).toNat, by omega⟩
    have hu := hI.up.row t ht
    have hat : a < t := by omega
    rw [lb_yes lim f s t a hc ha]
    obtain ⟨k1, k2⟩ := lb_inv lim (by omega) f s a hI (by omega)
    have kk := k2 t hat
    have hcall := ih a s hI (by omega) (by omega) w.drew hC.drew
    have hcall0 := ih a s hI (by omega) (by omega) w hC
    obtain ⟨c0, c1, cl'⟩ := cb_cells hC.bx
    have x1 := (hC.ru.cells (i := t) (by rw [hI.up.len]; exact ht)).1
    obtain ⟨x2, x2f⟩ := hC.rl.cells (i := t) (by rw [hI.lo.len]; exact ht)
    obtain ⟨q, hq⟩ : ∃ q, q = lb lim f s a := ⟨_, rfl⟩
    rw [← hq] at k1 kk hcall hcall0 ⊢
    obtain ⟨z, hz⟩ : ∃ z, z = s.2.getD t 0 := ⟨_, rfl⟩
    rw [← hz] at x2 kk
    obtain ⟨y, hy⟩ : ∃ y, y = q.2.getD a 0 := ⟨_, rfl⟩
    rw [← hy] at hcall hcall0 ⊢
    rw [ha] at x1 hc
    rw [kk]
    have hti : (t : Int) < (L : Int) := by omega
    have hLi : (L : Int) ≤ 1048576 := by omega
    have hai : (a : Int) < (t : Int) := by omega
    have hF : ∀ w1, Cb w1 N B gu cu gl cl L q → w1.cell? ⟨B, 1, none⟩ = some (.slice (some ⟨gl, 0, none⟩) L cl) ∧ w1.cell? ⟨gl, t, none⟩ = some (.int .i64 z) ∧ w1.frozen? ⟨gl, t, none⟩ = false := fun w1 h1 => by
     have h2 := h1.rl.cells (i := t) (by rw [k1.lo.len]; exact ht)
     rw [kk] at h2
     exact ⟨(cb_cells h1.bx).2.1, h2⟩
    have HC := hide hcall; have HK := hide k1; have HY := hide hy; have HC2 := hide hC; have HT := hide ht; have HF := hide hF; have HKk := hide kk
    clear hcall hcall0 k1 hy hz hq hC hI hu ha hat ih k2 ht hf hL hF kk
    go_enter Tryz.func86, Tryz.ntmps86
    go_wp2_with fail
    go_region_law
     (first
      | (go_simp; go_at_call 86; refine (unhide HC).mono ?_; rintro e w1 ⟨rfl, hC1, hF1⟩; obtain ⟨y1, y2, y3⟩ := unhide HF w1 hC1; have HC1 := hide hC1; have HF1 := hide hF1; clear hC1 hF1; go_wp2_with fail)
      | fail)
    all_goals
     have hW := (unhide HC1).setL (i := t) (by rw [(unhide HK).lo.len]; exact unhide HT) (min z y)
     have hFw := ((Fk.refl gu gl w).drew.trans (unhide HF1)).set2 t (.int .i64 (min z y))
     clear y1 y2 y3 c0 c1 cl' x1 x2 x2f
     generalize w1.setCell ⟨gl, t, none⟩ (.int .i64 (min z y)) = W2 at *
     obtain ⟨c0, c1, cl'⟩ := cb_cells hW.bx
     obtain ⟨x1, x1f⟩ := hW.ru.cells (i := a) (by simp only; rw [(unhide HK).up.len]; omega)
     obtain ⟨x2, x2f⟩ := hW.ru.cells (i := t) (by simp only; rw [(unhide HK).up.len]; exact unhide HT)
     have x3 := (hW.rl.cells (i := t) (by simp only; rw [List.length_set, (unhide HK).lo.len]; exact unhide HT)).1
     rw [getD_set _ _ _ _ (by rw [(unhide HK).lo.len]; exact unhide HT), if_pos rfl] at x3
     simp only at x1 x2
     obtain ⟨x, hx⟩ : ∃ x, x = q.1.getD a 0 := ⟨_, rfl⟩
     rw [← hx] at x1
     have hW3 := (hW.setU (i := t) (by simp only; rw [(unhide HK).up.len]; exact unhide HT) x).drew
     have hF3 := (hFw.set1 t (.int .i64 x)).drew
     have HX := hide hx; have HW3 := hide hW3; have HF3 := hide hF3
     have x3' : (W2.setCell ⟨gu, t, none⟩ (.int .i64 x)).drew.cell? ⟨gl, t, none⟩ = some (.int .i64 (min z y)) := by
      show (W2.setCell ⟨gu, t, none⟩ (.int .i64 x)).cell? ⟨gl, t, none⟩ = _
      rw [World.cell?_setCell_other _ _ _ _ (by intro e; injection e with e1; exact hW.ne e1)]; exact x3
     have c1' := (cb_cells hW3.bx).2.1
     clear hx hW3 hF3 hW hFw x3 x1f
     go_wp2_with fail
     go_region
     generalize (W2.setCell ⟨gu, t, none⟩ (.int .i64 x)).drew = W3 at *
     clear x1 x2 x2f c0 c1 cl'
     go_wp2_with fail
     go_ret
     refine ⟨ret_int ?_, ?_, unhide HF3⟩
     ·rw [getD_set _ _ _ _ (by rw [(unhide HK).lo.len]; exact unhide HT), if_pos rfl]
     ·have := unhide HW3; rw [unhide HX] at this; exact this
   ·rw [lb_no lim _ s t hc]
    refine (least_no hL lim N B gu cu gl cl t s hI ht w hC hc).mono ?_
    rintro e w' ⟨rfl, rfl⟩
    exact ⟨rfl, hC, Fk.refl _ _ _⟩
end Fw
end Go.Proofs.YtglehoekehiaiaaGreatDoor
