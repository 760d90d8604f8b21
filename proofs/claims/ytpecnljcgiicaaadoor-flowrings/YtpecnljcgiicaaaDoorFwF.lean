/- flow: what is ahead of each block: the walk of it. -/
import Derived.Test.YtpecnljcgiicaaaDoorFwE
namespace Go.Proofs.YtpecnljcgiicaaaDoor
open Go.RowKit
namespace Fw
set_option linter.unusedVariables false
set_option linter.unusedSimpArgs false
open Vc (NumsL Nums Lies LL Bls BlC InC Bl In Co infoN own_base)
theorem infoR : (Tryd.prog.info? 26).map (fun i => (i.zero, i.size, i.bytes)) = some (some (.slice none 0 0), 1, 24) := by kernel_rfl

/-- behind so many ways of one block -/
def aw (i : Nat) (l : List Int) (o : List (List Nat)) (k : Nat) : List (List Nat) := ((l.map Int.toNat).take k).foldl (ah1 i) o
theorem aw_0 (i : Nat) (l : List Int) (o : List (List Nat)) : aw i l o 0 = o := rfl
theorem aw_succ (i : Nat) (l : List Int) (o : List (List Nat)) {k n : Nat} (h : (l.map Int.toNat)[k]? = some n) : aw i l o (k + 1) = ah1 i (aw i l o k) n := by unfold aw; rw [fold_take _ _ _ _ h]
theorem aw_all (i : Nat) (l : List Int) (o : List (List Nat)) : aw i l o l.length = (l.map Int.toNat).foldl (ah1 i) o := by unfold aw; rw [List.take_of_length_le (by simp)]
theorem aw_inv {l : List Bl} (hl : Nok l) {x : Bl} {i : Nat} (hx : l[i]? = some x) {o : List (List Nat)} (h : AhI l.length i o) (k : Nat) : AhI l.length i (aw i x.next o k) :=
  AhI.steps _ h fun y hy => by rw [← nxs_at hx] at hy; rw [← nxs_len]; exact hl.inn i y (List.mem_of_mem_take hy)
theorem nz_last (l : List Nat) (h : l ≠ []) : (nz l).getD (l.length - 1) 0 = ((l.getLast h : Nat) : Int) := by
  have h0 := List.length_pos_iff.2 h
  rw [nz_getD _ _ (by omega), getD_get _ _ _ (by omega), List.getLast_eq_getElem]

theorem nums_via {w wr wq : World} {N : Nat} {l : List Int} {v : Value} (h : NumsL wr (fun k => k < N) l v) (h1 : Below N w wr) (h2 : Below N w wq) : NumsL wq (fun k => k < N) l v := h.moved fun k _ hg => ⟨hg, (h2.block k hg).trans (h1.block k hg).symm⟩

set_option maxRecDepth 100000 in
set_option maxHeartbeats 3200000 in
theorem aheadOf_any (l : List Bl) (hl : Nok l) (g : Nat → Prop) (vb : Value) (w : World) (hB : Bls w g l vb) (hg : ∀ k, g k → k < w.heap.size) :
    Calls Tryd.prog 13 #[vb] w fun e w' => ∃ v, e = .returned v ∧ Rws w' (fun k => w.heap.size ≤ k ∧ k < w'.heap.size) (ahead (nxs l)) v ∧ Below w.heap.size w w' := by
  obtain ⟨va, vc, rfl, -, -, -⟩ := id hB
  have hB' : Bls w (fun k => k < w.heap.size) l (.slice va l.length vc) := hB.moved (fun k _ h => ⟨hg k h, rfl⟩) (Nat.le_refl _)
  obtain ⟨i0, hi, hz0, hz1, hz2⟩ := info_parts infoN
  obtain ⟨ir, hir, hr0, hr1, hr2⟩ := info_parts infoR
  have hlen := hl.len
  obtain ⟨n, hn⟩ : ∃ n, n = l.length := ⟨_, rfl⟩
  have hmk := fun wx => run_make (P := Tryd.prog) wx 52 26 ir (.slice none 0 0) Tryd.underlying52 hir hr0 .i64 .i64 (n : Int) (n : Int) (by omega) (by omega) (by rw [hr2]; omega) (by omega)
  rw [hr1] at hmk
  simp only [Int.toNat_natCast, Nat.mul_one] at hmk
  rw [show (Value.slice none 0 0).cells = #[Value.slice none 0 0] from rfl] at hmk
  rw [← hn] at hlen
  have hG := Gr.start w n
  have hb1 := Vc.one_alloc w (.cells (madeCells #[.slice none 0 0] n) 26)
  have HB := hide hB'; have HL := hide hl; have HN := hide hn; have HLn := hide hlen; have HG := hide hG; have HB1 := hide hb1
  rw [show Calls Tryd.prog 13 #[.slice va l.length vc] w = Calls Tryd.prog 13 #[.slice va n vc] w by rw [hn]]
  have hni : (n : Int) ≤ 1048576 := by omega
  clear hB hB' hl hg hn hlen hG hb1
  go_enter Tryd.func13, Tryd.ntmps13
  go_wp2_with fail
  generalize w.alloc (.cells (madeCells #[.slice none 0 0] n) 26) = W1 at *
  go_loopw [14] (fun c wr => ∃ (i : Nat) (cs : Array Value), i ≤ n ∧ c = .int .i64 (i : Int) ∧ Gr wr w.heap.size w.heap.size cs (ahs (nxs l) i) ∧ Below w.heap.size w wr) (fun c _ => n - (intOf c).toNat)
  case atStart => exact ⟨0, _, Nat.zero_le _, rfl, by rw [show ahs (nxs l) 0 = List.replicate n [] by rw [unhide HN]; simp [ahs, nxs_len]]; exact unhide HG, unhide HB1⟩
  case round =>
    obtain ⟨i, cs, hi2, rfl, hGi, hbi⟩ := hrel
    by_cases hlt : i < n
    · obtain ⟨x, hx⟩ : ∃ x, l[i]? = some x := ⟨_, List.getElem?_eq_getElem (by rw [← unhide HN]; exact hlt)⟩
      have hBi := bls_on (unhide HB) hbi
      obtain ⟨Bb, ob, vi, vn, rfl, hBN, hBl, -, d0, d1, d2, hin, hnn⟩ := blk_next hBi hx
      obtain ⟨ia, ic, rfl, -, -, -⟩ := id hin
      obtain ⟨na, nc, rfl, -, -, -⟩ := id hnn
      have hxl : x.next.length ≤ 1048576 := (unhide HL).nlen x (List.mem_of_getElem? hx)
      have hah := ahs_inv (nxs l) (unhide HL).inn i
      rw [nxs_len] at hah
      obtain ⟨m, hm⟩ : ∃ m, m = x.next.length := ⟨_, rfl⟩
      rw [← hm] at d1 hxl
      have hmi : (m : Int) ≤ 1048576 := by omega
      have hbx := Vc.one_alloc wr (.cells #[.slice ia x.ins.length ic, .slice na m nc, .int .i64 x.dep] 32)
      have hG1 := hGi.below hbx
      have HX := hide hx; have HNn := hide hnn; have HM := hide hm; have HXl := hide hxl; have HBi := hide hbi; have HAh := hide hah; have HG1 := hide hG1; have HBx := hide (hbi.trans (hbx.mono hbi.size))
      have hii : (i : Int) < (n : Int) := by omega
      have HLt := hide hlt; have HI2 := hide hi2
      clear hx hnn hin hm hxl hbi hah hG1 hbx hBi hGi HG HB1 hlt hi2
      go_wp2_with fail
      generalize wr.alloc (.cells #[.slice ia x.ins.length ic, .slice na m nc, .int .i64 x.dep] 32) = WX at *
      clear d0 d1 d2
      go_loopw [22] (fun c wq => ∃ (j : Nat) (cq : Array Value), j ≤ m ∧ c = .int .i64 (j : Int) ∧ Gr wq w.heap.size w.heap.size cq (aw i x.next (ahs (nxs l) i) j) ∧ Below w.heap.size w wq) (fun c _ => m - (intOf c).toNat)
      case atStart => exact ⟨0, _, Nat.zero_le _, rfl, unhide HG1, unhide HBx⟩
      case round =>
        generalize wr = wq at *
        obtain ⟨j, cq, hj, rfl, hGq, hbq⟩ := hrel
        by_cases hjm : j < m
        · obtain ⟨t, hz, htl, hgt⟩ := (unhide HL).at_ (unhide HX) (k := j) (by rw [← unhide HM]; exact hjm)
          have hnn1 := nums_via (unhide HNn) (unhide HBi) hbq
          obtain ⟨Bn, on, rfl, hBnN, hnc⟩ := nums_at hnn1 (k := j) (by rw [← unhide HM]; exact hjm)
          have hck := hnc j (by rw [← unhide HM]; exact hjm)
          rw [hz] at hck
          have hAj := aw_inv (unhide HL) (unhide HX) (unhide HAh) j
          obtain ⟨ro, hro⟩ : ∃ ro, ro = (aw i x.next (ahs (nxs l) i) j).getD t [] := ⟨_, rfl⟩
          obtain ⟨ra, rc, hcr, hrc, hRo, hrl, hrf⟩ := hGq.at_ (i := t) (by rw [hAj.len]; exact htl)
          rw [← hro] at hcr hrc hRo hrl
          obtain ⟨L, hL⟩ : ∃ L, L = ro.length := ⟨_, rfl⟩
          have htn : (t : Int) < (n : Int) := by rw [unhide HN]; omega
          have hjm2 : (j : Int) < (m : Int) := by omega
          have hrm := hAj.row ro (by rw [hro]; exact getD_mem _ _ _ (by rw [hAj.len]; exact htl))
          have hLL : L ≤ i + 1 := by rw [hL]; have := hrm.2; omega
          rw [← hL] at hcr hrc hRo
          by_cases h0 : L = 0
          · subst h0
            have hlast : ¬ ((aw i x.next (ahs (nxs l) i) j).getD t []).getLast? = some i := by rw [← hro, List.eq_nil_of_length_eq_zero hL.symm]; simp
            have hA := hGq.below (Vc.one_alloc wq (.cells #[.int .i64 (i : Int)] 3))
            have hAR : (wq.alloc (.cells #[.int .i64 (i : Int)] 3)).ownsRow w.heap.size 3 1 (.slice ra 0 rc) 0 (iv (nz ro)) := by
              obtain ⟨v9, k1, k2⟩ := hA.row t ro hrl
              rw [hrc] at k1; cases k1
              unfold Ro at k2; rw [nz_len, ← hL] at k2; exact k2
            have hS : w.heap.size ≤ wq.heap.size := hbq.size
            have hst := aw_succ i x.next (ahs (nxs l) i) hgt
            rw [ah1_add i hlast] at hst
            have HA := hide hA; have HAR := hide hAR; have HS := hide hS; have HSt := hide hst; have HRl := hide hrl; have HRc := hide hrc; have HL2 := hide hL; have HLL := hide hLL; have HBq := hide hbq; have HRo := hide hro
            clear hA hAR hS hst hrl hrc hGq hRo hbq hro hgt hz hnn1 hnc hAj hlast hrm hL hLL
            go_wp2_with (at_builtin; refine wpList_append_own_at _ rfl (.tmp 45) (.tmp 47) 26 rfl w.heap.size 3 i0 (.int .i64 0) 1 8 Tryd.underlying26 hi hz0 hz1 hz2 rfl (by decide) (.slice ra 0 rc) 0 (iv (nz ro)) rfl (unhide HAR) ⟨wq.heap.size, 0, none⟩ 1 1 [.int .i64 (i : Int)] rfl rfl (cell_one_new _ _ _) (one_ones _) ?d3 ?d4 ?d5 ?_)
            case d3 => have := unhide HLL; have := unhide HLn; have := unhide HI2; unfold maxLen; omega
            case d4 => have := unhide HLL; have := unhide HLn; have := unhide HI2; omega
            case d5 => have := unhide HS; simp; omega
            intro v2 w2 hown hgrow _ hat
            obtain ⟨a2, cp2, rfl⟩ := own_slice hown
            obtain ⟨g1, g2, g3⟩ := (unhide HA).push (unhide HRl) (unhide HRc) (by rw [nz_len, ← unhide HL2]; exact hown) hgrow (hat_of hat (by simp))
            have cf := frozen_of_row w2 w.heap.size t _ _ g1
            have cc := (cell_of_row w2 w.heap.size t _ _ _ g1).trans (unhide HRc)
            have HG2 := hide g2; have HB2 := hide ((Below.mono (Vc.one_alloc wq (.cells #[.int .i64 (i : Int)] 3)) (unhide HS)).trans g3)
            clear g1 g2 g3 hown hgrow hat HA HAR
            go_wp2_with fail
            go_roundw
            case rel => exact ⟨j + 1, _, by omega, by go_num, by rw [unhide HSt, ← unhide HRo]; exact unhide HG2, (unhide HBq).trans (unhide HB2)⟩
            case measure => simp [intOf]; omega
          · obtain ⟨p, rfl⟩ : ∃ p, L = p + 1 := ⟨L - 1, by omega⟩
            have hne : ro ≠ [] := fun e => by rw [e] at hL; simp at hL
            obtain ⟨g', cap', e, -, hgl', hcx, -, -⟩ := hRo.at_ (by rw [nz_len, ← hL]; omega)
            have hcl := hcx p (by rw [nz_len, ← hL]; omega)
            have hlz := nz_last ro hne
            rw [← hL, Nat.add_sub_cancel] at hlz
            rw [hlz] at hcl
            rw [nz_len, ← hL] at e
            simp only [Value.slice.injEq] at e
            obtain ⟨rfl, -, rfl⟩ := e
            obtain ⟨z, hzz⟩ : ∃ z, z = ro.getLast hne := ⟨_, rfl⟩
            rw [← hzz] at hcl
            have hpb : (p : Int) ≤ 1048576 := by have := unhide HLn; have := unhide HI2; omega
            have hL1 : (((p + 1 : Nat) : Int) == 0) = false := by simp; omega
            have hz2 : ro.getLast? = some z := by rw [List.getLast?_eq_some_getLast hne, hzz]
            have hRo0 := hRo
            by_cases hzi : z = i
            · subst hzi
              have hst := aw_succ z x.next (ahs (nxs l) z) hgt
              rw [ah1_same z (by rw [← hro]; exact hz2)] at hst
              have HSt := hide hst; have HGq := hide hGq; have HBq := hide hbq
              clear hst hGq hbq hrl hrc hRo hRo0 hro hgt hz hnn1 hnc hAj hrm hL hLL hzz hcx hlz hne hz2
              go_wp2_with fail
              go_roundw
              case rel => exact ⟨j + 1, _, by omega, by go_num, by rw [unhide HSt]; exact unhide HGq, unhide HBq⟩
              case measure => simp [intOf]; omega
            · have hlast : ¬ ((aw i x.next (ahs (nxs l) i) j).getD t []).getLast? = some i := by rw [← hro, hz2]; intro e; cases e; exact hzi rfl
              have hzt : ((z : Int) != (i : Int)) = true := by simp; omega
              clear hz2
              have hA := hGq.below (Vc.one_alloc wq (.cells #[.int .i64 (i : Int)] 3))
              have hAR : (wq.alloc (.cells #[.int .i64 (i : Int)] 3)).ownsRow w.heap.size 3 1 (.slice (some ⟨g', 0, none⟩) (p + 1) rc) (p + 1) (iv (nz ro)) := by
                obtain ⟨v9, k1, k2⟩ := hA.row t ro hrl
                rw [hrc] at k1; cases k1
                unfold Ro at k2; rw [nz_len, ← hL] at k2; exact k2
              have hS : w.heap.size ≤ wq.heap.size := hbq.size
              have hst := aw_succ i x.next (ahs (nxs l) i) hgt
              rw [ah1_add i hlast] at hst
              have HA := hide hA; have HAR := hide hAR; have HS := hide hS; have HSt := hide hst; have HRl := hide hrl; have HRc := hide hrc; have HL2 := hide hL; have HLL := hide hLL; have HBq := hide hbq; have HRo := hide hro
              clear hA hAR hS hst hrl hrc hGq hRo hbq hro hgt hz hnn1 hnc hAj hlast hrm hL hLL hzz hcx hlz hne hzi hRo0
              go_wp2_with (at_builtin; refine wpList_append_own_at _ rfl (.tmp 45) (.tmp 47) 26 rfl w.heap.size 3 i0 (.int .i64 0) 1 8 Tryd.underlying26 hi hz0 hz1 hz2 rfl (by decide) (.slice (some ⟨g', 0, none⟩) (p + 1) rc) (p + 1) (iv (nz ro)) rfl (unhide HAR) ⟨wq.heap.size, 0, none⟩ 1 1 [.int .i64 (i : Int)] rfl rfl (cell_one_new _ _ _) (one_ones _) ?d3 ?d4 ?d5 ?_)
              case d3 => have := unhide HLL; have := unhide HLn; have := unhide HI2; unfold maxLen; omega
              case d4 => have := unhide HLL; have := unhide HLn; have := unhide HI2; omega
              case d5 => have := unhide HS; simp; omega
              intro v2 w2 hown hgrow _ hat
              obtain ⟨a2, cp2, rfl⟩ := own_slice hown
              obtain ⟨g1, g2, g3⟩ := (unhide HA).push (unhide HRl) (unhide HRc) (by rw [nz_len, ← unhide HL2]; exact hown) hgrow (hat_of hat (by simp))
              have cf := frozen_of_row w2 w.heap.size t _ _ g1
              have cc := (cell_of_row w2 w.heap.size t _ _ _ g1).trans (unhide HRc)
              have HG2 := hide g2; have HB2 := hide ((Below.mono (Vc.one_alloc wq (.cells #[.int .i64 (i : Int)] 3)) (unhide HS)).trans g3)
              clear g1 g2 g3 hown hgrow hat HA HAR
              go_wp2_with fail
              go_roundw
              case rel => exact ⟨j + 1, _, by omega, by go_num, by rw [unhide HSt, ← unhide HRo]; exact unhide HG2, (unhide HBq).trans (unhide HB2)⟩
              case measure => simp [intOf]; omega
        · obtain rfl : j = m := by omega
          have hfin : aw i x.next (ahs (nxs l) i) j = ahs (nxs l) (i + 1) := by rw [unhide HM, aw_all, ahs_succ, nxs_at (unhide HX)]
          rw [hfin] at hGq
          have HGq := hide hGq; have HBq := hide hbq; have HLt2 := hide (unhide HLt)
          clear hGq hbq hfin hjm hj
          go_wp2_with fail
          go_roundw
          case rel => exact ⟨i + 1, _, unhide HLt, by go_num, unhide HGq, unhide HBq⟩
          case measure => have := unhide HLt; simp [intOf]; omega
    · obtain rfl : i = n := by omega
      have hr := hGi.rws (n := i) (by rw [unhide HN, (ahs_inv (nxs l) (unhide HL).inn l.length).len, nxs_len])
      have hfin : ahs (nxs l) i = ahead (nxs l) := by unfold ahead; rw [nxs_len, unhide HN]
      rw [hfin] at hr
      have HR := hide hr; have HBi := hide hbi
      clear hr hbi hGi hfin hi2 hlt
      go_wp2_with fail
      go_ret
      exact ⟨_, rfl, unhide HR, unhide HBi⟩
end Fw
end Go.Proofs.YtpecnljcgiicaaaDoor
