/- flow: the ways back: the walk of it. -/
import Derived.Test.YtpecnljcgiicaaaDoorFwI
import Derived.Test.YtpecnljcgiicaaaDoorFwN
namespace Go.Proofs.YtpecnljcgiicaaaDoor
open Go.RowKit
namespace Fw
set_option linter.unusedVariables false
set_option linter.unusedSimpArgs false
open Vc (NumsL Nums Lies LL Bls BlC InC Bl In Co infoN own_base)

def bw (s : St) (t : List Int) (k : Nat) (l : List Int) (o : List (List Nat)) (j : Nat) : List (List Nat) := ((l.map Int.toNat).take j).foldl (wb1 s t k) o
theorem bw_succ (s : St) (t : List Int) (k : Nat) (l : List Int) (o : List (List Nat)) {j x : Nat} (h : (l.map Int.toNat)[j]? = some x) : bw s t k l o (j + 1) = wb1 s t k (bw s t k l o j) x := by unfold bw; rw [fold_take _ _ _ _ h]
theorem bw_all (s : St) (t : List Int) (k : Nat) (l : List Int) (o : List (List Nat)) : bw s t k l o l.length = (l.map Int.toNat).foldl (wb1 s t k) o := by unfold bw; rw [List.take_of_length_le (by simp)]
theorem nxs_rows {l : List Bl} (hl : Nok l) (b : Nat) : ((nxs l).getD b []).length ≤ 1048576 := by
  by_cases hb : b < l.length
  · have e := List.getElem?_eq_getElem hb
    rw [nxs_at e, List.length_map]; exact hl.nlen _ (List.getElem_mem hb)
  · rw [getD_out _ _ _ (by rw [nxs_len]; omega)]; simp

set_option maxRecDepth 100000 in
set_option maxHeartbeats 3200000 in
theorem waysBack_any (l : List Bl) (hl : Nok l) (s : St) (hI : Inv l.length s) (tl : List Int) (hU : Up s.ent.length tl) (P : Nat) (vb ve vf vt vl v : Value) (w : World) (hP : w.heap[P]? = some (.cells (wbc vb ve vf vt vl) 49 (0, 0))) (hB : Bls w (fun k => k < w.heap.size) l vb) (he : NumsL w (fun k => k < w.heap.size) (nz s.ent) ve) (ht : NumsL w (fun k => k < w.heap.size) s.tn vt) (hv : NumsL w (fun k => k < w.heap.size) tl v) :
    Calls Tryd.prog 14 #[.pointer (some ⟨P, 0, none⟩), v, .func (.func 16) #[] #[]] w fun e w' => ∃ v, e = .returned v ∧ Rws w' (fun k => w.heap.size ≤ k ∧ k < w'.heap.size) (waysBack (nxs l) s tl) v ∧ Below w.heap.size w w' := by
  obtain ⟨va, vc, rfl, -, -, -⟩ := id hB
  obtain ⟨ea, ec, rfl, -, -, -⟩ := id he
  obtain ⟨ta, tc, rfl, -, -, -⟩ := id ht
  obtain ⟨i0, hi, hz0, hz1, hz2⟩ := info_parts infoN
  obtain ⟨ir, hir, hr0, hr1, hr2⟩ := info_parts infoR
  have hlen := hl.len
  obtain ⟨n, hn⟩ : ∃ n, n = l.length := ⟨_, rfl⟩
  obtain ⟨L, hL⟩ : ∃ L, L = s.ent.length := ⟨_, rfl⟩
  have hLn : L ≤ n := by have := hI.ec; omega
  have hmk := fun wx => run_make (P := Tryd.prog) wx 52 26 ir (.slice none 0 0) Tryd.underlying52 hir hr0 .i64 .i64 (n : Int) (n : Int) (by omega) (by omega) (by rw [hr2]; omega) (by omega)
  rw [hr1] at hmk
  simp only [Int.toNat_natCast, Nat.mul_one] at hmk
  rw [show (Value.slice none 0 0).cells = #[Value.slice none 0 0] from rfl] at hmk
  rw [← hn] at hlen
  have hG := Gr.start w n
  have hb1 := Vc.one_alloc w (.cells (madeCells #[.slice none 0 0] n) 26)
  have hcell : ∀ wr : World, Below w.heap.size w wr → wr.cell? ⟨P, 0, none⟩ = some (.slice va n vc) ∧ wr.cell? ⟨P, 1, none⟩ = some (.slice ea L ec) ∧ wr.cell? ⟨P, 3, none⟩ = some (.slice ta n tc) := fun wr hb => by
    have := wb_cells ((hb.block P (Array.getElem?_eq_some_iff.1 hP).1).trans hP)
    obtain ⟨k0, k1, _, k3, _⟩ := this
    rw [hI.tl, ← hn] at k3
    rw [nz_len, ← hL] at k1
    rw [← hn] at k0
    exact ⟨k0, k1, k3⟩
  obtain ⟨c0, c1, c3⟩ := hcell w (Below.refl _ _)
  obtain ⟨d0, d1, d3⟩ := hcell _ hb1
  have HCell := hide hcell
  have HB := hide hB; have HE := hide he; have HT := hide ht; have HV := hide hv; have HL := hide hl; have HI := hide hI; have HU := hide hU; have HN := hide hn; have HLl := hide hL; have HLen := hide hlen; have HG := hide hG; have HB1 := hide hb1; have HLn := hide hLn
  have hni : (n : Int) ≤ 1048576 := by omega
  have hLi : (L : Int) ≤ 1048576 := by omega
  clear hB he ht hv hl hI hU hn hL hlen hG hb1 hcell hP hLn
  go_enter Tryd.func14, Tryd.ntmps14
  go_wp2_with fail
  generalize w.alloc (.cells (madeCells #[.slice none 0 0] n) 26) = W1 at *
  clear c0 c1 c3 d0 d1 d3
  go_loopw [23] (fun c wr => ∃ (k : Nat) (cs : Array Value), k ≤ L ∧ c = .int .i64 (k : Int) ∧ Gr wr w.heap.size w.heap.size cs (wbs (nxs l) s tl k) ∧ Below w.heap.size w wr) (fun c _ => L - (intOf c).toNat)
  case atStart => exact ⟨0, _, Nat.zero_le _, rfl, by rw [show wbs (nxs l) s tl 0 = List.replicate n [] by rw [unhide HN]; simp [wbs, nxs_len]]; exact unhide HG, unhide HB1⟩
  case round =>
    obtain ⟨k, cs, hk2, rfl, hGk, hbk⟩ := hrel
    by_cases hlt : k < L
    · obtain ⟨c0, c1, c3⟩ := unhide HCell wr hbk
      have hkE : k < s.ent.length := by rw [← unhide HLl]; exact hlt
      obtain ⟨b0, hb0⟩ : ∃ b0, b0 = s.ent.getD k 0 := ⟨_, rfl⟩
      have hb0n : b0 < l.length := by rw [hb0]; exact (unhide HI).eb _ (getD_mem _ _ _ hkE)
      obtain ⟨Be, oe, hea, -, hec⟩ := nums_at (nums_on (unhide HE) hbk) (k := k) (by rw [nz_len]; exact hkE)
      subst hea
      have x1 := hec k (by rw [nz_len]; exact hkE)
      rw [nz_getD _ _ hkE, ← hb0] at x1
      obtain ⟨x, hx⟩ : ∃ x, l[b0]? = some x := ⟨_, List.getElem?_eq_getElem hb0n⟩
      have hBi := bls_on (unhide HB) hbk
      obtain ⟨Bb, ob, vi, vn, hva, hBN, hBl, -, e0, e1, e2, hin, hnn⟩ := blk_next hBi hx
      subst hva
      obtain ⟨na, nc, rfl, -, -, -⟩ := id hnn
      have hxl : x.next.length ≤ 1048576 := (unhide HL).nlen x (List.mem_of_getElem? hx)
      have hah := wbs_inv (nx := nxs l) (unhide HL).inn (s := s) (by rw [nxs_len]; exact unhide HI) tl (nxs_rows (unhide HL)) k (Nat.le_of_lt hkE)
      rw [nxs_len] at hah
      obtain ⟨m, hm⟩ : ∃ m, m = x.next.length := ⟨_, rfl⟩
      rw [← hm] at e1 hxl
      have hmi : (m : Int) ≤ 1048576 := by omega
      have hkL : (k : Int) < (L : Int) := by omega
      have hb0i : (b0 : Int) < (n : Int) := by rw [unhide HN]; omega
      have HX := hide hx; have HNn := hide hnn; have HM := hide hm; have HXl := hide hxl; have HBk := hide hbk; have HAh := hide hah; have HGk := hide hGk; have HLt := hide hlt; have HB0 := hide hb0; have HB0n := hide hb0n; have HKE := hide hkE
      clear hx hnn hin hm hxl hbk hah hBi hGk HG HB1 hlt hk2 hb0 hb0n hec hkE e0 e2 c3
      go_wp2_with fail
      clear e1 c0 c1 x1
      go_loopw [37] (fun c wq => ∃ (j : Nat) (cq : Array Value), j ≤ m ∧ c = .int .i64 (j : Int) ∧ Gr wq w.heap.size w.heap.size cq (bw s tl k x.next (wbs (nxs l) s tl k) j) ∧ Below w.heap.size w wq) (fun c _ => m - (intOf c).toNat)
      case atStart => exact ⟨0, _, Nat.zero_le _, rfl, unhide HGk, unhide HBk⟩
      case round =>
        generalize wr = wq at *
        obtain ⟨j, cq, hj, rfl, hGq, hbq⟩ := hrel
        by_cases hjm : j < m
        · obtain ⟨t, hz, htl, hgt⟩ := (unhide HL).at_ (unhide HX) (k := j) (by rw [← unhide HM]; exact hjm)
          obtain ⟨Bn, on, hna, hBnN, hnc⟩ := nums_at (nums_via (unhide HNn) (unhide HBk) hbq) (k := j) (by rw [← unhide HM]; exact hjm)
          subst hna
          have hck := hnc j (by rw [← unhide HM]; exact hjm)
          rw [hz] at hck
          obtain ⟨-, -, c3⟩ := unhide HCell wq hbq
          obtain ⟨Bt, ot, hta, -, htc⟩ := nums_at (nums_on (unhide HT) hbq) (k := t) (by rw [(unhide HI).tl]; exact htl)
          subst hta
          have hct := htc t (by rw [(unhide HI).tl]; exact htl)
          have hft := tn_at (unhide HI) htl
          obtain ⟨z, hzz⟩ : ∃ z, z = s.tn.getD t 0 := ⟨_, rfl⟩
          rw [← hzz] at hct hft
          have hcov := covers_any tl (unhide HU) (L := s.ent.length) (by rw [← unhide HLl]; omega) z hft.1 _ v wq (nums_on (unhide HV) hbq) (k + 1) (k : Int) (by omega) (by rw [← unhide HLl]; exact hkL) (by omega)
          have hAj : WbI l.length (k * 1048576 + j) (bw s tl k x.next (wbs (nxs l) s tl k) j) := by
            have h5 := WbI.steps (s := s) (t := tl) (k := k) (by rw [← unhide HB0]; exact unhide HB0n) ((x.next.map Int.toNat).take j) (unhide HAh) (fun y hy => by have h6 := List.mem_of_mem_take hy; rw [← nxs_at (unhide HX)] at h6; have := (unhide HL).inn b0 y h6; rw [nxs_len] at this; exact this)
            exact h5.mono (by rw [List.length_take]; omega)
          have hst := bw_succ s tl k x.next (wbs (nxs l) s tl k) hgt
          obtain ⟨ro, hro⟩ : ∃ ro, ro = (bw s tl k x.next (wbs (nxs l) s tl k) j).getD t [] := ⟨_, rfl⟩
          obtain ⟨ra, rc, hcr, hrc, hRo, hrl, hrf⟩ := hGq.at_ (i := t) (by rw [hAj.len]; exact htl)
          rw [← hro] at hcr hrc hRo hrl
          obtain ⟨Q, hQ⟩ : ∃ Q, Q = ro.length := ⟨_, rfl⟩
          have hrm := hAj.row ro (by rw [hro]; exact getD_mem _ _ _ (by rw [hAj.len]; exact htl))
          have hQQ : Q ≤ k * 1048576 + j := by rw [hQ]; exact hrm.1
          rw [← hQ] at hcr hrc hRo
          have htn : (t : Int) < (n : Int) := by rw [unhide HN]; omega
          have hjm2 : (j : Int) < (m : Int) := by omega
          have hkb : k ≤ 1048576 := by omega
          have hjb : j ≤ 1048576 := by have := unhide HXl; omega
          have HKb := hide hkb; have HJb := hide hjb
          cases hcv : cov tl z (k + 1) (k : Int) with
          | false =>
            rw [hcv] at hcov
            rw [wb1_no (by rw [← hzz]; exact hcv)] at hst
            have HCov := hide hcov; have HSt := hide hst; have HGq := hide hGq; have HBq := hide hbq
            clear hcov hst hGq hbq hcv hzz hft hAj hro hrl hrc hRo hrm hQQ hQ hgt hz hnc htc hcr hrf hkb hjb
            go_wp2_with (go_at_call 16; refine (unhide HCov).mono ?_; rintro e w5 ⟨rfl, rfl⟩)
            go_roundw
            case rel => exact ⟨j + 1, _, by omega, by go_num, by rw [unhide HSt]; exact unhide HGq, unhide HBq⟩
            case measure => simp [intOf]; omega
          | true =>
            rw [hcv] at hcov
            rw [wb1_yes (by rw [← hzz]; exact hcv), ← hro, ← unhide HB0] at hst
            have hA := hGq.below (Vc.one_alloc wq (.cells #[.int .i64 (b0 : Int)] 3))
            have hAR : (wq.alloc (.cells #[.int .i64 (b0 : Int)] 3)).ownsRow w.heap.size 3 1 (.slice ra Q rc) Q (iv (nz ro)) := by
              obtain ⟨v9, k1, k2⟩ := hA.row t ro hrl
              rw [hrc] at k1; cases k1
              unfold Ro at k2; rw [nz_len, ← hQ] at k2; exact k2
            have hS : w.heap.size ≤ wq.heap.size := hbq.size
            have HCov := hide hcov; have HA := hide hA; have HAR := hide hAR; have HS := hide hS; have HSt := hide hst; have HRl := hide hrl; have HRc := hide hrc; have HQ2 := hide hQ; have HQQ := hide hQQ; have HBq := hide hbq
            clear hcov hA hAR hS hst hrl hrc hGq hRo hbq hro hgt hz hnc htc hAj hrm hQ hQQ hcv hzz hft hkb hjb
            go_wp2_with (first
              | (go_at_call 16; refine (unhide HCov).mono ?_; rintro e w5 ⟨rfl, rfl⟩)
              | (at_builtin; refine wpList_append_own_at _ rfl (.tmp 57) (.tmp 59) 26 rfl w.heap.size 3 i0 (.int .i64 0) 1 8 Tryd.underlying26 hi hz0 hz1 hz2 rfl (by decide) (.slice ra Q rc) Q (iv (nz ro)) rfl (unhide HAR) ⟨wq.heap.size, 0, none⟩ 1 1 [.int .i64 (b0 : Int)] rfl rfl (cell_one_new _ _ _) (one_ones _) ?d3 ?d4 ?d5 ?_))
            case d3 => have := unhide HQQ; have := unhide HKb; have := unhide HJb; unfold maxLen; omega
            case d4 => have := unhide HQQ; have := unhide HKb; have := unhide HJb; omega
            case d5 => have := unhide HS; simp; omega
            intro v2 w2 hown hgrow _ hat
            obtain ⟨a2, cp2, rfl⟩ := own_slice hown
            obtain ⟨g1, g2, g3⟩ := (unhide HA).push (unhide HRl) (unhide HRc) (by rw [nz_len, ← unhide HQ2]; exact hown) hgrow (hat_of hat (by simp))
            have cf := frozen_of_row w2 w.heap.size t _ _ g1
            have cc := (cell_of_row w2 w.heap.size t _ _ _ g1).trans (unhide HRc)
            have HG2 := hide g2; have HB2 := hide ((Below.mono (Vc.one_alloc wq (.cells #[.int .i64 (b0 : Int)] 3)) (unhide HS)).trans g3)
            clear g1 g2 g3 hown hgrow hat HA HAR
            go_wp2_with fail
            go_roundw
            case rel => exact ⟨j + 1, _, by omega, by go_num, by rw [unhide HSt]; exact unhide HG2, (unhide HBq).trans (unhide HB2)⟩
            case measure => simp [intOf]; omega
        · obtain rfl : j = m := by omega
          have hfin : bw s tl k x.next (wbs (nxs l) s tl k) j = wbs (nxs l) s tl (k + 1) := by rw [unhide HM, bw_all, wbs_succ, ← unhide HB0, nxs_at (unhide HX)]
          rw [hfin] at hGq
          have HGq := hide hGq; have HBq := hide hbq
          clear hGq hbq hfin hjm hj
          go_wp2_with fail
          go_roundw
          case rel => exact ⟨k + 1, _, unhide HLt, by go_num, unhide HGq, unhide HBq⟩
          case measure => have := unhide HLt; simp [intOf]; omega
    · obtain rfl : k = L := by omega
      have hr := hGk.rws (n := n) (by rw [unhide HN, (wbs_inv (nx := nxs l) (unhide HL).inn (s := s) (by rw [nxs_len]; exact unhide HI) tl (nxs_rows (unhide HL)) k (Nat.le_of_eq (unhide HLl))).len, nxs_len])
      have hfin : wbs (nxs l) s tl k = waysBack (nxs l) s tl := by unfold waysBack; rw [unhide HLl]
      rw [hfin] at hr
      have HR := hide hr; have HBi := hide hbk
      clear hr hbk hGk hfin hk2 hlt
      go_wp2_with fail
      go_ret
      exact ⟨_, rfl, unhide HR, unhide HBi⟩
end Fw
end Go.Proofs.YtpecnljcgiicaaaDoor
