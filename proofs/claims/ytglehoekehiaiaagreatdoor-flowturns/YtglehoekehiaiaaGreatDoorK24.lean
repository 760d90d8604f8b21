/- K24: what follows, part by part: each part tells what it holds. -/
import Derived.Test.YtglehoekehiaiaaGreatDoorK17
import Derived.Test.YtglehoekehiaiaaGreatDoorK23
import Derived.Test.YtglehoekehiaiaaGreatDoorK16
namespace Go.Proofs.YtglehoekehiaiaaGreatDoor
open Go.RowKit
set_option linter.unusedVariables false
set_option linter.unusedSimpArgs false
set_option maxRecDepth 100000
set_option maxHeartbeats 32000000
namespace Fw
open Vc (NumsL Nums Lies LL Bls BlC InC Bl Co infoN infoBl own_base RowT cob cob_cells OwnL Its own)
/- the document's leads. -/
def lsum (cur : List Bl) (gone : List Nat) (t k : Nat) : Nat := sumN (fun i => if i ∈ gone then 0 else ((nxs cur).getD i []).count t) k
theorem lsum_succ (cur : List Bl) (gone : List Nat) (t k : Nat) : lsum cur gone t (k + 1) = lsum cur gone t k + (if k ∈ gone then 0 else ((nxs cur).getD k []).count t) := sumN_succ _ _
theorem lds_eq (cur : List Bl) (gone : List Nat) (t : Nat) : lds cur gone t = (if t = 0 then 1 else 0) + lsum cur gone t cur.length := rfl
theorem lsum_leM (cur : List Bl) (M : Nat) (hM : ∀ b, ((nxs cur).getD b []).length ≤ M) (gone : List Nat) (t k : Nat) : lsum cur gone t k ≤ k * M := by
 induction k with
 | zero => simp [lsum, sumN]
 | succ k ih =>
   rw [lsum_succ, Nat.succ_mul]
   have h2 : ((nxs cur).getD k []).count t ≤ ((nxs cur).getD k []).length := List.count_le_length
   have := hM k
   split <;> omega
theorem lsum_le {cur : List Bl} (hc : Nok cur) (gone : List Nat) (t k : Nat) : lsum cur gone t k ≤ k * 1048576 := lsum_leM cur 1048576 (nxs_rows hc) gone t k
/-- the numbers of those that are gone -/
def nzi (l : List Nat) : List Int := l.map fun (b : Nat) => (b : Int)
theorem mem_nzi (l : List Nat) (x : Nat) : (x : Int) ∈ nzi l ↔ x ∈ l := by
 unfold nzi
 rw [List.mem_map]
 constructor
 ·rintro ⟨y, hy, e⟩; obtain rfl : y = x := by omega
  exact hy
 ·intro h; exact ⟨x, h, rfl⟩
theorem leads_any (l : List Bl) (hc : Nok l) (pa re : Int) (rs : Bool) (gone : List Nat) (hgo : gone.length ≤ 1048576) (t : Nat) (N : Nat) (vb vg : Value) (w : World) (hB : Bls w (fun k => k < N) l vb) (hG : NumsL w (fun k => k < N) (nzi gone) vg) (hN : N ≤ w.heap.size) :
    Calls Tryz.prog 47 #[.agg #[.int .i64 pa, .int .i64 re, .bool rs, vb], vg, .int .i64 (t : Int)] w fun e w' => e = .returned (.int .i64 (lds l gone t : Nat)) ∧ Below w.heap.size w w' := by
 obtain ⟨va, vc, rfl, -, -, -⟩ := id hB
 obtain ⟨ga, gc, rfl, -, -, -⟩ := id hG
 obtain ⟨n, hn⟩ : ∃ n, n = l.length := ⟨_, rfl⟩
 obtain ⟨G, hGn⟩ : ∃ G, G = (nzi gone).length := ⟨_, rfl⟩
 have hlen := hc.len
 have hni : (n : Int) ≤ 1048576 := by omega
 have hGl : (nzi gone).length = gone.length := by unfold nzi; simp
 have hGi : (G : Int) ≤ 1048576 := by omega
 have hgb : (nzi gone).length ≤ 1099511627776 := by omega
 obtain ⟨r, hr⟩ : ∃ r, r = lds l gone t := ⟨_, rfl⟩
 have hr2 := lds_eq l gone t
 rw [← hr, ← hn] at hr2
 rw [← hr]
 have hX := Vc.one_alloc w (.cells (cob pa re rs (.slice va n vc)) 24)
 have hrow := heap_alloc_new w (.cells (cob pa re rs (.slice va n vc)) 24)
 rw [← hn] at hB ⊢
 rw [← hGn] at hG ⊢
 have HB := hide hB; have HG := hide hG; have HC := hide hc; have HN := hide hn; have HGn := hide hGn; have HR := hide hr2; have HNw := hide hN; have HX := hide hX; have HRow := hide hrow; have HGb := hide hgb
 have c3 : (w.alloc (.cells (cob pa re rs (.slice va n vc)) 24)).cell? ⟨w.heap.size, 3, none⟩ = some (.slice va n vc) := (cob_cells hrow).2.2.2.1
 clear hB hG hc hn hGn hr hr2 hN hlen hX hrow hgb hGl hgo
 go_enter Tryz.func47, Tryz.ntmps47
 go_upto_region 2 with fail
 obtain ⟨X, hXe⟩ : ∃ X, X = w.alloc (.cells (cob pa re rs (.slice va n vc)) 24) := ⟨_, rfl⟩
 rw [← hXe] at HX HRow c3
 rw [show w.alloc (.cells #[.int .i64 pa, .int .i64 re, .bool rs, .slice va n vc] 24) = X from hXe.symm]
 clear hXe
 obtain ⟨z0, hz0⟩ : ∃ z0, z0 = (if t = 0 then 1 else 0) := ⟨_, rfl⟩
 have hz1 : z0 ≤ 1 := by rw [hz0]; split <;> omega
 have HR1 : Hid (r = z0 + lsum l gone t n) := hide (by rw [hz0]; exact unhide HR)
 have HZ1 := hide hz1
 clear hz1
 by_cases ht0 : t = 0
 case' pos =>
  rw [if_pos ht0] at hz0
  have htb : ((t : Int) == 0) = true := by simp [ht0]
  have HZ := hide (show (Value.int .i64 1) = .int .i64 (z0 : Int) by rw [hz0]; rfl)
  clear hz0 ht0
  go_wp2_with fail
 case' neg =>
  rw [if_neg ht0] at hz0
  have htb : ((t : Int) == 0) = false := by simp only [beq_eq_false_iff_ne, ne_eq]; omega
  have HZ := hide (show (Value.int .i64 0) = .int .i64 (z0 : Int) by rw [hz0]; rfl)
  clear hz0 ht0
  go_wp2_with fail
 all_goals
  clear htb
  go_loopw [7, 8] (fun v c wr => ∃ (i s : Nat), i ≤ n ∧ c = .int .i64 (i : Int) ∧ v = .int .i64 (s : Int) ∧ s = z0 + lsum l gone t i ∧ Below X.heap.size X wr) (fun _ c _ => n - (intOf c).toNat)
  case atStart => exact ⟨0, z0, Nat.zero_le _, rfl, unhide HZ, rfl, Below.refl _ _⟩
  case round =>
   obtain ⟨i, s, hi, rfl, rfl, hs, hb⟩ := hrel
   have hlx : w.heap.size < X.heap.size := (Array.getElem?_eq_some_iff.1 (unhide HRow)).1
   have c3' := (hb.cell (p := ⟨w.heap.size, 3, none⟩) hlx).trans c3
   have hbw := (unhide HX).trans (hb.mono (Nat.le_of_lt hlx))
   by_cases hlt : i < n
   ·obtain ⟨x, hx⟩ : ∃ x, x = l.getD i dB := ⟨_, rfl⟩
    have hil : i < l.length := by rw [← unhide HN]; exact hlt
    have hxl : l[i]? = some x := by rw [hx]; exact get?_getD _ _ _ hil
    have hm := List.mem_of_getElem? hxl
    have hss : lsum l gone t (i + 1) = lsum l gone t i + (if i ∈ gone then 0 else (x.next.map Int.toNat).count t) := by rw [lsum_succ, nxs_get, ← hx]
    obtain ⟨m, hmm⟩ : ∃ m, m = x.next.length := ⟨_, rfl⟩
    have hml : m ≤ 1048576 := by rw [hmm]; exact (unhide HC).nlen x hm
    have hmi : (m : Int) ≤ 1048576 := by omega
    have hsb := lsum_le (unhide HC) gone t i
    have hz1 := unhide HZ1
    have hsB : s ≤ 1099511627776 + 1048577 := by
     have h6 : i * 1048576 ≤ 1048576 * 1048576 := Nat.mul_le_mul_right _ (by omega)
     omega
    have hin : (i : Int) < (n : Int) := by omega
    have HS := hide hs; have HX2 := hide hx; have HXl := hide hxl; have HSs := hide hss; have HMm := hide hmm; have HIl := hide hil; have HBe := hide hb; have HLt := hide hlt; have HSB := hide hsB
    clear hs hx hxl hm hss hmm hil hb hi hsb hz1 hlt hsB hbw
    go_wp2_with fail
    clear c3'
    go_loopw [7, 9] (fun v c wr => ∃ (k s2 : Nat), k ≤ m ∧ (i ∈ gone → k = 0) ∧ c = .int .i64 (k : Int) ∧ v = .int .i64 (s2 : Int) ∧ s2 = s + ((x.next.map Int.toNat).take k).count t ∧ Below X.heap.size X wr) (fun _ c _ => m - (intOf c).toNat)
    case atStart => exact ⟨0, s, Nat.zero_le _, fun _ => rfl, rfl, rfl, by simp, unhide HBe⟩
    case round =>
     obtain ⟨k, s2, hk, hgk, rfl, rfl, hs2, hbq⟩ := hrel
     have c4 := (hbq.cell (p := ⟨w.heap.size, 3, none⟩) hlx).trans c3
     have hbw := (unhide HX).trans (hbq.mono (Nat.le_of_lt hlx))
     have hBw := bls_on (unhide HB) (hbw.mono (unhide HNw))
     obtain ⟨Bb, ob, vi, vn, hva, hBN, hBl, -, d0, d1, d2, hin', hnn⟩ := blk_next hBw (unhide HXl)
     subst hva
     obtain ⟨na, nc, rfl, -, -, -⟩ := id hnn
     rw [← unhide HMm] at d1 hnn
     have hGq : NumsL wr (fun k => k < wr.heap.size) (nzi gone) (.slice ga G gc) := (unhide HG).moved fun k' _ hk' => ⟨by have := hbw.size; have := unhide HNw; omega, hbw.block k' (by have := unhide HNw; omega)⟩
     have hhas := has_any (nzi gone) (i : Int) (.slice ga G gc) wr hGq (unhide HGb)
     rw [show decide ((i : Int) ∈ nzi gone) = decide (i ∈ gone) from decide_eq_decide.2 (mem_nzi gone i)] at hhas
     by_cases hkm : k < m
     ·by_cases hg : i ∈ gone
      ·obtain rfl := hgk hg
       rw [decide_eq_true hg] at hhas
       have hs3 : s2 = z0 + lsum l gone t (i + 1) := by rw [unhide HSs, if_pos hg, hs2, unhide HS]; simp
       have hkmi : ((0 : Nat) : Int) < (m : Int) := by omega
       have HH := hide hhas; have HS3 := hide hs3; have HBq := hide hbq
       clear hhas hs3 hbq hs2 hk hgk hkm hg hbw hBw hGq hBN hBl hin' hnn d0 d2
       go_wp2_with (go_at_call 37; refine (unhide HH).mono ?_; rintro e w6 ⟨rfl, hw6⟩; have hw7 := hw6.symm; clear hw6; subst hw7)
       go_roundw
       case rel => exact ⟨i + 1, s2, by have := unhide HLt; omega, by go_num, rfl, unhide HS3, unhide HBq⟩
       case measure => have := unhide HLt; simp [intOf]; omega
      ·rw [decide_eq_false hg] at hhas
       obtain ⟨q, hz, hql, -⟩ := (unhide HC).at_ (unhide HXl) (k := k) (by rw [← unhide HMm]; exact hkm)
       obtain ⟨Bn, on, hna, -, hnc⟩ := nums_at hnn (k := k) (by rw [← unhide HMm]; exact hkm)
       subst hna
       have x1 := hnc k (by rw [← unhide HMm]; exact hkm)
       rw [hz] at x1
       have hst : ((x.next.map Int.toNat).take (k + 1)).count t = ((x.next.map Int.toNat).take k).count t + (if q = t then 1 else 0) := by
        have hkl : k < (x.next.map Int.toNat).length := by rw [List.length_map, ← unhide HMm]; exact hkm
        rw [List.take_succ_eq_append_getElem hkl, List.count_append]
        have : (x.next.map Int.toNat)[k] = q := by
         have h8 : k < x.next.length := by rw [← unhide HMm]; exact hkm
         rw [List.getElem_map]
         rw [getD_get _ _ _ h8] at hz
         rw [hz]; simp
        rw [this]
        by_cases e : q = t
        ·subst e; simp
        ·have h9 : List.count t [q] = 0 := List.count_eq_zero.2 (by simpa using fun h => e h.symm)
         rw [if_neg e, h9]
       have hs2b : s2 ≤ 1099511627776 + 1048577 + 1048576 := by
        have h7 : ((x.next.map Int.toNat).take k).count t ≤ ((x.next.map Int.toNat).take k).length := List.count_le_length
        rw [List.length_take] at h7
        have := unhide HSB
        omega
       have hkmi : (k : Int) < (m : Int) := by omega
       by_cases e : q = t
       ·subst e
        rw [if_pos rfl] at hst
        have hqt : ((q : Int) == (q : Int)) = true := by simp
        have HH := hide hhas; have HBq := hide hbq; have HKm := hide hkm; have HSt := hide (show s2 + 1 = s + ((x.next.map Int.toNat).take (k + 1)).count q by rw [hst, hs2]; omega); have HG2 := hide hg
        clear hhas hbq hs2 hk hgk hkm hg hbw hBw hGq hBN hBl hin' hnn d0 d2 hst hz hql hnc
        go_wp2_with (go_at_call 37; refine (unhide HH).mono ?_; rintro e w6 ⟨rfl, hw6⟩; have hw7 := hw6.symm; clear hw6; subst hw7)
        go_roundw
        case rel => exact ⟨k + 1, s2 + 1, unhide HKm, fun h => absurd h (unhide HG2), by go_num, by go_num, unhide HSt, unhide HBq⟩
        case measure => have := unhide HKm; simp [intOf]; omega
       ·rw [if_neg e] at hst
        have hqt : ((q : Int) == (t : Int)) = false := by simp only [beq_eq_false_iff_ne, ne_eq]; omega
        have HH := hide hhas; have HBq := hide hbq; have HKm := hide hkm; have HSt := hide (show s2 = s + ((x.next.map Int.toNat).take (k + 1)).count t by rw [hst, hs2]; omega); have HG2 := hide hg
        clear hhas hbq hs2 hk hgk hkm hg hbw hBw hGq hBN hBl hin' hnn d0 d2 hst hz hql hnc e
        go_wp2_with (go_at_call 37; refine (unhide HH).mono ?_; rintro e w6 ⟨rfl, hw6⟩; have hw7 := hw6.symm; clear hw6; subst hw7)
        go_roundw
        case rel => exact ⟨k + 1, s2, unhide HKm, fun h => absurd h (unhide HG2), by go_num, rfl, unhide HSt, unhide HBq⟩
        case measure => have := unhide HKm; simp [intOf]; omega
     ·obtain rfl : k = m := by omega
      have hs3 : s2 = z0 + lsum l gone t (i + 1) := by
       rw [unhide HSs, hs2, unhide HS]
       by_cases hg : i ∈ gone
       ·obtain rfl := hgk hg
        rw [if_pos hg]; simp
       ·rw [if_neg hg, List.take_of_length_le (by rw [List.length_map, ← unhide HMm]; exact Nat.le_refl _)]; omega
      have HS3 := hide hs3; have HBq := hide hbq
      clear hhas hs3 hbq hs2 hk hgk hkm hbw hBw hGq hBN hBl hin' hnn d0 d2
      go_wp2_with fail
      go_roundw
      case rel => exact ⟨i + 1, s2, by have := unhide HLt; omega, by go_num, rfl, unhide HS3, unhide HBq⟩
      case measure => have := unhide HLt; simp [intOf]; omega
   ·obtain rfl : i = n := by omega
    have HF := hide (show s = r by rw [hs, unhide HR1]); have HJ := hide hbw
    clear hs hlt hi hbw hb
    go_wp2_with fail
    go_ret
    exact ⟨ret_int (by rw [unhide HF]), unhide HJ⟩
/- the document's Join: what its walk needs. -/
/-- where one row of the call's own grows, that its lists don't lie in -/
theorem BoR.grow {w w' : World} {A : Nat → Prop} {N B cap : Nat} {l : List Bl} {vo : Option Nat} (h : BoR w N B A cap l) (hg : w.grownBy w' vo) (hvo : ∀ k, vo = some k → A k ∧ k ≠ B) : BoR w' N B (fun k => A k ∨ w.heap.size ≤ k) cap l := by
 have hB := hg.block B h.lt (fun e => (hvo B e.symm).2 rfl)
 have c : ∀ o v, w.cell? ⟨B, o, none⟩ = some v → w'.cell? ⟨B, o, none⟩ = some v := fun o v e => (World.cell?_of_block (a := ⟨B, o, none⟩) hB).trans e
 refine ⟨h.nb, h.bt.move hB, h.cap, fun i x hx => ?_⟩
 obtain ⟨vi, vn, k0, k1, k2, k3, k4⟩ := h.it i x hx
 have hm : Vc.Mv w w' (fun k => k ≠ B ∧ ¬ A k) (fun k => k ≠ B ∧ ¬ (A k ∨ w.heap.size ≤ k)) := fun k hk hg' => ⟨⟨hg'.1, fun h => by
  rcases h with h | h
  ·exact hg'.2 h
  ·omega⟩, hg.block k hk (fun e => hg'.2 (hvo k e.symm).1)⟩
 exact ⟨vi, vn, c _ _ k0, c _ _ k1, c _ _ k2, k3.moved hm hg.size (fun _ _ q => q.moved hm), k4.moved hm⟩
theorem opb_trim {l : List Bl} (ho : Opb l) : Opb (trimD l) := by
 intro b hb y hy
 unfold trimD at hb
 obtain ⟨k, hk, rfl⟩ := List.mem_map.1 hb
 have hk2 := ((kept_mem _ _ _).1 hk).1
 exact ho _ (getD_mem l k dB hk2) y hy
theorem cok_trimD {l : List Bl} (h : Cok l) : Cok (trimD l) := by rw [← trimD_eq h]; exact cok_trim h
theorem few_trimD {l : List Bl} (h : Cok l) (f : Few l) : Few (trimD l) := by rw [← trimD_eq h]; exact few_trim h f
theorem all_trimD {l : List Bl} (h : Cok l) : ∀ x, x < (trimD l).length → x ∈ reach (nxs (trimD l)) := by rw [← trimD_eq h]; exact trim_all h
theorem nzi_app (l : List Nat) (x : Nat) : nzi (l ++ [x]) = nzi l ++ [(x : Int)] := by unfold nzi; simp
theorem nzi_len (l : List Nat) : (nzi l).length = l.length := by unfold nzi; simp
theorem Jn.opb {l cur : List Bl} {gone : List Nat} {K : Nat → Nat} (hc : Cok l) (ho : Opb l) (h : Jn l cur gone K) {b : Nat} (hb : b < l.length) : (endI (cur.getD b dB)).op < 256 := by
 rw [h.end_ hc hb]
 have hlt := h.last hc hb
 have hm := getD_mem l _ dB hlt
 have h0 := (hc.ins _ hm).1
 unfold endI
 exact ho _ hm _ (getD_mem _ _ _ (by omega))
/-- what the document's joining takes: it is another block, that is there -/
theorem Jn.next {l cur : List Bl} {gone : List Nat} {K : Nat → Nat} (hc : Cok l) (hR : ∀ x, x < l.length → x ∈ reach (nxs l)) (h : Jn l cur gone K) {b : Nat} (hb : b < l.length) (hj : jc cur gone b) : Fw.nx0 (cur.getD b dB) < l.length ∧ Fw.nx0 (cur.getD b dB) ∉ gone ∧ Fw.nx0 (cur.getD b dB) ≠ b := by
 have hg := hj.1
 have hlt := h.last hc hb
 obtain ⟨t, e, ht⟩ := tk_yes hc hlt ((h.cond hc hR hb hg).1 hj)
 have hnx := nxs_one hc hlt ht.op
 rw [ht.nx] at hnx
 have h0 : Fw.nx0 (cur.getD b dB) = t := by rw [h.nxz hc hb]; unfold Fw.nx0; injection hnx with h4; exact h4.symm
 rw [h0]
 exact ⟨ht.lt, h.free hc hb hg (y := t) (by rw [ht.nx]; simp), fun e2 => hj.2.2.1 (h0.trans e2)⟩
end Fw
end Go.Proofs.YtglehoekehiaiaaGreatDoor
