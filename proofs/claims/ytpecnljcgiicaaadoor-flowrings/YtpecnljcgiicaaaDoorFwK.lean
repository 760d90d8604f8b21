/- flow: the blocks of a loop. -/
import Derived.Test.YtpecnljcgiicaaaDoorFwJ
namespace Go.Proofs.YtpecnljcgiicaaaDoor
open Go.RowKit
namespace Fw
set_option linter.unusedVariables false
set_option linter.unusedSimpArgs false
open Vc (NumsL Nums Lies LL Bls BlC InC Bl In Co infoN own_base)

def bv (l : List Bool) : List Value := l.map Value.bool
theorem bv_at (l : List Bool) (i : Nat) (h : i < l.length) : (bv l)[i]? = some (.bool (l.getD i false)) := by rw [bv, List.getElem?_map, get?_getD l i false h]; rfl
theorem bv_set (l : List Bool) (i : Nat) (x : Bool) : (bv l).toArray.setIfInBounds i (.bool x) = (bv (l.set i x)).toArray := by simp [bv, List.map_set]
/-- what waits, and what is in, in memory -/
structure Sb (w : World) (N B7 B8 gi n : Nat) (vw : Value) (s : Sp) : Prop where
  b7 : w.heap[B7]? = some (.cells #[.slice (some ⟨gi, 0, none⟩) n n] 72 (0, 0))
  bi : w.heap[gi]? = some (.cells (bv s.inn).toArray 4 (0, 0))
  b8 : w.heap[B8]? = some (.cells #[vw] 26 (0, 0))
  row : Ro w N vw (nz s.wt)
  n7 : N ≤ B7
  n8 : N ≤ B8
  ni : N ≤ gi
def SbE (w : World) (N B7 B8 gi n : Nat) (s : Sp) : Prop := ∃ vw, Sb w N B7 B8 gi n vw s
theorem blocks_ne {w : World} {a b : Nat} {ca cb : Array Value} {ta tb : Nat} (h : w.heap[a]? = some (.cells ca ta (0, 0))) (k : w.heap[b]? = some (.cells cb tb (0, 0))) (ht : ta ≠ tb) : a ≠ b := by
  rintro rfl; have := h.symm.trans k; simp at this; exact ht this.2
theorem Sb.cells {w : World} {N B7 B8 gi n : Nat} {vw : Value} {s : Sp} (h : Sb w N B7 B8 gi n vw s) : w.cell? ⟨B7, 0, none⟩ = some (.slice (some ⟨gi, 0, none⟩) n n) ∧ w.cell? ⟨B8, 0, none⟩ = some vw ∧ w.frozen? ⟨B8, 0, none⟩ = false ∧ (∀ i, i < s.inn.length → w.cell? ⟨gi, i, none⟩ = some (.bool (s.inn.getD i false)) ∧ w.frozen? ⟨gi, i, none⟩ = false) := by
  refine ⟨by rw [cell_of_row w B7 0 _ _ _ h.b7]; rfl, by rw [cell_of_row w B8 0 _ _ _ h.b8]; rfl, frozen_of_row w B8 0 _ _ h.b8, fun i hi => ⟨?_, frozen_of_row w gi i _ _ h.bi⟩⟩
  rw [cell_of_row w gi i _ _ _ h.bi, List.getElem?_toArray]; exact bv_at _ _ hi
theorem Sb.setIn {w : World} {N B7 B8 gi n : Nat} {vw : Value} {s : Sp} (h : Sb w N B7 B8 gi n vw s) (i : Nat) (x : Bool) : Sb (w.setCell ⟨gi, i, none⟩ (.bool x)) N B7 B8 gi n vw ⟨s.inn.set i x, s.wt⟩ ∧ Below N w (w.setCell ⟨gi, i, none⟩ (.bool x)) := by
  have o : ∀ k, k ≠ gi → (w.setCell ⟨gi, i, none⟩ (.bool x)).heap[k]? = w.heap[k]? := fun k hk => heap_setCell_other w ⟨gi, i, none⟩ k _ hk
  refine ⟨⟨(o _ (blocks_ne h.b7 h.bi (by decide))).trans h.b7, ?_, (o _ (blocks_ne h.b8 h.bi (by decide))).trans h.b8, h.row.keep fun k hk => o k (row_ne h.bi (by decide) h.row k hk).1, h.n7, h.n8, h.ni⟩, (Below.refl _ _).setCell (p := ⟨gi, i, none⟩) h.ni _⟩
  rw [heap_setCell_same w gi i _ _ _ h.bi, bv_set]
theorem Sb.below {w w' : World} {N B7 B8 gi n : Nat} {vw : Value} {s : Sp} (h : Sb w N B7 B8 gi n vw s) (hb : Below w.heap.size w w') : Sb w' N B7 B8 gi n vw s :=
  ⟨(hb.block _ (Array.getElem?_eq_some_iff.1 h.b7).1).trans h.b7, (hb.block _ (Array.getElem?_eq_some_iff.1 h.bi).1).trans h.bi, (hb.block _ (Array.getElem?_eq_some_iff.1 h.b8).1).trans h.b8, h.row.below hb, h.n7, h.n8, h.ni⟩
theorem Sb.push {w w2 : World} {N B7 B8 gi n : Nat} {vw v' : Value} {s : Sp} (h : Sb w N B7 B8 gi n vw s) {x : Nat} (hown : w2.ownsRow N 3 1 v' ((nz s.wt).length + 1) (iv (nz s.wt) ++ [.int .i64 (x : Int)])) (hg : w.grownBy w2 vw.ownBlock) :
    w2.heap[B8]? = some (.cells #[vw] 26 (0, 0)) ∧ Sb (w2.setCell ⟨B8, 0, none⟩ v') N B7 B8 gi n v' ⟨s.inn, s.wt ++ [x]⟩ ∧ Below N w (w2.setCell ⟨B8, 0, none⟩ v') := by
  have lt : ∀ {k : Nat} {o : Obj}, w.heap[k]? = some o → k < w.heap.size := fun h => (Array.getElem?_eq_some_iff.1 h).1
  have k7 := (hg.block B7 (lt h.b7) (fun e => (row_ne h.b7 (by decide) h.row B7 e.symm).1 rfl)).trans h.b7
  have ki := (hg.block gi (lt h.bi) (fun e => (row_ne h.bi (by decide) h.row gi e.symm).1 rfl)).trans h.bi
  have k8 := (hg.block B8 (lt h.b8) (fun e => (row_ne h.b8 (by decide) h.row B8 e.symm).1 rfl)).trans h.b8
  have hr2 : Ro w2 N v' (nz (s.wt ++ [x])) := by unfold Ro; rw [nz_app, iv_app, List.length_append]; exact hown
  have o : ∀ k, k ≠ B8 → (w2.setCell ⟨B8, 0, none⟩ v').heap[k]? = w2.heap[k]? := fun k hk => heap_setCell_other w2 ⟨B8, 0, none⟩ k _ hk
  have hb : Below N w w2 := (Below.refl N w).grown hg (Nat.le_of_lt (Nat.lt_of_le_of_lt h.n8 (lt h.b8))) (fun k e => (row_ne h.b8 (by decide) h.row k e).2.2)
  exact ⟨k8, ⟨(o _ (blocks_ne k7 k8 (by decide))).trans k7, (o _ (blocks_ne ki k8 (by decide))).trans ki, (heap_setCell_same w2 B8 0 _ _ _ k8).trans rfl, hr2.keep fun k hk => o k (row_ne k8 (by decide) hr2 k hk).1, h.n7, h.n8, h.ni⟩, hb.setCell (p := ⟨B8, 0, none⟩) h.n8 _⟩
def cs (r : List Nat) (s : Sp) (k : Nat) : Sp := (r.take k).foldl come1 s
theorem cs_succ (r : List Nat) (s : Sp) {k b : Nat} (h : r[k]? = some b) : cs r s (k + 1) = come1 (cs r s k) b := by unfold cs; rw [fold_take _ _ _ _ h]
theorem cs_all (r : List Nat) (s : Sp) : cs r s r.length = r.foldl come1 s := by unfold cs; rw [List.take_length]

set_option maxRecDepth 100000 in
set_option maxHeartbeats 3200000 in
theorem come_any {n : Nat} (hn : n ≤ 1048576) (r : List Nat) (hr : ∀ x ∈ r, x < n) (hrl : r.length ≤ 1099511627776) (s : Sp) (hS : SpI n s) (N B7 B8 gi : Nat) (v vw : Value) (w : World) (hv : NumsL w (fun k => k < N) (nz r) v) (h : Sb w N B7 B8 gi n vw s) :
    Calls Tryd.prog 34 #[v, .pointer (some ⟨B7, 0, none⟩), .pointer (some ⟨B8, 0, none⟩)] w fun e w' => e = .returned (.tuple #[]) ∧ SbE w' N B7 B8 gi n (r.foldl come1 s) ∧ Below N w w' := by
  obtain ⟨va, vc, rfl, -, -, -⟩ := id hv
  obtain ⟨i0, hi, hz0, hz1, hz2⟩ := info_parts infoN
  obtain ⟨m, hm⟩ : ∃ m, m = r.length := ⟨_, rfl⟩
  have hmi : (m : Int) ≤ 1099511627776 := by omega
  have hni : (n : Int) ≤ 1048576 := by omega
  rw [nz_len, ← hm] at hv ⊢
  have HV := hide hv; have HH := hide h; have HS := hide hS; have HR := hide hr; have HM := hide hm; have HN := hide hn
  clear hv h hS hr hm hrl hn
  go_enter Tryd.func34, Tryd.ntmps34
  go_wp2_with fail
  go_loopw [8] (fun c wr => ∃ k : Nat, k ≤ m ∧ c = .int .i64 (k : Int) ∧ SbE wr N B7 B8 gi n (cs r s k) ∧ Below N w wr) (fun c _ => m - (intOf c).toNat)
  case atStart => exact ⟨0, Nat.zero_le _, rfl, ⟨_, unhide HH⟩, Below.refl _ _⟩
  case round =>
    obtain ⟨k, hk, rfl, ⟨vk, hSk⟩, hbk⟩ := hrel
    by_cases hlt : k < m
    · have hkr : k < r.length := by rw [← unhide HM]; exact hlt
      obtain ⟨b, hb⟩ : ∃ b, b = r.getD k 0 := ⟨_, rfl⟩
      have hbr : r[k]? = some b := by rw [hb]; exact get?_getD _ _ _ hkr
      have hbn := unhide HR b (List.mem_of_getElem? hbr)
      have hI := (comes_inv (r.take k) (unhide HS) fun x hx => unhide HR x (List.mem_of_mem_take hx)).1
      have hI' : SpI n (cs r s k) := hI
      obtain ⟨Bn, on, hna, -, hnc⟩ := nums_at (nums_on (unhide HV) hbk) (k := k) (by rw [nz_len]; exact hkr)
      subst hna
      have x1 := hnc k (by rw [nz_len]; exact hkr)
      rw [nz_getD _ _ hkr, ← hb] at x1
      obtain ⟨c7, c8, c8f, ci⟩ := hSk.cells
      obtain ⟨x2, x2f⟩ := ci b (by rw [hI'.len]; exact hbn)
      obtain ⟨la, lc, rfl, -⟩ := hSk.row.sl
      have hst := cs_succ r s hbr
      have hbi : (b : Int) < (n : Int) := by omega
      have hki : (k : Int) < (m : Int) := by omega
      obtain ⟨q, hq⟩ : ∃ q, q = cs r s k := ⟨_, rfl⟩
      rw [← hq] at hSk hI' hst x2
      simp only [← hq] at c8
      cases hc : q.inn.getD b false with
      | true =>
        rw [hc] at x2
        rw [come1_yes hc] at hst
        have HSt := hide hst; have HSk := hide hSk; have HBk := hide hbk
        clear hst hSk hbk hI hI' hc hq hb hbr hnc ci hkr
        go_wp2_with fail
        go_roundw
        case rel => exact ⟨k + 1, by omega, by go_num, ⟨_, by rw [unhide HSt]; exact unhide HSk⟩, unhide HBk⟩
        case measure => simp [intOf]; omega
      | false =>
        rw [hc] at x2
        rw [come1_no hc] at hst
        obtain ⟨s1, b1⟩ := hSk.setIn b true
        obtain ⟨L, hL⟩ : ∃ L, L = q.wt.length := ⟨_, rfl⟩
        have hLn : L ≤ 1048576 := by have := hI'.ct; have := unhide HN; omega
        simp only [nz_len, ← hL] at c8
        have HSt := hide hst; have HS1 := hide s1; have HB1 := hide (hbk.trans b1); have HL := hide hL; have HLn := hide hLn
        have HN0 := hide (show N ≤ wr.heap.size from Nat.le_trans hSk.n8 (Nat.le_of_lt (Array.getElem?_eq_some_iff.1 hSk.b8).1))
        clear hst hSk hbk hI hI' hc hq hb hbr hnc ci hkr s1 b1 hL hLn
        go_upto_region 5 with fail
        have hN1 : N ≤ (wr.setCell ⟨gi, b, none⟩ (.bool true)).heap.size := by simp; exact unhide HN0
        generalize wr.setCell ⟨gi, b, none⟩ (.bool true) = w3 at *
        clear c7 c8 c8f x1 x2 x2f
        obtain ⟨c7, c8, c8f, -⟩ := (unhide HS1).cells
        simp only [nz_len, ← unhide HL] at c8
        have hA := (unhide HS1).below (Vc.one_alloc w3 (.cells #[.int .i64 (b : Int)] 3))
        have hAR : (w3.alloc (.cells #[.int .i64 (b : Int)] 3)).ownsRow N 3 1 (.slice la L lc) L (iv (nz q.wt)) := by have := hA.row; unfold Ro at this; simp only [nz_len, ← unhide HL] at this; exact this
        have HA := hide hA; have HAR := hide hAR; have HN1 := hide hN1
        clear hA hAR hN1
        go_wp2_with (at_builtin; refine wpList_append_own_at _ rfl (.tmp 20) (.tmp 22) 26 rfl N 3 i0 (.int .i64 0) 1 8 Tryd.underlying26 hi hz0 hz1 hz2 rfl (by decide) (.slice la L lc) L (iv (nz q.wt)) rfl (unhide HAR) ⟨w3.heap.size, 0, none⟩ 1 1 [.int .i64 (b : Int)] rfl rfl (cell_one_new _ _ _) (one_ones _) ?d3 ?d4 ?d5 ?_)
        case d3 => have := unhide HLn; unfold maxLen; omega
        case d4 => have := unhide HLn; omega
        case d5 => have := unhide HN1; simp; omega
        intro v2 w2 hown hgrow _ hat
        obtain ⟨a2, cp2, rfl⟩ := own_slice hown
        obtain ⟨g1, g2, g3⟩ := (unhide HA).push (x := b) (by rw [nz_len, ← unhide HL]; exact hown) (by simp only [nz_len, ← unhide HL]; exact hgrow)
        have cc := cell_of_row w2 B8 0 _ _ _ g1
        have cf := frozen_of_row w2 B8 0 _ _ g1
        simp only [nz_len, ← unhide HL, List.getElem?_toArray, List.getElem?_cons_zero] at cc
        have HG2 := hide g2; have HB2 := hide ((Below.mono (Vc.one_alloc w3 (.cells #[.int .i64 (b : Int)] 3)) (unhide HN1)).trans g3)
        clear g1 g2 g3 hown hgrow hat HA HAR
        go_wp2_with fail
        go_roundw
        case rel => exact ⟨k + 1, by omega, by go_num, ⟨_, by rw [unhide HSt]; exact unhide HG2⟩, (unhide HB1).trans (unhide HB2)⟩
        case measure => simp [intOf]; omega
    · obtain rfl : k = m := by omega
      have hfin : cs r s k = r.foldl come1 s := by rw [unhide HM, cs_all]
      rw [hfin] at hSk
      have HSk := hide hSk; have HBk := hide hbk
      clear hSk hbk hfin hlt hk
      go_wp2_with fail
      exact bodyPost_end (v := .tuple #[]) (by simp [results, Tryd.results34, go_sem]) rfl ⟨rfl, ⟨_, unhide HSk⟩, unhide HBk⟩
end Fw
end Go.Proofs.YtpecnljcgiicaaaDoor
