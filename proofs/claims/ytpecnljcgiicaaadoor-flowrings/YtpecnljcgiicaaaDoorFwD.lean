/- flow: the walk whole; rows turned round, and sorted. -/
import Derived.Test.YtpecnljcgiicaaaDoorFwB
import Derived.Test.YtpecnljcgiicaaaDoorFwC
import Derived.Sort.OwnSortedInts
namespace Go.Proofs.YtpecnljcgiicaaaDoor
open Go.RowKit
namespace Fw
set_option linter.unusedVariables false
set_option linter.unusedSimpArgs false
open Vc (NumsL Nums Lies LL Bls BlC InC Bl In Co infoN own_base)

theorem Ro.cur {w : World} {N g n cap : Nat} {l : List Int} (h : Ro w N (.slice (some ⟨g, 0, none⟩) n cap) l) : ∃ cur : Array Value, w.heap[g]? = some (.cells cur 3 (0, 0)) ∧ n = l.length ∧ l.length ≤ cap ∧ cap ≤ maxLen ∧ cur.size = cap * 1 ∧ cur.toList.take l.length = l.map (Value.int .i64) ∧ N ≤ g := by
  rcases h.2 with ⟨e, _⟩ | ⟨g', cap', cur, e, h2, h3, h4, h5, h6, h7⟩
  · cases e
  · simp only [Value.slice.injEq, Option.some.injEq, Addr.mk.injEq] at e
    obtain ⟨⟨rfl, -⟩, rfl, rfl⟩ := e
    exact ⟨cur, h3, rfl, h4, h5, h6, by rw [Nat.mul_one] at h7; exact h7, h2⟩
theorem grow_0 (w : World) : Sort.grow w #[] = w := by simp [Sort.grow]
theorem below_grownBy {w w' : World} {N g : Nat} (hg : w.grownBy w' (some g)) (hN : N ≤ g) (hl : g < w.heap.size) : Below N w w' := (Below.refl N w).grown hg (by omega) (fun k e => by cases e; exact hN)
theorem rev_ro {w : World} {N : Nat} {v : Value} {l : List Int} (h : Ro w N v l) (h0 : 0 < l.length) (hl : l.length ≤ 1048576) :
    Calls Tryd.prog 12 #[v] w fun e w' => e = .returned (.tuple #[]) ∧ Ro w' N v l.reverse ∧ Below N w w' := by
  obtain ⟨g, cap, rfl, hN, hgl, _, _, _⟩ := h.at_ h0
  obtain ⟨cur, hc, -, h4, h5, h6, h7, _⟩ := h.cur
  refine (Tryd.slices_Reverse_int g 0 cap l w (holds_of_blockI hc h7) (by omega)).mono ?_
  rintro e w' ⟨rfl, n, rfl⟩
  have hr := ownsRow_sortedI (base := N) (n := n) (os := #[]) (ss := l) (ts := l.reverse) (by simp) hN hc h4 h5 h6
  have hg := grownBy_sortedI (w := w) (g := g) (n := n) (os := #[]) l.reverse.toArray
  rw [grow_0] at hr hg
  refine ⟨rfl, ?_, below_grownBy hg hN hgl⟩
  unfold Ro; rw [List.length_reverse]; exact hr
theorem sort_ro {w : World} {N : Nat} {v : Value} {l : List Int} (h : Ro w N v l) (h0 : 0 < l.length) (hl : l.length ≤ 1048576) :
    Calls Tryd.prog 41 #[v] w fun e w' => e = .returned (.tuple #[]) ∧ Ro w' N v (l.mergeSort fun x y => decide (x ≤ y)) ∧ Below N w w' := by
  obtain ⟨g, cap, rfl, hN, hgl, _, _, _⟩ := h.at_ h0
  obtain ⟨cur, hc, -, h4, h5, h6, h7, _⟩ := h.cur
  refine (Tryd.slices_Sort_int g 0 cap l w (holds_of_blockI hc h7) hgl (by omega)).mono ?_
  rintro e w' ⟨rfl, n, os, rfl⟩
  have hr := ownsRow_sortedI (base := N) (n := n) (os := os) (ss := l) (ts := l.mergeSort fun x y => decide (x ≤ y)) (by simp) hN hc h4 h5 h6
  have hg := grownBy_sortedI (w := w) (g := g) (n := n) (os := os) (l.mergeSort fun x y => decide (x ≤ y)).toArray
  refine ⟨rfl, ?_, below_grownBy hg hN hgl⟩
  unfold Ro; rw [List.length_mergeSort]; exact hr
theorem set5 (w : World) (b : Nat) (c0 c1 c2 c3 c4 : Value) (t : TypeId) (u0 u1 u2 u3 u4 : Value) (h : w.heap[b]? = some (.cells #[c0, c1, c2, c3, c4] t (0, 0))) :
    (((((w.setCell ⟨b, 0, none⟩ u0).setCell ⟨b, 1, none⟩ u1).setCell ⟨b, 2, none⟩ u2).setCell ⟨b, 3, none⟩ u3).setCell ⟨b, 4, none⟩ u4).heap[b]? = some (.cells #[u0, u1, u2, u3, u4] t (0, 0)) := by
  have h0 := (heap_setCell_same w b 0 _ _ u0 h).trans rfl
  have h1 := (heap_setCell_same _ b 1 _ _ u1 h0).trans rfl
  have h2 := (heap_setCell_same _ b 2 _ _ u2 h1).trans rfl
  have h3 := (heap_setCell_same _ b 3 _ _ u3 h2).trans rfl
  exact (heap_setCell_same _ b 4 _ _ u4 h3).trans rfl
theorem bel5 {w w' : World} {N : Nat} (b : Nat) (hb : N ≤ b) (h : Below N w w') (u0 u1 u2 u3 u4 : Value) : Below N w (((((w'.setCell ⟨b, 0, none⟩ u0).setCell ⟨b, 1, none⟩ u1).setCell ⟨b, 2, none⟩ u2).setCell ⟨b, 3, none⟩ u3).setCell ⟨b, 4, none⟩ u4) :=
  ((((h.setCell (p := ⟨b, 0, none⟩) hb _).setCell (p := ⟨b, 1, none⟩) hb _).setCell (p := ⟨b, 2, none⟩) hb _).setCell (p := ⟨b, 3, none⟩) hb _).setCell (p := ⟨b, 4, none⟩) hb _
theorem oth5 (w : World) (b k : Nat) (hk : k ≠ b) (u0 u1 u2 u3 u4 : Value) : (((((w.setCell ⟨b, 0, none⟩ u0).setCell ⟨b, 1, none⟩ u1).setCell ⟨b, 2, none⟩ u2).setCell ⟨b, 3, none⟩ u3).setCell ⟨b, 4, none⟩ u4).heap[k]? = w.heap[k]? := by
  rw [heap_setCell_other _ _ _ _ (by exact hk), heap_setCell_other _ _ _ _ (by exact hk), heap_setCell_other _ _ _ _ (by exact hk), heap_setCell_other _ _ _ _ (by exact hk), heap_setCell_other _ _ _ _ (by exact hk)]

set_option maxRecDepth 100000 in
set_option maxHeartbeats 1600000 in
theorem walkOf_any (l : List Bl) (hl : Nok l) (h0 : 1 ≤ l.length) (g : Nat → Prop) (vb : Value) (w : World) (hB : Bls w g l vb) (hg : ∀ k, g k → k < w.heap.size) :
    Calls Tryd.prog 11 #[vb] w fun e w' => ∃ ve vf vt vl, e = .returned (.agg #[vb, ve, vf, vt, vl]) ∧ Ro w' w.heap.size ve (nz (walk (nxs l)).ent) ∧ Ro w' w.heap.size vf (walk (nxs l)).fr ∧ Ro w' w.heap.size vt (walk (nxs l)).tn ∧ Ro w' w.heap.size vl (nz (walk (nxs l)).lf) ∧ Below w.heap.size w w' := by
  obtain ⟨va, vc, rfl, -, -, -⟩ := id hB
  have hB' : Bls w (fun k => k < w.heap.size) l (.slice va l.length vc) := hB.moved (fun k _ h => ⟨hg k h, rfl⟩) (Nat.le_refl _)
  have hlen := hl.len
  obtain ⟨n, hn⟩ : ∃ n, n = l.length := ⟨_, rfl⟩
  rw [← hn] at h0 hlen
  have HB := hide hB'; have HL := hide hl; have HN := hide hn; have H0 := hide h0; have HLn := hide hlen
  rw [show Calls Tryd.prog 11 #[.slice va l.length vc] w = Calls Tryd.prog 11 #[.slice va n vc] w by rw [hn]]
  clear hB hB' hl hg hn
  have hni : (n : Int) ≤ 1048576 := by omega
  clear h0 hlen
  have r0 : ((w.alloc (.cells #[.slice none 0 0, .slice none 0 0, .slice none 0 0, .slice none 0 0, .slice none 0 0] 49)).alloc (.cells #[.int .i64 (-1)] 3)).heap[w.heap.size]? = some (.cells (wbc (.slice none 0 0) (.slice none 0 0) (.slice none 0 0) (.slice none 0 0) (.slice none 0 0)) 49 (0, 0)) := by
    rw [Below.heap_alloc _ _ _ (by simp)]; exact heap_alloc_new _ _
  have r1 : ((w.alloc (.cells #[.slice none 0 0, .slice none 0 0, .slice none 0 0, .slice none 0 0, .slice none 0 0] 49)).alloc (.cells #[.int .i64 (-1)] 3)).cell? ⟨w.heap.size + 1, 0, none⟩ = some (.int .i64 (-1)) := by
    have := heap_alloc_new (w.alloc (.cells #[.slice none 0 0, .slice none 0 0, .slice none 0 0, .slice none 0 0, .slice none 0 0] 49)) (.cells #[.int .i64 (-1)] 3)
    rw [show (w.alloc (.cells #[.slice none 0 0, .slice none 0 0, .slice none 0 0, .slice none 0 0, .slice none 0 0] 49)).heap.size = w.heap.size + 1 by simp] at this
    rw [cell_of_row _ _ _ _ _ _ this]; rfl
  have hb2 : Below w.heap.size w ((w.alloc (.cells #[.slice none 0 0, .slice none 0 0, .slice none 0 0, .slice none 0 0, .slice none 0 0] 49)).alloc (.cells #[.int .i64 (-1)] 3)) := Vc.two_allocs w _ _
  have hz2 : ((w.alloc (.cells #[.slice none 0 0, .slice none 0 0, .slice none 0 0, .slice none 0 0, .slice none 0 0] 49)).alloc (.cells #[.int .i64 (-1)] 3)).heap.size = w.heap.size + 2 := by simp
  have R0 := hide r0; have R1 := hide r1; have HB2 := hide hb2; have HZ2 := hide hz2
  clear r0 r1 hb2 hz2
  go_enter Tryd.func11, Tryd.ntmps11
  go_wp2_with (go_at_call 30; refine (repeat_any n (unhide H0) (unhide HLn) _ _ _ (unhide R1)).mono ?_)
  rintro e w3 ⟨vt, rfl, hrt, hb3⟩
  generalize ((w.alloc (.cells #[.slice none 0 0, .slice none 0 0, .slice none 0 0, .slice none 0 0, .slice none 0 0] 49)).alloc (.cells #[.int .i64 (-1)] 3)) = W2 at *
  obtain ⟨gt, ct, rfl, hgt, hgl, -, -, -⟩ := hrt.at_ (by simp; exact unhide H0)
  rw [List.length_replicate] at hrt ⊢
  have hbe : Below w.heap.size w w3 := (unhide HB2).trans (hb3.mono (unhide HB2).size)
  have hrb := (hb3.block w.heap.size (by have := unhide HZ2; omega)).trans (unhide R0)
  obtain ⟨x0, x1, x2, x3, x4, xf, xl⟩ := wb_cells hrb
  have hz3 : W2.heap.size ≤ w3.heap.size := hb3.size
  have HRt := hide hrt; have HBe := hide hbe; have HRb := hide hrb; have HZ3 := hide hz3; have HGt := hide hgt
  clear hrt hb3 hbe hrb hz3 hgt hgl
  go_upto_region 2 with fail
  have hW4 : Wb (w3.alloc (.cells (wbc (.slice va n vc) (.slice none 0 0) (.slice none 0 0) (.slice (some ⟨gt, 0, none⟩) n ct) (.slice none 0 0)) 49)) (w.heap.size + 1) w3.heap.size (.slice va n vc) (start n) (.slice none 0 0) (.slice none 0 0) (.slice (some ⟨gt, 0, none⟩) n ct) (.slice none 0 0) := by
    have hnil : ∀ W : World, Ro W (w.heap.size + 1) (.slice none 0 0) [] := fun W => World.ownsRow_nil _ _ _ _
    refine ⟨heap_alloc_new _ _, ?_, hnil _, hnil _, ?_, hnil _, ?_, ?_, ?_, ?_, ?_, ?_⟩
    · have := unhide HZ2; have := unhide HZ3; omega
    · have h1 : Ro w3 (w.heap.size + 1) (.slice (some ⟨gt, 0, none⟩) n ct) (start n).tn := by have := unhide HRt; unfold Ro; rw [show (start n).tn.length = n by simp [start]]; unfold Ro at this; rw [List.length_replicate] at this; exact own_base this (by have := unhide HZ2; omega)
      exact h1.below (Vc.one_alloc w3 _)
    all_goals (intro k h1 h2; simp [Value.ownBlock] at h1 h2)
  have hb4 := Vc.one_alloc w3 (.cells (wbc (.slice va n vc) (.slice none 0 0) (.slice none 0 0) (.slice (some ⟨gt, 0, none⟩) n ct) (.slice none 0 0)) 49)
  have HW4 := hide hW4; have HB4 := hide hb4
  clear hW4 hb4
  rw [show w3.alloc (.cells #[.slice va n vc, .slice none 0 0, .slice none 0 0, .slice (some ⟨gt, 0, none⟩) n ct, .slice none 0 0] 49) = w3.alloc (.cells (wbc (.slice va n vc) (.slice none 0 0) (.slice none 0 0) (.slice (some ⟨gt, 0, none⟩) n ct) (.slice none 0 0)) 49) from rfl]
  generalize w3.alloc (.cells (wbc (.slice va n vc) (.slice none 0 0) (.slice none 0 0) (.slice (some ⟨gt, 0, none⟩) n ct) (.slice none 0 0)) 49) = W4 at *
  have hcB : Below w.heap.size w W4 := (unhide HBe).trans ((unhide HB4).mono (by have := unhide HZ2; have := unhide HZ3; omega))
  have hq : W4.heap[w.heap.size]? = some (.cells (wbc (.slice none 0 0) (.slice none 0 0) (.slice none 0 0) (.slice none 0 0) (.slice none 0 0)) 49 (0, 0)) := ((unhide HB4).block _ xl).trans (unhide HRb)
  have HCB := hide hcB; have HQ := hide hq
  clear hcB hq x0 x1 x2 x3 x4 xf xl
  have hnn : n = (nxs l).length := by rw [nxs_len]; exact unhide HN
  have hcall := enter_any l (unhide HL) (w.heap.size + 1) (.slice va n vc) (nxs l).length 0 (-1) (start n) (by rw [← unhide HN]; exact Inv.start n) (by rw [← hnn]; simp [start]) (by rw [← unhide HN]; exact unhide H0) (by rw [getD_get _ _ _ (by simp [start]; exact unhide H0)]; simp [start]) (by omega) (by simp [start]) w3.heap.size _ _ _ _ W4 (unhide HW4) ((show Bls w (fun k => k < w.heap.size) l (.slice va n vc) by rw [unhide HN]; exact unhide HB).moved (fun k _ hk => ⟨Nat.lt_succ_of_lt hk, (unhide HCB).block k hk⟩) (unhide HCB).size)
  rw [← show start (nxs l).length = start n by rw [← hnn]] at hcall
  have HCall := hide hcall
  clear hcall hnn
  go_wp2_with (go_at_call 31; refine (unhide HCall).mono ?_; rintro e w5 ⟨rfl, ⟨ve, vf, vl, hW5⟩, hb5⟩; generalize hs : go (nxs l) (nxs l).length 0 (-1) (start (nxs l).length) = s at hW5; have HS := hide hs; clear hs; obtain ⟨ea, ec, rfl, -⟩ := hW5.re.sl; obtain ⟨fa, fc, rfl, -⟩ := hW5.rf.sl; obtain ⟨la, lc, rfl, -⟩ := hW5.rl.sl; obtain ⟨c0, c1, c2, c3, c4, cf, cl⟩ := wb_cells hW5.bx; have hq5 := (hb5.block w.heap.size (Nat.lt_succ_self _)).trans (unhide HQ); obtain ⟨x0, x1, x2, x3, x4, xf, xl⟩ := wb_cells hq5; have HQ5 := hide hq5; clear hq5; have HW5 := hide hW5; have HB5 := hide hb5; clear hW5 hb5)
  have hr := set5 w5 w.heap.size _ _ _ _ _ _ (.slice va n vc) (.slice ea (nz s.ent).length ec) (.slice fa s.fr.length fc) (.slice (some ⟨gt, 0, none⟩) n ct) (.slice la (nz s.lf).length lc) (unhide HQ5)
  have hbf := bel5 w.heap.size (Nat.le_refl _) ((unhide HCB).trans ((unhide HB5).mono (Nat.le_succ _))) (.slice va n vc) (.slice ea (nz s.ent).length ec) (.slice fa s.fr.length fc) (.slice (some ⟨gt, 0, none⟩) n ct) (.slice la (nz s.lf).length lc)
  have ho := fun k hk => oth5 w5 w.heap.size k hk (.slice va n vc) (.slice ea (nz s.ent).length ec) (.slice fa s.fr.length fc) (.slice (some ⟨gt, 0, none⟩) n ct) (.slice la (nz s.lf).length lc)
  have k1 := (unhide HW5).re.keep fun k hk => ho k (by have := ((unhide HW5).re.lt k hk).1; omega)
  have k2 := (unhide HW5).rf.keep fun k hk => ho k (by have := ((unhide HW5).rf.lt k hk).1; omega)
  have k3 := (unhide HW5).rt.keep fun k hk => ho k (by have := ((unhide HW5).rt.lt k hk).1; omega)
  have k4 := (unhide HW5).rl.keep fun k hk => ho k (by have := ((unhide HW5).rl.lt k hk).1; omega)
  have HR := hide hr; have HBf := hide hbf; have K1 := hide (k1.base (Nat.le_succ _)); have K2 := hide (k2.base (Nat.le_succ _)); have K3 := hide (k3.base (Nat.le_succ _)); have K4 := hide (k4.base (Nat.le_succ _))
  clear hr hbf ho k1 k2 k3 k4 HW5
  generalize ((((w5.setCell ⟨w.heap.size, 0, none⟩ (.slice va n vc)).setCell ⟨w.heap.size, 1, none⟩ (.slice ea (nz s.ent).length ec)).setCell ⟨w.heap.size, 2, none⟩ (.slice fa s.fr.length fc)).setCell ⟨w.heap.size, 3, none⟩ (.slice (some ⟨gt, 0, none⟩) n ct)).setCell ⟨w.heap.size, 4, none⟩ (.slice la (nz s.lf).length lc) = W6 at *
  obtain ⟨y0, y1, y2, y3, y4, yf, yl⟩ := wb_cells (unhide HR)
  have hfin : Ro W6 w.heap.size (.slice ea (nz s.ent).length ec) (nz (walk (nxs l)).ent) ∧ Ro W6 w.heap.size (.slice fa s.fr.length fc) (walk (nxs l)).fr ∧ Ro W6 w.heap.size (.slice (some ⟨gt, 0, none⟩) n ct) (walk (nxs l)).tn ∧ Ro W6 w.heap.size (.slice la (nz s.lf).length lc) (nz (walk (nxs l)).lf) ∧ Below w.heap.size w W6 := by
    rw [show walk (nxs l) = s from unhide HS]; exact ⟨unhide K1, unhide K2, unhide K3, unhide K4, unhide HBf⟩
  refine bodyPost_ret (v := .agg #[.slice va n vc, .slice ea (nz s.ent).length ec, .slice fa s.fr.length fc, .slice (some ⟨gt, 0, none⟩) n ct, .slice la (nz s.lf).length lc]) (by simp [results, Tryd.results11, go_sem, y0, y1, y2, y3, y4]) rfl ⟨_, _, _, _, by rw [unhide HN], hfin⟩
end Fw
end Go.Proofs.YtpecnljcgiicaaaDoor
