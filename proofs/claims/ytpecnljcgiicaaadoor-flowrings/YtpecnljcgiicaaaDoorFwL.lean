/- flow: the blocks of a loop, whole. -/
import Derived.Test.YtpecnljcgiicaaaDoorFwK
namespace Go.Proofs.YtpecnljcgiicaaaDoor
open Go.RowKit
namespace Fw
set_option linter.unusedVariables false
set_option linter.unusedSimpArgs false
open Vc (NumsL Nums Lies LL Bls BlC InC Bl In Co infoN own_base)
theorem infoB : (Tryd.prog.info? 4).map (fun i => (i.zero, i.size, i.bytes)) = some (some (.bool false), 1, 1) := by kernel_rfl
theorem Ro.cut {w : World} {N n c : Nat} {a : Option Addr} {l : List Int} (h : Ro w N (.slice a n c) l) {k : Nat} (hk : k ≤ l.length) : Ro w N (.slice a k c) (l.take k) := by
  have e : (l.take k).length = k := by rw [List.length_take]; omega
  refine ⟨by rw [iv_len]; simp, ?_⟩
  rw [e]
  rcases h.2 with ⟨e1, e2⟩ | ⟨g, cap, cur, e1, e2, e3, e4, e5, e6, e7⟩
  · cases e1; exact .inl ⟨by rw [show k = 0 by omega], by omega⟩
  · simp only [Value.slice.injEq] at e1
    obtain ⟨rfl, rfl, rfl⟩ := e1
    refine .inr ⟨g, c, cur, rfl, e2, e3, by omega, e5, e6, ?_⟩
    have : cur.toList.take (k * 1) = (cur.toList.take (l.length * 1)).take k := by rw [List.take_take]; congr 1; omega
    rw [this, e7]; simp [iv, List.map_take]
theorem Sb.cut {w : World} {N B7 B8 gi n L c : Nat} {a : Option Addr} {s : Sp} (h : Sb w N B7 B8 gi n (.slice a L c) s) (k : Nat) (hk : k ≤ s.wt.length) : Sb (w.setCell ⟨B8, 0, none⟩ (.slice a k c)) N B7 B8 gi n (.slice a k c) ⟨s.inn, s.wt.take k⟩ ∧ Below N w (w.setCell ⟨B8, 0, none⟩ (.slice a k c)) := by
  have o : ∀ j, j ≠ B8 → (w.setCell ⟨B8, 0, none⟩ (.slice a k c)).heap[j]? = w.heap[j]? := fun j hj => heap_setCell_other w ⟨B8, 0, none⟩ j _ hj
  have hr : Ro w N (.slice a k c) (nz (s.wt.take k)) := by
    have := h.row.cut (k := k) (by rw [nz_len]; exact hk)
    rw [show nz (s.wt.take k) = (nz s.wt).take k by simp [nz, List.map_take]]; exact this
  exact ⟨⟨(o _ (blocks_ne h.b7 h.b8 (by decide))).trans h.b7, (o _ (blocks_ne h.bi h.b8 (by decide))).trans h.bi, (heap_setCell_same w B8 0 _ _ _ h.b8).trans rfl, hr.keep fun j hj => o j (row_ne h.b8 (by decide) hr j hj).1, h.n7, h.n8, h.ni⟩, (Below.refl _ _).setCell (p := ⟨B8, 0, none⟩) h.n8 _⟩
theorem nz_take (l : List Nat) (k : Nat) : nz (l.take k) = (nz l).take k := by simp [nz, List.map_take]
def flt (p : Nat → Bool) (k : Nat) : List Nat := (List.range k).filter p
theorem flt_succ (p : Nat → Bool) (k : Nat) : flt p (k + 1) = if p k = true then flt p k ++ [k] else flt p k := by
  unfold flt; rw [List.range_succ, List.filter_append]
  cases h : p k <;> simp [h]
theorem flt_len (p : Nat → Bool) (k : Nat) : (flt p k).length ≤ k := by unfold flt; exact Nat.le_trans (List.length_filter_le _ _) (by simp)

set_option maxRecDepth 100000 in
set_option maxHeartbeats 3200000 in
theorem around_any {n : Nat} (hn : n ≤ 1048576) (ah : List (List Nat)) (hA : AhO n ah) (hAl : ∀ b, (ah.getD b []).length ≤ 2097152) (h : Nat) (hh : h < n) (bg : List Nat) (hb : ∀ x ∈ bg, x < n) (hbl : bg.length ≤ 1099511627776) (vg va : Value) (w : World) (hv : NumsL w (fun k => k < w.heap.size) (nz bg) vg) (ha : Rws w (fun k => k < w.heap.size) ah va) :
    Calls Tryd.prog 17 #[.int .i64 (h : Int), vg, va] w fun e w' => ∃ v, e = .returned v ∧ Ro w' w.heap.size v (nz (around ah h bg)) ∧ Below w.heap.size w w' := by
  obtain ⟨ga, gc, rfl, -, -, -⟩ := id hv
  obtain ⟨aa, ac, rfl, -, -, -⟩ := id ha
  obtain ⟨i0, hi, hz0, hz1, hz2⟩ := info_parts infoN
  obtain ⟨ib, hib, hb0, hb1, hb2⟩ := info_parts infoB
  have hal : ah.length = n := hA.len
  have hmk := fun wx => run_make (P := Tryd.prog) wx 72 4 ib (.bool false) Tryd.underlying72 hib hb0 .i64 .i64 (n : Int) (n : Int) (by omega) (by omega) (by rw [hb2]; omega) (by omega)
  rw [hb1] at hmk
  simp only [Int.toNat_natCast, Nat.mul_one] at hmk
  rw [show (Value.bool false).cells = #[Value.bool false] from rfl] at hmk
  have hmade : madeCells #[Value.bool false] n = (bv (List.replicate n false)).toArray := by
    apply Array.ext'
    rw [toList_madeCells_one]; simp [bv]
  rw [hmade] at hmk
  obtain ⟨X, hX⟩ : ∃ X, X = (w.alloc (.cells (bv (List.replicate n false)).toArray 4)).alloc (.cells #[.slice (some ⟨w.heap.size, 0, none⟩) n n] 72) := ⟨_, rfl⟩
  have hXb : Below w.heap.size w X := by rw [hX]; exact Vc.two_allocs w _ _
  have hXz : X.heap.size = w.heap.size + 2 := by rw [hX]; simp
  have hX7 : X.heap[w.heap.size + 1]? = some (.cells #[.slice (some ⟨w.heap.size, 0, none⟩) n n] 72 (0, 0)) := by
    have := heap_alloc_new (w.alloc (.cells (bv (List.replicate n false)).toArray 4)) (.cells #[.slice (some ⟨w.heap.size, 0, none⟩) n n] 72)
    rw [hX]; rwa [show (w.alloc (.cells (bv (List.replicate n false)).toArray 4)).heap.size = w.heap.size + 1 by simp] at this
  have hXi : X.heap[w.heap.size]? = some (.cells (bv (List.replicate n false)).toArray 4 (0, 0)) := by
    rw [hX, Below.heap_alloc _ _ _ (by simp)]; exact heap_alloc_new _ _
  obtain ⟨Y, hY⟩ : ∃ Y, Y = (X.setCell ⟨w.heap.size, h, none⟩ (.bool true)).alloc (.cells #[.slice none 0 0] 26) := ⟨_, rfl⟩
  have hYS : Sb Y w.heap.size (w.heap.size + 1) (w.heap.size + 2) w.heap.size n (.slice none 0 0) (lay n h) ∧ Below w.heap.size w Y := by
    have hs : (X.setCell ⟨w.heap.size, h, none⟩ (.bool true)).heap.size = w.heap.size + 2 := by simp [hXz]
    have hal1 := Vc.one_alloc (X.setCell ⟨w.heap.size, h, none⟩ (.bool true)) (.cells #[.slice none 0 0] 26)
    have hnew := heap_alloc_new (X.setCell ⟨w.heap.size, h, none⟩ (.bool true)) (.cells #[.slice none 0 0] 26)
    rw [hs] at hnew
    rw [← hY] at hal1 hnew
    refine ⟨⟨?_, ?_, hnew, World.ownsRow_nil _ _ _ _, by omega, by omega, Nat.le_refl _⟩, (hXb.setCell (p := ⟨w.heap.size, h, none⟩) (Nat.le_refl _) _).trans (hal1.mono (by omega))⟩
    · rw [hal1.block _ (by omega), heap_setCell_other X ⟨w.heap.size, h, none⟩ _ _ (by show w.heap.size + 1 ≠ w.heap.size; omega)]; exact hX7
    · rw [hal1.block _ (by omega), heap_setCell_same X w.heap.size h _ _ _ hXi, bv_set]; rfl
  obtain ⟨hYS, hYb⟩ := hYS
  have x1 : X.cell? ⟨w.heap.size + 1, 0, none⟩ = some (.slice (some ⟨w.heap.size, 0, none⟩) n n) := by rw [cell_of_row X _ 0 _ _ _ hX7]; rfl
  have x2 : X.cell? ⟨w.heap.size, h, none⟩ = some (.bool false) := by
    rw [cell_of_row X _ h _ _ _ hXi, List.getElem?_toArray, bv_at _ _ (by simpa using hh), getD_get _ _ _ (by simpa using hh)]; simp
  have x2f := frozen_of_row X w.heap.size h _ _ hXi
  have hcome := come_any hn bg hb hbl (lay n h) (lay_inv n h) w.heap.size (w.heap.size + 1) (w.heap.size + 2) w.heap.size (.slice ga (nz bg).length gc) (.slice none 0 0) Y (nums_on hv hYb) hYS
  obtain ⟨hI1, hl1⟩ := comes_inv bg (lay_inv n h) hb
  obtain ⟨s1, hs1⟩ : ∃ s1, s1 = bg.foldl come1 (lay n h) := ⟨_, rfl⟩
  rw [← hs1] at hcome hI1 hl1
  have hni : (n : Int) ≤ 1048576 := by omega
  have hhi : (h : Int) < (n : Int) := by omega
  have ha' := ha
  rw [hal] at ha' ⊢
  have HA := hide hA; have HAl := hide hAl; have HAh := hide ha'; have HCo := hide hcome; have HI1 := hide hI1; have HS1 := hide hs1; have HYb := hide hYb; have HXz := hide hXz; have HN := hide hn; have HAL := hide hal
  clear hA hAl ha ha' hcome hI1 hl1 hs1 hYb hXb hX7 hXi hYS hmade hn hh hb hbl hv hal
  go_enter Tryd.func17, Tryd.ntmps17
  go_upto_region 2 with fail
  rw [show (w.alloc (.cells (bv (List.replicate n false)).toArray 4)).alloc (.cells #[.slice (some ⟨w.heap.size, 0, none⟩) n n] 72) = X from hX.symm]
  clear hX
  go_upto_region 4 with fail
  rw [show (X.setCell ⟨w.heap.size, h, none⟩ (.bool true)).alloc (.cells #[.slice none 0 0] 26) = Y from hY.symm]
  clear hY x1 x2 x2f
  have hmf : ∀ (fn : Fn) (first cap : Array Value) (w : World), (Instr.makeFunc fn first cap).run Tryd.prog w = .ok (.func fn first cap) w := fun _ _ _ _ => rfl
  go_upto_region 6 with (go_at_call 34; refine (unhide HCo).mono ?_; rintro e w1 ⟨rfl, ⟨vw, hS⟩, hb1⟩; have HS := hide hS; have HB1 := hide hb1; clear hS hb1)
  clear HCo
  have hstart : Below w.heap.size w w1 := (unhide HYb).trans (unhide HB1)
  have HSt := hide hstart
  clear hstart
  go_loopg [] (n + 1) (fun f wq => ∃ s2 : Sp, SpI n s2 ∧ s2.left ≤ f ∧ spread ah f s2 = spread ah (n + 1) s1 ∧ SbE wq w.heap.size (w.heap.size + 1) (w.heap.size + 2) w.heap.size n s2 ∧ Below w.heap.size w wq)
  case atStart => exact ⟨s1, unhide HI1, by have := (unhide HI1).ct; unfold Sp.left; omega, rfl, ⟨vw, unhide HS⟩, unhide HSt⟩
  case round =>
    obtain ⟨s2, hI2, hl2, hsp, ⟨v2, hS2⟩, hb2⟩ := hrel
    generalize wr = wq at *
    obtain ⟨c7, c8, c8f, ci⟩ := hS2.cells
    obtain ⟨la, lc, rfl, -⟩ := hS2.row.sl
    rw [nz_len] at c8 hS2
    obtain ⟨L, hL⟩ : ∃ L, L = s2.wt.length := ⟨_, rfl⟩
    have hLn : L ≤ n := by have := hI2.ct; omega
    rw [← hL] at c8 hS2
    by_cases hw : s2.wt = []
    · have hL0 : L = 0 := by rw [hL, hw]; rfl
      subst hL0
      rw [spread_none ah gk s2 hw] at hsp
      have HSp := hide hsp; have HS2 := hide hS2; have HB2 := hide hb2; have HI2 := hide hI2
      clear hsp hS2 hb2 hI2 ci hL hw hl2 HS HSt hLn
      obtain ⟨pr, hpr⟩ : ∃ pr : Nat → Bool, pr = fun b => s2.inn.getD b false := ⟨_, rfl⟩
      have hfin : flt pr n = around ah h bg := by unfold flt around; rw [unhide HAL, ← unhide HS1, ← unhide HSp, hpr]
      have HFin := hide hfin; have HPr := hide hpr
      clear hfin hpr
      go_wp2_with fail
      clear c7 c8 c8f
      go_loopw [11, 45] (fun vo c wt => ∃ k : Nat, k ≤ n ∧ c = .int .i64 (k : Int) ∧ Ro wt w.heap.size vo (nz (flt pr k)) ∧ wt.heap[w.heap.size + 1]? = some (.cells #[.slice (some ⟨w.heap.size, 0, none⟩) n n] 72 (0, 0)) ∧ wt.heap[w.heap.size]? = some (.cells (bv s2.inn).toArray 4 (0, 0)) ∧ Below w.heap.size w wt) (fun _ c _ => n - (intOf c).toNat)
      case atStart => exact ⟨0, Nat.zero_le _, rfl, World.ownsRow_nil _ _ _ _, (unhide HS2).b7, (unhide HS2).bi, unhide HB2⟩
      case round =>
        generalize wr = wt at *
        obtain ⟨k, hk, rfl, hRo, h7, hbi, hbt⟩ := hrel
        by_cases hlt : k < n
        · have y1 : wt.cell? ⟨w.heap.size + 1, 0, none⟩ = some (.slice (some ⟨w.heap.size, 0, none⟩) n n) := by rw [cell_of_row wt _ 0 _ _ _ h7]; rfl
          have y2 : wt.cell? ⟨w.heap.size, k, none⟩ = some (.bool (pr k)) := by rw [cell_of_row wt _ k _ _ _ hbi, List.getElem?_toArray, bv_at _ _ (by rw [(unhide HI2).len]; exact hlt), unhide HPr]
          have hfs := flt_succ pr k
          have hki : (k : Int) < (n : Int) := by omega
          have hfl := flt_len pr k
          obtain ⟨L, hL⟩ : ∃ L, L = (flt pr k).length := ⟨_, rfl⟩
          have hsl : ∃ oa oc, u11 = .slice oa L oc := by obtain ⟨oa, oc, e, -⟩ := hRo.sl; rw [nz_len, ← hL] at e; exact ⟨oa, oc, e⟩
          obtain ⟨oa, oc, rfl⟩ := hsl
          cases hp : pr k with
          | false =>
            rw [hp] at y2 hfs
            have hfs' : flt pr (k + 1) = flt pr k := hfs
            have HFs := hide hfs'; have HRo := hide hRo; have H7 := hide h7; have HBi := hide hbi; have HBt := hide hbt
            clear hfs hfs' hRo h7 hbi hbt hL hfl
            go_wp2_with fail
            go_roundw
            case rel => exact ⟨k + 1, by omega, by go_num, by rw [unhide HFs]; exact unhide HRo, unhide H7, unhide HBi, unhide HBt⟩
            case measure => simp [intOf]; omega
          | true =>
            rw [hp] at y2 hfs
            have hfs' : flt pr (k + 1) = flt pr k ++ [k] := hfs
            have hA := hRo.below (Vc.one_alloc wt (.cells #[.int .i64 (k : Int)] 3))
            have hAR : (wt.alloc (.cells #[.int .i64 (k : Int)] 3)).ownsRow w.heap.size 3 1 (.slice oa L oc) L (iv (nz (flt pr k))) := by have := hA; unfold Ro at this; rw [nz_len, ← hL] at this; exact this
            have HFs := hide hfs'; have HAR := hide hAR; have HRo := hide hRo; have H7 := hide h7; have HBi := hide hbi; have HBt := hide hbt; have HL := hide hL; have HFl := hide hfl
            clear hfs hfs' hRo h7 hbi hbt hL hfl hA hAR
            go_wp2_with (at_builtin; refine wpList_append_own_at _ rfl (.tmp 52) (.tmp 54) 26 rfl w.heap.size 3 i0 (.int .i64 0) 1 8 Tryd.underlying26 hi hz0 hz1 hz2 rfl (by decide) (.slice oa L oc) L (iv (nz (flt pr k))) rfl (unhide HAR) ⟨wt.heap.size, 0, none⟩ 1 1 [.int .i64 (k : Int)] rfl rfl (cell_one_new _ _ _) (one_ones _) ?d3 ?d4 ?d5 ?_)
            case d3 => have := unhide HFl; have := unhide HL; have := unhide HN; unfold maxLen; omega
            case d4 => have := unhide HFl; have := unhide HL; have := unhide HN; omega
            case d5 => have := (unhide HBt).size; simp; omega
            intro v2 w2 hown hgrow _ hat
            have hlt7 := (Array.getElem?_eq_some_iff.1 (unhide H7)).1
            have hlti := (Array.getElem?_eq_some_iff.1 (unhide HBi)).1
            have hal2 := Vc.one_alloc wt (.cells #[.int .i64 (k : Int)] 3)
            have hRA : Ro (wt.alloc (.cells #[.int .i64 (k : Int)] 3)) w.heap.size (.slice oa L oc) (nz (flt pr k)) := by unfold Ro; rw [nz_len, ← unhide HL]; exact unhide HAR
            have k7 := (hal2.block _ hlt7).trans (unhide H7)
            have ki := (hal2.block _ hlti).trans (unhide HBi)
            have g7 := (hgrow.block _ (by simp; omega) (fun e => (row_ne k7 (by decide) hRA _ e.symm).1 rfl)).trans k7
            have gi := (hgrow.block _ (by simp; omega) (fun e => (row_ne ki (by decide) hRA _ e.symm).1 rfl)).trans ki
            have hro2 : Ro w2 w.heap.size v2 (nz (flt pr k ++ [k])) := by unfold Ro; rw [nz_app, iv_app, List.length_append, nz_len, ← unhide HL]; exact hown
            have hb2 : Below w.heap.size w w2 := ((unhide HBt).trans (hal2.mono (unhide HBt).size)).grown hgrow (by simp; have := (unhide HBt).size; omega) (fun j e => (row_ne k7 (by decide) hRA _ e).2.2)
            have HRo2 := hide hro2; have HG7 := hide g7; have HGi := hide gi; have HB2 := hide hb2
            clear hown hgrow hat hlt7 hlti hal2 hRA k7 ki g7 gi hro2 hb2 HAR HRo
            go_wp2_with fail
            go_roundw
            case rel => exact ⟨k + 1, by omega, by go_num, by rw [unhide HFs]; exact unhide HRo2, unhide HG7, unhide HGi, unhide HB2⟩
            case measure => simp [intOf]; omega
        · obtain rfl : k = n := by omega
          rw [unhide HFin] at hRo
          have HRo := hide hRo; have HBt := hide hbt
          clear hRo hbt h7 hbi hlt hk
          go_wp2_with fail
          go_ret
          exact ⟨_, rfl, unhide HRo, unhide HBt⟩
    · obtain ⟨p, hp⟩ : ∃ p, L = p + 1 := ⟨L - 1, by have := List.length_pos_iff.2 hw; omega⟩
      subst hp
      have hpl : p < s2.wt.length := by omega
      have hpm : s2.wt.length - 1 = p := by omega
      obtain ⟨b, hb⟩ : ∃ b, b = s2.wt.getD p 0 := ⟨_, rfl⟩
      have hbn : b < n := by rw [hb]; exact hI2.lt _ (getD_mem _ _ _ hpl)
      obtain ⟨g', cp', e, -, -, hrc, -, hcp⟩ := hS2.row.at_ (by rw [nz_len]; omega)
      have x1 := hrc p (by rw [nz_len]; exact hpl)
      rw [nz_getD _ _ hpl, ← hb] at x1
      simp only [Value.slice.injEq] at e
      obtain ⟨rfl, -, rfl⟩ := e
      have hpc : p ≤ lc := by rw [nz_len] at hcp; omega
      clear hcp
      have hge : 1 ≤ s2.left := by unfold Sp.left; omega
      obtain ⟨f, rfl⟩ : ∃ f, gk = f + 1 := ⟨gk - 1, by omega⟩
      rw [spread_some ah f s2 hw, hpm, ← hb] at hsp
      obtain ⟨k1, k2⟩ := pop_inv hI2 hw
      rw [hpm] at k1 k2
      obtain ⟨row, hrow⟩ : ∃ row, row = ah.getD b [] := ⟨_, rfl⟩
      have hrl : row.length ≤ 2097152 := by rw [hrow]; exact unhide HAl b
      have hrn : ∀ x ∈ row, x < n := fun x hx => (unhide HA).lt b x (by rw [← hrow]; exact hx)
      rw [← hrow] at hsp
      obtain ⟨m1, m2⟩ := comes_inv row k1 hrn
      obtain ⟨q1, q2⟩ := hS2.cut p (by omega)
      have hRw : Rws wq (fun k => k < w.heap.size) ah (.slice aa n ac) := (unhide HAh).moved (fun k _ hk => ⟨hk, hb2.block k hk⟩) hb2.size
      obtain ⟨Ba, oa, vr, haa, hBaN, -, x2, hnr⟩ := hRw.at_ (i := b) (by rw [unhide HAL]; exact hbn)
      subst haa
      obtain ⟨ra, rc, rfl, -, -, -⟩ := id hnr
      have hb3 := hb2.trans q2
      have hnr3 := nums_via hnr hb2 hb3
      obtain ⟨m, hm⟩ : ∃ m, m = row.length := ⟨_, rfl⟩
      rw [← hrow, nz_len, ← hm] at x2 hnr3
      have hcome := come_any (unhide HN) row hrn (by omega) _ k1 w.heap.size (w.heap.size + 1) (w.heap.size + 2) w.heap.size _ _ _ hnr3 q1
      have x2' : (wq.setCell ⟨w.heap.size + 2, 0, none⟩ (.slice (some ⟨g', 0, none⟩) p lc)).cell? ⟨Ba, oa + b, none⟩ = some (.slice ra m rc) := by
        rw [World.cell?_setCell_other _ _ _ _ (by intro e; injection e with e1; omega)]; exact x2
      have hbi : (b : Int) < (n : Int) := by omega
      have hpi : (p : Int) ≤ 1048576 := by have := unhide HN; omega
      have HSp := hide hsp; have HM1 := hide m1; have HM2 := hide m2; have HK2 := hide k2; have HCo := hide hcome; have HB3 := hide hb3; have HL2 := hide hl2
      clear hsp m1 m2 k1 k2 hcome hb3 hb2 hS2 hI2 hrc hRw hnr hnr3 q1 q2 hL hw hpl hpm hb hbn ci hl2 hLn HS HSt hge hrow hrl hrn hm
      go_upto_region 9 with fail
      generalize wq.setCell ⟨w.heap.size + 2, 0, none⟩ (.slice (some ⟨g', 0, none⟩) p lc) = w3 at *
      clear x1 x2 c7 c8 c8f
      go_wp2_with (go_at_call 34; refine (unhide HCo).mono ?_; rintro e w4 ⟨rfl, hS4, hb4⟩; have HS4 := hide hS4; have HB4 := hide hb4; clear hS4 hb4)
      go_roundg f
      case measure => omega
      case rel => exact ⟨_, unhide HM1, by have := unhide HM2; have := unhide HK2; have := unhide HL2; omega, unhide HSp, unhide HS4, (unhide HB3).trans (unhide HB4)⟩
end Fw
end Go.Proofs.YtpecnljcgiicaaaDoor
