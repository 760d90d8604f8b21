/- The document's Size and May. By mkrmay.py. -/
import Derived.Deep.RegionHeld3
import Derived.Test.YtglehoekehiaiaaGreatDoorK31
namespace Go.Proofs.YtglehoekehiaiaaGreatDoor
open Go.RowKit
set_option linter.unusedVariables false
set_option linter.unusedSimpArgs false
set_option maxRecDepth 100000
set_option maxHeartbeats 32000000
namespace Vc
theorem rsize_any (pa re : Int) (rs : Bool) (l : List Bl) (g : Nat → Prop) (v : Value) (w : World) (hv : Bls w g l v) (hl : l.length ≤ 1099511627776) (hz : siz l ≤ 1099511627776) :
    Calls Tryz.prog 32 #[.agg #[.int .i64 pa, .int .i64 re, .bool rs, v]] w fun e w' => e = .returned (.int .i64 (siz l)) ∧ Below w.heap.size w w' := by
 obtain ⟨a, cp, rfl, hcp, _, hA⟩ := hv
 have hst := fun j b h => siz_take l j b h
 have hsl := fun j => siz_le l j
 have hs0 : siz (l.take 0) = 0 := by simp [siz]
 have hsn : siz (l.take l.length) = siz l := by simp
 have HA := hide hA; have HSt := hide hst; have HSl := hide hsl; have HS0 := hide hs0; have HSn := hide hsn; have HZz := hide hz
 clear hA hst hsl hs0 hsn hz
 have hb0 := one_alloc w (.cells #[.int .i64 pa, .int .i64 re, .bool rs, .slice a l.length cp] 24)
 have HB0 := hide hb0; clear hb0
 generalize hL : l.length = n at *
 have HL := hide hL; clear hL
 go_enter Tryz.func32, Tryz.ntmps32
 go_wp2_with fail
 have k3 : (w.alloc (.cells #[.int .i64 pa, .int .i64 re, .bool rs, .slice a n cp] 24)).cell? ⟨w.heap.size, 3, none⟩ = some (.slice a n cp) := by simp
 generalize w.alloc (.cells #[.int .i64 pa, .int .i64 re, .bool rs, .slice a n cp] 24) = W at *
 go_loopw [3, 4] (fun s c wr => ∃ j : Nat, s = .int .i64 (siz (l.take j)) ∧ c = .int .i64 j ∧ (j : Int) ≤ n ∧ Below w.heap.size w wr ∧ wr = W) (fun _ c _ => n - (intOf c).toNat)
 case atStart => exact ⟨0, by rw [unhide HS0]; rfl, rfl, by omega, unhide HB0, rfl⟩
 case round =>
  obtain ⟨j, rfl, rfl, hj, hbel, rfl⟩ := hrel
  by_cases hlt : (j : Int) < n
  ·obtain ⟨x, hx⟩ : ∃ x, l[j]? = some x := ⟨_, List.getElem?_eq_getElem (by have := unhide HL; omega)⟩
   obtain ⟨b, o, rfl, hg, hblt, hit⟩ := unhide HA (by omega)
   obtain ⟨cs, hcl, ⟨vi, vn, rfl, hi, hn⟩, hce⟩ := hit j x hx
   have cc := fun i u hu => (hbel.cell (p := ⟨b, o + j * 3 + i, none⟩) hblt).trans (hce i u hu)
   have e0 := cc 0 _ rfl; have e1 := cc 1 _ rfl; have e2 := cc 2 _ rfl
   simp only [Nat.add_zero] at e0
   have hq := unhide HSt j x hx
   have hq2 := unhide HSl (j + 1)
   rw [hq] at hq2
   have hq3 : ((siz (l.take j) : Nat) : Int) + (x.ins.length : Int) ≤ 1099511627776 := by have := unhide HZz; omega
   have HQ := hide hq; have HBel := hide hbel
   obtain ⟨ai, ci, rfl, _⟩ := hi
   obtain ⟨an, cn, rfl, _⟩ := hn
   obtain ⟨ins, next, dep⟩ := x
   simp only at *
   clear hx hit hcl hce cc hq hq2 hj hbel
   generalize ins.length = il at *
   generalize next.length = nl at *
   generalize hsj : siz (l.take j) = sj at *
   have HSj := hide hsj; clear hsj
   have hb1 : b < wr.heap.size := World.block_lt_of_cell? wr _ e0
   go_wp2
   go_roundw
   case rel => exact ⟨j + 1, by rw [unhide HQ]; go_num, by go_num, by omega, unhide HBel, trivial⟩
   case measure => simp [intOf]; omega
  ·obtain rfl : j = n := by omega
   have HBel := hide hbel
   clear hj hlt hbel
   have hse : siz (l.take j) = siz l := unhide HSn
   have HSe := hide hse; clear hse
   go_wp2
   go_ret
   exact ⟨ret_int (by rw [unhide HSe]), unhide HBel⟩
theorem nm_jump : ((List.range 256).all fun n => ((rnm n == [106, 117, 109, 112]) == decide (n = 193)) && ((rnm n == [98, 114, 97, 110, 99, 104]) == decide (n = 194)) && ((rnm n == [116, 97, 98, 108, 101]) == decide (n = 195))) = true := by kernel_rfl
theorem chk_def (pa re : Int) (rs : Bool) (bl : List Bl) : chk ⟨pa, re, rs, bl⟩ = ((decide (0 ≤ pa) && decide (pa ≤ re) && decide (re ≤ 1024)) && (decide (1 ≤ bl.length) && decide (bl.length ≤ 4096) && decide (siz bl ≤ 16384)) && bl.all (blkM re rs bl.length)) := rfl
theorem blk_def (re : Int) (rs : Bool) (nb : Int) (b : Bl) : blkM re rs nb b = ((!(b.ins.length == 0) && (decide (0 ≤ b.dep) && decide (b.dep ≤ 64))) && (insAll re rs b.ins && (lastL b.ins b.next.length && allT b.next nb))) := rfl
theorem rmay_any (c : Co) (hc : WfC c) (g : Nat → Prop) (v : Value) (w : World) (hv : Bls w g c.bl v) (hz : siz c.bl ≤ 1099511627776) :
    Calls Tryz.prog 11 #[.agg #[.int .i64 c.pa, .int .i64 c.re, .bool c.rs, v]] w fun e w' => e = .returned (.bool (chk c)) ∧ Below w.heap.size w w' := by
 have hlen := hc.len
 have hwf := hc.bl
 have hSz := fun W h => rsize_any c.pa c.re c.rs c.bl g v W h hlen hz
 have hV := hv
 obtain ⟨a, cp, rfl, hcp, _, hA⟩ := hv
 have hI := fun (y : In) (hy : WfI y) (vs : Value) W hs => rins_any c y hy g (.slice a c.bl.length cp) vs W hs ⟨_, _, _, rfl⟩
 clear hc
 obtain ⟨pa, re, rs, bl⟩ := c
 simp only at *
 have hD := chk_def pa re rs bl
 have hY : ∀ b, chk ⟨pa, re, rs, bl⟩ = b → Ending.returned (.bool b) = .returned (.bool (chk ⟨pa, re, rs, bl⟩)) := fun b h => ret_bool h.symm
 have HD := hide hD; have HY := hide hY; have HSz := hide hSz; have HI := hide hI; have HWf := hide hwf; have HA := hide hA; have HV := hide hV; have HZz := hide hz
 clear hD hY hSz hI hwf hA hV hz
 generalize chk ⟨pa, re, rs, bl⟩ = R at *
 have hb0 := one_alloc w (.cells #[.int .i64 pa, .int .i64 re, .bool rs, .slice a bl.length cp] 24)
 have rB := heap_alloc_new w (.cells #[.int .i64 pa, .int .i64 re, .bool rs, .slice a bl.length cp] 24)
 have HB0 := hide hb0; have HRB := hide rB
 clear hb0 rB
 generalize hL : bl.length = n at *
 have HL := hide hL; clear hL
 go_enter Tryz.func11, Tryz.ntmps11
 go_upto_region 1 with fail
 generalize w.alloc (.cells #[.int .i64 pa, .int .i64 re, .bool rs, .slice a n cp] 24) = W at *
 have hce : ∀ wx, Below W.heap.size W wx → wx.cell? ⟨w.heap.size, 0, none⟩ = some (.int .i64 pa) ∧ wx.cell? ⟨w.heap.size, 1, none⟩ = some (.int .i64 re) ∧ wx.cell? ⟨w.heap.size, 2, none⟩ = some (.bool rs) ∧ wx.cell? ⟨w.heap.size, 3, none⟩ = some (.slice a n cp) ∧ w.heap.size < wx.heap.size := by
  intro wx hb
  have q := (hb.block _ (Array.getElem?_eq_some_iff.1 (unhide HRB)).1).trans (unhide HRB)
  refine ⟨?_, ?_, ?_, ?_, (Array.getElem?_eq_some_iff.1 q).1⟩ <;> (rw [cell_of_row wx _ _ _ _ _ q]; rfl)
 have HCe := hide hce
 have HWW := hide (fun wx (h : Below W.heap.size W wx) => (unhide HB0).trans (h.mono (unhide HB0).size))
 obtain ⟨x0, x1, x2, x3, xl⟩ := hce W (Below.refl _ _)
 clear hce
 by_cases p1 : pa < 0
 ·have HF := hide (unhide HY false (by rw [unhide HD, show decide (0 ≤ pa) = false by simp; omega]; simp))
  go_wp2
  go_ret
  exact ⟨unhide HF, unhide HB0⟩
 have tp1 : decide (pa < 0) = false := by simpa using p1
 by_cases p2 : re < pa
 ·have HF := hide (unhide HY false (by rw [unhide HD, show decide (pa ≤ re) = false by simp; omega]; simp))
  have tp2 : decide (pa > re) = true := by simpa using p2
  clear p1
  go_wp2
  go_ret
  exact ⟨unhide HF, unhide HB0⟩
 have tp2 : decide (pa > re) = false := by simpa using p2
 have tp3 : decide (re < pa) = false := by simpa using p2
 by_cases p3 : 1024 < re
 ·have HF := hide (unhide HY false (by rw [unhide HD, show decide (re ≤ 1024) = false by simp; omega]; simp))
  clear p1 p2
  go_wp2
  go_ret
  exact ⟨unhide HF, unhide HB0⟩
 have tp4 : decide (re > 1024) = false := by simpa using p3
 have tp5 : decide (1024 < re) = false := by simpa using p3
 by_cases p4 : (n : Int) < 1
 ·have HF := hide (unhide HY false (by rw [unhide HD, show decide (1 ≤ n) = false by simp; omega]; simp))
  clear p1 p2 p3
  go_wp2
  go_ret
  exact ⟨unhide HF, unhide HB0⟩
 have tp6 : decide ((n : Int) < 1) = false := by simpa using p4
 by_cases p5 : (4096 : Int) < n
 ·have HF := hide (unhide HY false (by rw [unhide HD, show decide (n ≤ 4096) = false by simp; omega]; simp))
  clear p1 p2 p3 p4
  go_wp2
  go_ret
  exact ⟨unhide HF, unhide HB0⟩
 have tp7 : decide ((n : Int) > 4096) = false := by simpa using p5
 have tp8 : decide ((4096 : Int) < n) = false := by simpa using p5
 have HP := hide (show decide (0 ≤ pa) = true ∧ decide (pa ≤ re) = true ∧ decide (re ≤ 1024) = true ∧ decide (1 ≤ n) = true ∧ decide (n ≤ 4096) = true from ⟨by simp; omega, by simp; omega, by simp; omega, by simp; omega, by simp; omega⟩)
 have hn4 : (n : Int) ≤ 4096 := by omega
 clear p1 p2 p3 p4 p5
 go_wp2_with fail
 refine (unhide HSz W ((unhide HV).below (unhide HB0))).mono ?_
 rintro e w2 ⟨rfl, hb2⟩
 clear x0 x1 x2 x3 xl
 obtain ⟨x0, x1, x2, x3, xl⟩ := unhide HCe w2 hb2
 have HB2 := hide hb2
 clear hb2 HSz
 generalize hsz : siz bl = sz at *
 have HSZ := hide hsz
 clear hsz
 by_cases p6 : (16384 : Int) < sz
 ·have HF := hide (unhide HY false (by rw [unhide HD, show decide (sz ≤ 16384) = false by simp; omega]; simp))
  go_wp2
  go_ret
  exact ⟨unhide HF, unhide HWW _ (unhide HB2)⟩
 have tp9 : decide ((sz : Int) > 16384) = false := by simpa using p6
 have tp10 : decide ((16384 : Int) < sz) = false := by simpa using p6
 have hDD := unhide HD
 obtain ⟨q1, q2, q3, q4, q5⟩ := unhide HP
 rw [q1, q2, q3, q4, q5, show decide (sz ≤ 16384) = true by simp; omega] at hDD
 simp only [Bool.and_self, Bool.true_and] at hDD
 have HDD := hide hDD
 clear hDD q1 q2 q3 q4 q5 p6 HD HP
 go_wp2_with fail
 go_loopw [3] (fun c wr => ∃ j : Nat, c = .int .i64 j ∧ (j : Int) ≤ n ∧ (∀ i x, i < j → bl[i]? = some x → blkM re rs n x = true) ∧ Below W.heap.size W wr) (fun c _ => n - (intOf c).toNat)
 case atStart => exact ⟨0, rfl, by omega, fun i x hi => absurd hi (by omega), unhide HB2⟩
 case round =>
  obtain ⟨j, rfl, hj, hall, hbel⟩ := hrel
  have HAll := hide hall; have HBel := hide hbel
  clear hall x0 x1 x2 x3 xl
  obtain ⟨x0, x1, x2, x3, xl⟩ := unhide HCe wr hbel
  by_cases hlt : (j : Int) < n
  ·obtain ⟨x, hx⟩ : ∃ x, bl[j]? = some x := ⟨_, List.getElem?_eq_getElem (by have := unhide HL; omega)⟩
   have hwx := unhide HWf x (List.mem_of_getElem? hx)
   have hlow := unhide HWW wr hbel
   obtain ⟨b, o, rfl, hgb, hblt, hit⟩ := unhide HA (by omega)
   obtain ⟨cs, hcl, ⟨vi, vn, rfl, hi, hn⟩, hce⟩ := hit j x hx
   have cc := fun i u hu => (hlow.cell (p := ⟨b, o + j * 3 + i, none⟩) hblt).trans (hce i u hu)
   have e0 := cc 0 _ rfl; have e1 := cc 1 _ rfl; have e2 := cc 2 _ rfl
   simp only [Nat.add_zero] at e0
   have hbw : b < wr.heap.size := World.block_lt_of_cell? wr _ e0
   have hno : blkM re rs n x = false → R = false := fun h => by rw [unhide HDD]; exact all_no hx h
   have hbd := blk_def re rs n x
   have HXb := hide hx; have HWx := hide hwx; have HNo := hide hno; have HBd := hide hbd
   obtain ⟨ai, ci, rfl, hci, _, hII⟩ := hi
   obtain ⟨an, cn, rfl, hcn, _, hNN⟩ := hn
   have HII := hide hII; have HNN := hide hNN
   clear hx hwx hlow hit hcl hce cc hno hbd hII hNN hj hbel
   obtain ⟨ins, next, dep⟩ := x
   simp only at *
   have hileN := (unhide HWx).len; have hnleN := (unhide HWx).nlen
   simp only at hileN hnleN
   generalize hbm : blkM re rs n ⟨ins, next, dep⟩ = BM at *
   have HBM := hide hbm
   generalize hil : ins.length = il at *
   generalize hnl : next.length = nl at *
   have Hil := hide hil; have Hnl := hide hnl
   clear hil hnl hbm
   go_upto_region 7 with fail
   have hal := one_alloc wr (.cells #[.slice ai il ci, .slice an nl cn, .int .i64 dep] 49)
   have rb := heap_alloc_new wr (.cells #[.slice ai il ci, .slice an nl cn, .int .i64 dep] 49)
   have HAl := hide hal; have HRb := hide rb
   clear hal rb e0 e1 e2 x0 x1 x2 x3 xl
   generalize wr.alloc (.cells #[.slice ai il ci, .slice an nl cn, .int .i64 dep] 49) = W3 at *
   have HW3 := hide ((unhide HBel).trans ((unhide HAl).mono (unhide HBel).size))
   have hce3 : ∀ wx, Below W3.heap.size W3 wx → (wx.cell? ⟨wr.heap.size, 0, none⟩ = some (.slice ai il ci) ∧ wx.cell? ⟨wr.heap.size, 1, none⟩ = some (.slice an nl cn) ∧ wx.cell? ⟨wr.heap.size, 2, none⟩ = some (.int .i64 dep) ∧ wr.heap.size < wx.heap.size) ∧ Below W.heap.size W wx := by
    intro wx hb
    have q := (hb.block _ (Array.getElem?_eq_some_iff.1 (unhide HRb)).1).trans (unhide HRb)
    refine ⟨⟨?_, ?_, ?_, (Array.getElem?_eq_some_iff.1 q).1⟩, (unhide HW3).trans (hb.mono (unhide HW3).size)⟩ <;> (rw [cell_of_row wx _ _ _ _ _ q]; rfl)
   have HCe3 := hide hce3
   obtain ⟨⟨y0, y1, y2, yl⟩, hbW⟩ := hce3 W3 (Below.refl _ _)
   obtain ⟨x0, x1, x2, x3, xl⟩ := unhide HCe W3 hbW
   have HBW3 := hide (unhide HWW W3 hbW)
   clear hce3 hbW
   have HNB := hide (show ∀ hf : BM = false, Ending.returned (.bool false) = .returned (.bool R) from fun hf => unhide HY false (unhide HNo hf))
   by_cases q1 : il = 0
   ·subst q1
    have HF := hide (unhide HNB (by rw [unhide HBd]; simp))
    go_wp2
    go_ret
    exact ⟨unhide HF, unhide HBW3⟩
   have tq1 : ((il : Int) == 0) = false := by simp; omega
   by_cases q2 : dep < 0
   ·have HF := hide (unhide HNB (by rw [unhide HBd, show decide (0 ≤ dep) = false by simp; omega]; simp))
    go_wp2
    go_ret
    exact ⟨unhide HF, unhide HBW3⟩
   have tq2 : decide (dep < 0) = false := by simpa using q2
   by_cases q3 : 64 < dep
   ·have HF := hide (unhide HNB (by rw [unhide HBd, show decide (dep ≤ 64) = false by simp; omega]; simp))
    clear q2
    go_wp2
    go_ret
    exact ⟨unhide HF, unhide HBW3⟩
   have tq3 : decide (dep > 64) = false := by simpa using q3
   have tq4 : decide (64 < dep) = false := by simpa using q3
   have hBD := unhide HBd
   rw [show (!(il == 0)) = true by simp; omega, show decide (0 ≤ dep) = true by simp; omega, show decide (dep ≤ 64) = true by simp; omega] at hBD
   simp only [Bool.and_self, Bool.true_and] at hBD
   have HBD := hide hBD
   have hil1 : (0 : Int) < il := by omega
   have hile : (il : Int) ≤ 1099511627776 := by omega
   have hnle : (nl : Int) ≤ 1099511627776 := by omega
   clear hBD q1 q2 q3 HBd hileN hnleN
   go_wp2_with fail
   generalize wr = WO at *
   go_loopw [5] (fun c wq => ∃ k : Nat, c = .int .i64 k ∧ (k : Int) ≤ il ∧ (∀ i, i < k → okAt re rs ins i = true) ∧ Below W3.heap.size W3 wq) (fun c _ => il - (intOf c).toNat)
   case atStart => exact ⟨0, rfl, by omega, fun i hi => absurd hi (by omega), Below.refl _ _⟩
   case round =>
    obtain ⟨k, rfl, hk, hok, hb4⟩ := hrel
    have HOk := hide hok; have HB4 := hide hb4
    clear hok y0 y1 y2 yl x0 x1 x2 x3 xl
    obtain ⟨⟨y0, y1, y2, yl⟩, hbW⟩ := unhide HCe3 wr hb4
    obtain ⟨x0, x1, x2, x3, xl⟩ := unhide HCe wr hbW
    have HLow := hide (unhide HWW wr hbW)
    clear hbW hb4
    by_cases hklt : (k : Int) < il
    ·obtain ⟨y, hy⟩ : ∃ y, ins[k]? = some y := ⟨_, List.getElem?_eq_getElem (by have := unhide Hil; omega)⟩
     have hwy := (unhide HWx).ins y (List.mem_of_getElem? hy)
     obtain ⟨bi, oi, rfl, hgi, hbi, hit⟩ := unhide HII (by have := unhide Hil; omega)
     obtain ⟨cs, hcl, ⟨vs, rfl, hs⟩, hce⟩ := hit k y hy
     have hec : ∀ wx, Below w.heap.size w wx → wx.cell? ⟨bi, oi + k * 5, none⟩ = some (.int .u8 (y.op : Int)) ∧ wx.cell? ⟨bi, oi + k * 5 + 1, none⟩ = some (.int .i64 y.dst) ∧ wx.cell? ⟨bi, oi + k * 5 + 2, none⟩ = some vs ∧ wx.cell? ⟨bi, oi + k * 5 + 3, none⟩ = some (.int .i64 y.n) ∧ wx.cell? ⟨bi, oi + k * 5 + 4, none⟩ = some (.int .u32 y.of) := by
      intro wx hb
      have cc := fun i u hu => (hb.cell (p := ⟨bi, oi + k * 5 + i, none⟩) hbi).trans (hce i u hu)
      exact ⟨cc 0 _ rfl, cc 1 _ rfl, cc 2 _ rfl, cc 3 _ rfl, cc 4 _ rfl⟩
     have hIy := fun W (h : Below w.heap.size w W) => unhide HI y hwy vs W (hs.moved fun q hq _ => ⟨by assumption, h.block q hq⟩)
     have hEn := fun W => rends_any y.op hwy.op W
     rw [insR_eq re rs y hwy.op] at hIy
     have hat : okAt re rs ins k = ((ends y.op == decide (k + 1 = il)) && insM re rs y) := by unfold okAt; rw [hy, unhide Hil]
     have hno2 : okAt re rs ins k = false → Ending.returned (.bool false) = .returned (.bool R) := fun h => unhide HNB (by rw [unhide HBD, insAll_no (by have := unhide Hil; omega) h]; simp)
     have HEc := hide hec; have HIy := hide hIy; have HEn := hide hEn; have HAt := hide hat; have HNo2 := hide hno2
     obtain ⟨f0, f1, f2, f3, f4⟩ := hec wr (unhide HLow)
     obtain ⟨sa, sc, rfl, _⟩ := hs
     obtain ⟨op, dst, src, nn, of⟩ := y
     simp only at *
     clear hy hwy hit hcl hce hec hIy hEn hat hno2 hk
     generalize hsl : src.length = sl at *
     have Hsl := hide hsl; clear hsl
     generalize insM re rs ⟨op, dst, src, nn, of⟩ = IM at *
     generalize ends op = EN at *
     have hSall : ∀ wx, Below w.heap.size w wx → Below W3.heap.size W3 wx → ((wx.cell? ⟨w.heap.size, 0, none⟩ = some (.int .i64 pa) ∧ wx.cell? ⟨w.heap.size, 1, none⟩ = some (.int .i64 re) ∧ wx.cell? ⟨w.heap.size, 2, none⟩ = some (.bool rs) ∧ wx.cell? ⟨w.heap.size, 3, none⟩ = some (.slice (some ⟨b, o, none⟩) n cp)) ∧ (wx.cell? ⟨WO.heap.size, 0, none⟩ = some (.slice (some ⟨bi, oi, none⟩) il ci)) ∧ (wx.cell? ⟨bi, oi + k * 5, none⟩ = some (.int .u8 (op : Int)) ∧ wx.cell? ⟨bi, oi + k * 5 + 1, none⟩ = some (.int .i64 dst) ∧ wx.cell? ⟨bi, oi + k * 5 + 2, none⟩ = some (.slice sa sl sc) ∧ wx.cell? ⟨bi, oi + k * 5 + 3, none⟩ = some (.int .i64 nn) ∧ wx.cell? ⟨bi, oi + k * 5 + 4, none⟩ = some (.int .u32 of))) := by
      intro wx h1 h2
      obtain ⟨⟨y0, _⟩, hbW⟩ := unhide HCe3 wx h2
      obtain ⟨x0, x1, x2, x3, _⟩ := unhide HCe wx hbW
      exact ⟨⟨x0, x1, x2, x3⟩, y0, unhide HEc wx h1⟩
     have HSall := hide hSall
     have hb3d : Below W3.heap.size W3 wr.drew := (unhide HB4).trans ((Below.refl _ _).drew.mono (unhide HB4).size)
     have hbwd : Below w.heap.size w wr.drew := (unhide HLow).trans ((Below.refl _ _).drew.mono (unhide HLow).size)
     have HB3d := hide hb3d; have HBwd := hide hbwd
     have hk := hSall wr.drew hbwd hb3d
     have HKd := hide hk
     clear hSall hb3d hbwd
     go_upto_region 12 with fail
     cases IM with
     | false =>
       have HF := hide (unhide HNo2 (by rw [unhide HAt]; simp))
       clear x0 x1 x2 x3 y0 y1 y2 f0 f1 f2 f3 f4 hk
       refine wp_region_held_drew (S := fun wx => ((wx.cell? ⟨w.heap.size, 0, none⟩ = some (.int .i64 pa) ∧ wx.cell? ⟨w.heap.size, 1, none⟩ = some (.int .i64 re) ∧ wx.cell? ⟨w.heap.size, 2, none⟩ = some (.bool rs) ∧ wx.cell? ⟨w.heap.size, 3, none⟩ = some (.slice (some ⟨b, o, none⟩) n cp)) ∧ (wx.cell? ⟨WO.heap.size, 0, none⟩ = some (.slice (some ⟨bi, oi, none⟩) il ci)) ∧ (wx.cell? ⟨bi, oi + k * 5, none⟩ = some (.int .u8 (op : Int)) ∧ wx.cell? ⟨bi, oi + k * 5 + 1, none⟩ = some (.int .i64 dst) ∧ wx.cell? ⟨bi, oi + k * 5 + 2, none⟩ = some (.slice sa sl sc) ∧ wx.cell? ⟨bi, oi + k * 5 + 3, none⟩ = some (.int .i64 nn) ∧ wx.cell? ⟨bi, oi + k * 5 + 4, none⟩ = some (.int .u32 of)))) (by kernel_rfl) (unhide HKd) (fun _ => ?_)
       refine wpAnyH_take (i := 0) (oi := _) (v := ?v0_1) rfl (by kernel_rfl) (by kernel_rfl) (by kernel_rfl) (fun _ _ _ h => h) (Or.inl ⟨by kernel_rfl, ?y0_1⟩) (unhide HKd) ?_
       case y0_1 => intro w hSw; obtain ⟨⟨s0, s1, s2, s3⟩, s4, s5, s6, s7, s8, s9⟩ := hSw; go_simp; first | done | rfl
       simp only [List.getElem_toArray, List.getElem_cons_succ, List.getElem_cons_zero, Act.put, List.setIfInBounds_toArray, List.set_cons_zero, List.set_cons_succ]
       refine wpAnyH_take (i := 1) (oi := _) (v := ?v1_2) rfl (by kernel_rfl) (by kernel_rfl) (by kernel_rfl) (fun _ _ _ h => h) (Or.inl ⟨by kernel_rfl, ?y1_2⟩) (unhide HKd) ?_
       case y1_2 => intro w hSw; obtain ⟨⟨s0, s1, s2, s3⟩, s4, s5, s6, s7, s8, s9⟩ := hSw; go_simp; first | done | rfl
       simp only [List.getElem_toArray, List.getElem_cons_succ, List.getElem_cons_zero, Act.put, List.setIfInBounds_toArray, List.set_cons_zero, List.set_cons_succ]
       refine wpAnyH_take (i := 2) (oi := _) (v := ?v2_3) rfl (by kernel_rfl) (by kernel_rfl) (by kernel_rfl) (fun _ _ _ h => h) (Or.inl ⟨by kernel_rfl, ?y2_3⟩) (unhide HKd) ?_
       case y2_3 => intro w hSw; obtain ⟨⟨s0, s1, s2, s3⟩, s4, s5, s6, s7, s8, s9⟩ := hSw; go_simp; first | done | rfl
       simp only [List.getElem_toArray, List.getElem_cons_succ, List.getElem_cons_zero, Act.put, List.setIfInBounds_toArray, List.set_cons_zero, List.set_cons_succ]
       refine wpAnyH_take (i := 3) (oi := _) (v := ?v3_4) rfl (by kernel_rfl) (by kernel_rfl) (by kernel_rfl) (fun _ _ _ h => h) (Or.inl ⟨by kernel_rfl, ?y3_4⟩) (unhide HKd) ?_
       case y3_4 => intro w hSw; obtain ⟨⟨s0, s1, s2, s3⟩, s4, s5, s6, s7, s8, s9⟩ := hSw; go_simp; first | done | rfl
       simp only [List.getElem_toArray, List.getElem_cons_succ, List.getElem_cons_zero, Act.put, List.setIfInBounds_toArray, List.set_cons_zero, List.set_cons_succ]
       refine wpAnyH_take (i := 4) (oi := _) (v := ?v4_5) rfl (by kernel_rfl) (by kernel_rfl) (by kernel_rfl) (fun _ _ _ h => h) (Or.inl ⟨by kernel_rfl, ?y4_5⟩) (unhide HKd) ?_
       case y4_5 => intro w hSw; obtain ⟨⟨s0, s1, s2, s3⟩, s4, s5, s6, s7, s8, s9⟩ := hSw; go_simp; first | done | rfl
       simp only [List.getElem_toArray, List.getElem_cons_succ, List.getElem_cons_zero, Act.put, List.setIfInBounds_toArray, List.set_cons_zero, List.set_cons_succ]
       refine wpAnyH_take (i := 5) (oi := _) (v := ?v5_6) rfl (by kernel_rfl) (by kernel_rfl) (by kernel_rfl) (fun _ _ _ h => h) (Or.inl ⟨by kernel_rfl, ?y5_6⟩) (unhide HKd) ?_
       case y5_6 => intro w hSw; obtain ⟨⟨s0, s1, s2, s3⟩, s4, s5, s6, s7, s8, s9⟩ := hSw; go_simp; first | done | rfl
       simp only [List.getElem_toArray, List.getElem_cons_succ, List.getElem_cons_zero, Act.put, List.setIfInBounds_toArray, List.set_cons_zero, List.set_cons_succ]
       refine wpAnyH_ready (rs := [6]) (by kernel_rfl) (by simp) ?_
       refine AllReadyH.cons rfl (fun K hK => ?_) AllReadyH.nil
       go_simp
       go_at_call 33
       refine (unhide HIy _ (unhide HBwd)).mono ?_
       rintro e w6 ⟨rfl, hb6⟩
       have HB36 := hide ((unhide HB3d).trans (hb6.mono (unhide HB3d).size))
       have HBw6 := hide ((unhide HBwd).trans (hb6.mono (unhide HBwd).size))
       have HK6 := hide (unhide HSall w6 (unhide HBw6) (unhide HB36))
       clear hb6
       go_wp2_with fail
       refine hK.out _ _ (unhide HK6) (fun _ => ?_)
       refine wpAnyH_take (i := 7) (oi := _) (v := ?v7_7) rfl (by kernel_rfl) (by kernel_rfl) (by kernel_rfl) (fun _ _ _ h => h) (Or.inl ⟨by kernel_rfl, ?y7_7⟩) (unhide HK6) ?_
       case y7_7 => intro w hSw; go_simp; first | done | rfl
       simp only [List.getElem_toArray, List.getElem_cons_succ, List.getElem_cons_zero, Act.put, List.setIfInBounds_toArray, List.set_cons_zero, List.set_cons_succ]
       refine wpAnyH_take (i := 8) (oi := _) (v := ?v8_8) rfl (by kernel_rfl) (by kernel_rfl) (by kernel_rfl) (fun _ _ _ h => h) (Or.inl ⟨by kernel_rfl, ?y8_8⟩) (unhide HK6) ?_
       case y8_8 => intro w hSw; go_simp; first | done | rfl
       simp only [List.getElem_toArray, List.getElem_cons_succ, List.getElem_cons_zero, Act.put, List.setIfInBounds_toArray, List.set_cons_zero, List.set_cons_succ]
       refine wpAnyH_take (i := 9) (oi := _) (v := undef) rfl (by kernel_rfl) (by kernel_rfl) (by kernel_rfl) (fun _ _ _ h => h) (Or.inr ⟨by kernel_rfl, rfl⟩) (unhide HK6) ?_
       simp only [List.getElem_toArray, List.getElem_cons_succ, List.getElem_cons_zero, Act.put, List.setIfInBounds_toArray, List.set_cons_zero, List.set_cons_succ]
       refine wpAnyH_take (i := 10) (oi := _) (v := undef) rfl (by kernel_rfl) (by kernel_rfl) (by kernel_rfl) (fun _ _ _ h => h) (Or.inr ⟨by kernel_rfl, rfl⟩) (unhide HK6) ?_
       simp only [List.getElem_toArray, List.getElem_cons_succ, List.getElem_cons_zero, Act.put, List.setIfInBounds_toArray, List.set_cons_zero, List.set_cons_succ]
       refine wpAnyH_take (i := 11) (oi := _) (v := undef) rfl (by kernel_rfl) (by kernel_rfl) (by kernel_rfl) (fun _ _ _ h => h) (Or.inr ⟨by kernel_rfl, rfl⟩) (unhide HK6) ?_
       simp only [List.getElem_toArray, List.getElem_cons_succ, List.getElem_cons_zero, Act.put, List.setIfInBounds_toArray, List.set_cons_zero, List.set_cons_succ]
       refine wpAnyH_take (i := 12) (oi := _) (v := undef) rfl (by kernel_rfl) (by kernel_rfl) (by kernel_rfl) (fun _ _ _ h => h) (Or.inr ⟨by kernel_rfl, rfl⟩) (unhide HK6) ?_
       simp only [List.getElem_toArray, List.getElem_cons_succ, List.getElem_cons_zero, Act.put, List.setIfInBounds_toArray, List.set_cons_zero, List.set_cons_succ]
       refine wpAnyH_take (i := 13) (oi := _) (v := undef) rfl (by kernel_rfl) (by kernel_rfl) (by kernel_rfl) (fun _ _ _ h => h) (Or.inr ⟨by kernel_rfl, rfl⟩) (unhide HK6) ?_
       simp only [List.getElem_toArray, List.getElem_cons_succ, List.getElem_cons_zero, Act.put, List.setIfInBounds_toArray, List.set_cons_zero, List.set_cons_succ]
       refine wpAnyH_take (i := 14) (oi := _) (v := undef) rfl (by kernel_rfl) (by kernel_rfl) (by kernel_rfl) (fun _ _ _ h => h) (Or.inr ⟨by kernel_rfl, rfl⟩) (unhide HK6) ?_
       simp only [List.getElem_toArray, List.getElem_cons_succ, List.getElem_cons_zero, Act.put, List.setIfInBounds_toArray, List.set_cons_zero, List.set_cons_succ]
       refine wpAnyH_take (i := 15) (oi := _) (v := undef) rfl (by kernel_rfl) (by kernel_rfl) (by kernel_rfl) (fun _ _ _ h => h) (Or.inr ⟨by kernel_rfl, rfl⟩) (unhide HK6) ?_
       simp only [List.getElem_toArray, List.getElem_cons_succ, List.getElem_cons_zero, Act.put, List.setIfInBounds_toArray, List.set_cons_zero, List.set_cons_succ]
       refine wpAnyH_take (i := 16) (oi := _) (v := undef) rfl (by kernel_rfl) (by kernel_rfl) (by kernel_rfl) (fun _ _ _ h => h) (Or.inr ⟨by kernel_rfl, rfl⟩) (unhide HK6) ?_
       simp only [List.getElem_toArray, List.getElem_cons_succ, List.getElem_cons_zero, Act.put, List.setIfInBounds_toArray, List.set_cons_zero, List.set_cons_succ]
       refine wpAnyH_take (i := 17) (oi := _) (v := undef) rfl (by kernel_rfl) (by kernel_rfl) (by kernel_rfl) (fun _ _ _ h => h) (Or.inr ⟨by kernel_rfl, rfl⟩) (unhide HK6) ?_
       simp only [List.getElem_toArray, List.getElem_cons_succ, List.getElem_cons_zero, Act.put, List.setIfInBounds_toArray, List.set_cons_zero, List.set_cons_succ]
       refine wpAnyH_take (i := 18) (oi := _) (v := undef) rfl (by kernel_rfl) (by kernel_rfl) (by kernel_rfl) (fun _ _ _ h => h) (Or.inr ⟨by kernel_rfl, rfl⟩) (unhide HK6) ?_
       simp only [List.getElem_toArray, List.getElem_cons_succ, List.getElem_cons_zero, Act.put, List.setIfInBounds_toArray, List.set_cons_zero, List.set_cons_succ]
       refine wpAnyH_take (i := 19) (oi := _) (v := undef) rfl (by kernel_rfl) (by kernel_rfl) (by kernel_rfl) (fun _ _ _ h => h) (Or.inr ⟨by kernel_rfl, rfl⟩) (unhide HK6) ?_
       simp only [List.getElem_toArray, List.getElem_cons_succ, List.getElem_cons_zero, Act.put, List.setIfInBounds_toArray, List.set_cons_zero, List.set_cons_succ]
       refine wpAnyH_take (i := 20) (oi := _) (v := undef) rfl (by kernel_rfl) (by kernel_rfl) (by kernel_rfl) (fun _ _ _ h => h) (Or.inr ⟨by kernel_rfl, rfl⟩) (unhide HK6) ?_
       simp only [List.getElem_toArray, List.getElem_cons_succ, List.getElem_cons_zero, Act.put, List.setIfInBounds_toArray, List.set_cons_zero, List.set_cons_succ]
       refine wpAnyH_take (i := 21) (oi := _) (v := undef) rfl (by kernel_rfl) (by kernel_rfl) (by kernel_rfl) (fun _ _ _ h => h) (Or.inr ⟨by kernel_rfl, rfl⟩) (unhide HK6) ?_
       simp only [List.getElem_toArray, List.getElem_cons_succ, List.getElem_cons_zero, Act.put, List.setIfInBounds_toArray, List.set_cons_zero, List.set_cons_succ]
       refine wpAnyH_take (i := 22) (oi := _) (v := undef) rfl (by kernel_rfl) (by kernel_rfl) (by kernel_rfl) (fun _ _ _ h => h) (Or.inr ⟨by kernel_rfl, rfl⟩) (unhide HK6) ?_
       simp only [List.getElem_toArray, List.getElem_cons_succ, List.getElem_cons_zero, Act.put, List.setIfInBounds_toArray, List.set_cons_zero, List.set_cons_succ]
       refine wpAnyH_take (i := 23) (oi := _) (v := ?v23_9) rfl (by kernel_rfl) (by kernel_rfl) (by kernel_rfl) (fun _ _ _ h => h) (Or.inl ⟨by kernel_rfl, ?y23_9⟩) (unhide HK6) ?_
       case y23_9 => intro w hSw; go_simp; first | done | rfl
       simp only [List.getElem_toArray, List.getElem_cons_succ, List.getElem_cons_zero, Act.put, List.setIfInBounds_toArray, List.set_cons_zero, List.set_cons_succ]
       refine wpAnyH_done (by kernel_rfl) ?_ _
       clear hK
       go_wp2
       go_ret
       exact ⟨unhide HF, unhide HBw6⟩
     | true =>
       clear x0 x1 x2 x3 y0 y1 y2 f0 f1 f2 f3 f4 hk
       by_cases hlast : k + 1 = il
       ·have tl1 : ((k : Int) == (il : Int) - 1) = true := by simp; omega
        have tl2 : ((k : Int) == IntKind.i64.wrap ((il : Int) - 1)) = true := by rw [IntKind.wrap_i64]; simp; omega
        have HLast := hide hlast
        clear hlast
        cases EN with
        | true =>
          refine wp_region_held_drew (S := fun wx => ((wx.cell? ⟨w.heap.size, 0, none⟩ = some (.int .i64 pa) ∧ wx.cell? ⟨w.heap.size, 1, none⟩ = some (.int .i64 re) ∧ wx.cell? ⟨w.heap.size, 2, none⟩ = some (.bool rs) ∧ wx.cell? ⟨w.heap.size, 3, none⟩ = some (.slice (some ⟨b, o, none⟩) n cp)) ∧ (wx.cell? ⟨WO.heap.size, 0, none⟩ = some (.slice (some ⟨bi, oi, none⟩) il ci)) ∧ (wx.cell? ⟨bi, oi + k * 5, none⟩ = some (.int .u8 (op : Int)) ∧ wx.cell? ⟨bi, oi + k * 5 + 1, none⟩ = some (.int .i64 dst) ∧ wx.cell? ⟨bi, oi + k * 5 + 2, none⟩ = some (.slice sa sl sc) ∧ wx.cell? ⟨bi, oi + k * 5 + 3, none⟩ = some (.int .i64 nn) ∧ wx.cell? ⟨bi, oi + k * 5 + 4, none⟩ = some (.int .u32 of)))) (by kernel_rfl) (unhide HKd) (fun _ => ?_)
          refine wpAnyH_take (i := 0) (oi := _) (v := ?v0_10) rfl (by kernel_rfl) (by kernel_rfl) (by kernel_rfl) (fun _ _ _ h => h) (Or.inl ⟨by kernel_rfl, ?y0_10⟩) (unhide HKd) ?_
          case y0_10 => intro w hSw; obtain ⟨⟨s0, s1, s2, s3⟩, s4, s5, s6, s7, s8, s9⟩ := hSw; go_simp; first | done | rfl
          simp only [List.getElem_toArray, List.getElem_cons_succ, List.getElem_cons_zero, Act.put, List.setIfInBounds_toArray, List.set_cons_zero, List.set_cons_succ]
          refine wpAnyH_take (i := 1) (oi := _) (v := ?v1_11) rfl (by kernel_rfl) (by kernel_rfl) (by kernel_rfl) (fun _ _ _ h => h) (Or.inl ⟨by kernel_rfl, ?y1_11⟩) (unhide HKd) ?_
          case y1_11 => intro w hSw; obtain ⟨⟨s0, s1, s2, s3⟩, s4, s5, s6, s7, s8, s9⟩ := hSw; go_simp; first | done | rfl
          simp only [List.getElem_toArray, List.getElem_cons_succ, List.getElem_cons_zero, Act.put, List.setIfInBounds_toArray, List.set_cons_zero, List.set_cons_succ]
          refine wpAnyH_take (i := 2) (oi := _) (v := ?v2_12) rfl (by kernel_rfl) (by kernel_rfl) (by kernel_rfl) (fun _ _ _ h => h) (Or.inl ⟨by kernel_rfl, ?y2_12⟩) (unhide HKd) ?_
          case y2_12 => intro w hSw; obtain ⟨⟨s0, s1, s2, s3⟩, s4, s5, s6, s7, s8, s9⟩ := hSw; go_simp; first | done | rfl
          simp only [List.getElem_toArray, List.getElem_cons_succ, List.getElem_cons_zero, Act.put, List.setIfInBounds_toArray, List.set_cons_zero, List.set_cons_succ]
          refine wpAnyH_take (i := 3) (oi := _) (v := ?v3_13) rfl (by kernel_rfl) (by kernel_rfl) (by kernel_rfl) (fun _ _ _ h => h) (Or.inl ⟨by kernel_rfl, ?y3_13⟩) (unhide HKd) ?_
          case y3_13 => intro w hSw; obtain ⟨⟨s0, s1, s2, s3⟩, s4, s5, s6, s7, s8, s9⟩ := hSw; go_simp; first | done | rfl
          simp only [List.getElem_toArray, List.getElem_cons_succ, List.getElem_cons_zero, Act.put, List.setIfInBounds_toArray, List.set_cons_zero, List.set_cons_succ]
          refine wpAnyH_take (i := 4) (oi := _) (v := ?v4_14) rfl (by kernel_rfl) (by kernel_rfl) (by kernel_rfl) (fun _ _ _ h => h) (Or.inl ⟨by kernel_rfl, ?y4_14⟩) (unhide HKd) ?_
          case y4_14 => intro w hSw; obtain ⟨⟨s0, s1, s2, s3⟩, s4, s5, s6, s7, s8, s9⟩ := hSw; go_simp; first | done | rfl
          simp only [List.getElem_toArray, List.getElem_cons_succ, List.getElem_cons_zero, Act.put, List.setIfInBounds_toArray, List.set_cons_zero, List.set_cons_succ]
          refine wpAnyH_take (i := 5) (oi := _) (v := ?v5_15) rfl (by kernel_rfl) (by kernel_rfl) (by kernel_rfl) (fun _ _ _ h => h) (Or.inl ⟨by kernel_rfl, ?y5_15⟩) (unhide HKd) ?_
          case y5_15 => intro w hSw; obtain ⟨⟨s0, s1, s2, s3⟩, s4, s5, s6, s7, s8, s9⟩ := hSw; go_simp; first | done | rfl
          simp only [List.getElem_toArray, List.getElem_cons_succ, List.getElem_cons_zero, Act.put, List.setIfInBounds_toArray, List.set_cons_zero, List.set_cons_succ]
          refine wpAnyH_ready (rs := [6]) (by kernel_rfl) (by simp) ?_
          refine AllReadyH.cons rfl (fun K hK => ?_) AllReadyH.nil
          go_simp
          go_at_call 33
          refine (unhide HIy _ (unhide HBwd)).mono ?_
          rintro e w6 ⟨rfl, hb6⟩
          have HB36 := hide ((unhide HB3d).trans (hb6.mono (unhide HB3d).size))
          have HBw6 := hide ((unhide HBwd).trans (hb6.mono (unhide HBwd).size))
          have HK6 := hide (unhide HSall w6 (unhide HBw6) (unhide HB36))
          clear hb6
          go_wp2_with fail
          refine hK.out _ _ (unhide HK6) (fun _ => ?_)
          clear hK
          refine wpAnyH_take (i := 7) (oi := _) (v := ?v7_16) rfl (by kernel_rfl) (by kernel_rfl) (by kernel_rfl) (fun _ _ _ h => h) (Or.inl ⟨by kernel_rfl, ?y7_16⟩) (unhide HK6) ?_
          case y7_16 => intro w hSw; obtain ⟨⟨s0, s1, s2, s3⟩, s4, s5, s6, s7, s8, s9⟩ := hSw; go_simp; first | done | rfl
          simp only [List.getElem_toArray, List.getElem_cons_succ, List.getElem_cons_zero, Act.put, List.setIfInBounds_toArray, List.set_cons_zero, List.set_cons_succ]
          refine wpAnyH_take (i := 8) (oi := _) (v := ?v8_17) rfl (by kernel_rfl) (by kernel_rfl) (by kernel_rfl) (fun _ _ _ h => h) (Or.inl ⟨by kernel_rfl, ?y8_17⟩) (unhide HK6) ?_
          case y8_17 => intro w hSw; obtain ⟨⟨s0, s1, s2, s3⟩, s4, s5, s6, s7, s8, s9⟩ := hSw; go_simp; first | done | rfl
          simp only [List.getElem_toArray, List.getElem_cons_succ, List.getElem_cons_zero, Act.put, List.setIfInBounds_toArray, List.set_cons_zero, List.set_cons_succ]
          refine wpAnyH_take (i := 9) (oi := _) (v := ?v9_18) rfl (by kernel_rfl) (by kernel_rfl) (by kernel_rfl) (fun _ _ _ h => h) (Or.inl ⟨by kernel_rfl, ?y9_18⟩) (unhide HK6) ?_
          case y9_18 => intro w hSw; obtain ⟨⟨s0, s1, s2, s3⟩, s4, s5, s6, s7, s8, s9⟩ := hSw; go_simp; first | done | rfl
          simp only [List.getElem_toArray, List.getElem_cons_succ, List.getElem_cons_zero, Act.put, List.setIfInBounds_toArray, List.set_cons_zero, List.set_cons_succ]
          refine wpAnyH_take (i := 10) (oi := _) (v := ?v10_19) rfl (by kernel_rfl) (by kernel_rfl) (by kernel_rfl) (fun _ _ _ h => h) (Or.inl ⟨by kernel_rfl, ?y10_19⟩) (unhide HK6) ?_
          case y10_19 => intro w hSw; obtain ⟨⟨s0, s1, s2, s3⟩, s4, s5, s6, s7, s8, s9⟩ := hSw; go_simp; first | done | rfl
          simp only [List.getElem_toArray, List.getElem_cons_succ, List.getElem_cons_zero, Act.put, List.setIfInBounds_toArray, List.set_cons_zero, List.set_cons_succ]
          refine wpAnyH_take (i := 11) (oi := _) (v := ?v11_20) rfl (by kernel_rfl) (by kernel_rfl) (by kernel_rfl) (fun _ _ _ h => h) (Or.inl ⟨by kernel_rfl, ?y11_20⟩) (unhide HK6) ?_
          case y11_20 => intro w hSw; obtain ⟨⟨s0, s1, s2, s3⟩, s4, s5, s6, s7, s8, s9⟩ := hSw; go_simp; first | done | rfl
          simp only [List.getElem_toArray, List.getElem_cons_succ, List.getElem_cons_zero, Act.put, List.setIfInBounds_toArray, List.set_cons_zero, List.set_cons_succ]
          refine wpAnyH_take (i := 12) (oi := _) (v := ?v12_21) rfl (by kernel_rfl) (by kernel_rfl) (by kernel_rfl) (fun _ _ _ h => h) (Or.inl ⟨by kernel_rfl, ?y12_21⟩) (unhide HK6) ?_
          case y12_21 => intro w hSw; obtain ⟨⟨s0, s1, s2, s3⟩, s4, s5, s6, s7, s8, s9⟩ := hSw; go_simp; first | done | rfl
          simp only [List.getElem_toArray, List.getElem_cons_succ, List.getElem_cons_zero, Act.put, List.setIfInBounds_toArray, List.set_cons_zero, List.set_cons_succ]
          refine wpAnyH_take (i := 13) (oi := _) (v := ?v13_22) rfl (by kernel_rfl) (by kernel_rfl) (by kernel_rfl) (fun _ _ _ h => h) (Or.inl ⟨by kernel_rfl, ?y13_22⟩) (unhide HK6) ?_
          case y13_22 => intro w hSw; obtain ⟨⟨s0, s1, s2, s3⟩, s4, s5, s6, s7, s8, s9⟩ := hSw; go_simp; first | done | rfl
          simp only [List.getElem_toArray, List.getElem_cons_succ, List.getElem_cons_zero, Act.put, List.setIfInBounds_toArray, List.set_cons_zero, List.set_cons_succ]
          refine wpAnyH_take (i := 14) (oi := _) (v := ?v14_23) rfl (by kernel_rfl) (by kernel_rfl) (by kernel_rfl) (fun _ _ _ h => h) (Or.inl ⟨by kernel_rfl, ?y14_23⟩) (unhide HK6) ?_
          case y14_23 => intro w hSw; obtain ⟨⟨s0, s1, s2, s3⟩, s4, s5, s6, s7, s8, s9⟩ := hSw; go_simp; first | done | rfl
          simp only [List.getElem_toArray, List.getElem_cons_succ, List.getElem_cons_zero, Act.put, List.setIfInBounds_toArray, List.set_cons_zero, List.set_cons_succ]
          refine wpAnyH_take (i := 16) (oi := _) (v := ?v16_24) rfl (by kernel_rfl) (by kernel_rfl) (by kernel_rfl) (fun _ _ _ h => h) (Or.inl ⟨by kernel_rfl, ?y16_24⟩) (unhide HK6) ?_
          case y16_24 => intro w hSw; obtain ⟨⟨s0, s1, s2, s3⟩, s4, s5, s6, s7, s8, s9⟩ := hSw; go_simp; first | done | rfl
          simp only [List.getElem_toArray, List.getElem_cons_succ, List.getElem_cons_zero, Act.put, List.setIfInBounds_toArray, List.set_cons_zero, List.set_cons_succ]
          refine wpAnyH_take (i := 17) (oi := _) (v := ?v17_25) rfl (by kernel_rfl) (by kernel_rfl) (by kernel_rfl) (fun _ _ _ h => h) (Or.inl ⟨by kernel_rfl, ?y17_25⟩) (unhide HK6) ?_
          case y17_25 => intro w hSw; obtain ⟨⟨s0, s1, s2, s3⟩, s4, s5, s6, s7, s8, s9⟩ := hSw; go_simp; first | done | rfl
          simp only [List.getElem_toArray, List.getElem_cons_succ, List.getElem_cons_zero, Act.put, List.setIfInBounds_toArray, List.set_cons_zero, List.set_cons_succ]
          refine wpAnyH_take (i := 18) (oi := _) (v := ?v18_26) rfl (by kernel_rfl) (by kernel_rfl) (by kernel_rfl) (fun _ _ _ h => h) (Or.inl ⟨by kernel_rfl, ?y18_26⟩) (unhide HK6) ?_
          case y18_26 => intro w hSw; obtain ⟨⟨s0, s1, s2, s3⟩, s4, s5, s6, s7, s8, s9⟩ := hSw; go_simp; first | done | rfl
          simp only [List.getElem_toArray, List.getElem_cons_succ, List.getElem_cons_zero, Act.put, List.setIfInBounds_toArray, List.set_cons_zero, List.set_cons_succ]
          refine wpAnyH_take (i := 19) (oi := _) (v := ?v19_27) rfl (by kernel_rfl) (by kernel_rfl) (by kernel_rfl) (fun _ _ _ h => h) (Or.inl ⟨by kernel_rfl, ?y19_27⟩) (unhide HK6) ?_
          case y19_27 => intro w hSw; obtain ⟨⟨s0, s1, s2, s3⟩, s4, s5, s6, s7, s8, s9⟩ := hSw; go_simp; first | done | rfl
          simp only [List.getElem_toArray, List.getElem_cons_succ, List.getElem_cons_zero, Act.put, List.setIfInBounds_toArray, List.set_cons_zero, List.set_cons_succ]
          refine wpAnyH_take (i := 20) (oi := _) (v := ?v20_28) rfl (by kernel_rfl) (by kernel_rfl) (by kernel_rfl) (fun _ _ _ h => h) (Or.inl ⟨by kernel_rfl, ?y20_28⟩) (unhide HK6) ?_
          case y20_28 => intro w hSw; obtain ⟨⟨s0, s1, s2, s3⟩, s4, s5, s6, s7, s8, s9⟩ := hSw; go_simp; first | done | rfl
          simp only [List.getElem_toArray, List.getElem_cons_succ, List.getElem_cons_zero, Act.put, List.setIfInBounds_toArray, List.set_cons_zero, List.set_cons_succ]
          refine wpAnyH_take (i := 21) (oi := _) (v := ?v21_29) rfl (by kernel_rfl) (by kernel_rfl) (by kernel_rfl) (fun _ _ _ h => h) (Or.inl ⟨by kernel_rfl, ?y21_29⟩) (unhide HK6) ?_
          case y21_29 => intro w hSw; obtain ⟨⟨s0, s1, s2, s3⟩, s4, s5, s6, s7, s8, s9⟩ := hSw; go_simp; first | done | rfl
          simp only [List.getElem_toArray, List.getElem_cons_succ, List.getElem_cons_zero, Act.put, List.setIfInBounds_toArray, List.set_cons_zero, List.set_cons_succ]
          refine wpAnyH_ready (rs := [15]) (by kernel_rfl) (by simp) ?_
          refine AllReadyH.cons rfl (fun K hK => ?_) AllReadyH.nil
          go_simp
          go_at_call 34
          refine (unhide HEn _).mono ?_
          rintro e w7 ⟨rfl, rfl⟩
          go_wp2_with fail
          refine hK.out _ _ (unhide HK6) (fun _ => ?_)
          clear hK
          refine wpAnyH_take (i := 22) (oi := _) (v := ?v22_30) rfl (by kernel_rfl) (by kernel_rfl) (by kernel_rfl) (fun _ _ _ h => h) (Or.inl ⟨by kernel_rfl, ?y22_30⟩) (unhide HK6) ?_
          case y22_30 => intro w hSw; go_simp; first | done | rfl
          simp only [List.getElem_toArray, List.getElem_cons_succ, List.getElem_cons_zero, Act.put, List.setIfInBounds_toArray, List.set_cons_zero, List.set_cons_succ]
          refine wpAnyH_take (i := 23) (oi := _) (v := ?v23_31) rfl (by kernel_rfl) (by kernel_rfl) (by kernel_rfl) (fun _ _ _ h => h) (Or.inl ⟨by kernel_rfl, ?y23_31⟩) (unhide HK6) ?_
          case y23_31 => intro w hSw; go_simp; first | done | rfl
          simp only [List.getElem_toArray, List.getElem_cons_succ, List.getElem_cons_zero, Act.put, List.setIfInBounds_toArray, List.set_cons_zero, List.set_cons_succ]
          refine wpAnyH_done (by kernel_rfl) ?_ _
          have HOk2 := hide (show okAt re rs ins k = true by rw [unhide HAt]; simp [unhide HLast])
          go_wp2
          go_roundw
          case rel => exact ⟨k + 1, by go_num, by omega, fun i hi => by
           by_cases e : i = k
           ·subst e; exact unhide HOk2
           ·exact unhide HOk i (by omega), unhide HB36⟩
          case measure => simp [intOf]; omega
        | false =>
          refine wp_region_held_drew (S := fun wx => ((wx.cell? ⟨w.heap.size, 0, none⟩ = some (.int .i64 pa) ∧ wx.cell? ⟨w.heap.size, 1, none⟩ = some (.int .i64 re) ∧ wx.cell? ⟨w.heap.size, 2, none⟩ = some (.bool rs) ∧ wx.cell? ⟨w.heap.size, 3, none⟩ = some (.slice (some ⟨b, o, none⟩) n cp)) ∧ (wx.cell? ⟨WO.heap.size, 0, none⟩ = some (.slice (some ⟨bi, oi, none⟩) il ci)) ∧ (wx.cell? ⟨bi, oi + k * 5, none⟩ = some (.int .u8 (op : Int)) ∧ wx.cell? ⟨bi, oi + k * 5 + 1, none⟩ = some (.int .i64 dst) ∧ wx.cell? ⟨bi, oi + k * 5 + 2, none⟩ = some (.slice sa sl sc) ∧ wx.cell? ⟨bi, oi + k * 5 + 3, none⟩ = some (.int .i64 nn) ∧ wx.cell? ⟨bi, oi + k * 5 + 4, none⟩ = some (.int .u32 of)))) (by kernel_rfl) (unhide HKd) (fun _ => ?_)
          refine wpAnyH_take (i := 0) (oi := _) (v := ?v0_32) rfl (by kernel_rfl) (by kernel_rfl) (by kernel_rfl) (fun _ _ _ h => h) (Or.inl ⟨by kernel_rfl, ?y0_32⟩) (unhide HKd) ?_
          case y0_32 => intro w hSw; obtain ⟨⟨s0, s1, s2, s3⟩, s4, s5, s6, s7, s8, s9⟩ := hSw; go_simp; first | done | rfl
          simp only [List.getElem_toArray, List.getElem_cons_succ, List.getElem_cons_zero, Act.put, List.setIfInBounds_toArray, List.set_cons_zero, List.set_cons_succ]
          refine wpAnyH_take (i := 1) (oi := _) (v := ?v1_33) rfl (by kernel_rfl) (by kernel_rfl) (by kernel_rfl) (fun _ _ _ h => h) (Or.inl ⟨by kernel_rfl, ?y1_33⟩) (unhide HKd) ?_
          case y1_33 => intro w hSw; obtain ⟨⟨s0, s1, s2, s3⟩, s4, s5, s6, s7, s8, s9⟩ := hSw; go_simp; first | done | rfl
          simp only [List.getElem_toArray, List.getElem_cons_succ, List.getElem_cons_zero, Act.put, List.setIfInBounds_toArray, List.set_cons_zero, List.set_cons_succ]
          refine wpAnyH_take (i := 2) (oi := _) (v := ?v2_34) rfl (by kernel_rfl) (by kernel_rfl) (by kernel_rfl) (fun _ _ _ h => h) (Or.inl ⟨by kernel_rfl, ?y2_34⟩) (unhide HKd) ?_
          case y2_34 => intro w hSw; obtain ⟨⟨s0, s1, s2, s3⟩, s4, s5, s6, s7, s8, s9⟩ := hSw; go_simp; first | done | rfl
          simp only [List.getElem_toArray, List.getElem_cons_succ, List.getElem_cons_zero, Act.put, List.setIfInBounds_toArray, List.set_cons_zero, List.set_cons_succ]
          refine wpAnyH_take (i := 3) (oi := _) (v := ?v3_35) rfl (by kernel_rfl) (by kernel_rfl) (by kernel_rfl) (fun _ _ _ h => h) (Or.inl ⟨by kernel_rfl, ?y3_35⟩) (unhide HKd) ?_
          case y3_35 => intro w hSw; obtain ⟨⟨s0, s1, s2, s3⟩, s4, s5, s6, s7, s8, s9⟩ := hSw; go_simp; first | done | rfl
          simp only [List.getElem_toArray, List.getElem_cons_succ, List.getElem_cons_zero, Act.put, List.setIfInBounds_toArray, List.set_cons_zero, List.set_cons_succ]
          refine wpAnyH_take (i := 4) (oi := _) (v := ?v4_36) rfl (by kernel_rfl) (by kernel_rfl) (by kernel_rfl) (fun _ _ _ h => h) (Or.inl ⟨by kernel_rfl, ?y4_36⟩) (unhide HKd) ?_
          case y4_36 => intro w hSw; obtain ⟨⟨s0, s1, s2, s3⟩, s4, s5, s6, s7, s8, s9⟩ := hSw; go_simp; first | done | rfl
          simp only [List.getElem_toArray, List.getElem_cons_succ, List.getElem_cons_zero, Act.put, List.setIfInBounds_toArray, List.set_cons_zero, List.set_cons_succ]
          refine wpAnyH_take (i := 5) (oi := _) (v := ?v5_37) rfl (by kernel_rfl) (by kernel_rfl) (by kernel_rfl) (fun _ _ _ h => h) (Or.inl ⟨by kernel_rfl, ?y5_37⟩) (unhide HKd) ?_
          case y5_37 => intro w hSw; obtain ⟨⟨s0, s1, s2, s3⟩, s4, s5, s6, s7, s8, s9⟩ := hSw; go_simp; first | done | rfl
          simp only [List.getElem_toArray, List.getElem_cons_succ, List.getElem_cons_zero, Act.put, List.setIfInBounds_toArray, List.set_cons_zero, List.set_cons_succ]
          refine wpAnyH_ready (rs := [6]) (by kernel_rfl) (by simp) ?_
          refine AllReadyH.cons rfl (fun K hK => ?_) AllReadyH.nil
          go_simp
          go_at_call 33
          refine (unhide HIy _ (unhide HBwd)).mono ?_
          rintro e w6 ⟨rfl, hb6⟩
          have HB36 := hide ((unhide HB3d).trans (hb6.mono (unhide HB3d).size))
          have HBw6 := hide ((unhide HBwd).trans (hb6.mono (unhide HBwd).size))
          have HK6 := hide (unhide HSall w6 (unhide HBw6) (unhide HB36))
          clear hb6
          go_wp2_with fail
          refine hK.out _ _ (unhide HK6) (fun _ => ?_)
          clear hK
          refine wpAnyH_take (i := 7) (oi := _) (v := ?v7_38) rfl (by kernel_rfl) (by kernel_rfl) (by kernel_rfl) (fun _ _ _ h => h) (Or.inl ⟨by kernel_rfl, ?y7_38⟩) (unhide HK6) ?_
          case y7_38 => intro w hSw; obtain ⟨⟨s0, s1, s2, s3⟩, s4, s5, s6, s7, s8, s9⟩ := hSw; go_simp; first | done | rfl
          simp only [List.getElem_toArray, List.getElem_cons_succ, List.getElem_cons_zero, Act.put, List.setIfInBounds_toArray, List.set_cons_zero, List.set_cons_succ]
          refine wpAnyH_take (i := 8) (oi := _) (v := ?v8_39) rfl (by kernel_rfl) (by kernel_rfl) (by kernel_rfl) (fun _ _ _ h => h) (Or.inl ⟨by kernel_rfl, ?y8_39⟩) (unhide HK6) ?_
          case y8_39 => intro w hSw; obtain ⟨⟨s0, s1, s2, s3⟩, s4, s5, s6, s7, s8, s9⟩ := hSw; go_simp; first | done | rfl
          simp only [List.getElem_toArray, List.getElem_cons_succ, List.getElem_cons_zero, Act.put, List.setIfInBounds_toArray, List.set_cons_zero, List.set_cons_succ]
          refine wpAnyH_take (i := 9) (oi := _) (v := ?v9_40) rfl (by kernel_rfl) (by kernel_rfl) (by kernel_rfl) (fun _ _ _ h => h) (Or.inl ⟨by kernel_rfl, ?y9_40⟩) (unhide HK6) ?_
          case y9_40 => intro w hSw; obtain ⟨⟨s0, s1, s2, s3⟩, s4, s5, s6, s7, s8, s9⟩ := hSw; go_simp; first | done | rfl
          simp only [List.getElem_toArray, List.getElem_cons_succ, List.getElem_cons_zero, Act.put, List.setIfInBounds_toArray, List.set_cons_zero, List.set_cons_succ]
          refine wpAnyH_take (i := 10) (oi := _) (v := ?v10_41) rfl (by kernel_rfl) (by kernel_rfl) (by kernel_rfl) (fun _ _ _ h => h) (Or.inl ⟨by kernel_rfl, ?y10_41⟩) (unhide HK6) ?_
          case y10_41 => intro w hSw; obtain ⟨⟨s0, s1, s2, s3⟩, s4, s5, s6, s7, s8, s9⟩ := hSw; go_simp; first | done | rfl
          simp only [List.getElem_toArray, List.getElem_cons_succ, List.getElem_cons_zero, Act.put, List.setIfInBounds_toArray, List.set_cons_zero, List.set_cons_succ]
          refine wpAnyH_take (i := 11) (oi := _) (v := ?v11_42) rfl (by kernel_rfl) (by kernel_rfl) (by kernel_rfl) (fun _ _ _ h => h) (Or.inl ⟨by kernel_rfl, ?y11_42⟩) (unhide HK6) ?_
          case y11_42 => intro w hSw; obtain ⟨⟨s0, s1, s2, s3⟩, s4, s5, s6, s7, s8, s9⟩ := hSw; go_simp; first | done | rfl
          simp only [List.getElem_toArray, List.getElem_cons_succ, List.getElem_cons_zero, Act.put, List.setIfInBounds_toArray, List.set_cons_zero, List.set_cons_succ]
          refine wpAnyH_take (i := 12) (oi := _) (v := ?v12_43) rfl (by kernel_rfl) (by kernel_rfl) (by kernel_rfl) (fun _ _ _ h => h) (Or.inl ⟨by kernel_rfl, ?y12_43⟩) (unhide HK6) ?_
          case y12_43 => intro w hSw; obtain ⟨⟨s0, s1, s2, s3⟩, s4, s5, s6, s7, s8, s9⟩ := hSw; go_simp; first | done | rfl
          simp only [List.getElem_toArray, List.getElem_cons_succ, List.getElem_cons_zero, Act.put, List.setIfInBounds_toArray, List.set_cons_zero, List.set_cons_succ]
          refine wpAnyH_take (i := 13) (oi := _) (v := ?v13_44) rfl (by kernel_rfl) (by kernel_rfl) (by kernel_rfl) (fun _ _ _ h => h) (Or.inl ⟨by kernel_rfl, ?y13_44⟩) (unhide HK6) ?_
          case y13_44 => intro w hSw; obtain ⟨⟨s0, s1, s2, s3⟩, s4, s5, s6, s7, s8, s9⟩ := hSw; go_simp; first | done | rfl
          simp only [List.getElem_toArray, List.getElem_cons_succ, List.getElem_cons_zero, Act.put, List.setIfInBounds_toArray, List.set_cons_zero, List.set_cons_succ]
          refine wpAnyH_take (i := 14) (oi := _) (v := ?v14_45) rfl (by kernel_rfl) (by kernel_rfl) (by kernel_rfl) (fun _ _ _ h => h) (Or.inl ⟨by kernel_rfl, ?y14_45⟩) (unhide HK6) ?_
          case y14_45 => intro w hSw; obtain ⟨⟨s0, s1, s2, s3⟩, s4, s5, s6, s7, s8, s9⟩ := hSw; go_simp; first | done | rfl
          simp only [List.getElem_toArray, List.getElem_cons_succ, List.getElem_cons_zero, Act.put, List.setIfInBounds_toArray, List.set_cons_zero, List.set_cons_succ]
          refine wpAnyH_take (i := 16) (oi := _) (v := ?v16_46) rfl (by kernel_rfl) (by kernel_rfl) (by kernel_rfl) (fun _ _ _ h => h) (Or.inl ⟨by kernel_rfl, ?y16_46⟩) (unhide HK6) ?_
          case y16_46 => intro w hSw; obtain ⟨⟨s0, s1, s2, s3⟩, s4, s5, s6, s7, s8, s9⟩ := hSw; go_simp; first | done | rfl
          simp only [List.getElem_toArray, List.getElem_cons_succ, List.getElem_cons_zero, Act.put, List.setIfInBounds_toArray, List.set_cons_zero, List.set_cons_succ]
          refine wpAnyH_take (i := 17) (oi := _) (v := ?v17_47) rfl (by kernel_rfl) (by kernel_rfl) (by kernel_rfl) (fun _ _ _ h => h) (Or.inl ⟨by kernel_rfl, ?y17_47⟩) (unhide HK6) ?_
          case y17_47 => intro w hSw; obtain ⟨⟨s0, s1, s2, s3⟩, s4, s5, s6, s7, s8, s9⟩ := hSw; go_simp; first | done | rfl
          simp only [List.getElem_toArray, List.getElem_cons_succ, List.getElem_cons_zero, Act.put, List.setIfInBounds_toArray, List.set_cons_zero, List.set_cons_succ]
          refine wpAnyH_take (i := 18) (oi := _) (v := ?v18_48) rfl (by kernel_rfl) (by kernel_rfl) (by kernel_rfl) (fun _ _ _ h => h) (Or.inl ⟨by kernel_rfl, ?y18_48⟩) (unhide HK6) ?_
          case y18_48 => intro w hSw; obtain ⟨⟨s0, s1, s2, s3⟩, s4, s5, s6, s7, s8, s9⟩ := hSw; go_simp; first | done | rfl
          simp only [List.getElem_toArray, List.getElem_cons_succ, List.getElem_cons_zero, Act.put, List.setIfInBounds_toArray, List.set_cons_zero, List.set_cons_succ]
          refine wpAnyH_take (i := 19) (oi := _) (v := ?v19_49) rfl (by kernel_rfl) (by kernel_rfl) (by kernel_rfl) (fun _ _ _ h => h) (Or.inl ⟨by kernel_rfl, ?y19_49⟩) (unhide HK6) ?_
          case y19_49 => intro w hSw; obtain ⟨⟨s0, s1, s2, s3⟩, s4, s5, s6, s7, s8, s9⟩ := hSw; go_simp; first | done | rfl
          simp only [List.getElem_toArray, List.getElem_cons_succ, List.getElem_cons_zero, Act.put, List.setIfInBounds_toArray, List.set_cons_zero, List.set_cons_succ]
          refine wpAnyH_take (i := 20) (oi := _) (v := ?v20_50) rfl (by kernel_rfl) (by kernel_rfl) (by kernel_rfl) (fun _ _ _ h => h) (Or.inl ⟨by kernel_rfl, ?y20_50⟩) (unhide HK6) ?_
          case y20_50 => intro w hSw; obtain ⟨⟨s0, s1, s2, s3⟩, s4, s5, s6, s7, s8, s9⟩ := hSw; go_simp; first | done | rfl
          simp only [List.getElem_toArray, List.getElem_cons_succ, List.getElem_cons_zero, Act.put, List.setIfInBounds_toArray, List.set_cons_zero, List.set_cons_succ]
          refine wpAnyH_take (i := 21) (oi := _) (v := ?v21_51) rfl (by kernel_rfl) (by kernel_rfl) (by kernel_rfl) (fun _ _ _ h => h) (Or.inl ⟨by kernel_rfl, ?y21_51⟩) (unhide HK6) ?_
          case y21_51 => intro w hSw; obtain ⟨⟨s0, s1, s2, s3⟩, s4, s5, s6, s7, s8, s9⟩ := hSw; go_simp; first | done | rfl
          simp only [List.getElem_toArray, List.getElem_cons_succ, List.getElem_cons_zero, Act.put, List.setIfInBounds_toArray, List.set_cons_zero, List.set_cons_succ]
          refine wpAnyH_ready (rs := [15]) (by kernel_rfl) (by simp) ?_
          refine AllReadyH.cons rfl (fun K hK => ?_) AllReadyH.nil
          go_simp
          go_at_call 34
          refine (unhide HEn _).mono ?_
          rintro e w7 ⟨rfl, rfl⟩
          go_wp2_with fail
          refine hK.out _ _ (unhide HK6) (fun _ => ?_)
          clear hK
          refine wpAnyH_take (i := 22) (oi := _) (v := ?v22_52) rfl (by kernel_rfl) (by kernel_rfl) (by kernel_rfl) (fun _ _ _ h => h) (Or.inl ⟨by kernel_rfl, ?y22_52⟩) (unhide HK6) ?_
          case y22_52 => intro w hSw; go_simp; first | done | rfl
          simp only [List.getElem_toArray, List.getElem_cons_succ, List.getElem_cons_zero, Act.put, List.setIfInBounds_toArray, List.set_cons_zero, List.set_cons_succ]
          refine wpAnyH_take (i := 23) (oi := _) (v := ?v23_53) rfl (by kernel_rfl) (by kernel_rfl) (by kernel_rfl) (fun _ _ _ h => h) (Or.inl ⟨by kernel_rfl, ?y23_53⟩) (unhide HK6) ?_
          case y23_53 => intro w hSw; go_simp; first | done | rfl
          simp only [List.getElem_toArray, List.getElem_cons_succ, List.getElem_cons_zero, Act.put, List.setIfInBounds_toArray, List.set_cons_zero, List.set_cons_succ]
          refine wpAnyH_done (by kernel_rfl) ?_ _
          have HF := hide (unhide HNo2 (by rw [unhide HAt]; simp [unhide HLast]))
          go_wp2
          go_ret
          exact ⟨unhide HF, unhide HBw6⟩
       ·have tl1 : ((k : Int) == (il : Int) - 1) = false := by simp; omega
        have tl2 : ((k : Int) == IntKind.i64.wrap ((il : Int) - 1)) = false := by rw [IntKind.wrap_i64]; simp; omega
        have HLast := hide hlast
        clear hlast
        cases EN with
        | true =>
          refine wp_region_held_drew (S := fun wx => ((wx.cell? ⟨w.heap.size, 0, none⟩ = some (.int .i64 pa) ∧ wx.cell? ⟨w.heap.size, 1, none⟩ = some (.int .i64 re) ∧ wx.cell? ⟨w.heap.size, 2, none⟩ = some (.bool rs) ∧ wx.cell? ⟨w.heap.size, 3, none⟩ = some (.slice (some ⟨b, o, none⟩) n cp)) ∧ (wx.cell? ⟨WO.heap.size, 0, none⟩ = some (.slice (some ⟨bi, oi, none⟩) il ci)) ∧ (wx.cell? ⟨bi, oi + k * 5, none⟩ = some (.int .u8 (op : Int)) ∧ wx.cell? ⟨bi, oi + k * 5 + 1, none⟩ = some (.int .i64 dst) ∧ wx.cell? ⟨bi, oi + k * 5 + 2, none⟩ = some (.slice sa sl sc) ∧ wx.cell? ⟨bi, oi + k * 5 + 3, none⟩ = some (.int .i64 nn) ∧ wx.cell? ⟨bi, oi + k * 5 + 4, none⟩ = some (.int .u32 of)))) (by kernel_rfl) (unhide HKd) (fun _ => ?_)
          refine wpAnyH_take (i := 0) (oi := _) (v := ?v0_54) rfl (by kernel_rfl) (by kernel_rfl) (by kernel_rfl) (fun _ _ _ h => h) (Or.inl ⟨by kernel_rfl, ?y0_54⟩) (unhide HKd) ?_
          case y0_54 => intro w hSw; obtain ⟨⟨s0, s1, s2, s3⟩, s4, s5, s6, s7, s8, s9⟩ := hSw; go_simp; first | done | rfl
          simp only [List.getElem_toArray, List.getElem_cons_succ, List.getElem_cons_zero, Act.put, List.setIfInBounds_toArray, List.set_cons_zero, List.set_cons_succ]
          refine wpAnyH_take (i := 1) (oi := _) (v := ?v1_55) rfl (by kernel_rfl) (by kernel_rfl) (by kernel_rfl) (fun _ _ _ h => h) (Or.inl ⟨by kernel_rfl, ?y1_55⟩) (unhide HKd) ?_
          case y1_55 => intro w hSw; obtain ⟨⟨s0, s1, s2, s3⟩, s4, s5, s6, s7, s8, s9⟩ := hSw; go_simp; first | done | rfl
          simp only [List.getElem_toArray, List.getElem_cons_succ, List.getElem_cons_zero, Act.put, List.setIfInBounds_toArray, List.set_cons_zero, List.set_cons_succ]
          refine wpAnyH_take (i := 2) (oi := _) (v := ?v2_56) rfl (by kernel_rfl) (by kernel_rfl) (by kernel_rfl) (fun _ _ _ h => h) (Or.inl ⟨by kernel_rfl, ?y2_56⟩) (unhide HKd) ?_
          case y2_56 => intro w hSw; obtain ⟨⟨s0, s1, s2, s3⟩, s4, s5, s6, s7, s8, s9⟩ := hSw; go_simp; first | done | rfl
          simp only [List.getElem_toArray, List.getElem_cons_succ, List.getElem_cons_zero, Act.put, List.setIfInBounds_toArray, List.set_cons_zero, List.set_cons_succ]
          refine wpAnyH_take (i := 3) (oi := _) (v := ?v3_57) rfl (by kernel_rfl) (by kernel_rfl) (by kernel_rfl) (fun _ _ _ h => h) (Or.inl ⟨by kernel_rfl, ?y3_57⟩) (unhide HKd) ?_
          case y3_57 => intro w hSw; obtain ⟨⟨s0, s1, s2, s3⟩, s4, s5, s6, s7, s8, s9⟩ := hSw; go_simp; first | done | rfl
          simp only [List.getElem_toArray, List.getElem_cons_succ, List.getElem_cons_zero, Act.put, List.setIfInBounds_toArray, List.set_cons_zero, List.set_cons_succ]
          refine wpAnyH_take (i := 4) (oi := _) (v := ?v4_58) rfl (by kernel_rfl) (by kernel_rfl) (by kernel_rfl) (fun _ _ _ h => h) (Or.inl ⟨by kernel_rfl, ?y4_58⟩) (unhide HKd) ?_
          case y4_58 => intro w hSw; obtain ⟨⟨s0, s1, s2, s3⟩, s4, s5, s6, s7, s8, s9⟩ := hSw; go_simp; first | done | rfl
          simp only [List.getElem_toArray, List.getElem_cons_succ, List.getElem_cons_zero, Act.put, List.setIfInBounds_toArray, List.set_cons_zero, List.set_cons_succ]
          refine wpAnyH_take (i := 5) (oi := _) (v := ?v5_59) rfl (by kernel_rfl) (by kernel_rfl) (by kernel_rfl) (fun _ _ _ h => h) (Or.inl ⟨by kernel_rfl, ?y5_59⟩) (unhide HKd) ?_
          case y5_59 => intro w hSw; obtain ⟨⟨s0, s1, s2, s3⟩, s4, s5, s6, s7, s8, s9⟩ := hSw; go_simp; first | done | rfl
          simp only [List.getElem_toArray, List.getElem_cons_succ, List.getElem_cons_zero, Act.put, List.setIfInBounds_toArray, List.set_cons_zero, List.set_cons_succ]
          refine wpAnyH_ready (rs := [6]) (by kernel_rfl) (by simp) ?_
          refine AllReadyH.cons rfl (fun K hK => ?_) AllReadyH.nil
          go_simp
          go_at_call 33
          refine (unhide HIy _ (unhide HBwd)).mono ?_
          rintro e w6 ⟨rfl, hb6⟩
          have HB36 := hide ((unhide HB3d).trans (hb6.mono (unhide HB3d).size))
          have HBw6 := hide ((unhide HBwd).trans (hb6.mono (unhide HBwd).size))
          have HK6 := hide (unhide HSall w6 (unhide HBw6) (unhide HB36))
          clear hb6
          go_wp2_with fail
          refine hK.out _ _ (unhide HK6) (fun _ => ?_)
          clear hK
          refine wpAnyH_take (i := 7) (oi := _) (v := ?v7_60) rfl (by kernel_rfl) (by kernel_rfl) (by kernel_rfl) (fun _ _ _ h => h) (Or.inl ⟨by kernel_rfl, ?y7_60⟩) (unhide HK6) ?_
          case y7_60 => intro w hSw; obtain ⟨⟨s0, s1, s2, s3⟩, s4, s5, s6, s7, s8, s9⟩ := hSw; go_simp; first | done | rfl
          simp only [List.getElem_toArray, List.getElem_cons_succ, List.getElem_cons_zero, Act.put, List.setIfInBounds_toArray, List.set_cons_zero, List.set_cons_succ]
          refine wpAnyH_take (i := 8) (oi := _) (v := ?v8_61) rfl (by kernel_rfl) (by kernel_rfl) (by kernel_rfl) (fun _ _ _ h => h) (Or.inl ⟨by kernel_rfl, ?y8_61⟩) (unhide HK6) ?_
          case y8_61 => intro w hSw; obtain ⟨⟨s0, s1, s2, s3⟩, s4, s5, s6, s7, s8, s9⟩ := hSw; go_simp; first | done | rfl
          simp only [List.getElem_toArray, List.getElem_cons_succ, List.getElem_cons_zero, Act.put, List.setIfInBounds_toArray, List.set_cons_zero, List.set_cons_succ]
          refine wpAnyH_take (i := 9) (oi := _) (v := ?v9_62) rfl (by kernel_rfl) (by kernel_rfl) (by kernel_rfl) (fun _ _ _ h => h) (Or.inl ⟨by kernel_rfl, ?y9_62⟩) (unhide HK6) ?_
          case y9_62 => intro w hSw; obtain ⟨⟨s0, s1, s2, s3⟩, s4, s5, s6, s7, s8, s9⟩ := hSw; go_simp; first | done | rfl
          simp only [List.getElem_toArray, List.getElem_cons_succ, List.getElem_cons_zero, Act.put, List.setIfInBounds_toArray, List.set_cons_zero, List.set_cons_succ]
          refine wpAnyH_take (i := 10) (oi := _) (v := ?v10_63) rfl (by kernel_rfl) (by kernel_rfl) (by kernel_rfl) (fun _ _ _ h => h) (Or.inl ⟨by kernel_rfl, ?y10_63⟩) (unhide HK6) ?_
          case y10_63 => intro w hSw; obtain ⟨⟨s0, s1, s2, s3⟩, s4, s5, s6, s7, s8, s9⟩ := hSw; go_simp; first | done | rfl
          simp only [List.getElem_toArray, List.getElem_cons_succ, List.getElem_cons_zero, Act.put, List.setIfInBounds_toArray, List.set_cons_zero, List.set_cons_succ]
          refine wpAnyH_take (i := 11) (oi := _) (v := ?v11_64) rfl (by kernel_rfl) (by kernel_rfl) (by kernel_rfl) (fun _ _ _ h => h) (Or.inl ⟨by kernel_rfl, ?y11_64⟩) (unhide HK6) ?_
          case y11_64 => intro w hSw; obtain ⟨⟨s0, s1, s2, s3⟩, s4, s5, s6, s7, s8, s9⟩ := hSw; go_simp; first | done | rfl
          simp only [List.getElem_toArray, List.getElem_cons_succ, List.getElem_cons_zero, Act.put, List.setIfInBounds_toArray, List.set_cons_zero, List.set_cons_succ]
          refine wpAnyH_take (i := 12) (oi := _) (v := ?v12_65) rfl (by kernel_rfl) (by kernel_rfl) (by kernel_rfl) (fun _ _ _ h => h) (Or.inl ⟨by kernel_rfl, ?y12_65⟩) (unhide HK6) ?_
          case y12_65 => intro w hSw; obtain ⟨⟨s0, s1, s2, s3⟩, s4, s5, s6, s7, s8, s9⟩ := hSw; go_simp; first | done | rfl
          simp only [List.getElem_toArray, List.getElem_cons_succ, List.getElem_cons_zero, Act.put, List.setIfInBounds_toArray, List.set_cons_zero, List.set_cons_succ]
          refine wpAnyH_take (i := 13) (oi := _) (v := ?v13_66) rfl (by kernel_rfl) (by kernel_rfl) (by kernel_rfl) (fun _ _ _ h => h) (Or.inl ⟨by kernel_rfl, ?y13_66⟩) (unhide HK6) ?_
          case y13_66 => intro w hSw; obtain ⟨⟨s0, s1, s2, s3⟩, s4, s5, s6, s7, s8, s9⟩ := hSw; go_simp; first | done | rfl
          simp only [List.getElem_toArray, List.getElem_cons_succ, List.getElem_cons_zero, Act.put, List.setIfInBounds_toArray, List.set_cons_zero, List.set_cons_succ]
          refine wpAnyH_take (i := 14) (oi := _) (v := ?v14_67) rfl (by kernel_rfl) (by kernel_rfl) (by kernel_rfl) (fun _ _ _ h => h) (Or.inl ⟨by kernel_rfl, ?y14_67⟩) (unhide HK6) ?_
          case y14_67 => intro w hSw; obtain ⟨⟨s0, s1, s2, s3⟩, s4, s5, s6, s7, s8, s9⟩ := hSw; go_simp; first | done | rfl
          simp only [List.getElem_toArray, List.getElem_cons_succ, List.getElem_cons_zero, Act.put, List.setIfInBounds_toArray, List.set_cons_zero, List.set_cons_succ]
          refine wpAnyH_take (i := 16) (oi := _) (v := ?v16_68) rfl (by kernel_rfl) (by kernel_rfl) (by kernel_rfl) (fun _ _ _ h => h) (Or.inl ⟨by kernel_rfl, ?y16_68⟩) (unhide HK6) ?_
          case y16_68 => intro w hSw; obtain ⟨⟨s0, s1, s2, s3⟩, s4, s5, s6, s7, s8, s9⟩ := hSw; go_simp; first | done | rfl
          simp only [List.getElem_toArray, List.getElem_cons_succ, List.getElem_cons_zero, Act.put, List.setIfInBounds_toArray, List.set_cons_zero, List.set_cons_succ]
          refine wpAnyH_take (i := 17) (oi := _) (v := ?v17_69) rfl (by kernel_rfl) (by kernel_rfl) (by kernel_rfl) (fun _ _ _ h => h) (Or.inl ⟨by kernel_rfl, ?y17_69⟩) (unhide HK6) ?_
          case y17_69 => intro w hSw; obtain ⟨⟨s0, s1, s2, s3⟩, s4, s5, s6, s7, s8, s9⟩ := hSw; go_simp; first | done | rfl
          simp only [List.getElem_toArray, List.getElem_cons_succ, List.getElem_cons_zero, Act.put, List.setIfInBounds_toArray, List.set_cons_zero, List.set_cons_succ]
          refine wpAnyH_take (i := 18) (oi := _) (v := ?v18_70) rfl (by kernel_rfl) (by kernel_rfl) (by kernel_rfl) (fun _ _ _ h => h) (Or.inl ⟨by kernel_rfl, ?y18_70⟩) (unhide HK6) ?_
          case y18_70 => intro w hSw; obtain ⟨⟨s0, s1, s2, s3⟩, s4, s5, s6, s7, s8, s9⟩ := hSw; go_simp; first | done | rfl
          simp only [List.getElem_toArray, List.getElem_cons_succ, List.getElem_cons_zero, Act.put, List.setIfInBounds_toArray, List.set_cons_zero, List.set_cons_succ]
          refine wpAnyH_take (i := 19) (oi := _) (v := ?v19_71) rfl (by kernel_rfl) (by kernel_rfl) (by kernel_rfl) (fun _ _ _ h => h) (Or.inl ⟨by kernel_rfl, ?y19_71⟩) (unhide HK6) ?_
          case y19_71 => intro w hSw; obtain ⟨⟨s0, s1, s2, s3⟩, s4, s5, s6, s7, s8, s9⟩ := hSw; go_simp; first | done | rfl
          simp only [List.getElem_toArray, List.getElem_cons_succ, List.getElem_cons_zero, Act.put, List.setIfInBounds_toArray, List.set_cons_zero, List.set_cons_succ]
          refine wpAnyH_take (i := 20) (oi := _) (v := ?v20_72) rfl (by kernel_rfl) (by kernel_rfl) (by kernel_rfl) (fun _ _ _ h => h) (Or.inl ⟨by kernel_rfl, ?y20_72⟩) (unhide HK6) ?_
          case y20_72 => intro w hSw; obtain ⟨⟨s0, s1, s2, s3⟩, s4, s5, s6, s7, s8, s9⟩ := hSw; go_simp; first | done | rfl
          simp only [List.getElem_toArray, List.getElem_cons_succ, List.getElem_cons_zero, Act.put, List.setIfInBounds_toArray, List.set_cons_zero, List.set_cons_succ]
          refine wpAnyH_take (i := 21) (oi := _) (v := ?v21_73) rfl (by kernel_rfl) (by kernel_rfl) (by kernel_rfl) (fun _ _ _ h => h) (Or.inl ⟨by kernel_rfl, ?y21_73⟩) (unhide HK6) ?_
          case y21_73 => intro w hSw; obtain ⟨⟨s0, s1, s2, s3⟩, s4, s5, s6, s7, s8, s9⟩ := hSw; go_simp; first | done | rfl
          simp only [List.getElem_toArray, List.getElem_cons_succ, List.getElem_cons_zero, Act.put, List.setIfInBounds_toArray, List.set_cons_zero, List.set_cons_succ]
          refine wpAnyH_ready (rs := [15]) (by kernel_rfl) (by simp) ?_
          refine AllReadyH.cons rfl (fun K hK => ?_) AllReadyH.nil
          go_simp
          go_at_call 34
          refine (unhide HEn _).mono ?_
          rintro e w7 ⟨rfl, rfl⟩
          go_wp2_with fail
          refine hK.out _ _ (unhide HK6) (fun _ => ?_)
          clear hK
          refine wpAnyH_take (i := 22) (oi := _) (v := ?v22_74) rfl (by kernel_rfl) (by kernel_rfl) (by kernel_rfl) (fun _ _ _ h => h) (Or.inl ⟨by kernel_rfl, ?y22_74⟩) (unhide HK6) ?_
          case y22_74 => intro w hSw; go_simp; first | done | rfl
          simp only [List.getElem_toArray, List.getElem_cons_succ, List.getElem_cons_zero, Act.put, List.setIfInBounds_toArray, List.set_cons_zero, List.set_cons_succ]
          refine wpAnyH_take (i := 23) (oi := _) (v := ?v23_75) rfl (by kernel_rfl) (by kernel_rfl) (by kernel_rfl) (fun _ _ _ h => h) (Or.inl ⟨by kernel_rfl, ?y23_75⟩) (unhide HK6) ?_
          case y23_75 => intro w hSw; go_simp; first | done | rfl
          simp only [List.getElem_toArray, List.getElem_cons_succ, List.getElem_cons_zero, Act.put, List.setIfInBounds_toArray, List.set_cons_zero, List.set_cons_succ]
          refine wpAnyH_done (by kernel_rfl) ?_ _
          have HF := hide (unhide HNo2 (by rw [unhide HAt]; simp [unhide HLast]))
          go_wp2
          go_ret
          exact ⟨unhide HF, unhide HBw6⟩
        | false =>
          refine wp_region_held_drew (S := fun wx => ((wx.cell? ⟨w.heap.size, 0, none⟩ = some (.int .i64 pa) ∧ wx.cell? ⟨w.heap.size, 1, none⟩ = some (.int .i64 re) ∧ wx.cell? ⟨w.heap.size, 2, none⟩ = some (.bool rs) ∧ wx.cell? ⟨w.heap.size, 3, none⟩ = some (.slice (some ⟨b, o, none⟩) n cp)) ∧ (wx.cell? ⟨WO.heap.size, 0, none⟩ = some (.slice (some ⟨bi, oi, none⟩) il ci)) ∧ (wx.cell? ⟨bi, oi + k * 5, none⟩ = some (.int .u8 (op : Int)) ∧ wx.cell? ⟨bi, oi + k * 5 + 1, none⟩ = some (.int .i64 dst) ∧ wx.cell? ⟨bi, oi + k * 5 + 2, none⟩ = some (.slice sa sl sc) ∧ wx.cell? ⟨bi, oi + k * 5 + 3, none⟩ = some (.int .i64 nn) ∧ wx.cell? ⟨bi, oi + k * 5 + 4, none⟩ = some (.int .u32 of)))) (by kernel_rfl) (unhide HKd) (fun _ => ?_)
          refine wpAnyH_take (i := 0) (oi := _) (v := ?v0_76) rfl (by kernel_rfl) (by kernel_rfl) (by kernel_rfl) (fun _ _ _ h => h) (Or.inl ⟨by kernel_rfl, ?y0_76⟩) (unhide HKd) ?_
          case y0_76 => intro w hSw; obtain ⟨⟨s0, s1, s2, s3⟩, s4, s5, s6, s7, s8, s9⟩ := hSw; go_simp; first | done | rfl
          simp only [List.getElem_toArray, List.getElem_cons_succ, List.getElem_cons_zero, Act.put, List.setIfInBounds_toArray, List.set_cons_zero, List.set_cons_succ]
          refine wpAnyH_take (i := 1) (oi := _) (v := ?v1_77) rfl (by kernel_rfl) (by kernel_rfl) (by kernel_rfl) (fun _ _ _ h => h) (Or.inl ⟨by kernel_rfl, ?y1_77⟩) (unhide HKd) ?_
          case y1_77 => intro w hSw; obtain ⟨⟨s0, s1, s2, s3⟩, s4, s5, s6, s7, s8, s9⟩ := hSw; go_simp; first | done | rfl
          simp only [List.getElem_toArray, List.getElem_cons_succ, List.getElem_cons_zero, Act.put, List.setIfInBounds_toArray, List.set_cons_zero, List.set_cons_succ]
          refine wpAnyH_take (i := 2) (oi := _) (v := ?v2_78) rfl (by kernel_rfl) (by kernel_rfl) (by kernel_rfl) (fun _ _ _ h => h) (Or.inl ⟨by kernel_rfl, ?y2_78⟩) (unhide HKd) ?_
          case y2_78 => intro w hSw; obtain ⟨⟨s0, s1, s2, s3⟩, s4, s5, s6, s7, s8, s9⟩ := hSw; go_simp; first | done | rfl
          simp only [List.getElem_toArray, List.getElem_cons_succ, List.getElem_cons_zero, Act.put, List.setIfInBounds_toArray, List.set_cons_zero, List.set_cons_succ]
          refine wpAnyH_take (i := 3) (oi := _) (v := ?v3_79) rfl (by kernel_rfl) (by kernel_rfl) (by kernel_rfl) (fun _ _ _ h => h) (Or.inl ⟨by kernel_rfl, ?y3_79⟩) (unhide HKd) ?_
          case y3_79 => intro w hSw; obtain ⟨⟨s0, s1, s2, s3⟩, s4, s5, s6, s7, s8, s9⟩ := hSw; go_simp; first | done | rfl
          simp only [List.getElem_toArray, List.getElem_cons_succ, List.getElem_cons_zero, Act.put, List.setIfInBounds_toArray, List.set_cons_zero, List.set_cons_succ]
          refine wpAnyH_take (i := 4) (oi := _) (v := ?v4_80) rfl (by kernel_rfl) (by kernel_rfl) (by kernel_rfl) (fun _ _ _ h => h) (Or.inl ⟨by kernel_rfl, ?y4_80⟩) (unhide HKd) ?_
          case y4_80 => intro w hSw; obtain ⟨⟨s0, s1, s2, s3⟩, s4, s5, s6, s7, s8, s9⟩ := hSw; go_simp; first | done | rfl
          simp only [List.getElem_toArray, List.getElem_cons_succ, List.getElem_cons_zero, Act.put, List.setIfInBounds_toArray, List.set_cons_zero, List.set_cons_succ]
          refine wpAnyH_take (i := 5) (oi := _) (v := ?v5_81) rfl (by kernel_rfl) (by kernel_rfl) (by kernel_rfl) (fun _ _ _ h => h) (Or.inl ⟨by kernel_rfl, ?y5_81⟩) (unhide HKd) ?_
          case y5_81 => intro w hSw; obtain ⟨⟨s0, s1, s2, s3⟩, s4, s5, s6, s7, s8, s9⟩ := hSw; go_simp; first | done | rfl
          simp only [List.getElem_toArray, List.getElem_cons_succ, List.getElem_cons_zero, Act.put, List.setIfInBounds_toArray, List.set_cons_zero, List.set_cons_succ]
          refine wpAnyH_ready (rs := [6]) (by kernel_rfl) (by simp) ?_
          refine AllReadyH.cons rfl (fun K hK => ?_) AllReadyH.nil
          go_simp
          go_at_call 33
          refine (unhide HIy _ (unhide HBwd)).mono ?_
          rintro e w6 ⟨rfl, hb6⟩
          have HB36 := hide ((unhide HB3d).trans (hb6.mono (unhide HB3d).size))
          have HBw6 := hide ((unhide HBwd).trans (hb6.mono (unhide HBwd).size))
          have HK6 := hide (unhide HSall w6 (unhide HBw6) (unhide HB36))
          clear hb6
          go_wp2_with fail
          refine hK.out _ _ (unhide HK6) (fun _ => ?_)
          clear hK
          refine wpAnyH_take (i := 7) (oi := _) (v := ?v7_82) rfl (by kernel_rfl) (by kernel_rfl) (by kernel_rfl) (fun _ _ _ h => h) (Or.inl ⟨by kernel_rfl, ?y7_82⟩) (unhide HK6) ?_
          case y7_82 => intro w hSw; obtain ⟨⟨s0, s1, s2, s3⟩, s4, s5, s6, s7, s8, s9⟩ := hSw; go_simp; first | done | rfl
          simp only [List.getElem_toArray, List.getElem_cons_succ, List.getElem_cons_zero, Act.put, List.setIfInBounds_toArray, List.set_cons_zero, List.set_cons_succ]
          refine wpAnyH_take (i := 8) (oi := _) (v := ?v8_83) rfl (by kernel_rfl) (by kernel_rfl) (by kernel_rfl) (fun _ _ _ h => h) (Or.inl ⟨by kernel_rfl, ?y8_83⟩) (unhide HK6) ?_
          case y8_83 => intro w hSw; obtain ⟨⟨s0, s1, s2, s3⟩, s4, s5, s6, s7, s8, s9⟩ := hSw; go_simp; first | done | rfl
          simp only [List.getElem_toArray, List.getElem_cons_succ, List.getElem_cons_zero, Act.put, List.setIfInBounds_toArray, List.set_cons_zero, List.set_cons_succ]
          refine wpAnyH_take (i := 9) (oi := _) (v := ?v9_84) rfl (by kernel_rfl) (by kernel_rfl) (by kernel_rfl) (fun _ _ _ h => h) (Or.inl ⟨by kernel_rfl, ?y9_84⟩) (unhide HK6) ?_
          case y9_84 => intro w hSw; obtain ⟨⟨s0, s1, s2, s3⟩, s4, s5, s6, s7, s8, s9⟩ := hSw; go_simp; first | done | rfl
          simp only [List.getElem_toArray, List.getElem_cons_succ, List.getElem_cons_zero, Act.put, List.setIfInBounds_toArray, List.set_cons_zero, List.set_cons_succ]
          refine wpAnyH_take (i := 10) (oi := _) (v := ?v10_85) rfl (by kernel_rfl) (by kernel_rfl) (by kernel_rfl) (fun _ _ _ h => h) (Or.inl ⟨by kernel_rfl, ?y10_85⟩) (unhide HK6) ?_
          case y10_85 => intro w hSw; obtain ⟨⟨s0, s1, s2, s3⟩, s4, s5, s6, s7, s8, s9⟩ := hSw; go_simp; first | done | rfl
          simp only [List.getElem_toArray, List.getElem_cons_succ, List.getElem_cons_zero, Act.put, List.setIfInBounds_toArray, List.set_cons_zero, List.set_cons_succ]
          refine wpAnyH_take (i := 11) (oi := _) (v := ?v11_86) rfl (by kernel_rfl) (by kernel_rfl) (by kernel_rfl) (fun _ _ _ h => h) (Or.inl ⟨by kernel_rfl, ?y11_86⟩) (unhide HK6) ?_
          case y11_86 => intro w hSw; obtain ⟨⟨s0, s1, s2, s3⟩, s4, s5, s6, s7, s8, s9⟩ := hSw; go_simp; first | done | rfl
          simp only [List.getElem_toArray, List.getElem_cons_succ, List.getElem_cons_zero, Act.put, List.setIfInBounds_toArray, List.set_cons_zero, List.set_cons_succ]
          refine wpAnyH_take (i := 12) (oi := _) (v := ?v12_87) rfl (by kernel_rfl) (by kernel_rfl) (by kernel_rfl) (fun _ _ _ h => h) (Or.inl ⟨by kernel_rfl, ?y12_87⟩) (unhide HK6) ?_
          case y12_87 => intro w hSw; obtain ⟨⟨s0, s1, s2, s3⟩, s4, s5, s6, s7, s8, s9⟩ := hSw; go_simp; first | done | rfl
          simp only [List.getElem_toArray, List.getElem_cons_succ, List.getElem_cons_zero, Act.put, List.setIfInBounds_toArray, List.set_cons_zero, List.set_cons_succ]
          refine wpAnyH_take (i := 13) (oi := _) (v := ?v13_88) rfl (by kernel_rfl) (by kernel_rfl) (by kernel_rfl) (fun _ _ _ h => h) (Or.inl ⟨by kernel_rfl, ?y13_88⟩) (unhide HK6) ?_
          case y13_88 => intro w hSw; obtain ⟨⟨s0, s1, s2, s3⟩, s4, s5, s6, s7, s8, s9⟩ := hSw; go_simp; first | done | rfl
          simp only [List.getElem_toArray, List.getElem_cons_succ, List.getElem_cons_zero, Act.put, List.setIfInBounds_toArray, List.set_cons_zero, List.set_cons_succ]
          refine wpAnyH_take (i := 14) (oi := _) (v := ?v14_89) rfl (by kernel_rfl) (by kernel_rfl) (by kernel_rfl) (fun _ _ _ h => h) (Or.inl ⟨by kernel_rfl, ?y14_89⟩) (unhide HK6) ?_
          case y14_89 => intro w hSw; obtain ⟨⟨s0, s1, s2, s3⟩, s4, s5, s6, s7, s8, s9⟩ := hSw; go_simp; first | done | rfl
          simp only [List.getElem_toArray, List.getElem_cons_succ, List.getElem_cons_zero, Act.put, List.setIfInBounds_toArray, List.set_cons_zero, List.set_cons_succ]
          refine wpAnyH_take (i := 16) (oi := _) (v := ?v16_90) rfl (by kernel_rfl) (by kernel_rfl) (by kernel_rfl) (fun _ _ _ h => h) (Or.inl ⟨by kernel_rfl, ?y16_90⟩) (unhide HK6) ?_
          case y16_90 => intro w hSw; obtain ⟨⟨s0, s1, s2, s3⟩, s4, s5, s6, s7, s8, s9⟩ := hSw; go_simp; first | done | rfl
          simp only [List.getElem_toArray, List.getElem_cons_succ, List.getElem_cons_zero, Act.put, List.setIfInBounds_toArray, List.set_cons_zero, List.set_cons_succ]
          refine wpAnyH_take (i := 17) (oi := _) (v := ?v17_91) rfl (by kernel_rfl) (by kernel_rfl) (by kernel_rfl) (fun _ _ _ h => h) (Or.inl ⟨by kernel_rfl, ?y17_91⟩) (unhide HK6) ?_
          case y17_91 => intro w hSw; obtain ⟨⟨s0, s1, s2, s3⟩, s4, s5, s6, s7, s8, s9⟩ := hSw; go_simp; first | done | rfl
          simp only [List.getElem_toArray, List.getElem_cons_succ, List.getElem_cons_zero, Act.put, List.setIfInBounds_toArray, List.set_cons_zero, List.set_cons_succ]
          refine wpAnyH_take (i := 18) (oi := _) (v := ?v18_92) rfl (by kernel_rfl) (by kernel_rfl) (by kernel_rfl) (fun _ _ _ h => h) (Or.inl ⟨by kernel_rfl, ?y18_92⟩) (unhide HK6) ?_
          case y18_92 => intro w hSw; obtain ⟨⟨s0, s1, s2, s3⟩, s4, s5, s6, s7, s8, s9⟩ := hSw; go_simp; first | done | rfl
          simp only [List.getElem_toArray, List.getElem_cons_succ, List.getElem_cons_zero, Act.put, List.setIfInBounds_toArray, List.set_cons_zero, List.set_cons_succ]
          refine wpAnyH_take (i := 19) (oi := _) (v := ?v19_93) rfl (by kernel_rfl) (by kernel_rfl) (by kernel_rfl) (fun _ _ _ h => h) (Or.inl ⟨by kernel_rfl, ?y19_93⟩) (unhide HK6) ?_
          case y19_93 => intro w hSw; obtain ⟨⟨s0, s1, s2, s3⟩, s4, s5, s6, s7, s8, s9⟩ := hSw; go_simp; first | done | rfl
          simp only [List.getElem_toArray, List.getElem_cons_succ, List.getElem_cons_zero, Act.put, List.setIfInBounds_toArray, List.set_cons_zero, List.set_cons_succ]
          refine wpAnyH_take (i := 20) (oi := _) (v := ?v20_94) rfl (by kernel_rfl) (by kernel_rfl) (by kernel_rfl) (fun _ _ _ h => h) (Or.inl ⟨by kernel_rfl, ?y20_94⟩) (unhide HK6) ?_
          case y20_94 => intro w hSw; obtain ⟨⟨s0, s1, s2, s3⟩, s4, s5, s6, s7, s8, s9⟩ := hSw; go_simp; first | done | rfl
          simp only [List.getElem_toArray, List.getElem_cons_succ, List.getElem_cons_zero, Act.put, List.setIfInBounds_toArray, List.set_cons_zero, List.set_cons_succ]
          refine wpAnyH_take (i := 21) (oi := _) (v := ?v21_95) rfl (by kernel_rfl) (by kernel_rfl) (by kernel_rfl) (fun _ _ _ h => h) (Or.inl ⟨by kernel_rfl, ?y21_95⟩) (unhide HK6) ?_
          case y21_95 => intro w hSw; obtain ⟨⟨s0, s1, s2, s3⟩, s4, s5, s6, s7, s8, s9⟩ := hSw; go_simp; first | done | rfl
          simp only [List.getElem_toArray, List.getElem_cons_succ, List.getElem_cons_zero, Act.put, List.setIfInBounds_toArray, List.set_cons_zero, List.set_cons_succ]
          refine wpAnyH_ready (rs := [15]) (by kernel_rfl) (by simp) ?_
          refine AllReadyH.cons rfl (fun K hK => ?_) AllReadyH.nil
          go_simp
          go_at_call 34
          refine (unhide HEn _).mono ?_
          rintro e w7 ⟨rfl, rfl⟩
          go_wp2_with fail
          refine hK.out _ _ (unhide HK6) (fun _ => ?_)
          clear hK
          refine wpAnyH_take (i := 22) (oi := _) (v := ?v22_96) rfl (by kernel_rfl) (by kernel_rfl) (by kernel_rfl) (fun _ _ _ h => h) (Or.inl ⟨by kernel_rfl, ?y22_96⟩) (unhide HK6) ?_
          case y22_96 => intro w hSw; go_simp; first | done | rfl
          simp only [List.getElem_toArray, List.getElem_cons_succ, List.getElem_cons_zero, Act.put, List.setIfInBounds_toArray, List.set_cons_zero, List.set_cons_succ]
          refine wpAnyH_take (i := 23) (oi := _) (v := ?v23_97) rfl (by kernel_rfl) (by kernel_rfl) (by kernel_rfl) (fun _ _ _ h => h) (Or.inl ⟨by kernel_rfl, ?y23_97⟩) (unhide HK6) ?_
          case y23_97 => intro w hSw; go_simp; first | done | rfl
          simp only [List.getElem_toArray, List.getElem_cons_succ, List.getElem_cons_zero, Act.put, List.setIfInBounds_toArray, List.set_cons_zero, List.set_cons_succ]
          refine wpAnyH_done (by kernel_rfl) ?_ _
          have HOk2 := hide (show okAt re rs ins k = true by rw [unhide HAt]; simp [unhide HLast])
          go_wp2
          go_roundw
          case rel => exact ⟨k + 1, by go_num, by omega, fun i hi => by
           by_cases e : i = k
           ·subst e; exact unhide HOk2
           ·exact unhide HOk i (by omega), unhide HB36⟩
          case measure => simp [intOf]; omega
    ·obtain rfl : il = k := by omega
     have hIA : insAll re rs ins = true := insAll_yes fun i hi => unhide HOk i (by have := unhide Hil; omega)
     have hBD2 := unhide HBD
     rw [hIA, Bool.true_and] at hBD2
     have HBD2 := hide hBD2
     clear hIA hBD2 hk hklt HOk HBD
     go_wp2_with fail
     generalize hwr5 : wr = W5 at *
     clear hwr5
     go_loopw [6] (fun c wq => ∃ k : Nat, c = .int .i64 k ∧ (k : Int) ≤ nl ∧ (∀ i, i < k → okN n (next.getD i 0) = true) ∧ ∃ q, wq = W5.drewN q) (fun c _ => nl - (intOf c).toNat)
     case atStart => exact ⟨0, rfl, by omega, fun i hi => absurd hi (by omega), 0, rfl⟩
     case round =>
      obtain ⟨k, rfl, hk, hok, kq, rfl⟩ := hrel
      have HOk := hide hok
      clear hok
      by_cases hklt : (k : Int) < nl
      ·obtain ⟨bq, oq, rfl, _, hlb⟩ := unhide HNN (by have := unhide Hnl; omega)
       have hbq : bq < w.heap.size := World.block_lt_of_cell? w _ (hlb k (by have := unhide Hnl; omega))
       have cz := ((unhide HLow).cell (p := ⟨bq, oq + k, none⟩) hbq).trans (hlb k (by have := unhide Hnl; omega))
       have hno3 : okN n (next.getD k 0) = false → Ending.returned (.bool false) = .returned (.bool R) := fun h => unhide HNB (by rw [unhide HBD2, all_lt (by have := unhide Hnl; omega) (unhide HOk) h]; simp)
       have hokj : okN n (next.getD k 0) = (decide (0 ≤ next.getD k 0) && decide (next.getD k 0 < n)) := rfl
       generalize hz : next.getD k 0 = z at *
       have HZ2 := hide hz; have HOkj := hide hokj; have HNo3 := hide hno3
       clear hlb hz hno3 hokj hk
       by_cases hz0 : z < 0
       ·have HF := hide (unhide HNo3 (by rw [unhide HOkj]; simp; omega))
        have tz : decide (z < 0) = true := by simpa using hz0
        clear hz0
        go_wp2_with fail
        go_quiet (fail)
        go_wp2
        go_ret
        exact ⟨unhide HF, Below.on (Below.on (unhide HLow) (drewn W5 _)) (drewn _ _)⟩
       ·have tz : decide (z < 0) = false := by simpa using hz0
        by_cases hz1 : (n : Int) ≤ z
        ·have HF := hide (unhide HNo3 (by rw [unhide HOkj]; simp; omega))
         have tz1 : decide (z ≥ (n : Int)) = true := by simpa using hz1
         have tz2 : decide ((n : Int) ≤ z) = true := by simpa using hz1
         clear hz0 hz1
         go_wp2_with fail
         go_quiet (fail)
         go_wp2
         go_ret
         exact ⟨unhide HF, Below.on (Below.on (unhide HLow) (drewn W5 _)) (drewn _ _)⟩
        ·have tz1 : decide (z ≥ (n : Int)) = false := by simpa using hz1
         have tz2 : decide ((n : Int) ≤ z) = false := by simpa using hz1
         have HOk2 := hide (show okN n (next.getD k 0) = true by rw [unhide HZ2, unhide HOkj]; simp; omega)
         clear hz0 hz1
         go_wp2_with fail
         go_quiet (fail)
         go_wp2
         go_roundw
         case rel => exact ⟨k + 1, by go_num, by omega, fun i hi => by
          by_cases e : i = k
          ·subst e; exact unhide HOk2
          ·exact unhide HOk i (by omega), _, rfl⟩
         case measure => simp [intOf]; omega
      ·obtain rfl : nl = k := by omega
       have hAT : allT next n = true := all_all fun i hi => unhide HOk i (by have := unhide Hnl; omega)
       obtain ⟨y, hy⟩ : ∃ y, ins[il - 1]? = some y := ⟨_, List.getElem?_eq_getElem (by have := unhide Hil; omega)⟩
       have hwy := (unhide HWx).ins y (List.mem_of_getElem? hy)
       have hBD3 := unhide HBD2
       have hlst : lastL ins nl = leads y.op nl := by unfold lastL; rw [unhide Hil, hy]
       rw [hAT, hlst, Bool.and_true] at hBD3
       have HBD3 := hide hBD3
       obtain ⟨bi, oi, rfl, hgi, hbi, hit⟩ := unhide HII (by have := unhide Hil; omega)
       obtain ⟨cs, hcl, ⟨vs, rfl, hs⟩, hce⟩ := hit (il - 1) y hy
       have f0 := ((unhide HLow).cell (p := ⟨bi, oi + (il - 1) * 5 + 0, none⟩) hbi).trans (hce 0 _ rfl)
       simp only [Nat.add_zero] at f0
       have HNm := hide (fun W => rnm_any y.op hwy.op W)
       have hj := List.all_eq_true.1 nm_jump y.op (List.mem_range.2 hwy.op)
       simp only [Bool.and_eq_true, beq_iff_eq] at hj
       have s1 : ((str (rnm y.op)).toList == [106, 117, 109, 112]) = decide (y.op = 193) := by rw [str_toList]; exact hj.1.1
       have s2 : ((str (rnm y.op)).toList == [98, 114, 97, 110, 99, 104]) = decide (y.op = 194) := by rw [str_toList]; exact hj.1.2
       have s3 : ((str (rnm y.op)).toList == [116, 97, 98, 108, 101]) = decide (y.op = 195) := by rw [str_toList]; exact hj.2
       generalize str (rnm y.op) = S at *
       generalize y.op = op at *
       have hall2 : BM = true → ∀ i x, i < j + 1 → bl[i]? = some x → blkM re rs n x = true := fun h i x hi hx => by
        by_cases e : i = j
        ·subst e; rw [unhide HXb] at hx; cases hx; rw [unhide HBM]; exact h
        ·exact unhide HAll i x (by omega) hx
       have HAll2 := hide hall2
       obtain ⟨il1, rfl⟩ : ∃ m, il = m + 1 := ⟨il - 1, by omega⟩
       simp only [Nat.add_sub_cancel] at f0
       have w1 : ((il1 : Int) + 1) - 1 = il1 := by omega
       have w2 : (((il1 + 1 : Nat)) : Int) - 1 = il1 := by omega
       have hbi5 : bi < W5.heap.size := World.block_lt_of_cell? W5 _ f0
       have hB5 : Below W3.heap.size W3 (W5.drewN kq) := Below.on (unhide HB4) (drewn W5 kq)
       have HB5 := hide hB5
       clear hAT hy hwy hBD3 hlst hit hcl hce hs hj hall2 hk hklt HOk HBD2 hB5
       go_wp2_with fail
       refine (unhide HNm _).mono ?_
       rintro e w7 ⟨rfl, hb7⟩
       have hB7 := (unhide HB5).trans (hb7.mono (unhide HB5).size)
       obtain ⟨⟨y0', y1', y2', yl'⟩, hbW7⟩ := unhide HCe3 w7 hB7
       have HLow7 := hide (unhide HWW w7 hbW7); have HBW7 := hide hbW7
       clear hB7 hb7 hbW7 x0 x1 x2 x3 xl y0 y1 y2 yl f0 hbi5 y0' y1' y2' yl' HNm
       by_cases o1 : op = 193
       ·subst o1
        by_cases v1 : nl = 1
        ·subst v1
         have HAl3 := hide (unhide HAll2 (by rw [unhide HBD3]; simp [leads]))
         go_wp2
         go_roundw
         case rel => exact ⟨j + 1, by go_num, by omega, unhide HAl3, unhide HBW7⟩
         case measure => simp [intOf]; omega
        ·have tv1 : ((nl : Int) != 1) = true := by simp; omega
         have hv1 : ¬ (nl : Int) = 1 := by omega
         have HF := hide (unhide HNB (by rw [unhide HBD3]; simp [leads, hv1]))
         go_wp2
         go_ret
         exact ⟨unhide HF, unhide HLow7⟩
       by_cases o2 : op = 194
       ·subst o2
        by_cases v1 : nl = 2
        ·subst v1
         have HAl3 := hide (unhide HAll2 (by rw [unhide HBD3]; simp [leads]))
         go_wp2
         go_roundw
         case rel => exact ⟨j + 1, by go_num, by omega, unhide HAl3, unhide HBW7⟩
         case measure => simp [intOf]; omega
        ·have tv1 : ((nl : Int) != 2) = true := by simp; omega
         have hv1 : ¬ (nl : Int) = 2 := by omega
         have HF := hide (unhide HNB (by rw [unhide HBD3]; simp [leads, hv1]))
         go_wp2
         go_ret
         exact ⟨unhide HF, unhide HLow7⟩
       by_cases o3 : op = 195
       ·subst o3
        by_cases v1 : (nl : Int) < 1
        ·have hv1 : ¬ (1 : Int) ≤ nl := by omega
         have HF := hide (unhide HNB (by rw [unhide HBD3]; simp [leads] <;> omega))
         go_wp2
         go_ret
         exact ⟨unhide HF, unhide HLow7⟩
        ·have tv1 : decide ((nl : Int) < 1) = false := by simpa using v1
         by_cases v2 : (257 : Int) < nl
         ·have HF := hide (unhide HNB (by rw [unhide HBD3]; simp [leads] <;> omega))
          go_wp2
          go_ret
          exact ⟨unhide HF, unhide HLow7⟩
         ·have tv2 : decide ((nl : Int) > 257) = false := by simpa using v2
          have tv3 : decide ((257 : Int) < nl) = false := by simpa using v2
          have HAl3 := hide (unhide HAll2 (by rw [unhide HBD3]; simp [leads] <;> omega))
          clear v1 v2
          go_wp2
          go_roundw
          case rel => exact ⟨j + 1, by go_num, by omega, unhide HAl3, unhide HBW7⟩
          case measure => simp [intOf]; omega
       have s1f : (S.toList == [106, 117, 109, 112]) = false := by rw [s1]; simpa using o1
       have s2f : (S.toList == [98, 114, 97, 110, 99, 104]) = false := by rw [s2]; simpa using o2
       have s3f : (S.toList == [116, 97, 98, 108, 101]) = false := by rw [s3]; simpa using o3
       clear s1 s2 s3
       by_cases v1 : nl = 0
       ·subst v1
        have HAl3 := hide (unhide HAll2 (by rw [unhide HBD3]; simp [leads, o1, o2, o3]))
        clear o1 o2 o3
        go_wp2
        go_roundw
        case rel => exact ⟨j + 1, by go_num, by omega, unhide HAl3, unhide HBW7⟩
        case measure => simp [intOf]; omega
       ·have tv1 : ((nl : Int) != 0) = true := by simp; omega
        have hv1 : ¬ (nl : Int) = 0 := by omega
        have HF := hide (unhide HNB (by rw [unhide HBD3]; simp [leads, o1, o2, o3, v1]))
        clear o1 o2 o3
        go_wp2
        go_ret
        exact ⟨unhide HF, unhide HLow7⟩
  ·obtain rfl : n = j := by omega
   have HF := hide (unhide HY true (by rw [unhide HDD]; exact all_yes fun i x hi hx => unhide HAll i x (by have := unhide HL; omega) hx))
   have HLowE := hide (unhide HWW wr hbel)
   clear hj hlt hbel
   go_wp2
   go_ret
   exact ⟨unhide HF, unhide HLowE⟩
end Vc
end Go.Proofs.YtglehoekehiaiaaGreatDoor
