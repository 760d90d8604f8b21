/- vcode.Size, Check. -/
import Derived.Test.YtpecnljcgiicaaaDoorVcF
namespace Go.Proofs.YtpecnljcgiicaaaDoor
open Go.RowKit
namespace Vc
set_option linter.unusedVariables false

/-- how many instructions there are -/
def siz (l : List Bl) : Nat := (l.map fun b => b.ins.length).sum
theorem ret_v {a b : Value} (h : a = b) : Ending.returned a = .returned b := by rw [h]
theorem siz_take (l : List Bl) (j : Nat) (b : Bl) (h : l[j]? = some b) : siz (l.take (j + 1)) = siz (l.take j) + b.ins.length := by
  have hj := (List.getElem?_eq_some_iff.1 h).1
  have hb : l[j] = b := (List.getElem?_eq_some_iff.1 h).2
  unfold siz
  rw [List.take_succ_eq_append_getElem hj, hb]; simp
theorem siz_le (l : List Bl) (j : Nat) : siz (l.take j) ≤ siz l := by
  unfold siz
  conv => rhs; rw [← List.take_append_drop j l]
  rw [List.map_append, List.sum_append]; omega

set_option maxRecDepth 100000 in
set_option maxHeartbeats 1600000 in
theorem size_any (pa re : Int) (rs : Bool) (l : List Bl) (g : Nat → Prop) (v : Value) (w : World) (hv : Bls w g l v) (hl : l.length ≤ 1099511627776) (hz : siz l ≤ 1099511627776) :
    Calls Tryd.prog 28 #[.agg #[.int .i64 pa, .int .i64 re, .bool rs, v]] w fun e w' => e = .returned (.int .i64 (siz l)) ∧ Below w.heap.size w w' := by
  obtain ⟨a, cp, rfl, hcp, _, hA⟩ := hv
  have hst := fun j b h => siz_take l j b h
  have hsl := fun j => siz_le l j
  have hs0 : siz (l.take 0) = 0 := by simp [siz]
  have hsn : siz (l.take l.length) = siz l := by simp
  have HA := hide hA; have HSt := hide hst; have HSl := hide hsl; have HS0 := hide hs0; have HSn := hide hsn; have HZz := hide hz
  clear hA hst hsl hs0 hsn hz
  have hb0 := one_alloc w (.cells #[.int .i64 pa, .int .i64 re, .bool rs, .slice a l.length cp] 25)
  have HB0 := hide hb0; clear hb0
  generalize hL : l.length = n at *
  have HL := hide hL; clear hL
  go_enter Tryd.func28, Tryd.ntmps28
  go_wp2_with fail
  generalize w.alloc (.cells #[.int .i64 pa, .int .i64 re, .bool rs, .slice a n cp] 25) = W at *
  go_loopw [3, 9] (fun s c wr => ∃ j : Nat, s = .int .i64 (siz (l.take j)) ∧ c = .int .i64 j ∧ (j : Int) ≤ n ∧ Below w.heap.size w wr) (fun _ c _ => n - (intOf c).toNat)
  case atStart => exact ⟨0, by rw [unhide HS0]; rfl, rfl, by omega, unhide HB0⟩
  case round =>
    obtain ⟨j, rfl, rfl, hj, hbel⟩ := hrel
    by_cases hlt : (j : Int) < n
    · obtain ⟨x, hx⟩ : ∃ x, l[j]? = some x := ⟨_, List.getElem?_eq_getElem (by have := unhide HL; omega)⟩
      obtain ⟨b, o, rfl, hg, hblt, hit⟩ := unhide HA (by omega)
      obtain ⟨cs, hcl, ⟨vi, vn, rfl, hi, hn⟩, hce⟩ := hit j x hx
      have cc := fun i u hu => (hbel.cell (p := ⟨b, o + j * 3 + i, none⟩) hblt).trans (hce i u hu)
      have e0 := cc 0 _ rfl; have e1 := cc 1 _ rfl; have e2 := cc 2 _ rfl
      simp only [Nat.add_zero] at e0
      have hq := unhide HSt j x hx
      have hq2 := unhide HSl (j + 1)
      rw [hq] at hq2
      have hq3 : ((siz (l.take j) : Nat) : Int) + (x.ins.length : Int) ≤ 1099511627776 := by have := unhide HZz; omega
      have HQ := hide hq; have HBel := hide hbel
      obtain ⟨ai, ci, rfl, _⟩ := hi
      obtain ⟨an, cn, rfl, _⟩ := hn
      obtain ⟨ins, next, dep⟩ := x
      simp only at *
      clear hx hit hcl hce cc hq hq2 hj hbel
      generalize ins.length = il at *
      generalize next.length = nl at *
      generalize hsj : siz (l.take j) = sj at *
      have HSj := hide hsj; clear hsj
      have hb1 : b < wr.heap.size := World.block_lt_of_cell? wr _ e0
      go_wp2
      go_roundw
      case rel => exact ⟨j + 1, by rw [unhide HQ]; go_num, by go_num, by omega, (unhide HBel).alloc (unhide HBel).size _⟩
      case measure => simp [intOf]; omega
    · obtain rfl : j = n := by omega
      have HBel := hide hbel
      clear hj hlt hbel
      have hse : siz (l.take j) = siz l := unhide HSn
      have HSe := hide hse; clear hse
      go_wp2
      go_ret
      exact ⟨ret_int (by rw [unhide HSe]), unhide HBel⟩

/-- may code be? -/
def chk (c : Co) : Bool := (decide (0 ≤ c.pa) && decide (c.pa ≤ c.re) && decide (c.re ≤ 1024)) && (decide (1 ≤ c.bl.length) && decide (c.bl.length ≤ 4096) && decide (siz c.bl ≤ 16384)) && c.bl.all (blkM c.re c.rs c.bl.length)
theorem all_no {l : List Bl} {f : Bl → Bool} {j : Nat} {x : Bl} (h : l[j]? = some x) (h2 : f x = false) : l.all f = false := by
  rw [List.all_eq_false]
  exact ⟨x, List.mem_of_getElem? h, by simp [h2]⟩
theorem all_yes {l : List Bl} {f : Bl → Bool} (h : ∀ i x, i < l.length → l[i]? = some x → f x = true) : l.all f = true := by
  rw [List.all_eq_true]
  intro x hx
  obtain ⟨i, hi, rfl⟩ := List.getElem_of_mem hx
  exact h i _ hi (List.getElem?_eq_getElem hi)

set_option maxRecDepth 100000 in
set_option maxHeartbeats 3200000 in
theorem check_any (c : Co) (hc : WfC c) (g : Nat → Prop) (v : Value) (w : World) (hT : Fms w) (hv : Bls w g c.bl v) (hz : siz c.bl ≤ 1099511627776) :
    Calls Tryd.prog 10 #[.agg #[.int .i64 c.pa, .int .i64 c.re, .bool c.rs, v]] w fun e w' => e = .returned (errV (if chk c then 0 else 1)) ∧ Below w.heap.size w w' := by
  have hno : chk c = false → errV (if chk c then 0 else 1) = .iface 64 (.int .i64 1) := fun h => by rw [h]; exact errV_1
  have hyes : chk c = true → errV (if chk c then 0 else 1) = .nilIface := fun h => by rw [h]; exact errV_0
  have hS := fun W h => size_any c.pa c.re c.rs c.bl g v W h hc.len hz
  have hM := fun (x : Bl) (hx : x ∈ c.bl) vb vi vn W a b d => blkM_any c x (hc.bl x hx) g vb vi vn W a b d
  have hdef : chk c = ((decide (0 ≤ c.pa) && decide (c.pa ≤ c.re) && decide (c.re ≤ 1024)) && (decide (1 ≤ c.bl.length) && decide (c.bl.length ≤ 4096) && decide (siz c.bl ≤ 16384)) && c.bl.all (blkM c.re c.rs c.bl.length)) := rfl
  have hlen := hc.len
  have HV := hide hv; have HT := hide hT
  obtain ⟨a, cp, rfl, hcp, _, hA⟩ := hv
  have hdd : (1 ≤ c.bl.length ↔ (1 : Int) ≤ (c.bl.length : Int)) ∧ (c.bl.length ≤ 4096 ↔ (c.bl.length : Int) ≤ 4096) := by omega
  have ano := fun j x h h2 => all_no (l := c.bl) (f := blkM c.re c.rs c.bl.length) (j := j) (x := x) h h2
  have ayes := all_yes (l := c.bl) (f := blkM c.re c.rs c.bl.length)
  have HNo := hide hno; have HYes := hide hyes; have HS := hide hS; have HM := hide hM; have HD := hide hdef; have HA := hide hA; have ANo := hide ano; have AYes := hide ayes
  clear hno hyes hS hM hdef hA ano ayes hc hT hz hdd
  generalize hE : errV (if chk c then 0 else 1) = E at *
  have HE := hide hE; clear hE
  obtain ⟨pa, re, rs, bl⟩ := c
  simp only at *
  generalize hK : chk ⟨pa, re, rs, bl⟩ = K at *
  have HK := hide hK; clear hK
  have hb0 := one_alloc w (.cells #[.int .i64 pa, .int .i64 re, .bool rs, .slice a bl.length cp] 25)
  have rB := heap_alloc_new w (.cells #[.int .i64 pa, .int .i64 re, .bool rs, .slice a bl.length cp] 25)
  have hSz := unhide HS _ ((unhide HV).below hb0)
  have HB0 := hide hb0; have HSz := hide hSz; clear hb0 hSz HS
  generalize hL : bl.length = n at *
  have HL := hide hL; clear hL
  generalize hs : siz bl = sz at *
  have HSS := hide hs; clear hs
  have endNo : ∀ (P : Prop), K = false → True := fun _ _ => trivial
  clear endNo
  by_cases p0 : pa < 0
  · have HR := hide (unhide HNo (by rw [unhide HD]; simp; omega))
    go_enter Tryd.func10, Tryd.ntmps10
    go_wp2
    go_ret
    exact ⟨ret_v (unhide HR).symm, one_alloc _ _⟩
  have t0 : decide (pa < 0) = false := by simpa using p0
  by_cases p1 : re < pa
  · have HR := hide (unhide HNo (by rw [unhide HD]; simp; omega))
    have t1 : decide (pa > re) = true := by simp; omega
    clear p0
    go_enter Tryd.func10, Tryd.ntmps10
    go_wp2
    go_ret
    exact ⟨ret_v (unhide HR).symm, one_alloc _ _⟩
  have t1 : decide (re < pa) = false := by simpa using p1
  by_cases p2 : 1024 < re
  · have HR := hide (unhide HNo (by rw [unhide HD]; simp; omega))
    clear p0 p1
    go_enter Tryd.func10, Tryd.ntmps10
    go_wp2
    go_ret
    exact ⟨ret_v (unhide HR).symm, one_alloc _ _⟩
  have t2 : decide (1024 < re) = false := by simpa using p2
  by_cases p3 : (n : Int) < 1
  · have HR := hide (unhide HNo (by rw [unhide HD]; simp; omega))
    clear p0 p1 p2
    go_enter Tryd.func10, Tryd.ntmps10
    go_wp2
    go_ret
    exact ⟨ret_v (unhide HR).symm, one_alloc _ _⟩
  have t3 : decide ((n : Int) < 1) = false := by simpa using p3
  by_cases p4 : (4096 : Int) < n
  · have HR := hide (unhide HNo (by rw [unhide HD]; simp; omega))
    clear p0 p1 p2 p3
    go_enter Tryd.func10, Tryd.ntmps10
    go_wp2
    go_ret
    exact ⟨ret_v (unhide HR).symm, one_alloc _ _⟩
  have t4 : decide ((4096 : Int) < n) = false := by simpa using p4
  by_cases p5 : (16384 : Int) < sz
  · have HR := hide (unhide HNo (by rw [unhide HD]; simp; omega))
    clear p0 p1 p2 p3 p4
    go_enter Tryd.func10, Tryd.ntmps10
    go_wp2_with fail
    refine (unhide HSz).mono ?_
    rintro e w1 ⟨rfl, hb1⟩
    have HB1 := hide (Below.on (unhide HB0) hb1); clear hb1
    go_wp2
    go_ret
    exact ⟨ret_v (unhide HR).symm, unhide HB1⟩
  have t5 : decide ((16384 : Int) < sz) = false := by simpa using p5
  have HKK := hide (show K = bl.all (blkM re rs n) by rw [unhide HD]; rw [show (decide (0 ≤ pa) && decide (pa ≤ re) && decide (re ≤ 1024) && (decide (1 ≤ n) && decide (n ≤ 4096) && decide (sz ≤ 16384))) = true by simp; omega]; rfl)
  clear p0 p1 p2 p3 p4 p5
  go_enter Tryd.func10, Tryd.ntmps10
  go_wp2_with fail
  refine (unhide HSz).mono ?_
  rintro e w1 ⟨rfl, hb1⟩
  have c : w1.heap[w.heap.size]? = some (.cells #[.int .i64 pa, .int .i64 re, .bool rs, .slice a n cp] 25 (0, 0)) := (hb1.block _ (by simp)).trans rB
  have hbw := Below.on (unhide HB0) hb1
  have hBlt : w.heap.size < w1.heap.size := (Array.getElem?_eq_some_iff.1 c).1
  have cells : ∀ W', Below w1.heap.size w1 W' → W'.cell? ⟨w.heap.size, 0, none⟩ = some (.int .i64 pa) ∧ W'.cell? ⟨w.heap.size, 1, none⟩ = some (.int .i64 re) ∧ W'.cell? ⟨w.heap.size, 2, none⟩ = some (.bool rs) ∧ W'.cell? ⟨w.heap.size, 3, none⟩ = some (.slice a n cp) := by
    intro W' h
    have q := (h.block _ hBlt).trans c
    refine ⟨?_, ?_, ?_, ?_⟩ <;> (rw [cell_of_row W' _ _ _ _ _ q]; rfl)
  have CE := hide cells; have HBw := hide hbw; have HBl := hide hBlt
  obtain ⟨p0, p1, p2, p3⟩ := cells w1 (Below.refl _ _)
  clear hb1 c hbw cells HSz HB0 rB hBlt
  go_wp2_with fail
  go_loopw [40] (fun c wr => ∃ j : Nat, c = .int .i64 j ∧ (j : Int) ≤ n ∧ (∀ i x, i < j → bl[i]? = some x → blkM re rs n x = true) ∧ Below w1.heap.size w1 wr) (fun c _ => n - (intOf c).toNat)
  case atStart => exact ⟨0, rfl, by omega, fun i x hi => absurd hi (by omega), Below.refl _ _⟩
  case round =>
    obtain ⟨j, rfl, hj, hall, hbel⟩ := hrel
    have HAll := hide hall; clear hall p0 p1 p2 p3
    have hbW := Below.on (unhide HBw) hbel
    by_cases hlt : (j : Int) < n
    · obtain ⟨x, hx⟩ : ∃ x, bl[j]? = some x := ⟨_, List.getElem?_eq_getElem (by have := unhide HL; omega)⟩
      have hmem : x ∈ bl := List.mem_of_getElem? hx
      obtain ⟨b, o, rfl, hg, hblt, hit⟩ := unhide HA (by omega)
      obtain ⟨cs, hcl, ⟨vi, vn, rfl, hi, hn⟩, hce⟩ := hit j x hx
      have cc := fun i u hu => (hbW.cell (p := ⟨b, o + j * 3 + i, none⟩) hblt).trans (hce i u hu)
      have e0 := cc 0 _ rfl; have e1 := cc 1 _ rfl; have e2 := cc 2 _ rfl
      simp only [Nat.add_zero] at e0
      have hb1 : b < wr.heap.size := World.block_lt_of_cell? wr _ e0
      have HI := hide hi; have HN := hide hn
      obtain ⟨ai, ci, rfl, _⟩ := hi
      obtain ⟨an, cn, rfl, _⟩ := hn
      have HX := hide hx; have HBel := hide hbel; have HBW := hide hbW; have HMm := hide hmem
      have HZ := hide hbel.size
      clear hx hit hcl hce cc hj hbW hmem
      obtain ⟨ins, next, dep⟩ := x
      simp only at *
      generalize hil : ins.length = il at *
      generalize hnl : next.length = nl at *
      have Hil := hide hil; have Hnl := hide hnl; clear hil hnl
      go_upto_region 8 with fail
      have hal := one_alloc wr (.cells #[.slice ai il ci, .slice an nl cn, .int .i64 dep] 32)
      have rn := heap_alloc_new wr (.cells #[.slice ai il ci, .slice an nl cn, .int .i64 dep] 32)
      generalize wr.alloc (.cells #[.slice ai il ci, .slice an nl cn, .int .i64 dep] 32) = W1 at *
      have HAl := hide (Below.on hbel hal)
      have hW1 := Below.on (unhide HBW) hal
      have HC := hide (unhide HM ⟨ins, next, dep⟩ (unhide HMm) (.slice (some ⟨b, o, none⟩) n cp) (.slice ai il ci) (.slice an nl cn) W1 (TC.below (unhide HT) hW1) (Inss.below hW1 (unhide HI)) (NumsL.below hW1 (unhide HN)) _ _ rfl hlen)
      obtain ⟨p0, p1, p2, p3⟩ := unhide CE W1 (unhide HAl)
      clear e0 e1 e2
      have e0 : W1.cell? ⟨wr.heap.size, 0, none⟩ = some (.slice ai il ci) := by rw [cell_of_row W1 _ 0 _ _ _ rn]; rfl
      have e1 : W1.cell? ⟨wr.heap.size, 1, none⟩ = some (.slice an nl cn) := by rw [cell_of_row W1 _ 1 _ _ _ rn]; rfl
      have e2 : W1.cell? ⟨wr.heap.size, 2, none⟩ = some (.int .i64 dep) := by rw [cell_of_row W1 _ 2 _ _ _ rn]; rfl
      clear rn hal hW1 hbel hb1
      cases hm : blkM re rs n ⟨ins, next, dep⟩ with
      | false =>
        rw [hm] at HC
        have HR := hide (unhide HNo (by rw [unhide HKK]; exact unhide ANo j _ (unhide HX) hm))
        clear hm
        go_wp2_with fail
        refine (unhide HC).mono ?_
        rintro e w5 ⟨rfl, hb5⟩
        have HB5 := hide (Below.on (unhide HBw) (Below.on (unhide HAl) hb5)); clear hb5
        go_wp2
        go_ret
        exact ⟨ret_v (unhide HR).symm, unhide HB5⟩
      | true =>
        rw [hm] at HC
        have HOk := hide hm
        clear hm
        go_wp2_with fail
        refine (unhide HC).mono ?_
        rintro e w5 ⟨rfl, hb5⟩
        have HB5 := hide (Below.on (unhide HAl) hb5); clear hb5
        go_wp2
        go_roundw
        case rel => exact ⟨j + 1, by go_num, by omega, fun i x hi hx => by
          by_cases e : i = j
          · subst e
            obtain rfl := Option.some.inj ((unhide HX).symm.trans hx)
            exact unhide HOk
          · exact unhide HAll i x (by omega) hx, unhide HB5⟩
        case measure => simp [intOf]; omega
    · obtain rfl : j = n := by omega
      have HR := hide (unhide HYes (by rw [unhide HKK]; exact unhide AYes fun i x hi => unhide HAll i x (by have := unhide HL; omega)))
      have HBW := hide hbW
      clear hj hlt hbel hbW
      go_wp2
      go_ret
      exact ⟨ret_v (unhide HR).symm, unhide HBW⟩
end Vc
end Go.Proofs.YtpecnljcgiicaaaDoor
