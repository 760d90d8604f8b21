/- The document's ins, walked. By mkrinsw.py. -/
import Derived.Test.YtglehoekehiaiaaGreatDoorK30
namespace Go.Proofs.YtglehoekehiaiaaGreatDoor
open Go.RowKit
set_option linter.unusedVariables false
set_option linter.unusedSimpArgs false
set_option maxRecDepth 100000
set_option maxHeartbeats 32000000
namespace Vc
theorem six_no : ((List.range 256).all fun n => [15, 16, 17, 35, 36, 66].contains n || ([[99, 97, 108, 108, 95, 105, 110, 100, 105, 114, 101, 99, 116], [114, 101, 116, 117, 114, 110], [103, 108, 111, 98, 97, 108, 46, 103, 101, 116], [103, 108, 111, 98, 97, 108, 46, 115, 101, 116], [99, 97, 108, 108], [99, 111, 110, 115, 116]].all (fun q => !(rnm n == q)) && decide (0 ≤ (rsh n).1) && decide ((rsh n).1 ≤ 4) && ((rsh n).2 == 0 || (rsh n).2 == 1))) = true := by kernel_rfl
theorem insR_all {re : Int} {rs : Bool} {x : In} (h : allT x.src re = false) : insR re rs x = false := by unfold insR; rw [if_pos h]; split <;> rfl
theorem rins_any (c : Co) (x : In) (hx : WfI x) (g : Nat → Prop) (vb v : Value) (w : World) (hv : NumsL w g x.src v) (hvb : ∃ a n k, vb = .slice a n k) :
    Calls Tryz.prog 33 #[.agg #[.int .i64 c.pa, .int .i64 c.re, .bool c.rs, vb], .agg #[.int .u8 (x.op : Int), .int .i64 x.dst, v, .int .i64 x.n, .int .u32 x.of]] w fun e w' => e = .returned (.bool (insR c.re c.rs x)) ∧ Below w.heap.size w w' := by
 obtain ⟨ba, bn, bk, rfl⟩ := hvb
 have hN := fun W => rnm_any x.op hx.op W
 have hSh := fun W => rsh_any x.op hx.op W
 have hM := fun W => rmem_any x.op hx.op W
 have hop := hx.op; have hlen := hx.len
 have hno := fun h => insR_all (re := c.re) (rs := c.rs) (x := x) h
 have hyes : ∀ b, insR c.re c.rs x = b → Ending.returned (.bool b) = .returned (.bool (insR c.re c.rs x)) := fun b h => ret_bool h.symm
 have hd : insR c.re c.rs x = insR c.re c.rs x := rfl
 conv at hd => rhs; unfold insR
 clear hx
 obtain ⟨a, cp, rfl, hcp, _, hA⟩ := hv
 obtain ⟨pa, re, rs, bl⟩ := c
 obtain ⟨op, dst, src, n, of⟩ := x
 simp only at *
 have he : ∀ q, ((str (rnm op)).toList == q) = (rnm op == q) := fun q => by rw [str_toList]
 have hE : (str (rnm op)).toList.isEmpty = (rnm op == []) := by rw [str_toList]; cases rnm op <;> rfl
 generalize str (rnm op) = S at *
 have HN := hide hN; have HSh := hide hSh; have HM := hide hM; have HNo := hide hno; have HYes := hide hyes; have HD := hide hd; have HA := hide hA; have HE := hide he; have HEE := hide hE; have HOp := hide hop
 clear hN hSh hM hno hyes hd hA he hE hop
 generalize insR re rs ⟨op, dst, src, n, of⟩ = R at *
 have hb0 := two_allocs w (.cells #[.int .i64 pa, .int .i64 re, .bool rs, .slice ba bn bk] 24) (.cells #[.int .u8 (op : Int), .int .i64 dst, .slice a src.length cp, .int .i64 n, .int .u32 of] 52)
 have hrows := box2 (Below.refl _ ((w.alloc (.cells #[.int .i64 pa, .int .i64 re, .bool rs, .slice ba bn bk] 24)).alloc (.cells #[.int .u8 (op : Int), .int .i64 dst, .slice a src.length cp, .int .i64 n, .int .u32 of] 52)))
 have HB0 := hide hb0; have HRw := hide hrows
 clear hb0 hrows
 generalize hsl : src.length = sl at *
 have HSl := hide hsl; clear hsl
 go_enter Tryz.func33, Tryz.ntmps33
 go_upto_region 1 with fail
 generalize (w.alloc (.cells #[.int .i64 pa, .int .i64 re, .bool rs, .slice ba bn bk] 24)).alloc (.cells #[.int .u8 (op : Int), .int .i64 dst, .slice a sl cp, .int .i64 n, .int .u32 of] 52) = W2 at *
 have hce : ∀ wx, Below W2.heap.size W2 wx → (wx.cell? ⟨w.heap.size, 0, none⟩ = some (.int .i64 pa) ∧ wx.cell? ⟨w.heap.size, 1, none⟩ = some (.int .i64 re) ∧ wx.cell? ⟨w.heap.size, 2, none⟩ = some (.bool rs)) ∧ (wx.cell? ⟨w.heap.size + 1, 0, none⟩ = some (.int .u8 (op : Int)) ∧ wx.cell? ⟨w.heap.size + 1, 1, none⟩ = some (.int .i64 dst) ∧ wx.cell? ⟨w.heap.size + 1, 2, none⟩ = some (.slice a sl cp) ∧ wx.cell? ⟨w.heap.size + 1, 3, none⟩ = some (.int .i64 n) ∧ wx.cell? ⟨w.heap.size + 1, 4, none⟩ = some (.int .u32 of)) ∧ w.heap.size + 1 < wx.heap.size := by
  intro wx hb
  obtain ⟨h1, h2⟩ := unhide HRw
  have q1 := (hb.block _ (Array.getElem?_eq_some_iff.1 h1).1).trans h1
  have q2 := (hb.block _ (Array.getElem?_eq_some_iff.1 h2).1).trans h2
  refine ⟨⟨?_, ?_, ?_⟩, ⟨?_, ?_, ?_, ?_, ?_⟩, (Array.getElem?_eq_some_iff.1 q2).1⟩ <;> first | (rw [cell_of_row wx _ _ _ _ _ q1]; rfl) | (rw [cell_of_row wx _ _ _ _ _ q2]; rfl)
 have HCe := hide hce
 obtain ⟨⟨x0, x1, x2⟩, ⟨y0, y1, y2, y3, y4⟩, yl⟩ := hce W2 (Below.refl _ _)
 clear hce
 go_wp2_with fail
 refine (unhide HN W2).mono ?_
 rintro e w3 ⟨rfl, hb3⟩
 have HB3 := hide hb3
 clear x0 x1 x2 y0 y1 y2 y3 y4 yl
 obtain ⟨⟨x0, x1, x2⟩, ⟨y0, y1, y2, y3, y4⟩, yl⟩ := unhide HCe w3 hb3
 have hbw := (unhide HB0).trans (hb3.mono (unhide HB0).size)
 have HBw := hide hbw
 clear hb3 hbw
 by_cases hr0 : rnm op = []
 ·have eE : S.toList.isEmpty = true := by rw [unhide HEE, hr0]; rfl
  have HF := hide (unhide HYes false (by rw [unhide HD, if_pos hr0]))
  clear hr0
  go_wp2
  go_ret
  exact ⟨unhide HF, unhide HBw⟩
 have eE : S.toList.isEmpty = false := by rw [unhide HEE]; simpa using hr0
 have HR0 := hide hr0
 clear hr0
 have hre : (sl : Int) ≤ 1099511627776 := by omega
 go_wp2_with fail
 go_loopw [6] (fun c wr => ∃ j : Nat, c = .int .i64 j ∧ (j : Int) ≤ sl ∧ (∀ i, i < j → okN re (src.getD i 0) = true) ∧ ∃ k, wr = w3.drewN k) (fun c _ => sl - (intOf c).toNat)
 case atStart => exact ⟨0, rfl, by omega, fun i hi => absurd hi (by omega), 0, rfl⟩
 case round =>
  obtain ⟨j, rfl, hj, hall, kk, rfl⟩ := hrel
  have HAll := hide hall; clear hall
  by_cases hlt : (j : Int) < sl
  ·obtain ⟨b, o, rfl, _, hlb⟩ := unhide HA (by omega)
   have hblt : b < w.heap.size := World.block_lt_of_cell? w _ (hlb j (by have := unhide HSl; omega))
   have cz := ((unhide HBw).cell (p := ⟨b, o + j, none⟩) hblt).trans (hlb j (by have := unhide HSl; omega))
   have hno := fun h => unhide HNo (all_lt (l := src) (m := re) (k := j) (by have := unhide HSl; omega) (unhide HAll) h)
   have hokj : okN re (src.getD j 0) = (decide (0 ≤ src.getD j 0) && decide (src.getD j 0 < re)) := rfl
   have HZ := hide (show src.getD j 0 = src.getD j 0 from rfl)
   generalize hz : src.getD j 0 = z at *
   have HZ2 := hide hz
   have HOk := hide hokj; have HNo2 := hide hno
   clear hlb hz HZ hno hokj hj
   by_cases hz0 : z < 0
   ·have HF := hide (unhide HYes false (unhide HNo2 (by rw [unhide HOk]; simp; omega)))
    have tz : decide (z < 0) = true := by simpa using hz0
    clear hz0
    go_wp2_with fail
    go_quiet (fail)
    go_wp2
    go_ret
    exact ⟨unhide HF, Below.on (Below.on (unhide HBw) (drewn w3 _)) (drewn _ _)⟩
   ·have tz : decide (z < 0) = false := by simpa using hz0
    by_cases hz1 : re ≤ z
    ·have HF := hide (unhide HYes false (unhide HNo2 (by rw [unhide HOk]; simp; omega)))
     have tz1 : decide (z ≥ re) = true := by simpa using hz1
     have tz2 : decide (re ≤ z) = true := by simpa using hz1
     clear hz0 hz1
     go_wp2_with fail
     go_quiet (fail)
     go_wp2
     go_ret
     exact ⟨unhide HF, Below.on (Below.on (unhide HBw) (drewn w3 _)) (drewn _ _)⟩
    ·have tz1 : decide (z ≥ re) = false := by simpa using hz1
     have tz2 : decide (re ≤ z) = false := by simpa using hz1
     have HOk2 := hide (show okN re (src.getD j 0) = true by rw [unhide HZ2, unhide HOk]; simp; omega)
     clear hz0 hz1
     go_wp2_with fail
     go_quiet (fail)
     go_wp2
     go_roundw
     case rel => exact ⟨j + 1, by go_num, by omega, fun i hi => by
      by_cases e : i = j
      ·subst e; exact unhide HOk2
      ·exact unhide HAll i (by omega), _, rfl⟩
     case measure => simp [intOf]; omega
  ·obtain rfl : sl = j := by omega
   have hallT : allT src re = true := all_all fun i hi => unhide HAll i (by have := unhide HSl; omega)
   have HAT := hide hallT
   have hb4 : Below w.heap.size w (w3.drewN kk) := (unhide HBw).trans ((drewn w3 kk).mono (unhide HBw).size)
   have hb24 : Below W2.heap.size W2 (w3.drewN kk) := (unhide HB3).trans ((drewn w3 kk).mono (unhide HB3).size)
   have HB4 := hide hb4; have HB24 := hide hb24
   clear hallT hb4 hb24 hj hlt HAll
   go_wp2_with fail
   have hsz4 : (w3.drewN kk).heap.size = (w3.drewN kk).heap.size := rfl
   clear hsz4
   generalize w3.drewN kk = W4 at *
   clear x0 x1 x2 y0 y1 y2 y3 y4 yl
   refine (unhide HSh W4).mono ?_
   rintro e w5 ⟨rfl, hb5⟩
   have HB25 := hide ((unhide HB24).trans (hb5.mono (unhide HB24).size))
   have HB5 := hide ((unhide HB4).trans (hb5.mono (unhide HB4).size))
   clear hb5
   obtain ⟨⟨x0, x1, x2⟩, ⟨y0, y1, y2, y3, y4⟩, yl⟩ := unhide HCe w5 (unhide HB25)
   have HD2 := hide (unhide HD)
   have hDD := unhide HD
   rw [if_neg (unhide HR0), if_neg (show ¬ allT src re = false by rw [unhide HAT]; simp)] at hDD
   have HDD := hide hDD
   clear hDD HD2
   by_cases k15 : op = 15
   ·subst k15
    have eCI := (unhide HE [99, 97, 108, 108, 95, 105, 110, 100, 105, 114, 101, 99, 116]).trans (show _ = false by decide +kernel)
    have eRET := (unhide HE [114, 101, 116, 117, 114, 110]).trans (show _ = true by decide +kernel)
    have eGG := (unhide HE [103, 108, 111, 98, 97, 108, 46, 103, 101, 116]).trans (show _ = false by decide +kernel)
    have eGS := (unhide HE [103, 108, 111, 98, 97, 108, 46, 115, 101, 116]).trans (show _ = false by decide +kernel)
    have eCALL := (unhide HE [99, 97, 108, 108]).trans (show _ = false by decide +kernel)
    have eCONST := (unhide HE [99, 111, 110, 115, 116]).trans (show _ = false by decide +kernel)
    have hrsh : rsh 15 = (-1, 0) := by decide +kernel
    rw [hrsh] at HDD ⊢
    have hDD := unhide HDD
    clear HE HN HSh
    clear hDD
    by_cases d1 : dst < -1
    ·have HF := hide (unhide HYes false (by rw [unhide HDD]; simp <;> omega))
     go_wp2
     go_ret
     exact ⟨unhide HF, unhide HB5⟩
    have td1 : decide (dst < -1) = false := by simpa using d1
    by_cases d2 : re ≤ dst
    ·have HF := hide (unhide HYes false (by rw [unhide HDD]; simp <;> omega))
     have td2 : decide (dst ≥ re) = true := by simpa using d2
     have td3 : decide (re ≤ dst) = true := by simpa using d2
     clear d1 d2
     go_wp2
     go_ret
     exact ⟨unhide HF, unhide HB5⟩
    have td2 : decide (dst ≥ re) = false := by simpa using d2
    have td3 : decide (re ≤ dst) = false := by simpa using d2
    by_cases d3 : 0 ≤ dst
    ·have HF := hide (unhide HYes false (by rw [unhide HDD]; simp <;> omega))
     have td4 : decide (dst ≥ 0) = true := by simp; omega
     have td5 : decide (0 ≤ dst) = true := by simp; omega
     clear d1 d2 d3
     go_wp2
     go_ret
     exact ⟨unhide HF, unhide HB5⟩
    have td4 : decide (dst ≥ 0) = false := by simp; omega
    have td5 : decide (0 ≤ dst) = false := by simp; omega
    by_cases o1 : of = 0
    ·subst o1
     cases rs with
     | true =>
       by_cases l1 : (sl : Int) = 1
       ·obtain rfl : sl = 1 := by omega
        by_cases n1 : n = 0
        ·subst n1
         have HF := hide (unhide HYes true (by rw [unhide HDD]; simp <;> omega))
         clear d1 d2 d3
         go_wp2
         go_ret
         exact ⟨unhide HF, unhide HB5⟩
        ·have tn1 : (n == 0) = false := by simpa using n1
         have HF := hide (unhide HYes false (by rw [unhide HDD]; simp <;> omega))
         clear d1 d2 d3 n1
         go_wp2
         go_ret
         exact ⟨unhide HF, unhide HB5⟩
       ·have tl1 : ((sl : Int) == 1) = false := by simpa using l1
        have HF := hide (unhide HYes false (by rw [unhide HDD]; simp <;> omega))
        clear d1 d2 d3 l1
        go_wp2
        go_ret
        exact ⟨unhide HF, unhide HB5⟩
     | false =>
       by_cases l1 : (sl : Int) = 0
       ·obtain rfl : sl = 0 := by omega
        by_cases n1 : n = 0
        ·subst n1
         have HF := hide (unhide HYes true (by rw [unhide HDD]; simp <;> omega))
         clear d1 d2 d3
         go_wp2
         go_ret
         exact ⟨unhide HF, unhide HB5⟩
        ·have tn1 : (n == 0) = false := by simpa using n1
         have HF := hide (unhide HYes false (by rw [unhide HDD]; simp <;> omega))
         clear d1 d2 d3 n1
         go_wp2
         go_ret
         exact ⟨unhide HF, unhide HB5⟩
       ·have tl1 : ((sl : Int) == 0) = false := by simpa using l1
        have HF := hide (unhide HYes false (by rw [unhide HDD]; simp <;> omega))
        clear d1 d2 d3 l1
        go_wp2
        go_ret
        exact ⟨unhide HF, unhide HB5⟩
    have to1 : (of != 0) = true := by simpa using o1
    cases hac : acc 15 with
    | false =>
      have HAc := hide hac
      have HF := hide (unhide HYes false (by rw [unhide HDD]; simp [hac] <;> omega))
      clear d1 d2 d3 hac
      clear o1
      go_wp2_with fail
      refine (unhide HM _).mono ?_
      rintro e w6 ⟨rfl, hb6⟩
      have HB6 := hide ((unhide HB5).trans (hb6.mono (unhide HB5).size))
      have HB26 := hide ((unhide HB25).trans (hb6.mono (unhide HB25).size))
      clear hb6 x0 x1 x2 y0 y1 y2 y3 y4 yl
      obtain ⟨⟨x0, x1, x2⟩, ⟨y0, y1, y2, y3, y4⟩, yl⟩ := unhide HCe w6 (unhide HB26)
      rw [unhide HAc]
      go_wp2
      go_ret
      exact ⟨unhide HF, unhide HB6⟩
    | true =>
      have HAc := hide hac
      cases rs with
      | true =>
        by_cases l1 : (sl : Int) = 1
        ·obtain rfl : sl = 1 := by omega
         by_cases n1 : n = 0
         ·subst n1
          have HF := hide (unhide HYes true (by rw [unhide HDD]; simp [hac] <;> omega))
          clear d1 d2 d3
          clear hac
          clear o1
          go_wp2_with fail
          refine (unhide HM _).mono ?_
          rintro e w6 ⟨rfl, hb6⟩
          have HB6 := hide ((unhide HB5).trans (hb6.mono (unhide HB5).size))
          have HB26 := hide ((unhide HB25).trans (hb6.mono (unhide HB25).size))
          clear hb6 x0 x1 x2 y0 y1 y2 y3 y4 yl
          obtain ⟨⟨x0, x1, x2⟩, ⟨y0, y1, y2, y3, y4⟩, yl⟩ := unhide HCe w6 (unhide HB26)
          rw [unhide HAc]
          go_wp2
          go_ret
          exact ⟨unhide HF, unhide HB6⟩
         ·have tn1 : (n == 0) = false := by simpa using n1
          have HF := hide (unhide HYes false (by rw [unhide HDD]; simp [hac] <;> omega))
          clear d1 d2 d3 n1
          clear hac
          clear o1
          go_wp2_with fail
          refine (unhide HM _).mono ?_
          rintro e w6 ⟨rfl, hb6⟩
          have HB6 := hide ((unhide HB5).trans (hb6.mono (unhide HB5).size))
          have HB26 := hide ((unhide HB25).trans (hb6.mono (unhide HB25).size))
          clear hb6 x0 x1 x2 y0 y1 y2 y3 y4 yl
          obtain ⟨⟨x0, x1, x2⟩, ⟨y0, y1, y2, y3, y4⟩, yl⟩ := unhide HCe w6 (unhide HB26)
          rw [unhide HAc]
          go_wp2
          go_ret
          exact ⟨unhide HF, unhide HB6⟩
        ·have tl1 : ((sl : Int) == 1) = false := by simpa using l1
         have HF := hide (unhide HYes false (by rw [unhide HDD]; simp [hac] <;> omega))
         clear d1 d2 d3 l1
         clear hac
         clear o1
         go_wp2_with fail
         refine (unhide HM _).mono ?_
         rintro e w6 ⟨rfl, hb6⟩
         have HB6 := hide ((unhide HB5).trans (hb6.mono (unhide HB5).size))
         have HB26 := hide ((unhide HB25).trans (hb6.mono (unhide HB25).size))
         clear hb6 x0 x1 x2 y0 y1 y2 y3 y4 yl
         obtain ⟨⟨x0, x1, x2⟩, ⟨y0, y1, y2, y3, y4⟩, yl⟩ := unhide HCe w6 (unhide HB26)
         rw [unhide HAc]
         go_wp2
         go_ret
         exact ⟨unhide HF, unhide HB6⟩
      | false =>
        by_cases l1 : (sl : Int) = 0
        ·obtain rfl : sl = 0 := by omega
         by_cases n1 : n = 0
         ·subst n1
          have HF := hide (unhide HYes true (by rw [unhide HDD]; simp [hac] <;> omega))
          clear d1 d2 d3
          clear hac
          clear o1
          go_wp2_with fail
          refine (unhide HM _).mono ?_
          rintro e w6 ⟨rfl, hb6⟩
          have HB6 := hide ((unhide HB5).trans (hb6.mono (unhide HB5).size))
          have HB26 := hide ((unhide HB25).trans (hb6.mono (unhide HB25).size))
          clear hb6 x0 x1 x2 y0 y1 y2 y3 y4 yl
          obtain ⟨⟨x0, x1, x2⟩, ⟨y0, y1, y2, y3, y4⟩, yl⟩ := unhide HCe w6 (unhide HB26)
          rw [unhide HAc]
          go_wp2
          go_ret
          exact ⟨unhide HF, unhide HB6⟩
         ·have tn1 : (n == 0) = false := by simpa using n1
          have HF := hide (unhide HYes false (by rw [unhide HDD]; simp [hac] <;> omega))
          clear d1 d2 d3 n1
          clear hac
          clear o1
          go_wp2_with fail
          refine (unhide HM _).mono ?_
          rintro e w6 ⟨rfl, hb6⟩
          have HB6 := hide ((unhide HB5).trans (hb6.mono (unhide HB5).size))
          have HB26 := hide ((unhide HB25).trans (hb6.mono (unhide HB25).size))
          clear hb6 x0 x1 x2 y0 y1 y2 y3 y4 yl
          obtain ⟨⟨x0, x1, x2⟩, ⟨y0, y1, y2, y3, y4⟩, yl⟩ := unhide HCe w6 (unhide HB26)
          rw [unhide HAc]
          go_wp2
          go_ret
          exact ⟨unhide HF, unhide HB6⟩
        ·have tl1 : ((sl : Int) == 0) = false := by simpa using l1
         have HF := hide (unhide HYes false (by rw [unhide HDD]; simp [hac] <;> omega))
         clear d1 d2 d3 l1
         clear hac
         clear o1
         go_wp2_with fail
         refine (unhide HM _).mono ?_
         rintro e w6 ⟨rfl, hb6⟩
         have HB6 := hide ((unhide HB5).trans (hb6.mono (unhide HB5).size))
         have HB26 := hide ((unhide HB25).trans (hb6.mono (unhide HB25).size))
         clear hb6 x0 x1 x2 y0 y1 y2 y3 y4 yl
         obtain ⟨⟨x0, x1, x2⟩, ⟨y0, y1, y2, y3, y4⟩, yl⟩ := unhide HCe w6 (unhide HB26)
         rw [unhide HAc]
         go_wp2
         go_ret
         exact ⟨unhide HF, unhide HB6⟩
   by_cases k16 : op = 16
   ·subst k16
    have eCI := (unhide HE [99, 97, 108, 108, 95, 105, 110, 100, 105, 114, 101, 99, 116]).trans (show _ = false by decide +kernel)
    have eRET := (unhide HE [114, 101, 116, 117, 114, 110]).trans (show _ = false by decide +kernel)
    have eGG := (unhide HE [103, 108, 111, 98, 97, 108, 46, 103, 101, 116]).trans (show _ = false by decide +kernel)
    have eGS := (unhide HE [103, 108, 111, 98, 97, 108, 46, 115, 101, 116]).trans (show _ = false by decide +kernel)
    have eCALL := (unhide HE [99, 97, 108, 108]).trans (show _ = true by decide +kernel)
    have eCONST := (unhide HE [99, 111, 110, 115, 116]).trans (show _ = false by decide +kernel)
    have hrsh : rsh 16 = (-1, 2) := by decide +kernel
    rw [hrsh] at HDD ⊢
    have hDD := unhide HDD
    clear HE HN HSh
    clear hDD
    by_cases d1 : dst < -1
    ·have HF := hide (unhide HYes false (by rw [unhide HDD]; simp <;> omega))
     go_wp2
     go_ret
     exact ⟨unhide HF, unhide HB5⟩
    have td1 : decide (dst < -1) = false := by simpa using d1
    by_cases d2 : re ≤ dst
    ·have HF := hide (unhide HYes false (by rw [unhide HDD]; simp <;> omega))
     have td2 : decide (dst ≥ re) = true := by simpa using d2
     have td3 : decide (re ≤ dst) = true := by simpa using d2
     clear d1 d2
     go_wp2
     go_ret
     exact ⟨unhide HF, unhide HB5⟩
    have td2 : decide (dst ≥ re) = false := by simpa using d2
    have td3 : decide (re ≤ dst) = false := by simpa using d2
    by_cases o1 : of = 0
    ·subst o1
     by_cases n1 : 0 ≤ n
     ·have tn1 : decide (n ≥ 0) = true := by simpa using n1
      have tn2 : decide (0 ≤ n) = true := by simpa using n1
      have HF := hide (unhide HYes true (by rw [unhide HDD]; simp <;> omega))
      clear d1 d2 n1
      go_wp2
      go_ret
      exact ⟨unhide HF, unhide HB5⟩
     ·have tn1 : decide (n ≥ 0) = false := by simpa using n1
      have tn2 : decide (0 ≤ n) = false := by simpa using n1
      have HF := hide (unhide HYes false (by rw [unhide HDD]; simp <;> omega))
      clear d1 d2 n1
      go_wp2
      go_ret
      exact ⟨unhide HF, unhide HB5⟩
    have to1 : (of != 0) = true := by simpa using o1
    cases hac : acc 16 with
    | false =>
      have HAc := hide hac
      have HF := hide (unhide HYes false (by rw [unhide HDD]; simp [hac] <;> omega))
      clear d1 d2 hac
      clear o1
      go_wp2_with fail
      refine (unhide HM _).mono ?_
      rintro e w6 ⟨rfl, hb6⟩
      have HB6 := hide ((unhide HB5).trans (hb6.mono (unhide HB5).size))
      have HB26 := hide ((unhide HB25).trans (hb6.mono (unhide HB25).size))
      clear hb6 x0 x1 x2 y0 y1 y2 y3 y4 yl
      obtain ⟨⟨x0, x1, x2⟩, ⟨y0, y1, y2, y3, y4⟩, yl⟩ := unhide HCe w6 (unhide HB26)
      rw [unhide HAc]
      go_wp2
      go_ret
      exact ⟨unhide HF, unhide HB6⟩
    | true =>
      have HAc := hide hac
      by_cases n1 : 0 ≤ n
      ·have tn1 : decide (n ≥ 0) = true := by simpa using n1
       have tn2 : decide (0 ≤ n) = true := by simpa using n1
       have HF := hide (unhide HYes true (by rw [unhide HDD]; simp [hac] <;> omega))
       clear d1 d2 n1
       clear hac
       clear o1
       go_wp2_with fail
       refine (unhide HM _).mono ?_
       rintro e w6 ⟨rfl, hb6⟩
       have HB6 := hide ((unhide HB5).trans (hb6.mono (unhide HB5).size))
       have HB26 := hide ((unhide HB25).trans (hb6.mono (unhide HB25).size))
       clear hb6 x0 x1 x2 y0 y1 y2 y3 y4 yl
       obtain ⟨⟨x0, x1, x2⟩, ⟨y0, y1, y2, y3, y4⟩, yl⟩ := unhide HCe w6 (unhide HB26)
       rw [unhide HAc]
       go_wp2
       go_ret
       exact ⟨unhide HF, unhide HB6⟩
      ·have tn1 : decide (n ≥ 0) = false := by simpa using n1
       have tn2 : decide (0 ≤ n) = false := by simpa using n1
       have HF := hide (unhide HYes false (by rw [unhide HDD]; simp [hac] <;> omega))
       clear d1 d2 n1
       clear hac
       clear o1
       go_wp2_with fail
       refine (unhide HM _).mono ?_
       rintro e w6 ⟨rfl, hb6⟩
       have HB6 := hide ((unhide HB5).trans (hb6.mono (unhide HB5).size))
       have HB26 := hide ((unhide HB25).trans (hb6.mono (unhide HB25).size))
       clear hb6 x0 x1 x2 y0 y1 y2 y3 y4 yl
       obtain ⟨⟨x0, x1, x2⟩, ⟨y0, y1, y2, y3, y4⟩, yl⟩ := unhide HCe w6 (unhide HB26)
       rw [unhide HAc]
       go_wp2
       go_ret
       exact ⟨unhide HF, unhide HB6⟩
   by_cases k17 : op = 17
   ·subst k17
    have eCI := (unhide HE [99, 97, 108, 108, 95, 105, 110, 100, 105, 114, 101, 99, 116]).trans (show _ = true by decide +kernel)
    have eRET := (unhide HE [114, 101, 116, 117, 114, 110]).trans (show _ = false by decide +kernel)
    have eGG := (unhide HE [103, 108, 111, 98, 97, 108, 46, 103, 101, 116]).trans (show _ = false by decide +kernel)
    have eGS := (unhide HE [103, 108, 111, 98, 97, 108, 46, 115, 101, 116]).trans (show _ = false by decide +kernel)
    have eCALL := (unhide HE [99, 97, 108, 108]).trans (show _ = false by decide +kernel)
    have eCONST := (unhide HE [99, 111, 110, 115, 116]).trans (show _ = false by decide +kernel)
    have hrsh : rsh 17 = (-1, 2) := by decide +kernel
    rw [hrsh] at HDD ⊢
    have hDD := unhide HDD
    clear HE HN HSh
    clear hDD
    by_cases d1 : dst < -1
    ·have HF := hide (unhide HYes false (by rw [unhide HDD]; simp <;> omega))
     go_wp2
     go_ret
     exact ⟨unhide HF, unhide HB5⟩
    have td1 : decide (dst < -1) = false := by simpa using d1
    by_cases d2 : re ≤ dst
    ·have HF := hide (unhide HYes false (by rw [unhide HDD]; simp <;> omega))
     have td2 : decide (dst ≥ re) = true := by simpa using d2
     have td3 : decide (re ≤ dst) = true := by simpa using d2
     clear d1 d2
     go_wp2
     go_ret
     exact ⟨unhide HF, unhide HB5⟩
    have td2 : decide (dst ≥ re) = false := by simpa using d2
    have td3 : decide (re ≤ dst) = false := by simpa using d2
    by_cases d4 : sl = 0
    ·subst d4
     have HF := hide (unhide HYes false (by rw [unhide HDD]; simp <;> omega))
     clear d1 d2
     go_wp2
     go_ret
     exact ⟨unhide HF, unhide HB5⟩
    have td6 : ((sl : Int) == 0) = false := by simp; omega
    by_cases o1 : of = 0
    ·subst o1
     by_cases n1 : 0 ≤ n
     ·have tn1 : decide (n ≥ 0) = true := by simpa using n1
      have tn2 : decide (0 ≤ n) = true := by simpa using n1
      have HF := hide (unhide HYes true (by rw [unhide HDD]; simp <;> omega))
      clear d1 d2 d4 n1
      go_wp2
      go_ret
      exact ⟨unhide HF, unhide HB5⟩
     ·have tn1 : decide (n ≥ 0) = false := by simpa using n1
      have tn2 : decide (0 ≤ n) = false := by simpa using n1
      have HF := hide (unhide HYes false (by rw [unhide HDD]; simp <;> omega))
      clear d1 d2 d4 n1
      go_wp2
      go_ret
      exact ⟨unhide HF, unhide HB5⟩
    have to1 : (of != 0) = true := by simpa using o1
    cases hac : acc 17 with
    | false =>
      have HAc := hide hac
      have HF := hide (unhide HYes false (by rw [unhide HDD]; simp [hac] <;> omega))
      clear d1 d2 d4 hac
      clear o1
      go_wp2_with fail
      refine (unhide HM _).mono ?_
      rintro e w6 ⟨rfl, hb6⟩
      have HB6 := hide ((unhide HB5).trans (hb6.mono (unhide HB5).size))
      have HB26 := hide ((unhide HB25).trans (hb6.mono (unhide HB25).size))
      clear hb6 x0 x1 x2 y0 y1 y2 y3 y4 yl
      obtain ⟨⟨x0, x1, x2⟩, ⟨y0, y1, y2, y3, y4⟩, yl⟩ := unhide HCe w6 (unhide HB26)
      rw [unhide HAc]
      go_wp2
      go_ret
      exact ⟨unhide HF, unhide HB6⟩
    | true =>
      have HAc := hide hac
      by_cases n1 : 0 ≤ n
      ·have tn1 : decide (n ≥ 0) = true := by simpa using n1
       have tn2 : decide (0 ≤ n) = true := by simpa using n1
       have HF := hide (unhide HYes true (by rw [unhide HDD]; simp [hac] <;> omega))
       clear d1 d2 d4 n1
       clear hac
       clear o1
       go_wp2_with fail
       refine (unhide HM _).mono ?_
       rintro e w6 ⟨rfl, hb6⟩
       have HB6 := hide ((unhide HB5).trans (hb6.mono (unhide HB5).size))
       have HB26 := hide ((unhide HB25).trans (hb6.mono (unhide HB25).size))
       clear hb6 x0 x1 x2 y0 y1 y2 y3 y4 yl
       obtain ⟨⟨x0, x1, x2⟩, ⟨y0, y1, y2, y3, y4⟩, yl⟩ := unhide HCe w6 (unhide HB26)
       rw [unhide HAc]
       go_wp2
       go_ret
       exact ⟨unhide HF, unhide HB6⟩
      ·have tn1 : decide (n ≥ 0) = false := by simpa using n1
       have tn2 : decide (0 ≤ n) = false := by simpa using n1
       have HF := hide (unhide HYes false (by rw [unhide HDD]; simp [hac] <;> omega))
       clear d1 d2 d4 n1
       clear hac
       clear o1
       go_wp2_with fail
       refine (unhide HM _).mono ?_
       rintro e w6 ⟨rfl, hb6⟩
       have HB6 := hide ((unhide HB5).trans (hb6.mono (unhide HB5).size))
       have HB26 := hide ((unhide HB25).trans (hb6.mono (unhide HB25).size))
       clear hb6 x0 x1 x2 y0 y1 y2 y3 y4 yl
       obtain ⟨⟨x0, x1, x2⟩, ⟨y0, y1, y2, y3, y4⟩, yl⟩ := unhide HCe w6 (unhide HB26)
       rw [unhide HAc]
       go_wp2
       go_ret
       exact ⟨unhide HF, unhide HB6⟩
   by_cases k35 : op = 35
   ·subst k35
    have eCI := (unhide HE [99, 97, 108, 108, 95, 105, 110, 100, 105, 114, 101, 99, 116]).trans (show _ = false by decide +kernel)
    have eRET := (unhide HE [114, 101, 116, 117, 114, 110]).trans (show _ = false by decide +kernel)
    have eGG := (unhide HE [103, 108, 111, 98, 97, 108, 46, 103, 101, 116]).trans (show _ = true by decide +kernel)
    have eGS := (unhide HE [103, 108, 111, 98, 97, 108, 46, 115, 101, 116]).trans (show _ = false by decide +kernel)
    have eCALL := (unhide HE [99, 97, 108, 108]).trans (show _ = false by decide +kernel)
    have eCONST := (unhide HE [99, 111, 110, 115, 116]).trans (show _ = false by decide +kernel)
    have hrsh : rsh 35 = (0, 1) := by decide +kernel
    rw [hrsh] at HDD ⊢
    have hDD := unhide HDD
    clear HE HN HSh
    by_cases c1 : sl = 0
    ·subst c1
     clear hDD
     by_cases d1 : dst < -1
     ·have HF := hide (unhide HYes false (by rw [unhide HDD]; simp <;> omega))
      go_wp2
      go_ret
      exact ⟨unhide HF, unhide HB5⟩
     have td1 : decide (dst < -1) = false := by simpa using d1
     by_cases d2 : re ≤ dst
     ·have HF := hide (unhide HYes false (by rw [unhide HDD]; simp <;> omega))
      have td2 : decide (dst ≥ re) = true := by simpa using d2
      have td3 : decide (re ≤ dst) = true := by simpa using d2
      clear d1 d2
      go_wp2
      go_ret
      exact ⟨unhide HF, unhide HB5⟩
     have td2 : decide (dst ≥ re) = false := by simpa using d2
     have td3 : decide (re ≤ dst) = false := by simpa using d2
     by_cases d3 : dst < 0
     ·have HF := hide (unhide HYes false (by rw [unhide HDD]; simp <;> omega))
      have td4 : decide (dst ≥ 0) = false := by simp; omega
      have td5 : decide (0 ≤ dst) = false := by simp; omega
      clear d1 d2 d3
      go_wp2
      go_ret
      exact ⟨unhide HF, unhide HB5⟩
     have td4 : decide (dst ≥ 0) = true := by simp; omega
     have td5 : decide (0 ≤ dst) = true := by simp; omega
     by_cases o1 : of = 0
     ·subst o1
      by_cases n1 : 0 ≤ n
      ·have tn1 : decide (n ≥ 0) = true := by simpa using n1
       have tn2 : decide (0 ≤ n) = true := by simpa using n1
       have HF := hide (unhide HYes true (by rw [unhide HDD]; simp <;> omega))
       clear d1 d2 d3 n1
       go_wp2
       go_ret
       exact ⟨unhide HF, unhide HB5⟩
      ·have tn1 : decide (n ≥ 0) = false := by simpa using n1
       have tn2 : decide (0 ≤ n) = false := by simpa using n1
       have HF := hide (unhide HYes false (by rw [unhide HDD]; simp <;> omega))
       clear d1 d2 d3 n1
       go_wp2
       go_ret
       exact ⟨unhide HF, unhide HB5⟩
     have to1 : (of != 0) = true := by simpa using o1
     cases hac : acc 35 with
     | false =>
       have HAc := hide hac
       have HF := hide (unhide HYes false (by rw [unhide HDD]; simp [hac] <;> omega))
       clear d1 d2 d3 hac
       clear o1
       go_wp2_with fail
       refine (unhide HM _).mono ?_
       rintro e w6 ⟨rfl, hb6⟩
       have HB6 := hide ((unhide HB5).trans (hb6.mono (unhide HB5).size))
       have HB26 := hide ((unhide HB25).trans (hb6.mono (unhide HB25).size))
       clear hb6 x0 x1 x2 y0 y1 y2 y3 y4 yl
       obtain ⟨⟨x0, x1, x2⟩, ⟨y0, y1, y2, y3, y4⟩, yl⟩ := unhide HCe w6 (unhide HB26)
       rw [unhide HAc]
       go_wp2
       go_ret
       exact ⟨unhide HF, unhide HB6⟩
     | true =>
       have HAc := hide hac
       by_cases n1 : 0 ≤ n
       ·have tn1 : decide (n ≥ 0) = true := by simpa using n1
        have tn2 : decide (0 ≤ n) = true := by simpa using n1
        have HF := hide (unhide HYes true (by rw [unhide HDD]; simp [hac] <;> omega))
        clear d1 d2 d3 n1
        clear hac
        clear o1
        go_wp2_with fail
        refine (unhide HM _).mono ?_
        rintro e w6 ⟨rfl, hb6⟩
        have HB6 := hide ((unhide HB5).trans (hb6.mono (unhide HB5).size))
        have HB26 := hide ((unhide HB25).trans (hb6.mono (unhide HB25).size))
        clear hb6 x0 x1 x2 y0 y1 y2 y3 y4 yl
        obtain ⟨⟨x0, x1, x2⟩, ⟨y0, y1, y2, y3, y4⟩, yl⟩ := unhide HCe w6 (unhide HB26)
        rw [unhide HAc]
        go_wp2
        go_ret
        exact ⟨unhide HF, unhide HB6⟩
       ·have tn1 : decide (n ≥ 0) = false := by simpa using n1
        have tn2 : decide (0 ≤ n) = false := by simpa using n1
        have HF := hide (unhide HYes false (by rw [unhide HDD]; simp [hac] <;> omega))
        clear d1 d2 d3 n1
        clear hac
        clear o1
        go_wp2_with fail
        refine (unhide HM _).mono ?_
        rintro e w6 ⟨rfl, hb6⟩
        have HB6 := hide ((unhide HB5).trans (hb6.mono (unhide HB5).size))
        have HB26 := hide ((unhide HB25).trans (hb6.mono (unhide HB25).size))
        clear hb6 x0 x1 x2 y0 y1 y2 y3 y4 yl
        obtain ⟨⟨x0, x1, x2⟩, ⟨y0, y1, y2, y3, y4⟩, yl⟩ := unhide HCe w6 (unhide HB26)
        rw [unhide HAc]
        go_wp2
        go_ret
        exact ⟨unhide HF, unhide HB6⟩
    ·have tc1 : ((sl : Int) != 0) = true := by simp; omega
     have HF := hide (unhide HYes false (by rw [unhide HDD]; simp <;> omega))
     clear c1 hDD
     go_wp2
     go_ret
     exact ⟨unhide HF, unhide HB5⟩
   by_cases k36 : op = 36
   ·subst k36
    have eCI := (unhide HE [99, 97, 108, 108, 95, 105, 110, 100, 105, 114, 101, 99, 116]).trans (show _ = false by decide +kernel)
    have eRET := (unhide HE [114, 101, 116, 117, 114, 110]).trans (show _ = false by decide +kernel)
    have eGG := (unhide HE [103, 108, 111, 98, 97, 108, 46, 103, 101, 116]).trans (show _ = false by decide +kernel)
    have eGS := (unhide HE [103, 108, 111, 98, 97, 108, 46, 115, 101, 116]).trans (show _ = true by decide +kernel)
    have eCALL := (unhide HE [99, 97, 108, 108]).trans (show _ = false by decide +kernel)
    have eCONST := (unhide HE [99, 111, 110, 115, 116]).trans (show _ = false by decide +kernel)
    have hrsh : rsh 36 = (1, 0) := by decide +kernel
    rw [hrsh] at HDD ⊢
    have hDD := unhide HDD
    clear HE HN HSh
    by_cases c1 : sl = 1
    ·subst c1
     clear hDD
     by_cases d1 : dst < -1
     ·have HF := hide (unhide HYes false (by rw [unhide HDD]; simp <;> omega))
      go_wp2
      go_ret
      exact ⟨unhide HF, unhide HB5⟩
     have td1 : decide (dst < -1) = false := by simpa using d1
     by_cases d2 : re ≤ dst
     ·have HF := hide (unhide HYes false (by rw [unhide HDD]; simp <;> omega))
      have td2 : decide (dst ≥ re) = true := by simpa using d2
      have td3 : decide (re ≤ dst) = true := by simpa using d2
      clear d1 d2
      go_wp2
      go_ret
      exact ⟨unhide HF, unhide HB5⟩
     have td2 : decide (dst ≥ re) = false := by simpa using d2
     have td3 : decide (re ≤ dst) = false := by simpa using d2
     by_cases d3 : 0 ≤ dst
     ·have HF := hide (unhide HYes false (by rw [unhide HDD]; simp <;> omega))
      have td4 : decide (dst ≥ 0) = true := by simp; omega
      have td5 : decide (0 ≤ dst) = true := by simp; omega
      clear d1 d2 d3
      go_wp2
      go_ret
      exact ⟨unhide HF, unhide HB5⟩
     have td4 : decide (dst ≥ 0) = false := by simp; omega
     have td5 : decide (0 ≤ dst) = false := by simp; omega
     by_cases o1 : of = 0
     ·subst o1
      by_cases n1 : 0 ≤ n
      ·have tn1 : decide (n ≥ 0) = true := by simpa using n1
       have tn2 : decide (0 ≤ n) = true := by simpa using n1
       have HF := hide (unhide HYes true (by rw [unhide HDD]; simp <;> omega))
       clear d1 d2 d3 n1
       go_wp2
       go_ret
       exact ⟨unhide HF, unhide HB5⟩
      ·have tn1 : decide (n ≥ 0) = false := by simpa using n1
       have tn2 : decide (0 ≤ n) = false := by simpa using n1
       have HF := hide (unhide HYes false (by rw [unhide HDD]; simp <;> omega))
       clear d1 d2 d3 n1
       go_wp2
       go_ret
       exact ⟨unhide HF, unhide HB5⟩
     have to1 : (of != 0) = true := by simpa using o1
     cases hac : acc 36 with
     | false =>
       have HAc := hide hac
       have HF := hide (unhide HYes false (by rw [unhide HDD]; simp [hac] <;> omega))
       clear d1 d2 d3 hac
       clear o1
       go_wp2_with fail
       refine (unhide HM _).mono ?_
       rintro e w6 ⟨rfl, hb6⟩
       have HB6 := hide ((unhide HB5).trans (hb6.mono (unhide HB5).size))
       have HB26 := hide ((unhide HB25).trans (hb6.mono (unhide HB25).size))
       clear hb6 x0 x1 x2 y0 y1 y2 y3 y4 yl
       obtain ⟨⟨x0, x1, x2⟩, ⟨y0, y1, y2, y3, y4⟩, yl⟩ := unhide HCe w6 (unhide HB26)
       rw [unhide HAc]
       go_wp2
       go_ret
       exact ⟨unhide HF, unhide HB6⟩
     | true =>
       have HAc := hide hac
       by_cases n1 : 0 ≤ n
       ·have tn1 : decide (n ≥ 0) = true := by simpa using n1
        have tn2 : decide (0 ≤ n) = true := by simpa using n1
        have HF := hide (unhide HYes true (by rw [unhide HDD]; simp [hac] <;> omega))
        clear d1 d2 d3 n1
        clear hac
        clear o1
        go_wp2_with fail
        refine (unhide HM _).mono ?_
        rintro e w6 ⟨rfl, hb6⟩
        have HB6 := hide ((unhide HB5).trans (hb6.mono (unhide HB5).size))
        have HB26 := hide ((unhide HB25).trans (hb6.mono (unhide HB25).size))
        clear hb6 x0 x1 x2 y0 y1 y2 y3 y4 yl
        obtain ⟨⟨x0, x1, x2⟩, ⟨y0, y1, y2, y3, y4⟩, yl⟩ := unhide HCe w6 (unhide HB26)
        rw [unhide HAc]
        go_wp2
        go_ret
        exact ⟨unhide HF, unhide HB6⟩
       ·have tn1 : decide (n ≥ 0) = false := by simpa using n1
        have tn2 : decide (0 ≤ n) = false := by simpa using n1
        have HF := hide (unhide HYes false (by rw [unhide HDD]; simp [hac] <;> omega))
        clear d1 d2 d3 n1
        clear hac
        clear o1
        go_wp2_with fail
        refine (unhide HM _).mono ?_
        rintro e w6 ⟨rfl, hb6⟩
        have HB6 := hide ((unhide HB5).trans (hb6.mono (unhide HB5).size))
        have HB26 := hide ((unhide HB25).trans (hb6.mono (unhide HB25).size))
        clear hb6 x0 x1 x2 y0 y1 y2 y3 y4 yl
        obtain ⟨⟨x0, x1, x2⟩, ⟨y0, y1, y2, y3, y4⟩, yl⟩ := unhide HCe w6 (unhide HB26)
        rw [unhide HAc]
        go_wp2
        go_ret
        exact ⟨unhide HF, unhide HB6⟩
    ·have tc1 : ((sl : Int) != 1) = true := by simp; omega
     have HF := hide (unhide HYes false (by rw [unhide HDD]; simp <;> omega))
     clear c1 hDD
     go_wp2
     go_ret
     exact ⟨unhide HF, unhide HB5⟩
   by_cases k66 : op = 66
   ·subst k66
    have eCI := (unhide HE [99, 97, 108, 108, 95, 105, 110, 100, 105, 114, 101, 99, 116]).trans (show _ = false by decide +kernel)
    have eRET := (unhide HE [114, 101, 116, 117, 114, 110]).trans (show _ = false by decide +kernel)
    have eGG := (unhide HE [103, 108, 111, 98, 97, 108, 46, 103, 101, 116]).trans (show _ = false by decide +kernel)
    have eGS := (unhide HE [103, 108, 111, 98, 97, 108, 46, 115, 101, 116]).trans (show _ = false by decide +kernel)
    have eCALL := (unhide HE [99, 97, 108, 108]).trans (show _ = false by decide +kernel)
    have eCONST := (unhide HE [99, 111, 110, 115, 116]).trans (show _ = true by decide +kernel)
    have hrsh : rsh 66 = (0, 1) := by decide +kernel
    rw [hrsh] at HDD ⊢
    have hDD := unhide HDD
    clear HE HN HSh
    by_cases c1 : sl = 0
    ·subst c1
     clear hDD
     by_cases d1 : dst < -1
     ·have HF := hide (unhide HYes false (by rw [unhide HDD]; simp <;> omega))
      go_wp2
      go_ret
      exact ⟨unhide HF, unhide HB5⟩
     have td1 : decide (dst < -1) = false := by simpa using d1
     by_cases d2 : re ≤ dst
     ·have HF := hide (unhide HYes false (by rw [unhide HDD]; simp <;> omega))
      have td2 : decide (dst ≥ re) = true := by simpa using d2
      have td3 : decide (re ≤ dst) = true := by simpa using d2
      clear d1 d2
      go_wp2
      go_ret
      exact ⟨unhide HF, unhide HB5⟩
     have td2 : decide (dst ≥ re) = false := by simpa using d2
     have td3 : decide (re ≤ dst) = false := by simpa using d2
     by_cases d3 : dst < 0
     ·have HF := hide (unhide HYes false (by rw [unhide HDD]; simp <;> omega))
      have td4 : decide (dst ≥ 0) = false := by simp; omega
      have td5 : decide (0 ≤ dst) = false := by simp; omega
      clear d1 d2 d3
      go_wp2
      go_ret
      exact ⟨unhide HF, unhide HB5⟩
     have td4 : decide (dst ≥ 0) = true := by simp; omega
     have td5 : decide (0 ≤ dst) = true := by simp; omega
     by_cases o1 : of = 0
     ·subst o1
      have HF := hide (unhide HYes true (by rw [unhide HDD]; simp <;> omega))
      clear d1 d2 d3
      go_wp2
      go_ret
      exact ⟨unhide HF, unhide HB5⟩
     have to1 : (of != 0) = true := by simpa using o1
     cases hac : acc 66 with
     | false =>
       have HAc := hide hac
       have HF := hide (unhide HYes false (by rw [unhide HDD]; simp [hac] <;> omega))
       clear d1 d2 d3 hac
       clear o1
       go_wp2_with fail
       refine (unhide HM _).mono ?_
       rintro e w6 ⟨rfl, hb6⟩
       have HB6 := hide ((unhide HB5).trans (hb6.mono (unhide HB5).size))
       have HB26 := hide ((unhide HB25).trans (hb6.mono (unhide HB25).size))
       clear hb6 x0 x1 x2 y0 y1 y2 y3 y4 yl
       obtain ⟨⟨x0, x1, x2⟩, ⟨y0, y1, y2, y3, y4⟩, yl⟩ := unhide HCe w6 (unhide HB26)
       rw [unhide HAc]
       go_wp2
       go_ret
       exact ⟨unhide HF, unhide HB6⟩
     | true =>
       have HAc := hide hac
       have HF := hide (unhide HYes true (by rw [unhide HDD]; simp [hac] <;> omega))
       clear d1 d2 d3
       clear hac
       clear o1
       go_wp2_with fail
       refine (unhide HM _).mono ?_
       rintro e w6 ⟨rfl, hb6⟩
       have HB6 := hide ((unhide HB5).trans (hb6.mono (unhide HB5).size))
       have HB26 := hide ((unhide HB25).trans (hb6.mono (unhide HB25).size))
       clear hb6 x0 x1 x2 y0 y1 y2 y3 y4 yl
       obtain ⟨⟨x0, x1, x2⟩, ⟨y0, y1, y2, y3, y4⟩, yl⟩ := unhide HCe w6 (unhide HB26)
       rw [unhide HAc]
       go_wp2
       go_ret
       exact ⟨unhide HF, unhide HB6⟩
    ·have tc1 : ((sl : Int) != 0) = true := by simp; omega
     have HF := hide (unhide HYes false (by rw [unhide HDD]; simp <;> omega))
     clear c1 hDD
     go_wp2
     go_ret
     exact ⟨unhide HF, unhide HB5⟩
   have h6 := List.all_eq_true.1 six_no op (List.mem_range.2 (unhide HOp))
   have hc6 : [15, 16, 17, 35, 36, 66].contains op = false := by simp [k15, k16, k17, k35, k36, k66]
   rw [hc6, Bool.false_or] at h6
   simp only [Bool.and_eq_true, decide_eq_true_eq, Bool.or_eq_true, beq_iff_eq] at h6
   obtain ⟨⟨⟨hq6, ht0⟩, ht4⟩, hg6⟩ := h6
   have hq7 := List.all_eq_true.1 hq6
   have eCI : (S.toList == [99, 97, 108, 108, 95, 105, 110, 100, 105, 114, 101, 99, 116]) = false := by rw [unhide HE]; have := hq7 [99, 97, 108, 108, 95, 105, 110, 100, 105, 114, 101, 99, 116] (by decide); simpa using this
   have eRET : (S.toList == [114, 101, 116, 117, 114, 110]) = false := by rw [unhide HE]; have := hq7 [114, 101, 116, 117, 114, 110] (by decide); simpa using this
   have eGG : (S.toList == [103, 108, 111, 98, 97, 108, 46, 103, 101, 116]) = false := by rw [unhide HE]; have := hq7 [103, 108, 111, 98, 97, 108, 46, 103, 101, 116] (by decide); simpa using this
   have eGS : (S.toList == [103, 108, 111, 98, 97, 108, 46, 115, 101, 116]) = false := by rw [unhide HE]; have := hq7 [103, 108, 111, 98, 97, 108, 46, 115, 101, 116] (by decide); simpa using this
   have eCALL : (S.toList == [99, 97, 108, 108]) = false := by rw [unhide HE]; have := hq7 [99, 97, 108, 108] (by decide); simpa using this
   have eCONST : (S.toList == [99, 111, 110, 115, 116]) = false := by rw [unhide HE]; have := hq7 [99, 111, 110, 115, 116] (by decide); simpa using this
   generalize (rsh op).1 = t at *
   generalize (rsh op).2 = gg at *
   have HK := hide (show ¬ op = 15 ∧ ¬ op = 16 ∧ ¬ op = 17 ∧ ¬ op = 35 ∧ ¬ op = 36 ∧ ¬ op = 66 from ⟨k15, k16, k17, k35, k36, k66⟩)
   have HT := hide ht0
   have tt0 : decide (t ≥ 0) = true := by simpa using ht0
   have tt1 : decide (0 ≤ t) = true := by simpa using ht0
   clear hq6 hq7 hc6 HE HN HSh k15 k16 k17 k35 k36 k66 ht0 ht4
   by_cases c1 : (sl : Int) = t
   ·subst c1
    rcases hg6 with rfl | rfl
    ·by_cases d1 : dst < -1
     ·have HF := hide (unhide HYes false (by rw [unhide HDD]; have hK := unhide HK; have hT := unhide HT; simp [hK.1, hK.2.1, hK.2.2.1, hK.2.2.2.1, hK.2.2.2.2.1, hK.2.2.2.2.2] <;> omega))
      go_wp2
      go_ret
      exact ⟨unhide HF, unhide HB5⟩
     have td1 : decide (dst < -1) = false := by simpa using d1
     by_cases d2 : re ≤ dst
     ·have HF := hide (unhide HYes false (by rw [unhide HDD]; have hK := unhide HK; have hT := unhide HT; simp [hK.1, hK.2.1, hK.2.2.1, hK.2.2.2.1, hK.2.2.2.2.1, hK.2.2.2.2.2] <;> omega))
      have td2 : decide (dst ≥ re) = true := by simpa using d2
      have td3 : decide (re ≤ dst) = true := by simpa using d2
      clear d1 d2
      go_wp2
      go_ret
      exact ⟨unhide HF, unhide HB5⟩
     have td2 : decide (dst ≥ re) = false := by simpa using d2
     have td3 : decide (re ≤ dst) = false := by simpa using d2
     by_cases d3 : 0 ≤ dst
     ·have HF := hide (unhide HYes false (by rw [unhide HDD]; have hK := unhide HK; have hT := unhide HT; simp [hK.1, hK.2.1, hK.2.2.1, hK.2.2.2.1, hK.2.2.2.2.1, hK.2.2.2.2.2] <;> omega))
      have td4 : decide (dst ≥ 0) = true := by simp; omega
      have td5 : decide (0 ≤ dst) = true := by simp; omega
      clear d1 d2 d3
      go_wp2
      go_ret
      exact ⟨unhide HF, unhide HB5⟩
     have td4 : decide (dst ≥ 0) = false := by simp; omega
     have td5 : decide (0 ≤ dst) = false := by simp; omega
     by_cases o1 : of = 0
     ·subst o1
      by_cases n1 : n = 0
      ·subst n1
       have HF := hide (unhide HYes true (by rw [unhide HDD]; have hK := unhide HK; have hT := unhide HT; simp [hK.1, hK.2.1, hK.2.2.1, hK.2.2.2.1, hK.2.2.2.2.1, hK.2.2.2.2.2] <;> omega))
       clear d1 d2 d3
       go_wp2
       go_ret
       exact ⟨unhide HF, unhide HB5⟩
      ·have tn1 : (n == 0) = false := by simpa using n1
       have HF := hide (unhide HYes false (by rw [unhide HDD]; have hK := unhide HK; have hT := unhide HT; simp [hK.1, hK.2.1, hK.2.2.1, hK.2.2.2.1, hK.2.2.2.2.1, hK.2.2.2.2.2] <;> omega))
       clear d1 d2 d3 n1
       go_wp2
       go_ret
       exact ⟨unhide HF, unhide HB5⟩
     have to1 : (of != 0) = true := by simpa using o1
     cases hac : acc op with
     | false =>
       have HAc := hide hac
       have HF := hide (unhide HYes false (by rw [unhide HDD]; have hK := unhide HK; have hT := unhide HT; simp [hac, hK.1, hK.2.1, hK.2.2.1, hK.2.2.2.1, hK.2.2.2.2.1, hK.2.2.2.2.2] <;> omega))
       clear d1 d2 d3 hac
       clear o1
       go_wp2_with fail
       refine (unhide HM _).mono ?_
       rintro e w6 ⟨rfl, hb6⟩
       have HB6 := hide ((unhide HB5).trans (hb6.mono (unhide HB5).size))
       have HB26 := hide ((unhide HB25).trans (hb6.mono (unhide HB25).size))
       clear hb6 x0 x1 x2 y0 y1 y2 y3 y4 yl
       obtain ⟨⟨x0, x1, x2⟩, ⟨y0, y1, y2, y3, y4⟩, yl⟩ := unhide HCe w6 (unhide HB26)
       rw [unhide HAc]
       go_wp2
       go_ret
       exact ⟨unhide HF, unhide HB6⟩
     | true =>
       have HAc := hide hac
       by_cases n1 : n = 0
       ·subst n1
        have HF := hide (unhide HYes true (by rw [unhide HDD]; have hK := unhide HK; have hT := unhide HT; simp [hac, hK.1, hK.2.1, hK.2.2.1, hK.2.2.2.1, hK.2.2.2.2.1, hK.2.2.2.2.2] <;> omega))
        clear d1 d2 d3
        clear hac
        clear o1
        go_wp2_with fail
        refine (unhide HM _).mono ?_
        rintro e w6 ⟨rfl, hb6⟩
        have HB6 := hide ((unhide HB5).trans (hb6.mono (unhide HB5).size))
        have HB26 := hide ((unhide HB25).trans (hb6.mono (unhide HB25).size))
        clear hb6 x0 x1 x2 y0 y1 y2 y3 y4 yl
        obtain ⟨⟨x0, x1, x2⟩, ⟨y0, y1, y2, y3, y4⟩, yl⟩ := unhide HCe w6 (unhide HB26)
        rw [unhide HAc]
        go_wp2
        go_ret
        exact ⟨unhide HF, unhide HB6⟩
       ·have tn1 : (n == 0) = false := by simpa using n1
        have HF := hide (unhide HYes false (by rw [unhide HDD]; have hK := unhide HK; have hT := unhide HT; simp [hac, hK.1, hK.2.1, hK.2.2.1, hK.2.2.2.1, hK.2.2.2.2.1, hK.2.2.2.2.2] <;> omega))
        clear d1 d2 d3 n1
        clear hac
        clear o1
        go_wp2_with fail
        refine (unhide HM _).mono ?_
        rintro e w6 ⟨rfl, hb6⟩
        have HB6 := hide ((unhide HB5).trans (hb6.mono (unhide HB5).size))
        have HB26 := hide ((unhide HB25).trans (hb6.mono (unhide HB25).size))
        clear hb6 x0 x1 x2 y0 y1 y2 y3 y4 yl
        obtain ⟨⟨x0, x1, x2⟩, ⟨y0, y1, y2, y3, y4⟩, yl⟩ := unhide HCe w6 (unhide HB26)
        rw [unhide HAc]
        go_wp2
        go_ret
        exact ⟨unhide HF, unhide HB6⟩
    ·by_cases d1 : dst < -1
     ·have HF := hide (unhide HYes false (by rw [unhide HDD]; have hK := unhide HK; have hT := unhide HT; simp [hK.1, hK.2.1, hK.2.2.1, hK.2.2.2.1, hK.2.2.2.2.1, hK.2.2.2.2.2] <;> omega))
      go_wp2
      go_ret
      exact ⟨unhide HF, unhide HB5⟩
     have td1 : decide (dst < -1) = false := by simpa using d1
     by_cases d2 : re ≤ dst
     ·have HF := hide (unhide HYes false (by rw [unhide HDD]; have hK := unhide HK; have hT := unhide HT; simp [hK.1, hK.2.1, hK.2.2.1, hK.2.2.2.1, hK.2.2.2.2.1, hK.2.2.2.2.2] <;> omega))
      have td2 : decide (dst ≥ re) = true := by simpa using d2
      have td3 : decide (re ≤ dst) = true := by simpa using d2
      clear d1 d2
      go_wp2
      go_ret
      exact ⟨unhide HF, unhide HB5⟩
     have td2 : decide (dst ≥ re) = false := by simpa using d2
     have td3 : decide (re ≤ dst) = false := by simpa using d2
     by_cases d3 : dst < 0
     ·have HF := hide (unhide HYes false (by rw [unhide HDD]; have hK := unhide HK; have hT := unhide HT; simp [hK.1, hK.2.1, hK.2.2.1, hK.2.2.2.1, hK.2.2.2.2.1, hK.2.2.2.2.2] <;> omega))
      have td4 : decide (dst ≥ 0) = false := by simp; omega
      have td5 : decide (0 ≤ dst) = false := by simp; omega
      clear d1 d2 d3
      go_wp2
      go_ret
      exact ⟨unhide HF, unhide HB5⟩
     have td4 : decide (dst ≥ 0) = true := by simp; omega
     have td5 : decide (0 ≤ dst) = true := by simp; omega
     by_cases o1 : of = 0
     ·subst o1
      by_cases n1 : n = 0
      ·subst n1
       have HF := hide (unhide HYes true (by rw [unhide HDD]; have hK := unhide HK; have hT := unhide HT; simp [hK.1, hK.2.1, hK.2.2.1, hK.2.2.2.1, hK.2.2.2.2.1, hK.2.2.2.2.2] <;> omega))
       clear d1 d2 d3
       go_wp2
       go_ret
       exact ⟨unhide HF, unhide HB5⟩
      ·have tn1 : (n == 0) = false := by simpa using n1
       have HF := hide (unhide HYes false (by rw [unhide HDD]; have hK := unhide HK; have hT := unhide HT; simp [hK.1, hK.2.1, hK.2.2.1, hK.2.2.2.1, hK.2.2.2.2.1, hK.2.2.2.2.2] <;> omega))
       clear d1 d2 d3 n1
       go_wp2
       go_ret
       exact ⟨unhide HF, unhide HB5⟩
     have to1 : (of != 0) = true := by simpa using o1
     cases hac : acc op with
     | false =>
       have HAc := hide hac
       have HF := hide (unhide HYes false (by rw [unhide HDD]; have hK := unhide HK; have hT := unhide HT; simp [hac, hK.1, hK.2.1, hK.2.2.1, hK.2.2.2.1, hK.2.2.2.2.1, hK.2.2.2.2.2] <;> omega))
       clear d1 d2 d3 hac
       clear o1
       go_wp2_with fail
       refine (unhide HM _).mono ?_
       rintro e w6 ⟨rfl, hb6⟩
       have HB6 := hide ((unhide HB5).trans (hb6.mono (unhide HB5).size))
       have HB26 := hide ((unhide HB25).trans (hb6.mono (unhide HB25).size))
       clear hb6 x0 x1 x2 y0 y1 y2 y3 y4 yl
       obtain ⟨⟨x0, x1, x2⟩, ⟨y0, y1, y2, y3, y4⟩, yl⟩ := unhide HCe w6 (unhide HB26)
       rw [unhide HAc]
       go_wp2
       go_ret
       exact ⟨unhide HF, unhide HB6⟩
     | true =>
       have HAc := hide hac
       by_cases n1 : n = 0
       ·subst n1
        have HF := hide (unhide HYes true (by rw [unhide HDD]; have hK := unhide HK; have hT := unhide HT; simp [hac, hK.1, hK.2.1, hK.2.2.1, hK.2.2.2.1, hK.2.2.2.2.1, hK.2.2.2.2.2] <;> omega))
        clear d1 d2 d3
        clear hac
        clear o1
        go_wp2_with fail
        refine (unhide HM _).mono ?_
        rintro e w6 ⟨rfl, hb6⟩
        have HB6 := hide ((unhide HB5).trans (hb6.mono (unhide HB5).size))
        have HB26 := hide ((unhide HB25).trans (hb6.mono (unhide HB25).size))
        clear hb6 x0 x1 x2 y0 y1 y2 y3 y4 yl
        obtain ⟨⟨x0, x1, x2⟩, ⟨y0, y1, y2, y3, y4⟩, yl⟩ := unhide HCe w6 (unhide HB26)
        rw [unhide HAc]
        go_wp2
        go_ret
        exact ⟨unhide HF, unhide HB6⟩
       ·have tn1 : (n == 0) = false := by simpa using n1
        have HF := hide (unhide HYes false (by rw [unhide HDD]; have hK := unhide HK; have hT := unhide HT; simp [hac, hK.1, hK.2.1, hK.2.2.1, hK.2.2.2.1, hK.2.2.2.2.1, hK.2.2.2.2.2] <;> omega))
        clear d1 d2 d3 n1
        clear hac
        clear o1
        go_wp2_with fail
        refine (unhide HM _).mono ?_
        rintro e w6 ⟨rfl, hb6⟩
        have HB6 := hide ((unhide HB5).trans (hb6.mono (unhide HB5).size))
        have HB26 := hide ((unhide HB25).trans (hb6.mono (unhide HB25).size))
        clear hb6 x0 x1 x2 y0 y1 y2 y3 y4 yl
        obtain ⟨⟨x0, x1, x2⟩, ⟨y0, y1, y2, y3, y4⟩, yl⟩ := unhide HCe w6 (unhide HB26)
        rw [unhide HAc]
        go_wp2
        go_ret
        exact ⟨unhide HF, unhide HB6⟩
   ·have tc1 : ((sl : Int) != t) = true := by simpa using c1
    have HF := hide (unhide HYes false (by rw [unhide HDD]; have hK := unhide HK; have hT := unhide HT; simp [hK.1, hK.2.1, hK.2.2.1, hK.2.2.2.1, hK.2.2.2.2.1, hK.2.2.2.2.2] <;> omega))
    clear c1 hg6
    go_wp2
    go_ret
    exact ⟨unhide HF, unhide HB5⟩
end Vc
end Go.Proofs.YtglehoekehiaiaaGreatDoor
