/- flow: made, Trim, Thread and Join of code that may not be. -/
import Derived.Test.YtglehoekehiaiaaGreatDoorK11
import Derived.Test.YtglehoekehiaiaaGreatDoorK13
import Derived.Test.YtglehoekehiaiaaGreatDoorK14
namespace Go.Proofs.YtglehoekehiaiaaGreatDoor
open Go.RowKit
set_option linter.unusedVariables false
set_option linter.unusedSimpArgs false
set_option maxRecDepth 100000
set_option maxHeartbeats 32000000
namespace Fw
open Vc (NumsL Nums Lies LL Bls BlC InC Bl Co WfC WfB chk siz Fms infoN infoBl own_base RowT cob cob_cells)
theorem made_no (c : Co) (hw : WfC c) (hc : chk c = false) (hz : siz c.bl ≤ 1099511627776) (g : Nat → Prop) (v fv : Value) (w : World) (hT : Fms w) (hv : Bls w g c.bl v) (hg : ∀ k, g k → k < w.heap.size) :
    Calls Tryz.prog 41 #[.agg #[.int .i64 c.pa, .int .i64 c.re, .bool c.rs, v], fv] w fun e w' => e = .returned (.tuple #[.agg #[.int .i64 0, .int .i64 0, .bool false, .slice none 0 0], .iface 76 (.int .i64 1)]) ∧ Below w.heap.size w w' := by
 obtain ⟨va, vc, rfl, -, -, -⟩ := id hv
 obtain ⟨n, hn⟩ : ∃ n, n = c.bl.length := ⟨_, rfl⟩
 obtain ⟨X, hX⟩ : ∃ X, X = (w.alloc (.cells (cob c.pa c.re c.rs (.slice va n vc)) 29)).alloc (.cells (cob 0 0 false (.slice none 0 0)) 29) := ⟨_, rfl⟩
 have hXb : Below w.heap.size w X := by rw [hX]; exact Vc.two_allocs w _ _
 have hXz : X.heap.size = w.heap.size + 2 := by rw [hX]; simp
 have r0 : X.heap[w.heap.size]? = some (.cells (cob c.pa c.re c.rs (.slice va n vc)) 29 (0, 0)) := by rw [hX, Below.heap_alloc _ _ _ (by simp)]; exact heap_alloc_new _ _
 have r1 : X.heap[w.heap.size + 1]? = some (.cells (cob 0 0 false (.slice none 0 0)) 29 (0, 0)) := by
  have := heap_alloc_new (w.alloc (.cells (cob c.pa c.re c.rs (.slice va n vc)) 29)) (.cells (cob 0 0 false (.slice none 0 0)) 29)
  rw [show (w.alloc (.cells (cob c.pa c.re c.rs (.slice va n vc)) 29)).heap.size = w.heap.size + 1 by simp, ← hX] at this; exact this
 have hck : Calls Tryz.prog 26 #[.agg #[.int .i64 c.pa, .int .i64 c.re, .bool c.rs, .slice va n vc]] X fun e w' => e = .returned (.iface 76 (.int .i64 1)) ∧ Below X.heap.size X w' := by
  have h5 := Vc.check_any c hw g (.slice va c.bl.length vc) X (hT.below hXb) (hv.moved (fun k _ h => ⟨h, hXb.block k (hg k h)⟩) hXb.size) hz
  rw [hc, ← hn] at h5
  exact h5.mono fun e w' h => ⟨by rw [h.1]; simp [errV_1], h.2⟩
 obtain ⟨c0, c1, c2, c3, cf, cl⟩ := cob_cells r0
 have HCk := hide hck; have HXb := hide hXb; have HXz := hide hXz; have HR0 := hide r0; have HR1 := hide r1
 rw [← hn]
 clear hck hz hv hc hw hT hg hn hXb hXz r0 r1
 go_enter Tryz.func41, Tryz.ntmps41
 go_upto_region 1 with fail
 rw [show (w.alloc (.cells #[.int .i64 c.pa, .int .i64 c.re, .bool c.rs, .slice va n vc] 29)).alloc (.cells #[.int .i64 0, .int .i64 0, .bool false, .slice none 0 0] 29) = X from hX.symm]
 clear hX
 go_wp2_with (go_at_call 26; refine (unhide HCk).mono ?_; rintro e w4 ⟨rfl, hb4⟩; have q1 := (hb4.block (w.heap.size + 1) (by have := unhide HXz; omega)).trans (unhide HR1); obtain ⟨y0, y1, y2, y3, yf, yl⟩ := cob_cells q1; have HB4 := hide hb4; have HQ1 := hide q1; clear hb4 q1)
 have hr8 := set4c w4 (w.heap.size + 1) _ _ _ _ _ (.int .i64 0) (.int .i64 0) (.bool false) (.slice none 0 0) (unhide HQ1)
 have hbe : Below w.heap.size w w4 := (unhide HXb).trans ((unhide HB4).mono (by have := unhide HXz; omega))
 have hb8 := Vc.bel4 hbe (w.heap.size + 1) (Nat.le_succ _) (.int .i64 0) (.int .i64 0) (.bool false) (.slice none 0 0)
 generalize (((w4.setCell ⟨w.heap.size + 1, 0, none⟩ (.int .i64 0)).setCell ⟨w.heap.size + 1, 1, none⟩ (.int .i64 0)).setCell ⟨w.heap.size + 1, 2, none⟩ (.bool false)).setCell ⟨w.heap.size + 1, 3, none⟩ (.slice none 0 0) = W8 at *
 have u0 := cell_of_row W8 (w.heap.size + 1) 0 _ _ _ hr8; have u1 := cell_of_row W8 (w.heap.size + 1) 1 _ _ _ hr8; have u2 := cell_of_row W8 (w.heap.size + 1) 2 _ _ _ hr8; have u3 := cell_of_row W8 (w.heap.size + 1) 3 _ _ _ hr8
 simp only [List.getElem?_toArray, List.getElem?_cons_zero, List.getElem?_cons_succ] at u0 u1 u2 u3
 exact bodyPost_ret (v := .tuple #[.agg #[.int .i64 0, .int .i64 0, .bool false, .slice none 0 0], .iface 76 (.int .i64 1)]) (by simp [results, Tryz.results41, go_sem, u0, u1, u2, u3]) rfl ⟨rfl, hb8⟩
theorem trim_no (c : Co) (hw : WfC c) (hc : chk c = false) (hz : siz c.bl ≤ 1099511627776) (g : Nat → Prop) (v : Value) (w : World) (hT : Fms w) (hv : Bls w g c.bl v) (hg : ∀ k, g k → k < w.heap.size) :
    Calls Tryz.prog 17 #[.agg #[.int .i64 c.pa, .int .i64 c.re, .bool c.rs, v]] w fun e w' => e = .returned (.tuple #[.agg #[.int .i64 0, .int .i64 0, .bool false, .slice none 0 0], .iface 76 (.int .i64 1)]) ∧ Below w.heap.size w w' := by
 obtain ⟨va, vc, rfl, -, -, -⟩ := id hv
 obtain ⟨n, hn⟩ : ∃ n, n = c.bl.length := ⟨_, rfl⟩
 obtain ⟨X, hX⟩ : ∃ X, X = (w.alloc (.cells (cob c.pa c.re c.rs (.slice va n vc)) 29)).alloc (.cells (cob 0 0 false (.slice none 0 0)) 29) := ⟨_, rfl⟩
 have hXb : Below w.heap.size w X := by rw [hX]; exact Vc.two_allocs w _ _
 have hXz : X.heap.size = w.heap.size + 2 := by rw [hX]; simp
 have r0 : X.heap[w.heap.size]? = some (.cells (cob c.pa c.re c.rs (.slice va n vc)) 29 (0, 0)) := by rw [hX, Below.heap_alloc _ _ _ (by simp)]; exact heap_alloc_new _ _
 have r1 : X.heap[w.heap.size + 1]? = some (.cells (cob 0 0 false (.slice none 0 0)) 29 (0, 0)) := by
  have := heap_alloc_new (w.alloc (.cells (cob c.pa c.re c.rs (.slice va n vc)) 29)) (.cells (cob 0 0 false (.slice none 0 0)) 29)
  rw [show (w.alloc (.cells (cob c.pa c.re c.rs (.slice va n vc)) 29)).heap.size = w.heap.size + 1 by simp, ← hX] at this; exact this
 have hby := made_no c hw hc hz g (.slice va c.bl.length vc) (.func (.func 42) #[] #[]) X (hT.below hXb) (hv.moved (fun k _ h => ⟨h, hXb.block k (hg k h)⟩) hXb.size) (fun k h => Nat.lt_of_lt_of_le (hg k h) hXb.size)
 rw [← hn] at hby ⊢
 obtain ⟨c0, c1, c2, c3, cf, cl⟩ := cob_cells r0
 have HBy := hide hby; have HXb := hide hXb; have HXz := hide hXz; have HR1 := hide r1
 clear hby hv hc hw hT hg hn hXb hXz r0 r1
 go_enter Tryz.func17, Tryz.ntmps17
 go_upto_region 1 with fail
 rw [show (w.alloc (.cells #[.int .i64 c.pa, .int .i64 c.re, .bool c.rs, .slice va n vc] 29)).alloc (.cells #[.int .i64 0, .int .i64 0, .bool false, .slice none 0 0] 29) = X from hX.symm]
 clear hX
 go_wp2_with (go_at_call 41; refine (unhide HBy).mono ?_; rintro e w4 ⟨rfl, hb4⟩; have HB4 := hide hb4; have q1 := (hb4.block (w.heap.size + 1) (by have := unhide HXz; omega)).trans (unhide HR1); obtain ⟨y0, y1, y2, y3, yf, yl⟩ := cob_cells q1; have HQ1 := hide q1; clear hb4 q1)
 have hr8 := set4c w4 (w.heap.size + 1) _ _ _ _ _ (.int .i64 0) (.int .i64 0) (.bool false) (.slice none 0 0) (unhide HQ1)
 have hbe : Below w.heap.size w w4 := (unhide HXb).trans ((unhide HB4).mono (by have := unhide HXz; omega))
 have hb8 := Vc.bel4 hbe (w.heap.size + 1) (Nat.le_succ _) (.int .i64 0) (.int .i64 0) (.bool false) (.slice none 0 0)
 generalize (((w4.setCell ⟨w.heap.size + 1, 0, none⟩ (.int .i64 0)).setCell ⟨w.heap.size + 1, 1, none⟩ (.int .i64 0)).setCell ⟨w.heap.size + 1, 2, none⟩ (.bool false)).setCell ⟨w.heap.size + 1, 3, none⟩ (.slice none 0 0) = W8 at *
 have u0 := cell_of_row W8 (w.heap.size + 1) 0 _ _ _ hr8; have u1 := cell_of_row W8 (w.heap.size + 1) 1 _ _ _ hr8; have u2 := cell_of_row W8 (w.heap.size + 1) 2 _ _ _ hr8; have u3 := cell_of_row W8 (w.heap.size + 1) 3 _ _ _ hr8
 simp only [List.getElem?_toArray, List.getElem?_cons_zero, List.getElem?_cons_succ] at u0 u1 u2 u3
 exact bodyPost_ret (v := .tuple #[.agg #[.int .i64 0, .int .i64 0, .bool false, .slice none 0 0], .iface 76 (.int .i64 1)]) (by simp [results, Tryz.results17, go_sem, u0, u1, u2, u3]) rfl ⟨rfl, hb8⟩
theorem thread_no (c : Co) (hw : WfC c) (hc : chk c = false) (hz : siz c.bl ≤ 1099511627776) (g : Nat → Prop) (v : Value) (w : World) (hT : Fms w) (hv : Bls w g c.bl v) (hg : ∀ k, g k → k < w.heap.size) :
    Calls Tryz.prog 18 #[.agg #[.int .i64 c.pa, .int .i64 c.re, .bool c.rs, v]] w fun e w' => e = .returned (.tuple #[.agg #[.int .i64 0, .int .i64 0, .bool false, .slice none 0 0], .iface 76 (.int .i64 1)]) ∧ Below w.heap.size w w' := by
 obtain ⟨va, vc, rfl, -, -, -⟩ := id hv
 obtain ⟨n, hn⟩ : ∃ n, n = c.bl.length := ⟨_, rfl⟩
 obtain ⟨X, hX⟩ : ∃ X, X = (w.alloc (.cells (cob c.pa c.re c.rs (.slice va n vc)) 29)).alloc (.cells (cob 0 0 false (.slice none 0 0)) 29) := ⟨_, rfl⟩
 have hXb : Below w.heap.size w X := by rw [hX]; exact Vc.two_allocs w _ _
 have hXz : X.heap.size = w.heap.size + 2 := by rw [hX]; simp
 have r0 : X.heap[w.heap.size]? = some (.cells (cob c.pa c.re c.rs (.slice va n vc)) 29 (0, 0)) := by rw [hX, Below.heap_alloc _ _ _ (by simp)]; exact heap_alloc_new _ _
 have r1 : X.heap[w.heap.size + 1]? = some (.cells (cob 0 0 false (.slice none 0 0)) 29 (0, 0)) := by
  have := heap_alloc_new (w.alloc (.cells (cob c.pa c.re c.rs (.slice va n vc)) 29)) (.cells (cob 0 0 false (.slice none 0 0)) 29)
  rw [show (w.alloc (.cells (cob c.pa c.re c.rs (.slice va n vc)) 29)).heap.size = w.heap.size + 1 by simp, ← hX] at this; exact this
 have hby := made_no c hw hc hz g (.slice va c.bl.length vc) (.func (.func 43) #[] #[]) X (hT.below hXb) (hv.moved (fun k _ h => ⟨h, hXb.block k (hg k h)⟩) hXb.size) (fun k h => Nat.lt_of_lt_of_le (hg k h) hXb.size)
 rw [← hn] at hby ⊢
 obtain ⟨c0, c1, c2, c3, cf, cl⟩ := cob_cells r0
 have HBy := hide hby; have HXb := hide hXb; have HXz := hide hXz; have HR1 := hide r1
 clear hby hv hc hw hT hg hn hXb hXz r0 r1
 go_enter Tryz.func18, Tryz.ntmps18
 go_upto_region 1 with fail
 rw [show (w.alloc (.cells #[.int .i64 c.pa, .int .i64 c.re, .bool c.rs, .slice va n vc] 29)).alloc (.cells #[.int .i64 0, .int .i64 0, .bool false, .slice none 0 0] 29) = X from hX.symm]
 clear hX
 go_wp2_with (go_at_call 41; refine (unhide HBy).mono ?_; rintro e w4 ⟨rfl, hb4⟩; have HB4 := hide hb4; have q1 := (hb4.block (w.heap.size + 1) (by have := unhide HXz; omega)).trans (unhide HR1); obtain ⟨y0, y1, y2, y3, yf, yl⟩ := cob_cells q1; have HQ1 := hide q1; clear hb4 q1)
 have hr8 := set4c w4 (w.heap.size + 1) _ _ _ _ _ (.int .i64 0) (.int .i64 0) (.bool false) (.slice none 0 0) (unhide HQ1)
 have hbe : Below w.heap.size w w4 := (unhide HXb).trans ((unhide HB4).mono (by have := unhide HXz; omega))
 have hb8 := Vc.bel4 hbe (w.heap.size + 1) (Nat.le_succ _) (.int .i64 0) (.int .i64 0) (.bool false) (.slice none 0 0)
 generalize (((w4.setCell ⟨w.heap.size + 1, 0, none⟩ (.int .i64 0)).setCell ⟨w.heap.size + 1, 1, none⟩ (.int .i64 0)).setCell ⟨w.heap.size + 1, 2, none⟩ (.bool false)).setCell ⟨w.heap.size + 1, 3, none⟩ (.slice none 0 0) = W8 at *
 have u0 := cell_of_row W8 (w.heap.size + 1) 0 _ _ _ hr8; have u1 := cell_of_row W8 (w.heap.size + 1) 1 _ _ _ hr8; have u2 := cell_of_row W8 (w.heap.size + 1) 2 _ _ _ hr8; have u3 := cell_of_row W8 (w.heap.size + 1) 3 _ _ _ hr8
 simp only [List.getElem?_toArray, List.getElem?_cons_zero, List.getElem?_cons_succ] at u0 u1 u2 u3
 exact bodyPost_ret (v := .tuple #[.agg #[.int .i64 0, .int .i64 0, .bool false, .slice none 0 0], .iface 76 (.int .i64 1)]) (by simp [results, Tryz.results18, go_sem, u0, u1, u2, u3]) rfl ⟨rfl, hb8⟩
theorem join_no (c : Co) (hw : WfC c) (hc : chk c = false) (hz : siz c.bl ≤ 1099511627776) (g : Nat → Prop) (v : Value) (w : World) (hT : Fms w) (hv : Bls w g c.bl v) (hg : ∀ k, g k → k < w.heap.size) :
    Calls Tryz.prog 19 #[.agg #[.int .i64 c.pa, .int .i64 c.re, .bool c.rs, v]] w fun e w' => e = .returned (.tuple #[.agg #[.int .i64 0, .int .i64 0, .bool false, .slice none 0 0], .iface 76 (.int .i64 1)]) ∧ Below w.heap.size w w' := by
 obtain ⟨va, vc, rfl, -, -, -⟩ := id hv
 obtain ⟨n, hn⟩ : ∃ n, n = c.bl.length := ⟨_, rfl⟩
 obtain ⟨X, hX⟩ : ∃ X, X = (w.alloc (.cells (cob c.pa c.re c.rs (.slice va n vc)) 29)).alloc (.cells (cob 0 0 false (.slice none 0 0)) 29) := ⟨_, rfl⟩
 have hXb : Below w.heap.size w X := by rw [hX]; exact Vc.two_allocs w _ _
 have hXz : X.heap.size = w.heap.size + 2 := by rw [hX]; simp
 have r0 : X.heap[w.heap.size]? = some (.cells (cob c.pa c.re c.rs (.slice va n vc)) 29 (0, 0)) := by rw [hX, Below.heap_alloc _ _ _ (by simp)]; exact heap_alloc_new _ _
 have r1 : X.heap[w.heap.size + 1]? = some (.cells (cob 0 0 false (.slice none 0 0)) 29 (0, 0)) := by
  have := heap_alloc_new (w.alloc (.cells (cob c.pa c.re c.rs (.slice va n vc)) 29)) (.cells (cob 0 0 false (.slice none 0 0)) 29)
  rw [show (w.alloc (.cells (cob c.pa c.re c.rs (.slice va n vc)) 29)).heap.size = w.heap.size + 1 by simp, ← hX] at this; exact this
 have hby := made_no c hw hc hz g (.slice va c.bl.length vc) (.func (.func 44) #[] #[]) X (hT.below hXb) (hv.moved (fun k _ h => ⟨h, hXb.block k (hg k h)⟩) hXb.size) (fun k h => Nat.lt_of_lt_of_le (hg k h) hXb.size)
 rw [← hn] at hby ⊢
 obtain ⟨c0, c1, c2, c3, cf, cl⟩ := cob_cells r0
 have HBy := hide hby; have HXb := hide hXb; have HXz := hide hXz; have HR1 := hide r1
 clear hby hv hc hw hT hg hn hXb hXz r0 r1
 go_enter Tryz.func19, Tryz.ntmps19
 go_upto_region 1 with fail
 rw [show (w.alloc (.cells #[.int .i64 c.pa, .int .i64 c.re, .bool c.rs, .slice va n vc] 29)).alloc (.cells #[.int .i64 0, .int .i64 0, .bool false, .slice none 0 0] 29) = X from hX.symm]
 clear hX
 go_wp2_with (go_at_call 41; refine (unhide HBy).mono ?_; rintro e w4 ⟨rfl, hb4⟩; have HB4 := hide hb4; have q1 := (hb4.block (w.heap.size + 1) (by have := unhide HXz; omega)).trans (unhide HR1); obtain ⟨y0, y1, y2, y3, yf, yl⟩ := cob_cells q1; have HQ1 := hide q1; clear hb4 q1)
 have hr8 := set4c w4 (w.heap.size + 1) _ _ _ _ _ (.int .i64 0) (.int .i64 0) (.bool false) (.slice none 0 0) (unhide HQ1)
 have hbe : Below w.heap.size w w4 := (unhide HXb).trans ((unhide HB4).mono (by have := unhide HXz; omega))
 have hb8 := Vc.bel4 hbe (w.heap.size + 1) (Nat.le_succ _) (.int .i64 0) (.int .i64 0) (.bool false) (.slice none 0 0)
 generalize (((w4.setCell ⟨w.heap.size + 1, 0, none⟩ (.int .i64 0)).setCell ⟨w.heap.size + 1, 1, none⟩ (.int .i64 0)).setCell ⟨w.heap.size + 1, 2, none⟩ (.bool false)).setCell ⟨w.heap.size + 1, 3, none⟩ (.slice none 0 0) = W8 at *
 have u0 := cell_of_row W8 (w.heap.size + 1) 0 _ _ _ hr8; have u1 := cell_of_row W8 (w.heap.size + 1) 1 _ _ _ hr8; have u2 := cell_of_row W8 (w.heap.size + 1) 2 _ _ _ hr8; have u3 := cell_of_row W8 (w.heap.size + 1) 3 _ _ _ hr8
 simp only [List.getElem?_toArray, List.getElem?_cons_zero, List.getElem?_cons_succ] at u0 u1 u2 u3
 exact bodyPost_ret (v := .tuple #[.agg #[.int .i64 0, .int .i64 0, .bool false, .slice none 0 0], .iface 76 (.int .i64 1)]) (by simp [results, Tryz.results19, go_sem, u0, u1, u2, u3]) rfl ⟨rfl, hb8⟩
end Fw
end Go.Proofs.YtglehoekehiaiaaGreatDoor
