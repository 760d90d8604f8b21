/- valid: sign, way by way (3): call. -/
import Derived.Test.YtcpknafaocdjdaaGreatDoorWD

/- valid: sign, way by way (1). -/
namespace Go.Proofs.YtcpknafaocdjdaaGreatDoor
open Go.RowKit Go.Shelf
namespace Vw
set_option linter.unusedVariables false
set_option linter.unusedSimpArgs false
open Ex (Ins Lies Lab)
open Gm (Mod Typ Byts)
set_option maxRecDepth 100000 in
set_option maxHeartbeats 3200000 in
theorem sg_0 {w : World} {N : Nat} {m : M8} {vl va vt : Value} {lo : List Int} {s : St} (h : Wk w N m vl lo va vt s) (hl : s.la.length ≤ 1099511627776) (n al of re : Int) (vb ve vx : Value) :
    Calls Tryz.prog 121 #[.pointer (some ⟨N, 0, none⟩), .agg #[.int .u8 0, .int .i64 n, .int .u32 al, .int .u32 of, .int .u8 re, vb, ve, vx]] w fun e w' => SgP N (some ⟨[], 0⟩) e w' ∧ Below w.heap.size w w' := by
  have hlt := h.lt
  clear h hl
  go_enter Tryz.func121, Tryz.ntmps121
  go_wp2
  refine bodyPost_ret (v := .tuple #[.agg #[.slice none 0 0, .int .u8 0], .bool true]) (by simp [results, Tryz.results121, go_sem]) rfl ⟨SgP.yes (TP.nil _ _ _), (one_al w _).alloc (by simp) _⟩
set_option maxRecDepth 100000 in
set_option maxHeartbeats 3200000 in
theorem sg_1 {w : World} {N : Nat} {m : M8} {vl va vt : Value} {lo : List Int} {s : St} (h : Wk w N m vl lo va vt s) (hl : s.la.length ≤ 1099511627776) (n al of re : Int) (vb ve vx : Value) :
    Calls Tryz.prog 121 #[.pointer (some ⟨N, 0, none⟩), .agg #[.int .u8 1, .int .i64 n, .int .u32 al, .int .u32 of, .int .u8 re, vb, ve, vx]] w fun e w' => SgP N (some ⟨[], 0⟩) e w' ∧ Below w.heap.size w w' := by
  have hlt := h.lt
  clear h hl
  go_enter Tryz.func121, Tryz.ntmps121
  go_wp2
  refine bodyPost_ret (v := .tuple #[.agg #[.slice none 0 0, .int .u8 0], .bool true]) (by simp [results, Tryz.results121, go_sem]) rfl ⟨SgP.yes (TP.nil _ _ _), (one_al w _).alloc (by simp) _⟩
set_option maxRecDepth 100000 in
set_option maxHeartbeats 3200000 in
theorem sg_br_yes {w : World} {N : Nat} {m : M8} {vl va vt : Value} {lo : List Int} {s : St} (h : Wk w N m vl lo va vt s) (hl : s.la.length ≤ 1099511627776) (n al of re : Int) (vb ve vx : Value) (hn0 : -9223372036854775808 ≤ n) (hn1 : n ≤ 9223372036854775807) (k : Int) (hk : lbl s.la n = some k) :
    Calls Tryz.prog 121 #[.pointer (some ⟨N, 0, none⟩), .agg #[.int .u8 12, .int .i64 n, .int .u32 al, .int .u32 of, .int .u8 re, vb, ve, vx]] w fun e w' => SgP N (some ⟨[k], 0⟩) e w' ∧ Below w.heap.size w w' := by
  have hlt := h.lt
  obtain ⟨W0, hW0, b1, b2, b3, b4⟩ := Gm.start2m (w := w) (ms := #[.int .u8 12, .int .i64 n, .int .u32 al, .int .u32 of, .int .u8 re, vb, ve, vx]) (ss := #[.slice none 0 0, .int .u8 0]) (t := 63) (t2 := 96)
  obtain ⟨c0, c1, c2, c3, c4, c5, c6, c7⟩ := Ex.cel8 b1
  have hL := label_any (h.below b4) hl n hn0 hn1
  rw [hk] at hL
  unfold kv at hL
  have HL := hide hL; have HW := hide hW0; have HB := hide b4; have HR := hide b2
  clear h hl hL hW0 b1 b2 b4 hk c2 c3 c4 c5 c6 c7
  go_enter Tryz.func121, Tryz.ntmps121
  go_wp2_with fail
  rw [unhide HW]
  refine (unhide HL).mono ?_
  rintro e w1 ⟨rfl, kk, hkk⟩
  have hb1 : Below W0.heap.size W0 w1 := by rw [hkk]; exact drewn_b _ _
  have HBx := hide (Below.on0 (unhide HB) hb1 (unhide HB).size)
  have HRx := hide ((hb1).block (w.heap.size + 1) b3 |>.trans (unhide HR))
  have HLx : Hid (w.heap.size + 1 < w1.heap.size) := hide (Nat.lt_of_lt_of_le b3 (hb1).size)
  clear hkk hb1 HL HW HR HB c0 c1
  obtain ⟨W3, hW3⟩ : ∃ W3, w1.alloc (.cells #[.int .u8 k] 60) = W3 := ⟨_, rfl⟩
  have hb3 : Below w1.heap.size w1 W3 := by rw [← hW3]; exact one_al _ _
  have hr3 : W3.heap[w1.heap.size]? = some (.cells #[.int .u8 k] 60 (0, 0)) := by rw [← hW3]; exact heap_alloc_new _ _
  have hl3 : w1.heap.size < W3.heap.size := (Array.getElem?_eq_some_iff.1 hr3).1
  have hB3 := Below.on0 (unhide HBx) hb3 (unhide HBx).size
  have hR3 := (hb3.block (w.heap.size + 1) (by have := unhide HLx; omega)).trans (unhide HRx)
  have hgN : w1.heap.size ≠ N := by have := unhide HLx; omega
  have hgB : w1.heap.size ≠ w.heap.size + 1 := by have := unhide HLx; omega
  have htk := takes_any (some ⟨w1.heap.size, 0, none⟩) 1 1 W3
  have HTk := hide htk; have HW3 := hide hW3; have HB3 := hide hB3; have HR3 := hide hR3; have Hr3 := hide hr3
  clear htk hW3 hB3 hR3 hb3 hr3
  go_wp2_with fail
  rw [unhide HW3]
  refine (unhide HTk).mono ?_
  rintro e w4 ⟨rfl, hb4⟩
  have hr4 := (hb4.block _ hl3).trans (unhide Hr3)
  have hR4 := (hb4.block (w.heap.size + 1) (by have := unhide HLx; omega)).trans (unhide HR3)
  have hB4 := Below.on0 (unhide HB3) hb4 (unhide HB3).size
  obtain ⟨z0, z1⟩ := Gm.cel2 hR4
  have fz : ∀ j, w4.frozen? ⟨w.heap.size + 1, j, none⟩ = false := fun j => frozen_of_row w4 _ j _ _ hR4
  obtain ⟨q0, q1, q2⟩ := Gm.fin2 hR4 hB4 (by omega) (.slice (some ⟨w1.heap.size, 0, none⟩) 1 1) (.int .u8 0)
  have hrow := (heap_setCell_other _ ⟨w.heap.size + 1, 1, none⟩ w1.heap.size (.int .u8 0) hgB).trans ((heap_setCell_other w4 ⟨w.heap.size + 1, 0, none⟩ w1.heap.size (.slice (some ⟨w1.heap.size, 0, none⟩) 1 1) hgB).trans hr4)
  have HQ2 := hide q2; have HRow := hide hrow
  clear hb4 hr4 hR4 hB4 q2 hrow HTk HW3 HB3 HR3 Hr3 hl3
  go_wp2
  have q2 := unhide HQ2
  refine bodyPost_ret (v := .tuple #[.agg #[.slice (some ⟨w1.heap.size, 0, none⟩) 1 1, .int .u8 0], .bool true]) (by simp [results, Tryz.results121, go_sem, q0, q1]) rfl ⟨SgP.yes (TP.one (unhide HRow) hgN _), q2⟩
set_option maxRecDepth 100000 in
set_option maxHeartbeats 3200000 in
theorem sg_br_no {w : World} {N : Nat} {m : M8} {vl va vt : Value} {lo : List Int} {s : St} (h : Wk w N m vl lo va vt s) (hl : s.la.length ≤ 1099511627776) (n al of re : Int) (vb ve vx : Value) (hn0 : -9223372036854775808 ≤ n) (hn1 : n ≤ 9223372036854775807) (hk : lbl s.la n = none) :
    Calls Tryz.prog 121 #[.pointer (some ⟨N, 0, none⟩), .agg #[.int .u8 12, .int .i64 n, .int .u32 al, .int .u32 of, .int .u8 re, vb, ve, vx]] w fun e w' => SgP N (none) e w' ∧ Below w.heap.size w w' := by
  have hlt := h.lt
  obtain ⟨W0, hW0, b1, b2, b3, b4⟩ := Gm.start2m (w := w) (ms := #[.int .u8 12, .int .i64 n, .int .u32 al, .int .u32 of, .int .u8 re, vb, ve, vx]) (ss := #[.slice none 0 0, .int .u8 0]) (t := 63) (t2 := 96)
  obtain ⟨c0, c1, c2, c3, c4, c5, c6, c7⟩ := Ex.cel8 b1
  have hL := label_any (h.below b4) hl n hn0 hn1
  rw [hk] at hL
  unfold kv at hL
  have HL := hide hL; have HW := hide hW0; have HB := hide b4; have HR := hide b2
  clear h hl hL hW0 b1 b2 b4 hk c2 c3 c4 c5 c6 c7
  go_enter Tryz.func121, Tryz.ntmps121
  go_wp2_with fail
  rw [unhide HW]
  refine (unhide HL).mono ?_
  rintro e w1 ⟨rfl, kk, hkk⟩
  have hb1 : Below W0.heap.size W0 w1 := by rw [hkk]; exact drewn_b _ _
  have HBx := hide (Below.on0 (unhide HB) hb1 (unhide HB).size)
  have HRx := hide ((hb1).block (w.heap.size + 1) b3 |>.trans (unhide HR))
  have HLx : Hid (w.heap.size + 1 < w1.heap.size) := hide (Nat.lt_of_lt_of_le b3 (hb1).size)
  clear hkk hb1 HL HW HR HB c0 c1
  obtain ⟨W3, hW3⟩ : ∃ W3, w1.alloc (.cells #[.int .u8 0] 60) = W3 := ⟨_, rfl⟩
  have hb3 : Below w1.heap.size w1 W3 := by rw [← hW3]; exact one_al _ _
  have hr3 : W3.heap[w1.heap.size]? = some (.cells #[.int .u8 0] 60 (0, 0)) := by rw [← hW3]; exact heap_alloc_new _ _
  have hl3 : w1.heap.size < W3.heap.size := (Array.getElem?_eq_some_iff.1 hr3).1
  have hB3 := Below.on0 (unhide HBx) hb3 (unhide HBx).size
  have hR3 := (hb3.block (w.heap.size + 1) (by have := unhide HLx; omega)).trans (unhide HRx)
  have hgN : w1.heap.size ≠ N := by have := unhide HLx; omega
  have hgB : w1.heap.size ≠ w.heap.size + 1 := by have := unhide HLx; omega
  have htk := takes_any (some ⟨w1.heap.size, 0, none⟩) 1 1 W3
  have HTk := hide htk; have HW3 := hide hW3; have HB3 := hide hB3; have HR3 := hide hR3; have Hr3 := hide hr3
  clear htk hW3 hB3 hR3 hb3 hr3
  go_wp2_with fail
  rw [unhide HW3]
  refine (unhide HTk).mono ?_
  rintro e w4 ⟨rfl, hb4⟩
  have hr4 := (hb4.block _ hl3).trans (unhide Hr3)
  have hR4 := (hb4.block (w.heap.size + 1) (by have := unhide HLx; omega)).trans (unhide HR3)
  have hB4 := Below.on0 (unhide HB3) hb4 (unhide HB3).size
  obtain ⟨z0, z1⟩ := Gm.cel2 hR4
  have fz : ∀ j, w4.frozen? ⟨w.heap.size + 1, j, none⟩ = false := fun j => frozen_of_row w4 _ j _ _ hR4
  obtain ⟨q0, q1, q2⟩ := Gm.fin2 hR4 hB4 (by omega) (.slice (some ⟨w1.heap.size, 0, none⟩) 1 1) (.int .u8 0)
  have hrow := (heap_setCell_other _ ⟨w.heap.size + 1, 1, none⟩ w1.heap.size (.int .u8 0) hgB).trans ((heap_setCell_other w4 ⟨w.heap.size + 1, 0, none⟩ w1.heap.size (.slice (some ⟨w1.heap.size, 0, none⟩) 1 1) hgB).trans hr4)
  have HQ2 := hide q2; have HRow := hide hrow
  clear hb4 hr4 hR4 hB4 q2 hrow HTk HW3 HB3 HR3 Hr3 hl3
  go_wp2
  have q2 := unhide HQ2
  refine bodyPost_ret (v := .tuple #[.agg #[.slice (some ⟨w1.heap.size, 0, none⟩) 1 1, .int .u8 0], .bool false]) (by simp [results, Tryz.results121, go_sem, q0, q1]) rfl ⟨SgP.no, q2⟩
set_option maxRecDepth 100000 in
set_option maxHeartbeats 3200000 in
theorem sg_brif_yes {w : World} {N : Nat} {m : M8} {vl va vt : Value} {lo : List Int} {s : St} (h : Wk w N m vl lo va vt s) (hl : s.la.length ≤ 1099511627776) (n al of re : Int) (vb ve vx : Value) (hn0 : -9223372036854775808 ≤ n) (hn1 : n ≤ 9223372036854775807) (k : Int) (hk : lbl s.la n = some k) :
    Calls Tryz.prog 121 #[.pointer (some ⟨N, 0, none⟩), .agg #[.int .u8 13, .int .i64 n, .int .u32 al, .int .u32 of, .int .u8 re, vb, ve, vx]] w fun e w' => SgP N (some ⟨[k, 127], k⟩) e w' ∧ Below w.heap.size w w' := by
  have hlt := h.lt
  obtain ⟨W0, hW0, b1, b2, b3, b4⟩ := Gm.start2m (w := w) (ms := #[.int .u8 13, .int .i64 n, .int .u32 al, .int .u32 of, .int .u8 re, vb, ve, vx]) (ss := #[.slice none 0 0, .int .u8 0]) (t := 63) (t2 := 96)
  obtain ⟨c0, c1, c2, c3, c4, c5, c6, c7⟩ := Ex.cel8 b1
  have hL := label_any (h.below b4) hl n hn0 hn1
  rw [hk] at hL
  unfold kv at hL
  have HL := hide hL; have HW := hide hW0; have HB := hide b4; have HR := hide b2
  clear h hl hL hW0 b1 b2 b4 hk c2 c3 c4 c5 c6 c7
  go_enter Tryz.func121, Tryz.ntmps121
  go_wp2_with fail
  rw [unhide HW]
  refine (unhide HL).mono ?_
  rintro e w1 ⟨rfl, kk, hkk⟩
  have hb1 : Below W0.heap.size W0 w1 := by rw [hkk]; exact drewn_b _ _
  have HBx := hide (Below.on0 (unhide HB) hb1 (unhide HB).size)
  have HRx := hide ((hb1).block (w.heap.size + 1) b3 |>.trans (unhide HR))
  have HLx : Hid (w.heap.size + 1 < w1.heap.size) := hide (Nat.lt_of_lt_of_le b3 (hb1).size)
  clear hkk hb1 HL HW HR HB c0 c1
  obtain ⟨W3, hW3⟩ : ∃ W3, w1.alloc (.cells #[.int .u8 k, .int .u8 127] 60) = W3 := ⟨_, rfl⟩
  have hb3 : Below w1.heap.size w1 W3 := by rw [← hW3]; exact one_al _ _
  have hr3 : W3.heap[w1.heap.size]? = some (.cells #[.int .u8 k, .int .u8 127] 60 (0, 0)) := by rw [← hW3]; exact heap_alloc_new _ _
  have hl3 : w1.heap.size < W3.heap.size := (Array.getElem?_eq_some_iff.1 hr3).1
  have hB3 := Below.on0 (unhide HBx) hb3 (unhide HBx).size
  have hR3 := (hb3.block (w.heap.size + 1) (by have := unhide HLx; omega)).trans (unhide HRx)
  have hgN : w1.heap.size ≠ N := by have := unhide HLx; omega
  have hgB : w1.heap.size ≠ w.heap.size + 1 := by have := unhide HLx; omega
  obtain ⟨z0, z1⟩ := Gm.cel2 hR3
  have fz : ∀ j, W3.frozen? ⟨w.heap.size + 1, j, none⟩ = false := fun j => frozen_of_row W3 _ j _ _ hR3
  obtain ⟨q0, q1, q2⟩ := Gm.fin2 hR3 hB3 (by omega) (.slice (some ⟨w1.heap.size, 0, none⟩) 2 2) (.int .u8 k)
  have hrow := (heap_setCell_other _ ⟨w.heap.size + 1, 1, none⟩ w1.heap.size (.int .u8 k) hgB).trans ((heap_setCell_other W3 ⟨w.heap.size + 1, 0, none⟩ w1.heap.size (.slice (some ⟨w1.heap.size, 0, none⟩) 2 2) hgB).trans hr3)
  have HQ2 := hide q2; have HRow := hide hrow; have HW3 := hide hW3
  clear hb3 hr3 hR3 hB3 q2 hrow hW3 hl3
  go_wp2_with (rw [unhide HW3])
  have q2 := unhide HQ2
  refine bodyPost_ret (v := .tuple #[.agg #[.slice (some ⟨w1.heap.size, 0, none⟩) 2 2, .int .u8 k], .bool true]) (by simp [results, Tryz.results121, go_sem, q0, q1]) rfl ⟨SgP.yes (TP.two (unhide HRow) hgN _), q2⟩
set_option maxRecDepth 100000 in
set_option maxHeartbeats 3200000 in
theorem sg_brif_no {w : World} {N : Nat} {m : M8} {vl va vt : Value} {lo : List Int} {s : St} (h : Wk w N m vl lo va vt s) (hl : s.la.length ≤ 1099511627776) (n al of re : Int) (vb ve vx : Value) (hn0 : -9223372036854775808 ≤ n) (hn1 : n ≤ 9223372036854775807) (hk : lbl s.la n = none) :
    Calls Tryz.prog 121 #[.pointer (some ⟨N, 0, none⟩), .agg #[.int .u8 13, .int .i64 n, .int .u32 al, .int .u32 of, .int .u8 re, vb, ve, vx]] w fun e w' => SgP N (none) e w' ∧ Below w.heap.size w w' := by
  have hlt := h.lt
  obtain ⟨W0, hW0, b1, b2, b3, b4⟩ := Gm.start2m (w := w) (ms := #[.int .u8 13, .int .i64 n, .int .u32 al, .int .u32 of, .int .u8 re, vb, ve, vx]) (ss := #[.slice none 0 0, .int .u8 0]) (t := 63) (t2 := 96)
  obtain ⟨c0, c1, c2, c3, c4, c5, c6, c7⟩ := Ex.cel8 b1
  have hL := label_any (h.below b4) hl n hn0 hn1
  rw [hk] at hL
  unfold kv at hL
  have HL := hide hL; have HW := hide hW0; have HB := hide b4; have HR := hide b2
  clear h hl hL hW0 b1 b2 b4 hk c2 c3 c4 c5 c6 c7
  go_enter Tryz.func121, Tryz.ntmps121
  go_wp2_with fail
  rw [unhide HW]
  refine (unhide HL).mono ?_
  rintro e w1 ⟨rfl, kk, hkk⟩
  have hb1 : Below W0.heap.size W0 w1 := by rw [hkk]; exact drewn_b _ _
  have HBx := hide (Below.on0 (unhide HB) hb1 (unhide HB).size)
  have HRx := hide ((hb1).block (w.heap.size + 1) b3 |>.trans (unhide HR))
  have HLx : Hid (w.heap.size + 1 < w1.heap.size) := hide (Nat.lt_of_lt_of_le b3 (hb1).size)
  clear hkk hb1 HL HW HR HB c0 c1
  obtain ⟨W3, hW3⟩ : ∃ W3, w1.alloc (.cells #[.int .u8 0, .int .u8 127] 60) = W3 := ⟨_, rfl⟩
  have hb3 : Below w1.heap.size w1 W3 := by rw [← hW3]; exact one_al _ _
  have hr3 : W3.heap[w1.heap.size]? = some (.cells #[.int .u8 0, .int .u8 127] 60 (0, 0)) := by rw [← hW3]; exact heap_alloc_new _ _
  have hl3 : w1.heap.size < W3.heap.size := (Array.getElem?_eq_some_iff.1 hr3).1
  have hB3 := Below.on0 (unhide HBx) hb3 (unhide HBx).size
  have hR3 := (hb3.block (w.heap.size + 1) (by have := unhide HLx; omega)).trans (unhide HRx)
  have hgN : w1.heap.size ≠ N := by have := unhide HLx; omega
  have hgB : w1.heap.size ≠ w.heap.size + 1 := by have := unhide HLx; omega
  obtain ⟨z0, z1⟩ := Gm.cel2 hR3
  have fz : ∀ j, W3.frozen? ⟨w.heap.size + 1, j, none⟩ = false := fun j => frozen_of_row W3 _ j _ _ hR3
  obtain ⟨q0, q1, q2⟩ := Gm.fin2 hR3 hB3 (by omega) (.slice (some ⟨w1.heap.size, 0, none⟩) 2 2) (.int .u8 0)
  have hrow := (heap_setCell_other _ ⟨w.heap.size + 1, 1, none⟩ w1.heap.size (.int .u8 0) hgB).trans ((heap_setCell_other W3 ⟨w.heap.size + 1, 0, none⟩ w1.heap.size (.slice (some ⟨w1.heap.size, 0, none⟩) 2 2) hgB).trans hr3)
  have HQ2 := hide q2; have HRow := hide hrow; have HW3 := hide hW3
  clear hb3 hr3 hR3 hB3 q2 hrow hW3 hl3
  go_wp2_with (rw [unhide HW3])
  have q2 := unhide HQ2
  refine bodyPost_ret (v := .tuple #[.agg #[.slice (some ⟨w1.heap.size, 0, none⟩) 2 2, .int .u8 0], .bool false]) (by simp [results, Tryz.results121, go_sem, q0, q1]) rfl ⟨SgP.no, q2⟩
set_option maxRecDepth 100000 in
set_option maxHeartbeats 3200000 in
theorem sg_table_yes {w : World} {N : Nat} {m : M8} {vl va vt : Value} {lo : List Int} {s : St} (h : Wk w N m vl lo va vt s) (hl : s.la.length ≤ 1099511627776) (n al of re : Int) (vb ve vx : Value) {g : Nat → Prop} {ls : List Int} {xa : Option Addr} {xc : Nat} (hvx : vx = .slice xa ls.length xc) (hL : Lies g ls.length (Lab w ls) (.slice xa ls.length xc)) (hz : ∀ z ∈ ls, 0 ≤ z ∧ z < 4294967296) (hn : ls.length ≤ 1048577) (k : Int) (hk : comm s.la ls = some k) :
    Calls Tryz.prog 121 #[.pointer (some ⟨N, 0, none⟩), .agg #[.int .u8 14, .int .i64 n, .int .u32 al, .int .u32 of, .int .u8 re, vb, ve, vx]] w fun e w' => SgP N (some ⟨[k, 127], 0⟩) e w' ∧ Below w.heap.size w w' := by
  have hlt := h.lt
  subst hvx
  obtain ⟨W0, hW0, b1, b2, b3, b4⟩ := Gm.start2m (w := w) (ms := #[.int .u8 14, .int .i64 n, .int .u32 al, .int .u32 of, .int .u8 re, vb, ve, .slice xa ls.length xc]) (ss := #[.slice none 0 0, .int .u8 0]) (t := 63) (t2 := 96)
  obtain ⟨c0, c1, c2, c3, c4, c5, c6, c7⟩ := Ex.cel8 b1
  have hL0 : Lies g ls.length (Lab W0 ls) (.slice xa ls.length xc) := Ex.Lies.move hL fun hl b o hgd hp => ⟨hgd, fun j hj => (b4.cell (p := ⟨b, o + j, none⟩) (World.block_lt_of_cell? w _ (hp j hj))).trans (hp j hj)⟩
  have hC := comm_any (h.below b4) hl hL0 hz hn
  rw [hk] at hC
  have HC := hide hC; have HW := hide hW0; have HB := hide b4; have HR := hide b2
  clear h hl hL hL0 hC hz hn hW0 b1 b2 b4 hk c2 c3 c4 c5 c6 c1
  generalize ls.length = L at *
  go_enter Tryz.func121, Tryz.ntmps121
  go_wp2_with fail
  rw [unhide HW]
  refine (unhide HC).mono ?_
  rintro e w1 ⟨⟨x, rfl, hxk⟩, hb1⟩
  obtain rfl := hxk k rfl
  have HBx := hide (Below.on0 (unhide HB) hb1 (unhide HB).size)
  have HRx := hide ((hb1).block (w.heap.size + 1) b3 |>.trans (unhide HR))
  have HLx : Hid (w.heap.size + 1 < w1.heap.size) := hide (Nat.lt_of_lt_of_le b3 (hb1).size)
  clear hxk hb1 HC HW HR HB c0 c7
  obtain ⟨W3, hW3⟩ : ∃ W3, w1.alloc (.cells #[.int .u8 x, .int .u8 127] 60) = W3 := ⟨_, rfl⟩
  have hb3 : Below w1.heap.size w1 W3 := by rw [← hW3]; exact one_al _ _
  have hr3 : W3.heap[w1.heap.size]? = some (.cells #[.int .u8 x, .int .u8 127] 60 (0, 0)) := by rw [← hW3]; exact heap_alloc_new _ _
  have hl3 : w1.heap.size < W3.heap.size := (Array.getElem?_eq_some_iff.1 hr3).1
  have hB3 := Below.on0 (unhide HBx) hb3 (unhide HBx).size
  have hR3 := (hb3.block (w.heap.size + 1) (by have := unhide HLx; omega)).trans (unhide HRx)
  have hgN : w1.heap.size ≠ N := by have := unhide HLx; omega
  have hgB : w1.heap.size ≠ w.heap.size + 1 := by have := unhide HLx; omega
  have htk := takes_any (some ⟨w1.heap.size, 0, none⟩) 2 2 W3
  have HTk := hide htk; have HW3 := hide hW3; have HB3 := hide hB3; have HR3 := hide hR3; have Hr3 := hide hr3
  clear htk hW3 hB3 hR3 hb3 hr3
  go_wp2_with fail
  rw [unhide HW3]
  refine (unhide HTk).mono ?_
  rintro e w4 ⟨rfl, hb4⟩
  have hr4 := (hb4.block _ hl3).trans (unhide Hr3)
  have hR4 := (hb4.block (w.heap.size + 1) (by have := unhide HLx; omega)).trans (unhide HR3)
  have hB4 := Below.on0 (unhide HB3) hb4 (unhide HB3).size
  obtain ⟨z0, z1⟩ := Gm.cel2 hR4
  have fz : ∀ j, w4.frozen? ⟨w.heap.size + 1, j, none⟩ = false := fun j => frozen_of_row w4 _ j _ _ hR4
  obtain ⟨q0, q1, q2⟩ := Gm.fin2 hR4 hB4 (by omega) (.slice (some ⟨w1.heap.size, 0, none⟩) 2 2) (.int .u8 0)
  have hrow := (heap_setCell_other _ ⟨w.heap.size + 1, 1, none⟩ w1.heap.size (.int .u8 0) hgB).trans ((heap_setCell_other w4 ⟨w.heap.size + 1, 0, none⟩ w1.heap.size (.slice (some ⟨w1.heap.size, 0, none⟩) 2 2) hgB).trans hr4)
  have HQ2 := hide q2; have HRow := hide hrow
  clear hb4 hr4 hR4 hB4 q2 hrow HTk HW3 HB3 HR3 Hr3 hl3
  go_wp2
  have q2 := unhide HQ2
  refine bodyPost_ret (v := .tuple #[.agg #[.slice (some ⟨w1.heap.size, 0, none⟩) 2 2, .int .u8 0], .bool true]) (by simp [results, Tryz.results121, go_sem, q0, q1]) rfl ⟨SgP.yes (TP.two (unhide HRow) hgN _), q2⟩
set_option maxRecDepth 100000 in
set_option maxHeartbeats 3200000 in
theorem sg_table_no {w : World} {N : Nat} {m : M8} {vl va vt : Value} {lo : List Int} {s : St} (h : Wk w N m vl lo va vt s) (hl : s.la.length ≤ 1099511627776) (n al of re : Int) (vb ve vx : Value) {g : Nat → Prop} {ls : List Int} {xa : Option Addr} {xc : Nat} (hvx : vx = .slice xa ls.length xc) (hL : Lies g ls.length (Lab w ls) (.slice xa ls.length xc)) (hz : ∀ z ∈ ls, 0 ≤ z ∧ z < 4294967296) (hn : ls.length ≤ 1048577) (hk : comm s.la ls = none) :
    Calls Tryz.prog 121 #[.pointer (some ⟨N, 0, none⟩), .agg #[.int .u8 14, .int .i64 n, .int .u32 al, .int .u32 of, .int .u8 re, vb, ve, vx]] w fun e w' => SgP N (none) e w' ∧ Below w.heap.size w w' := by
  have hlt := h.lt
  subst hvx
  obtain ⟨W0, hW0, b1, b2, b3, b4⟩ := Gm.start2m (w := w) (ms := #[.int .u8 14, .int .i64 n, .int .u32 al, .int .u32 of, .int .u8 re, vb, ve, .slice xa ls.length xc]) (ss := #[.slice none 0 0, .int .u8 0]) (t := 63) (t2 := 96)
  obtain ⟨c0, c1, c2, c3, c4, c5, c6, c7⟩ := Ex.cel8 b1
  have hL0 : Lies g ls.length (Lab W0 ls) (.slice xa ls.length xc) := Ex.Lies.move hL fun hl b o hgd hp => ⟨hgd, fun j hj => (b4.cell (p := ⟨b, o + j, none⟩) (World.block_lt_of_cell? w _ (hp j hj))).trans (hp j hj)⟩
  have hC := comm_any (h.below b4) hl hL0 hz hn
  rw [hk] at hC
  have HC := hide hC; have HW := hide hW0; have HB := hide b4; have HR := hide b2
  clear h hl hL hL0 hC hz hn hW0 b1 b2 b4 hk c2 c3 c4 c5 c6 c1
  generalize ls.length = L at *
  go_enter Tryz.func121, Tryz.ntmps121
  go_wp2_with fail
  rw [unhide HW]
  refine (unhide HC).mono ?_
  rintro e w1 ⟨⟨x, rfl, hxk⟩, hb1⟩
  have HBx := hide (Below.on0 (unhide HB) hb1 (unhide HB).size)
  have HRx := hide ((hb1).block (w.heap.size + 1) b3 |>.trans (unhide HR))
  have HLx : Hid (w.heap.size + 1 < w1.heap.size) := hide (Nat.lt_of_lt_of_le b3 (hb1).size)
  clear hxk hb1 HC HW HR HB c0 c7
  obtain ⟨W3, hW3⟩ : ∃ W3, w1.alloc (.cells #[.int .u8 x, .int .u8 127] 60) = W3 := ⟨_, rfl⟩
  have hb3 : Below w1.heap.size w1 W3 := by rw [← hW3]; exact one_al _ _
  have hr3 : W3.heap[w1.heap.size]? = some (.cells #[.int .u8 x, .int .u8 127] 60 (0, 0)) := by rw [← hW3]; exact heap_alloc_new _ _
  have hl3 : w1.heap.size < W3.heap.size := (Array.getElem?_eq_some_iff.1 hr3).1
  have hB3 := Below.on0 (unhide HBx) hb3 (unhide HBx).size
  have hR3 := (hb3.block (w.heap.size + 1) (by have := unhide HLx; omega)).trans (unhide HRx)
  have hgN : w1.heap.size ≠ N := by have := unhide HLx; omega
  have hgB : w1.heap.size ≠ w.heap.size + 1 := by have := unhide HLx; omega
  have htk := takes_any (some ⟨w1.heap.size, 0, none⟩) 2 2 W3
  have HTk := hide htk; have HW3 := hide hW3; have HB3 := hide hB3; have HR3 := hide hR3; have Hr3 := hide hr3
  clear htk hW3 hB3 hR3 hb3 hr3
  go_wp2_with fail
  rw [unhide HW3]
  refine (unhide HTk).mono ?_
  rintro e w4 ⟨rfl, hb4⟩
  have hr4 := (hb4.block _ hl3).trans (unhide Hr3)
  have hR4 := (hb4.block (w.heap.size + 1) (by have := unhide HLx; omega)).trans (unhide HR3)
  have hB4 := Below.on0 (unhide HB3) hb4 (unhide HB3).size
  obtain ⟨z0, z1⟩ := Gm.cel2 hR4
  have fz : ∀ j, w4.frozen? ⟨w.heap.size + 1, j, none⟩ = false := fun j => frozen_of_row w4 _ j _ _ hR4
  obtain ⟨q0, q1, q2⟩ := Gm.fin2 hR4 hB4 (by omega) (.slice (some ⟨w1.heap.size, 0, none⟩) 2 2) (.int .u8 0)
  have hrow := (heap_setCell_other _ ⟨w.heap.size + 1, 1, none⟩ w1.heap.size (.int .u8 0) hgB).trans ((heap_setCell_other w4 ⟨w.heap.size + 1, 0, none⟩ w1.heap.size (.slice (some ⟨w1.heap.size, 0, none⟩) 2 2) hgB).trans hr4)
  have HQ2 := hide q2; have HRow := hide hrow
  clear hb4 hr4 hR4 hB4 q2 hrow HTk HW3 HB3 HR3 Hr3 hl3
  go_wp2
  have q2 := unhide HQ2
  refine bodyPost_ret (v := .tuple #[.agg #[.slice (some ⟨w1.heap.size, 0, none⟩) 2 2, .int .u8 0], .bool false]) (by simp [results, Tryz.results121, go_sem, q0, q1]) rfl ⟨SgP.no, q2⟩
end Vw
end Go.Proofs.YtcpknafaocdjdaaGreatDoor

/- valid: sign, way by way (2). -/
namespace Go.Proofs.YtcpknafaocdjdaaGreatDoor
open Go.RowKit Go.Shelf
namespace Vw
set_option linter.unusedVariables false
set_option linter.unusedSimpArgs false
open Ex (Ins Lies Lab)
open Gm (Mod Typ Byts)
/-- a type's kinds stay where a type's box is written -/
theorem TP.set2' {N : Nat} {w : World} {t : Typ} {v : Value} {B : Nat} (h : TP N w t v) (hB : TP B w t v) {r0 : Option Addr} {r1 r2 : Nat} {r3 : Int} (hr : w.heap[B]? = some (.cells #[.slice r0 r1 r2, .int .u8 r3] 96 (0, 0))) (y0 y1 : Value) : TP N ((w.setCell ⟨B, 0, none⟩ y0).setCell ⟨B, 1, none⟩ y1) t v :=
  h.set2 hr (fun z e => by cases e) y0 y1 (fun h1 pa pc e => by
    obtain ⟨pa', pc', e', hl⟩ := hB
    rw [e] at e'
    simp at e'
    obtain ⟨⟨rfl, rfl⟩⟩ := e'
    obtain ⟨b, o, e2, hg, _⟩ := Lies.at0 hl (List.length_pos_iff.2 h1)
    cases e2
    exact hg)
set_option maxRecDepth 100000 in
set_option maxHeartbeats 3200000 in
theorem sg_ret {w : World} {N : Nat} {m : M8} {vl va vt : Value} {lo : List Int} {s : St} (h : Wk w N m vl lo va vt s) (hl : s.la.length ≤ 1099511627776) (n al of re : Int) (vb ve vx : Value) (hne : s.la ≠ []) :
    Calls Tryz.prog 121 #[.pointer (some ⟨N, 0, none⟩), .agg #[.int .u8 15, .int .i64 n, .int .u32 al, .int .u32 of, .int .u8 re, vb, ve, vx]] w fun e w' => SgP N (some ⟨[s.la.getD 0 0], 0⟩) e w' ∧ Below w.heap.size w w' := by
  have hlt := h.lt
  obtain ⟨W0, hW0, b1, b2, b3, b4⟩ := Gm.start2m (w := w) (ms := #[.int .u8 15, .int .i64 n, .int .u32 al, .int .u32 of, .int .u8 re, vb, ve, vx]) (ss := #[.slice none 0 0, .int .u8 0]) (t := 63) (t2 := 96)
  obtain ⟨c0, c1, c2, c3, c4, c5, c6, c7⟩ := Ex.cel8 b1
  have h0 := h.below b4
  have hpos : 0 < s.la.length := List.length_pos_iff.2 hne
  obtain ⟨g, cp, rfl, hcp⟩ := own_some h0.la hpos
  have hc9 := h0.box.cells.2.1
  have hcell : W0.cell? ⟨g, 0, none⟩ = some (.int .u8 (s.la.getD 0 0)) := own_at h0.la hpos (by unfold kr; rw [List.getElem?_map, List.getElem?_eq_getElem hpos]; simp [List.getD, hpos])
  have hpos' : (0 : Int) < (s.la.length : Int) := by omega
  have HW := hide hW0; have HB := hide b4; have HR := hide b2
  have HBx := hide b4
  have HRx := hide b2
  have HLx := hide b3
  clear h h0 hl hW0 b1 b2 b4 c1 c2 c3 c4 c5 c6 c7 hne hpos hcp
  generalize s.la.getD 0 0 = k at *
  generalize s.la.length = L at *
  go_enter Tryz.func121, Tryz.ntmps121
  go_upto_region 6 with fail
  rw [unhide HW]
  obtain ⟨W3, hW3⟩ : ∃ W3, W0.alloc (.cells #[.int .u8 k] 60) = W3 := ⟨_, rfl⟩
  have hb3 : Below W0.heap.size W0 W3 := by rw [← hW3]; exact one_al _ _
  have hr3 : W3.heap[W0.heap.size]? = some (.cells #[.int .u8 k] 60 (0, 0)) := by rw [← hW3]; exact heap_alloc_new _ _
  have hl3 : W0.heap.size < W3.heap.size := (Array.getElem?_eq_some_iff.1 hr3).1
  have hB3 := Below.on0 (unhide HBx) hb3 (unhide HBx).size
  have hR3 := (hb3.block (w.heap.size + 1) (by have := unhide HLx; omega)).trans (unhide HRx)
  have hgN : W0.heap.size ≠ N := by have := unhide HLx; omega
  have hgB : W0.heap.size ≠ w.heap.size + 1 := by have := unhide HLx; omega
  have htk := takes_any (some ⟨W0.heap.size, 0, none⟩) 1 1 W3
  have HTk := hide htk; have HW3 := hide hW3; have HB3 := hide hB3; have HR3 := hide hR3; have Hr3 := hide hr3
  clear htk hW3 hB3 hR3 hb3 hr3
  go_wp2_with fail
  rw [unhide HW3]
  refine (unhide HTk).mono ?_
  rintro e w4 ⟨rfl, hb4⟩
  have hr4 := (hb4.block _ hl3).trans (unhide Hr3)
  have hR4 := (hb4.block (w.heap.size + 1) (by have := unhide HLx; omega)).trans (unhide HR3)
  have hB4 := Below.on0 (unhide HB3) hb4 (unhide HB3).size
  obtain ⟨z0, z1⟩ := Gm.cel2 hR4
  have fz : ∀ j, w4.frozen? ⟨w.heap.size + 1, j, none⟩ = false := fun j => frozen_of_row w4 _ j _ _ hR4
  obtain ⟨q0, q1, q2⟩ := Gm.fin2 hR4 hB4 (by omega) (.slice (some ⟨W0.heap.size, 0, none⟩) 1 1) (.int .u8 0)
  have hrow := (heap_setCell_other _ ⟨w.heap.size + 1, 1, none⟩ W0.heap.size (.int .u8 0) hgB).trans ((heap_setCell_other w4 ⟨w.heap.size + 1, 0, none⟩ W0.heap.size (.slice (some ⟨W0.heap.size, 0, none⟩) 1 1) hgB).trans hr4)
  have HQ2 := hide q2; have HRow := hide hrow
  clear hb4 hr4 hR4 hB4 q2 hrow HTk HW3 HB3 HR3 Hr3 hl3
  go_wp2
  have q2 := unhide HQ2
  refine bodyPost_ret (v := .tuple #[.agg #[.slice (some ⟨W0.heap.size, 0, none⟩) 1 1, .int .u8 0], .bool true]) (by simp [results, Tryz.results121, go_sem, q0, q1]) rfl ⟨SgP.yes (TP.one (unhide HRow) hgN _), q2⟩
set_option maxRecDepth 100000 in
set_option maxHeartbeats 3200000 in
theorem sg_l32_yes {w : World} {N : Nat} {m : M8} {vl va vt : Value} {lo : List Int} {s : St} (h : Wk w N m vl lo va vt s) (hl : s.la.length ≤ 1099511627776) (n al of re : Int) (vb ve vx : Value) (k : Int) (hk : at? lo n = some k) :
    Calls Tryz.prog 121 #[.pointer (some ⟨N, 0, none⟩), .agg #[.int .u8 32, .int .i64 n, .int .u32 al, .int .u32 of, .int .u8 re, vb, ve, vx]] w fun e w' => SgP N (some (lsig 32 k)) e w' ∧ Below w.heap.size w w' := by
  have hlt := h.lt
  obtain ⟨W0, hW0, b1, b2, b3, b4⟩ := Gm.start2m (w := w) (ms := #[.int .u8 32, .int .i64 n, .int .u32 al, .int .u32 of, .int .u8 re, vb, ve, vx]) (ss := #[.slice none 0 0, .int .u8 0]) (t := 63) (t2 := 96)
  obtain ⟨c0, c1, c2, c3, c4, c5, c6, c7⟩ := Ex.cel8 b1
  have h0 := h.below b4
  have hlo0 := h0.lo
  obtain ⟨la', lc', hvl, -⟩ := hlo0
  have hq := fun (j : Nat) => itq_K (w := W0.drewN j) (g := fun _ => True) (zs := lo) (a := la') (c := lc') (by rw [← hvl]; exact Ex.Lies.move h0.lo fun _ b o _ hp => ⟨trivial, hp⟩) n
  rw [hk] at hq
  unfold kv at hq
  have hc8 := h0.box.cells.1
  rw [hvl] at hc8
  have HQ := hide hq; have HW := hide hW0; have HB := hide b4; have HR := hide b2; have HI := hide b1
  have hln : (w.heap.size : Int) < W0.heap.size := by omega
  clear h h0 hl hq hW0 b1 b2 b4 hk c2 c3 c4 c5 c6 c7 hvl
  generalize lo.length = L at *
  go_enter Tryz.func121, Tryz.ntmps121
  go_upto_region 25 with fail
  rw [unhide HW]
  go_quiet ((go_at_call 135; exact Calls.quiet_of_same (unhide HQ _)))
  have hb1 := drewn_b W0 nq
  have HBx := hide (Below.on0 (unhide HB) hb1 (unhide HB).size)
  have HRx := hide ((hb1).block (w.heap.size + 1) b3 |>.trans (unhide HR))
  have HLx : Hid (w.heap.size + 1 < (W0.drewN nq).heap.size) := hide (Nat.lt_of_lt_of_le b3 (hb1).size)
  have hi1 := (hb1.block w.heap.size (by omega)).trans (unhide HI)
  clear hb1 HQ HW HR HB HI c0 c1 hc8
  generalize W0.drewN nq = w1 at *
  have d0 := (Ex.cel8 hi1).1
  have hls := local_any (w := w1) 32 k (by omega)
  have HLs := hide hls
  clear hls hi1
  go_wp2_with fail
  refine (unhide HLs).mono ?_
  rintro e w4 ⟨⟨v, rfl, hTP⟩, hb4⟩
  obtain ⟨L', hL'⟩ : ∃ L', L' = (lsig 32 k).ps.length := ⟨_, rfl⟩
  obtain ⟨r', hr'⟩ : ∃ r', r' = (lsig 32 k).re := ⟨_, rfl⟩
  have hTP2 := hTP
  obtain ⟨pa, pc, rfl, -⟩ := hTP N (by have := unhide HLx; omega)
  rw [← hL', ← hr'] at hTP2 ⊢
  have hR4 := (hb4.block (w.heap.size + 1) (unhide HLx)).trans (unhide HRx)
  have hB4 := Below.on0 (unhide HBx) hb4 (unhide HBx).size
  obtain ⟨z0, z1⟩ := Gm.cel2 hR4
  have fz : ∀ j, w4.frozen? ⟨w.heap.size + 1, j, none⟩ = false := fun j => frozen_of_row w4 _ j _ _ hR4
  obtain ⟨q0, q1, q2⟩ := Gm.fin2 hR4 hB4 (by omega) (.slice pa L' pc) (.int .u8 r')
  have hTX := TP.set2' (hTP2 N (by have := unhide HLx; omega)) (hTP2 (w.heap.size + 1) (unhide HLx)) hR4 (.slice pa L' pc) (.int .u8 r')
  have HQ2 := hide q2; have HTX := hide hTX
  clear hb4 hR4 hB4 q2 hTX hTP2 HLs hL' hr'
  go_wp2
  have q2 := unhide HQ2
  refine bodyPost_ret (v := .tuple #[.agg #[.slice pa L' pc, .int .u8 r'], .bool true]) (by simp [results, Tryz.results121, go_sem, q0, q1]) rfl ⟨SgP.yes (unhide HTX), q2⟩
set_option maxRecDepth 100000 in
set_option maxHeartbeats 3200000 in
theorem sg_l32_no {w : World} {N : Nat} {m : M8} {vl va vt : Value} {lo : List Int} {s : St} (h : Wk w N m vl lo va vt s) (hl : s.la.length ≤ 1099511627776) (n al of re : Int) (vb ve vx : Value) (hk : at? lo n = none) :
    Calls Tryz.prog 121 #[.pointer (some ⟨N, 0, none⟩), .agg #[.int .u8 32, .int .i64 n, .int .u32 al, .int .u32 of, .int .u8 re, vb, ve, vx]] w fun e w' => SgP N (none) e w' ∧ Below w.heap.size w w' := by
  have hlt := h.lt
  obtain ⟨W0, hW0, b1, b2, b3, b4⟩ := Gm.start2m (w := w) (ms := #[.int .u8 32, .int .i64 n, .int .u32 al, .int .u32 of, .int .u8 re, vb, ve, vx]) (ss := #[.slice none 0 0, .int .u8 0]) (t := 63) (t2 := 96)
  obtain ⟨c0, c1, c2, c3, c4, c5, c6, c7⟩ := Ex.cel8 b1
  have h0 := h.below b4
  have hlo0 := h0.lo
  obtain ⟨la', lc', hvl, -⟩ := hlo0
  have hq := fun (j : Nat) => itq_K (w := W0.drewN j) (g := fun _ => True) (zs := lo) (a := la') (c := lc') (by rw [← hvl]; exact Ex.Lies.move h0.lo fun _ b o _ hp => ⟨trivial, hp⟩) n
  rw [hk] at hq
  unfold kv at hq
  have hc8 := h0.box.cells.1
  rw [hvl] at hc8
  have HQ := hide hq; have HW := hide hW0; have HB := hide b4; have HR := hide b2; have HI := hide b1
  have hln : (w.heap.size : Int) < W0.heap.size := by omega
  clear h h0 hl hq hW0 b1 b2 b4 hk c2 c3 c4 c5 c6 c7 hvl
  generalize lo.length = L at *
  go_enter Tryz.func121, Tryz.ntmps121
  go_upto_region 25 with fail
  rw [unhide HW]
  go_quiet ((go_at_call 135; exact Calls.quiet_of_same (unhide HQ _)))
  have hb1 := drewn_b W0 nq
  have HBx := hide (Below.on0 (unhide HB) hb1 (unhide HB).size)
  have HRx := hide ((hb1).block (w.heap.size + 1) b3 |>.trans (unhide HR))
  have HLx : Hid (w.heap.size + 1 < (W0.drewN nq).heap.size) := hide (Nat.lt_of_lt_of_le b3 (hb1).size)
  have hi1 := (hb1.block w.heap.size (by omega)).trans (unhide HI)
  clear hb1 HQ HW HR HB HI c0 c1 hc8
  generalize W0.drewN nq = w1 at *
  have d0 := (Ex.cel8 hi1).1
  have hls := local_any (w := w1) 32 0 (by omega)
  have HLs := hide hls
  clear hls hi1
  go_wp2_with fail
  refine (unhide HLs).mono ?_
  rintro e w4 ⟨⟨v, rfl, hTP⟩, hb4⟩
  obtain ⟨L', hL'⟩ : ∃ L', L' = (lsig 32 0).ps.length := ⟨_, rfl⟩
  obtain ⟨r', hr'⟩ : ∃ r', r' = (lsig 32 0).re := ⟨_, rfl⟩
  have hTP2 := hTP
  obtain ⟨pa, pc, rfl, -⟩ := hTP N (by have := unhide HLx; omega)
  rw [← hL', ← hr'] at hTP2 ⊢
  have hR4 := (hb4.block (w.heap.size + 1) (unhide HLx)).trans (unhide HRx)
  have hB4 := Below.on0 (unhide HBx) hb4 (unhide HBx).size
  obtain ⟨z0, z1⟩ := Gm.cel2 hR4
  have fz : ∀ j, w4.frozen? ⟨w.heap.size + 1, j, none⟩ = false := fun j => frozen_of_row w4 _ j _ _ hR4
  obtain ⟨q0, q1, q2⟩ := Gm.fin2 hR4 hB4 (by omega) (.slice pa L' pc) (.int .u8 r')
  have hTX := TP.set2' (hTP2 N (by have := unhide HLx; omega)) (hTP2 (w.heap.size + 1) (unhide HLx)) hR4 (.slice pa L' pc) (.int .u8 r')
  have HQ2 := hide q2; have HTX := hide hTX
  clear hb4 hR4 hB4 q2 hTX hTP2 HLs hL' hr'
  go_wp2
  have q2 := unhide HQ2
  refine bodyPost_ret (v := .tuple #[.agg #[.slice pa L' pc, .int .u8 r'], .bool false]) (by simp [results, Tryz.results121, go_sem, q0, q1]) rfl ⟨SgP.no, q2⟩
set_option maxRecDepth 100000 in
set_option maxHeartbeats 3200000 in
theorem sg_l33_yes {w : World} {N : Nat} {m : M8} {vl va vt : Value} {lo : List Int} {s : St} (h : Wk w N m vl lo va vt s) (hl : s.la.length ≤ 1099511627776) (n al of re : Int) (vb ve vx : Value) (k : Int) (hk : at? lo n = some k) :
    Calls Tryz.prog 121 #[.pointer (some ⟨N, 0, none⟩), .agg #[.int .u8 33, .int .i64 n, .int .u32 al, .int .u32 of, .int .u8 re, vb, ve, vx]] w fun e w' => SgP N (some (lsig 33 k)) e w' ∧ Below w.heap.size w w' := by
  have hlt := h.lt
  obtain ⟨W0, hW0, b1, b2, b3, b4⟩ := Gm.start2m (w := w) (ms := #[.int .u8 33, .int .i64 n, .int .u32 al, .int .u32 of, .int .u8 re, vb, ve, vx]) (ss := #[.slice none 0 0, .int .u8 0]) (t := 63) (t2 := 96)
  obtain ⟨c0, c1, c2, c3, c4, c5, c6, c7⟩ := Ex.cel8 b1
  have h0 := h.below b4
  have hlo0 := h0.lo
  obtain ⟨la', lc', hvl, -⟩ := hlo0
  have hq := fun (j : Nat) => itq_K (w := W0.drewN j) (g := fun _ => True) (zs := lo) (a := la') (c := lc') (by rw [← hvl]; exact Ex.Lies.move h0.lo fun _ b o _ hp => ⟨trivial, hp⟩) n
  rw [hk] at hq
  unfold kv at hq
  have hc8 := h0.box.cells.1
  rw [hvl] at hc8
  have HQ := hide hq; have HW := hide hW0; have HB := hide b4; have HR := hide b2; have HI := hide b1
  have hln : (w.heap.size : Int) < W0.heap.size := by omega
  clear h h0 hl hq hW0 b1 b2 b4 hk c2 c3 c4 c5 c6 c7 hvl
  generalize lo.length = L at *
  go_enter Tryz.func121, Tryz.ntmps121
  go_upto_region 25 with fail
  rw [unhide HW]
  go_quiet ((go_at_call 135; exact Calls.quiet_of_same (unhide HQ _)))
  have hb1 := drewn_b W0 nq
  have HBx := hide (Below.on0 (unhide HB) hb1 (unhide HB).size)
  have HRx := hide ((hb1).block (w.heap.size + 1) b3 |>.trans (unhide HR))
  have HLx : Hid (w.heap.size + 1 < (W0.drewN nq).heap.size) := hide (Nat.lt_of_lt_of_le b3 (hb1).size)
  have hi1 := (hb1.block w.heap.size (by omega)).trans (unhide HI)
  clear hb1 HQ HW HR HB HI c0 c1 hc8
  generalize W0.drewN nq = w1 at *
  have d0 := (Ex.cel8 hi1).1
  have hls := local_any (w := w1) 33 k (by omega)
  have HLs := hide hls
  clear hls hi1
  go_wp2_with fail
  refine (unhide HLs).mono ?_
  rintro e w4 ⟨⟨v, rfl, hTP⟩, hb4⟩
  obtain ⟨L', hL'⟩ : ∃ L', L' = (lsig 33 k).ps.length := ⟨_, rfl⟩
  obtain ⟨r', hr'⟩ : ∃ r', r' = (lsig 33 k).re := ⟨_, rfl⟩
  have hTP2 := hTP
  obtain ⟨pa, pc, rfl, -⟩ := hTP N (by have := unhide HLx; omega)
  rw [← hL', ← hr'] at hTP2 ⊢
  have hR4 := (hb4.block (w.heap.size + 1) (unhide HLx)).trans (unhide HRx)
  have hB4 := Below.on0 (unhide HBx) hb4 (unhide HBx).size
  obtain ⟨z0, z1⟩ := Gm.cel2 hR4
  have fz : ∀ j, w4.frozen? ⟨w.heap.size + 1, j, none⟩ = false := fun j => frozen_of_row w4 _ j _ _ hR4
  obtain ⟨q0, q1, q2⟩ := Gm.fin2 hR4 hB4 (by omega) (.slice pa L' pc) (.int .u8 r')
  have hTX := TP.set2' (hTP2 N (by have := unhide HLx; omega)) (hTP2 (w.heap.size + 1) (unhide HLx)) hR4 (.slice pa L' pc) (.int .u8 r')
  have HQ2 := hide q2; have HTX := hide hTX
  clear hb4 hR4 hB4 q2 hTX hTP2 HLs hL' hr'
  go_wp2
  have q2 := unhide HQ2
  refine bodyPost_ret (v := .tuple #[.agg #[.slice pa L' pc, .int .u8 r'], .bool true]) (by simp [results, Tryz.results121, go_sem, q0, q1]) rfl ⟨SgP.yes (unhide HTX), q2⟩
set_option maxRecDepth 100000 in
set_option maxHeartbeats 3200000 in
theorem sg_l33_no {w : World} {N : Nat} {m : M8} {vl va vt : Value} {lo : List Int} {s : St} (h : Wk w N m vl lo va vt s) (hl : s.la.length ≤ 1099511627776) (n al of re : Int) (vb ve vx : Value) (hk : at? lo n = none) :
    Calls Tryz.prog 121 #[.pointer (some ⟨N, 0, none⟩), .agg #[.int .u8 33, .int .i64 n, .int .u32 al, .int .u32 of, .int .u8 re, vb, ve, vx]] w fun e w' => SgP N (none) e w' ∧ Below w.heap.size w w' := by
  have hlt := h.lt
  obtain ⟨W0, hW0, b1, b2, b3, b4⟩ := Gm.start2m (w := w) (ms := #[.int .u8 33, .int .i64 n, .int .u32 al, .int .u32 of, .int .u8 re, vb, ve, vx]) (ss := #[.slice none 0 0, .int .u8 0]) (t := 63) (t2 := 96)
  obtain ⟨c0, c1, c2, c3, c4, c5, c6, c7⟩ := Ex.cel8 b1
  have h0 := h.below b4
  have hlo0 := h0.lo
  obtain ⟨la', lc', hvl, -⟩ := hlo0
  have hq := fun (j : Nat) => itq_K (w := W0.drewN j) (g := fun _ => True) (zs := lo) (a := la') (c := lc') (by rw [← hvl]; exact Ex.Lies.move h0.lo fun _ b o _ hp => ⟨trivial, hp⟩) n
  rw [hk] at hq
  unfold kv at hq
  have hc8 := h0.box.cells.1
  rw [hvl] at hc8
  have HQ := hide hq; have HW := hide hW0; have HB := hide b4; have HR := hide b2; have HI := hide b1
  have hln : (w.heap.size : Int) < W0.heap.size := by omega
  clear h h0 hl hq hW0 b1 b2 b4 hk c2 c3 c4 c5 c6 c7 hvl
  generalize lo.length = L at *
  go_enter Tryz.func121, Tryz.ntmps121
  go_upto_region 25 with fail
  rw [unhide HW]
  go_quiet ((go_at_call 135; exact Calls.quiet_of_same (unhide HQ _)))
  have hb1 := drewn_b W0 nq
  have HBx := hide (Below.on0 (unhide HB) hb1 (unhide HB).size)
  have HRx := hide ((hb1).block (w.heap.size + 1) b3 |>.trans (unhide HR))
  have HLx : Hid (w.heap.size + 1 < (W0.drewN nq).heap.size) := hide (Nat.lt_of_lt_of_le b3 (hb1).size)
  have hi1 := (hb1.block w.heap.size (by omega)).trans (unhide HI)
  clear hb1 HQ HW HR HB HI c0 c1 hc8
  generalize W0.drewN nq = w1 at *
  have d0 := (Ex.cel8 hi1).1
  have hls := local_any (w := w1) 33 0 (by omega)
  have HLs := hide hls
  clear hls hi1
  go_wp2_with fail
  refine (unhide HLs).mono ?_
  rintro e w4 ⟨⟨v, rfl, hTP⟩, hb4⟩
  obtain ⟨L', hL'⟩ : ∃ L', L' = (lsig 33 0).ps.length := ⟨_, rfl⟩
  obtain ⟨r', hr'⟩ : ∃ r', r' = (lsig 33 0).re := ⟨_, rfl⟩
  have hTP2 := hTP
  obtain ⟨pa, pc, rfl, -⟩ := hTP N (by have := unhide HLx; omega)
  rw [← hL', ← hr'] at hTP2 ⊢
  have hR4 := (hb4.block (w.heap.size + 1) (unhide HLx)).trans (unhide HRx)
  have hB4 := Below.on0 (unhide HBx) hb4 (unhide HBx).size
  obtain ⟨z0, z1⟩ := Gm.cel2 hR4
  have fz : ∀ j, w4.frozen? ⟨w.heap.size + 1, j, none⟩ = false := fun j => frozen_of_row w4 _ j _ _ hR4
  obtain ⟨q0, q1, q2⟩ := Gm.fin2 hR4 hB4 (by omega) (.slice pa L' pc) (.int .u8 r')
  have hTX := TP.set2' (hTP2 N (by have := unhide HLx; omega)) (hTP2 (w.heap.size + 1) (unhide HLx)) hR4 (.slice pa L' pc) (.int .u8 r')
  have HQ2 := hide q2; have HTX := hide hTX
  clear hb4 hR4 hB4 q2 hTX hTP2 HLs hL' hr'
  go_wp2
  have q2 := unhide HQ2
  refine bodyPost_ret (v := .tuple #[.agg #[.slice pa L' pc, .int .u8 r'], .bool false]) (by simp [results, Tryz.results121, go_sem, q0, q1]) rfl ⟨SgP.no, q2⟩
set_option maxRecDepth 100000 in
set_option maxHeartbeats 3200000 in
theorem sg_l34_yes {w : World} {N : Nat} {m : M8} {vl va vt : Value} {lo : List Int} {s : St} (h : Wk w N m vl lo va vt s) (hl : s.la.length ≤ 1099511627776) (n al of re : Int) (vb ve vx : Value) (k : Int) (hk : at? lo n = some k) :
    Calls Tryz.prog 121 #[.pointer (some ⟨N, 0, none⟩), .agg #[.int .u8 34, .int .i64 n, .int .u32 al, .int .u32 of, .int .u8 re, vb, ve, vx]] w fun e w' => SgP N (some (lsig 34 k)) e w' ∧ Below w.heap.size w w' := by
  have hlt := h.lt
  obtain ⟨W0, hW0, b1, b2, b3, b4⟩ := Gm.start2m (w := w) (ms := #[.int .u8 34, .int .i64 n, .int .u32 al, .int .u32 of, .int .u8 re, vb, ve, vx]) (ss := #[.slice none 0 0, .int .u8 0]) (t := 63) (t2 := 96)
  obtain ⟨c0, c1, c2, c3, c4, c5, c6, c7⟩ := Ex.cel8 b1
  have h0 := h.below b4
  have hlo0 := h0.lo
  obtain ⟨la', lc', hvl, -⟩ := hlo0
  have hq := fun (j : Nat) => itq_K (w := W0.drewN j) (g := fun _ => True) (zs := lo) (a := la') (c := lc') (by rw [← hvl]; exact Ex.Lies.move h0.lo fun _ b o _ hp => ⟨trivial, hp⟩) n
  rw [hk] at hq
  unfold kv at hq
  have hc8 := h0.box.cells.1
  rw [hvl] at hc8
  have HQ := hide hq; have HW := hide hW0; have HB := hide b4; have HR := hide b2; have HI := hide b1
  have hln : (w.heap.size : Int) < W0.heap.size := by omega
  clear h h0 hl hq hW0 b1 b2 b4 hk c2 c3 c4 c5 c6 c7 hvl
  generalize lo.length = L at *
  go_enter Tryz.func121, Tryz.ntmps121
  go_upto_region 25 with fail
  rw [unhide HW]
  go_quiet ((go_at_call 135; exact Calls.quiet_of_same (unhide HQ _)))
  have hb1 := drewn_b W0 nq
  have HBx := hide (Below.on0 (unhide HB) hb1 (unhide HB).size)
  have HRx := hide ((hb1).block (w.heap.size + 1) b3 |>.trans (unhide HR))
  have HLx : Hid (w.heap.size + 1 < (W0.drewN nq).heap.size) := hide (Nat.lt_of_lt_of_le b3 (hb1).size)
  have hi1 := (hb1.block w.heap.size (by omega)).trans (unhide HI)
  clear hb1 HQ HW HR HB HI c0 c1 hc8
  generalize W0.drewN nq = w1 at *
  have d0 := (Ex.cel8 hi1).1
  have hls := local_any (w := w1) 34 k (by omega)
  have HLs := hide hls
  clear hls hi1
  go_wp2_with fail
  refine (unhide HLs).mono ?_
  rintro e w4 ⟨⟨v, rfl, hTP⟩, hb4⟩
  obtain ⟨L', hL'⟩ : ∃ L', L' = (lsig 34 k).ps.length := ⟨_, rfl⟩
  obtain ⟨r', hr'⟩ : ∃ r', r' = (lsig 34 k).re := ⟨_, rfl⟩
  have hTP2 := hTP
  obtain ⟨pa, pc, rfl, -⟩ := hTP N (by have := unhide HLx; omega)
  rw [← hL', ← hr'] at hTP2 ⊢
  have hR4 := (hb4.block (w.heap.size + 1) (unhide HLx)).trans (unhide HRx)
  have hB4 := Below.on0 (unhide HBx) hb4 (unhide HBx).size
  obtain ⟨z0, z1⟩ := Gm.cel2 hR4
  have fz : ∀ j, w4.frozen? ⟨w.heap.size + 1, j, none⟩ = false := fun j => frozen_of_row w4 _ j _ _ hR4
  obtain ⟨q0, q1, q2⟩ := Gm.fin2 hR4 hB4 (by omega) (.slice pa L' pc) (.int .u8 r')
  have hTX := TP.set2' (hTP2 N (by have := unhide HLx; omega)) (hTP2 (w.heap.size + 1) (unhide HLx)) hR4 (.slice pa L' pc) (.int .u8 r')
  have HQ2 := hide q2; have HTX := hide hTX
  clear hb4 hR4 hB4 q2 hTX hTP2 HLs hL' hr'
  go_wp2
  have q2 := unhide HQ2
  refine bodyPost_ret (v := .tuple #[.agg #[.slice pa L' pc, .int .u8 r'], .bool true]) (by simp [results, Tryz.results121, go_sem, q0, q1]) rfl ⟨SgP.yes (unhide HTX), q2⟩
set_option maxRecDepth 100000 in
set_option maxHeartbeats 3200000 in
theorem sg_l34_no {w : World} {N : Nat} {m : M8} {vl va vt : Value} {lo : List Int} {s : St} (h : Wk w N m vl lo va vt s) (hl : s.la.length ≤ 1099511627776) (n al of re : Int) (vb ve vx : Value) (hk : at? lo n = none) :
    Calls Tryz.prog 121 #[.pointer (some ⟨N, 0, none⟩), .agg #[.int .u8 34, .int .i64 n, .int .u32 al, .int .u32 of, .int .u8 re, vb, ve, vx]] w fun e w' => SgP N (none) e w' ∧ Below w.heap.size w w' := by
  have hlt := h.lt
  obtain ⟨W0, hW0, b1, b2, b3, b4⟩ := Gm.start2m (w := w) (ms := #[.int .u8 34, .int .i64 n, .int .u32 al, .int .u32 of, .int .u8 re, vb, ve, vx]) (ss := #[.slice none 0 0, .int .u8 0]) (t := 63) (t2 := 96)
  obtain ⟨c0, c1, c2, c3, c4, c5, c6, c7⟩ := Ex.cel8 b1
  have h0 := h.below b4
  have hlo0 := h0.lo
  obtain ⟨la', lc', hvl, -⟩ := hlo0
  have hq := fun (j : Nat) => itq_K (w := W0.drewN j) (g := fun _ => True) (zs := lo) (a := la') (c := lc') (by rw [← hvl]; exact Ex.Lies.move h0.lo fun _ b o _ hp => ⟨trivial, hp⟩) n
  rw [hk] at hq
  unfold kv at hq
  have hc8 := h0.box.cells.1
  rw [hvl] at hc8
  have HQ := hide hq; have HW := hide hW0; have HB := hide b4; have HR := hide b2; have HI := hide b1
  have hln : (w.heap.size : Int) < W0.heap.size := by omega
  clear h h0 hl hq hW0 b1 b2 b4 hk c2 c3 c4 c5 c6 c7 hvl
  generalize lo.length = L at *
  go_enter Tryz.func121, Tryz.ntmps121
  go_upto_region 25 with fail
  rw [unhide HW]
  go_quiet ((go_at_call 135; exact Calls.quiet_of_same (unhide HQ _)))
  have hb1 := drewn_b W0 nq
  have HBx := hide (Below.on0 (unhide HB) hb1 (unhide HB).size)
  have HRx := hide ((hb1).block (w.heap.size + 1) b3 |>.trans (unhide HR))
  have HLx : Hid (w.heap.size + 1 < (W0.drewN nq).heap.size) := hide (Nat.lt_of_lt_of_le b3 (hb1).size)
  have hi1 := (hb1.block w.heap.size (by omega)).trans (unhide HI)
  clear hb1 HQ HW HR HB HI c0 c1 hc8
  generalize W0.drewN nq = w1 at *
  have d0 := (Ex.cel8 hi1).1
  have hls := local_any (w := w1) 34 0 (by omega)
  have HLs := hide hls
  clear hls hi1
  go_wp2_with fail
  refine (unhide HLs).mono ?_
  rintro e w4 ⟨⟨v, rfl, hTP⟩, hb4⟩
  obtain ⟨L', hL'⟩ : ∃ L', L' = (lsig 34 0).ps.length := ⟨_, rfl⟩
  obtain ⟨r', hr'⟩ : ∃ r', r' = (lsig 34 0).re := ⟨_, rfl⟩
  have hTP2 := hTP
  obtain ⟨pa, pc, rfl, -⟩ := hTP N (by have := unhide HLx; omega)
  rw [← hL', ← hr'] at hTP2 ⊢
  have hR4 := (hb4.block (w.heap.size + 1) (unhide HLx)).trans (unhide HRx)
  have hB4 := Below.on0 (unhide HBx) hb4 (unhide HBx).size
  obtain ⟨z0, z1⟩ := Gm.cel2 hR4
  have fz : ∀ j, w4.frozen? ⟨w.heap.size + 1, j, none⟩ = false := fun j => frozen_of_row w4 _ j _ _ hR4
  obtain ⟨q0, q1, q2⟩ := Gm.fin2 hR4 hB4 (by omega) (.slice pa L' pc) (.int .u8 r')
  have hTX := TP.set2' (hTP2 N (by have := unhide HLx; omega)) (hTP2 (w.heap.size + 1) (unhide HLx)) hR4 (.slice pa L' pc) (.int .u8 r')
  have HQ2 := hide q2; have HTX := hide hTX
  clear hb4 hR4 hB4 q2 hTX hTP2 HLs hL' hr'
  go_wp2
  have q2 := unhide HQ2
  refine bodyPost_ret (v := .tuple #[.agg #[.slice pa L' pc, .int .u8 r'], .bool false]) (by simp [results, Tryz.results121, go_sem, q0, q1]) rfl ⟨SgP.no, q2⟩
set_option maxRecDepth 100000 in
set_option maxHeartbeats 3200000 in
theorem sg_plain_no {w : World} {N : Nat} {m : M8} {vl va vt : Value} {lo : List Int} {s : St} (h : Wk w N m vl lo va vt s) (hl : s.la.length ≤ 1099511627776) (n al of re : Int) (vb ve vx : Value) (op : Nat) (hop : op < 256) (hno : op ≠ 0 ∧ op ≠ 1 ∧ op ≠ 12 ∧ op ≠ 13 ∧ op ≠ 14 ∧ op ≠ 15 ∧ op ≠ 16 ∧ op ≠ 17 ∧ op ≠ 32 ∧ op ≠ 33 ∧ op ≠ 34 ∧ op ≠ 35 ∧ op ≠ 36) (hT : Tb w) (hp : fam op = none ∨ ((op : Int) ≤ 36)) :
    Calls Tryz.prog 121 #[.pointer (some ⟨N, 0, none⟩), .agg #[.int .u8 op, .int .i64 n, .int .u32 al, .int .u32 of, .int .u8 re, vb, ve, vx]] w fun e w' => SgP N (none) e w' ∧ Below w.heap.size w w' := by
  have hlt := h.lt
  obtain ⟨W0, hW0, b1, b2, b3, b4⟩ := Gm.start2m (w := w) (ms := #[.int .u8 op, .int .i64 n, .int .u32 al, .int .u32 of, .int .u8 re, vb, ve, vx]) (ss := #[.slice none 0 0, .int .u8 0]) (t := 63) (t2 := 96)
  obtain ⟨c0, c1, c2, c3, c4, c5, c6, c7⟩ := Ex.cel8 b1
  have hP := plain_no (some ⟨N, 0, none⟩) op hop n al of re vb ve vx (hT.below b4) hp
  have o0 : (((op : Nat) : Int) == 0) = false := by simp; omega
  have o1 : (((op : Nat) : Int) == 1) = false := by simp; omega
  have o12 : (((op : Nat) : Int) == 12) = false := by simp; omega
  have o13 : (((op : Nat) : Int) == 13) = false := by simp; omega
  have o14 : (((op : Nat) : Int) == 14) = false := by simp; omega
  have o15 : (((op : Nat) : Int) == 15) = false := by simp; omega
  have o16 : (((op : Nat) : Int) == 16) = false := by simp; omega
  have o17 : (((op : Nat) : Int) == 17) = false := by simp; omega
  have o32 : (((op : Nat) : Int) == 32) = false := by simp; omega
  have o33 : (((op : Nat) : Int) == 33) = false := by simp; omega
  have o34 : (((op : Nat) : Int) == 34) = false := by simp; omega
  have o35 : (((op : Nat) : Int) == 35) = false := by simp; omega
  have o36 : (((op : Nat) : Int) == 36) = false := by simp; omega
  have HP := hide hP; have HW := hide hW0; have HB := hide b4; have HR := hide b2
  clear h hl hP hW0 b1 b2 b4 hT hno
  go_enter Tryz.func121, Tryz.ntmps121
  go_wp2_with fail
  rw [unhide HW]
  refine (unhide HP).mono ?_
  rintro e w4 ⟨⟨pa, pl, pc, r', rfl, hTP⟩, hb4⟩
  obtain ⟨bo, hbo⟩ : ∃ bo, bo = Option.isSome (none) := ⟨_, rfl⟩
  rw [← hbo]
  have hR4 := (hb4.block (w.heap.size + 1) b3).trans (unhide HR)
  have hB4 := Below.on0 (unhide HB) hb4 (unhide HB).size
  obtain ⟨z0, z1⟩ := Gm.cel2 hR4
  have fz : ∀ j, w4.frozen? ⟨w.heap.size + 1, j, none⟩ = false := fun j => frozen_of_row w4 _ j _ _ hR4
  obtain ⟨q0, q1, q2⟩ := Gm.fin2 hR4 hB4 (by omega) (.slice pa pl pc) (.int .u8 r')
  have hTX : ∀ t, (none) = some t → _ := fun t ht => TP.set2' (hTP t ht N (by omega)) (hTP t ht (w.heap.size + 1) b3) hR4 (.slice pa pl pc) (.int .u8 r')
  have HQ2 := hide q2; have HTX := hide hTX; have HBo := hide hbo
  clear hb4 hR4 hB4 q2 hTX hTP HP hbo
  go_wp2
  have q2 := unhide HQ2
  refine bodyPost_ret (v := .tuple #[.agg #[.slice pa pl pc, .int .u8 r'], .bool bo]) (by simp [results, Tryz.results121, go_sem, q0, q1]) rfl ⟨⟨pa, pl, pc, r', by rw [unhide HBo], unhide HTX⟩, q2⟩
set_option maxRecDepth 100000 in
set_option maxHeartbeats 3200000 in
theorem sg_plain_yes {w : World} {N : Nat} {m : M8} {vl va vt : Value} {lo : List Int} {s : St} (h : Wk w N m vl lo va vt s) (hl : s.la.length ≤ 1099511627776) (n al of re : Int) (vb ve vx : Value) (op : Nat) (hop : op < 256) (hno : op ≠ 0 ∧ op ≠ 1 ∧ op ≠ 12 ∧ op ≠ 13 ∧ op ≠ 14 ∧ op ≠ 15 ∧ op ≠ 16 ∧ op ≠ 17 ∧ op ≠ 32 ∧ op ≠ 33 ∧ op ≠ 34 ∧ op ≠ 35 ∧ op ≠ 36) (hT : Tb w) {x : Fam} (hf : fam op = some x) (h36 : ¬ (op : Int) ≤ 36) (hal : 0 ≤ al ∧ al ≤ 4294967295) {a3 : Option Addr} {n3 c3 : Nat} (hm : m.v3 = .slice a3 n3 c3) (hn3 : n3 ≤ 1048576) :
    Calls Tryz.prog 121 #[.pointer (some ⟨N, 0, none⟩), .agg #[.int .u8 op, .int .i64 n, .int .u32 al, .int .u32 of, .int .u8 re, vb, ve, vx]] w fun e w' => SgP N (plainO x op n3 n al) e w' ∧ Below w.heap.size w w' := by
  have hlt := h.lt
  obtain ⟨W0, hW0, b1, b2, b3, b4⟩ := Gm.start2m (w := w) (ms := #[.int .u8 op, .int .i64 n, .int .u32 al, .int .u32 of, .int .u8 re, vb, ve, vx]) (ss := #[.slice none 0 0, .int .u8 0]) (t := 63) (t2 := 96)
  obtain ⟨c0, c1, c2, c3, c4, c5, c6, c7⟩ := Ex.cel8 b1
  have hP := plain_yes (N := N) op hop n al of re vb ve vx hal (hT.below b4) hf h36 (Nat.lt_of_lt_of_le hlt b4.size) ((h.below b4).box.mods.2.2.2.1.trans (by rw [hm])) hn3
  have o0 : (((op : Nat) : Int) == 0) = false := by simp; omega
  have o1 : (((op : Nat) : Int) == 1) = false := by simp; omega
  have o12 : (((op : Nat) : Int) == 12) = false := by simp; omega
  have o13 : (((op : Nat) : Int) == 13) = false := by simp; omega
  have o14 : (((op : Nat) : Int) == 14) = false := by simp; omega
  have o15 : (((op : Nat) : Int) == 15) = false := by simp; omega
  have o16 : (((op : Nat) : Int) == 16) = false := by simp; omega
  have o17 : (((op : Nat) : Int) == 17) = false := by simp; omega
  have o32 : (((op : Nat) : Int) == 32) = false := by simp; omega
  have o33 : (((op : Nat) : Int) == 33) = false := by simp; omega
  have o34 : (((op : Nat) : Int) == 34) = false := by simp; omega
  have o35 : (((op : Nat) : Int) == 35) = false := by simp; omega
  have o36 : (((op : Nat) : Int) == 36) = false := by simp; omega
  have HP := hide hP; have HW := hide hW0; have HB := hide b4; have HR := hide b2
  clear h hl hP hW0 b1 b2 b4 hT hno
  go_enter Tryz.func121, Tryz.ntmps121
  go_wp2_with fail
  rw [unhide HW]
  refine (unhide HP).mono ?_
  rintro e w4 ⟨⟨pa, pl, pc, r', rfl, hTP⟩, hb4⟩
  obtain ⟨bo, hbo⟩ : ∃ bo, bo = Option.isSome (plainO x op n3 n al) := ⟨_, rfl⟩
  rw [← hbo]
  have hR4 := (hb4.block (w.heap.size + 1) b3).trans (unhide HR)
  have hB4 := Below.on0 (unhide HB) hb4 (unhide HB).size
  obtain ⟨z0, z1⟩ := Gm.cel2 hR4
  have fz : ∀ j, w4.frozen? ⟨w.heap.size + 1, j, none⟩ = false := fun j => frozen_of_row w4 _ j _ _ hR4
  obtain ⟨q0, q1, q2⟩ := Gm.fin2 hR4 hB4 (by omega) (.slice pa pl pc) (.int .u8 r')
  have hTX : ∀ t, (plainO x op n3 n al) = some t → _ := fun t ht => TP.set2' (hTP t ht N (by omega)) (hTP t ht (w.heap.size + 1) b3) hR4 (.slice pa pl pc) (.int .u8 r')
  have HQ2 := hide q2; have HTX := hide hTX; have HBo := hide hbo
  clear hb4 hR4 hB4 q2 hTX hTP HP hbo
  go_wp2
  have q2 := unhide HQ2
  refine bodyPost_ret (v := .tuple #[.agg #[.slice pa pl pc, .int .u8 r'], .bool bo]) (by simp [results, Tryz.results121, go_sem, q0, q1]) rfl ⟨⟨pa, pl, pc, r', by rw [unhide HBo], unhide HTX⟩, q2⟩
end Vw
end Go.Proofs.YtcpknafaocdjdaaGreatDoor

/- valid: sign, way by way (3): call. -/
namespace Go.Proofs.YtcpknafaocdjdaaGreatDoor
open Go.RowKit Go.Shelf
namespace Vw
set_option linter.unusedVariables false
set_option linter.unusedSimpArgs false
open Ex (Ins Lies Lab)
open Gm (Mod Typ Byts ModL WfM)
/-- what the module of the walk is -/
structure MdL (w : World) (N : Nat) (M : Mod) (m : M8) : Prop where
  l : ModL w (fun b => b < N) M m.v0 m.v1 m.v2 m.v3 m.v4 m.v5 m.v6 m.v7
  wf : WfM M
theorem MdL.below {w w' : World} {N : Nat} {M : Mod} {m : M8} (h : MdL w N M m) (hb : Below w.heap.size w w') : MdL w' N M m :=
  ⟨h.l.moved (Gm.Mv.below hb (fun k hk q => q)) hb.size, h.wf⟩
set_option maxRecDepth 100000 in
set_option maxHeartbeats 3200000 in
theorem sg_call_yes {w : World} {N : Nat} {m : M8} {vl va vt : Value} {lo : List Int} {s : St} (h : Wk w N m vl lo va vt s) (hl : s.la.length ≤ 1099511627776) (n al of re : Int) (vb ve vx : Value) {M : Mod} (hM : MdL w N M m) (t : Typ) (hk : Gm.ty? M n = some t) :
    Calls Tryz.prog 121 #[.pointer (some ⟨N, 0, none⟩), .agg #[.int .u8 16, .int .i64 n, .int .u32 al, .int .u32 of, .int .u8 re, vb, ve, vx]] w fun e w' => SgP N (some t) e w' ∧ Below w.heap.size w w' := by
  have hlt := h.lt
  obtain ⟨W0, hW0, b1, b2, b3, b4⟩ := Gm.start2m (w := w) (ms := #[.int .u8 16, .int .i64 n, .int .u32 al, .int .u32 of, .int .u8 re, vb, ve, vx]) (ss := #[.slice none 0 0, .int .u8 0]) (t := 63) (t2 := 96)
  obtain ⟨c0, c1, c2, c3, c4, c5, c6, c7⟩ := Ex.cel8 b1
  have h0 := h.below b4
  have hM0 := hM.below b4
  have hty := fun W (hW : Below W0.heap.size W0 W) => Gm.vtypeOf_any (hM0.below hW).l hM.wf n
  rw [hk] at hty
  unfold Gm.TyB Gm.TyYes at hty
  obtain ⟨x0, x1, x2, x3, x4, x5, x6, x7⟩ := h0.box.mods
  obtain ⟨z0, z1⟩ := Gm.cel2 b2
  have fz : ∀ j, W0.frozen? ⟨w.heap.size + 1, j, none⟩ = false := fun j => frozen_of_row W0 _ j _ _ b2
  have lN : N < W0.heap.size := by omega
  have lW : w.heap.size < W0.heap.size := by omega
  have n4 : ¬ N = w.heap.size + 1 := by omega
  have n5 : ¬ w.heap.size + 1 = N := by omega
  have n3' : ¬ w.heap.size = w.heap.size + 1 := by omega
  have HTy := hide hty; have HW := hide hW0; have HB := hide b4; have HR := hide b2
  have hWsz : W0.heap.size = w.heap.size + 2 := by rw [← hW0]; simp
  have HWs := hide hWsz
  clear h h0 hM hM0 hl hty hW0 b1 b2 b4 hk c2 c3 c4 c5 c6 c7 hWsz
  go_enter Tryz.func121, Tryz.ntmps121
  go_upto_region 17 with fail
  rw [unhide HW]
  go_region_held3 (fun w' => w'.cell? ⟨N, 0, none⟩ = some m.v0 ∧ w'.cell? ⟨N, 1, none⟩ = some m.v1 ∧ w'.cell? ⟨N, 2, none⟩ = some m.v2 ∧ w'.cell? ⟨N, 3, none⟩ = some m.v3 ∧ w'.cell? ⟨N, 4, none⟩ = some m.v4 ∧ w'.cell? ⟨N, 5, none⟩ = some m.v5 ∧ w'.cell? ⟨N, 6, none⟩ = some m.v6 ∧ w'.cell? ⟨N, 7, none⟩ = some m.v7 ∧ w'.cell? ⟨w.heap.size, 1, none⟩ = some (.int .i64 n))
    (first | go_keep | exact ⟨x0, x1, x2, x3, x4, x5, x6, x7, c1⟩ | exact ⟨(hk4 _ _ lN).trans x0, (hk4 _ _ lN).trans x1, (hk4 _ _ lN).trans x2, (hk4 _ _ lN).trans x3, (hk4 _ _ lN).trans x4, (hk4 _ _ lN).trans x5, (hk4 _ _ lN).trans x6, (hk4 _ _ lN).trans x7, (hk4 _ _ lW).trans c1⟩ | exact ⟨(hs4 _ _ _ _ lN n4).trans x0, (hs4 _ _ _ _ lN n4).trans x1, (hs4 _ _ _ _ lN n4).trans x2, (hs4 _ _ _ _ lN n4).trans x3, (hs4 _ _ _ _ lN n4).trans x4, (hs4 _ _ _ _ lN n4).trans x5, (hs4 _ _ _ _ lN n4).trans x6, (hs4 _ _ _ _ lN n4).trans x7, (hs4 _ _ _ _ lW n3').trans c1⟩ | fail)
    (first
      | (go_at_call 28; refine (unhide HTy _ (drew_b W0)).mono ?_; rintro e w4 ⟨pa, pc, rfl, hL4, hb4⟩; have HB4 := hide (Below.on0 (drew_b W0) hb4 (drew_b W0).size); have HL4 := hide hL4; have hk4 : ∀ b o, b < W0.heap.size → w4.cell? ⟨b, o, none⟩ = W0.cell? ⟨b, o, none⟩ := (fun b o hlt => (unhide HB4).cell (p := ⟨b, o, none⟩) hlt); have z04 : w4.cell? ⟨w.heap.size + 1, 0, none⟩ = some (.slice none 0 0) := (hk4 _ _ b3).trans z0; have z14 : w4.cell? ⟨w.heap.size + 1, 1, none⟩ = some (.int .u8 0) := (hk4 _ _ b3).trans z1; have fz4 : ∀ j, w4.frozen? ⟨w.heap.size + 1, j, none⟩ = false := (fun j => frozen_of_row w4 _ j _ _ (((unhide HB4).block _ b3).trans (unhide HR))); have hs4 : ∀ b o y0 y1, b < W0.heap.size → ¬ b = w.heap.size + 1 → ((w4.setCell ⟨w.heap.size + 1, 0, none⟩ y0).setCell ⟨w.heap.size + 1, 1, none⟩ y1).cell? ⟨b, o, none⟩ = W0.cell? ⟨b, o, none⟩ := (fun b o y0 y1 hlt hne => (World.cell?_of_block (a := ⟨b, o, none⟩) ((heap_setCell_other _ ⟨w.heap.size + 1, 1, none⟩ b _ hne).trans (heap_setCell_other _ ⟨w.heap.size + 1, 0, none⟩ b _ hne))).trans (hk4 b o hlt)); clear hb4 hL4)
      | fail)
  clear hk4 hs4
  go_wp2
  have hr4 := ((unhide HB4).block _ b3).trans (unhide HR)
  obtain ⟨q0, q1, q2⟩ := Gm.fin2 hr4 (Below.on0 (unhide HB) (unhide HB4) (unhide HB).size) (by omega) (.slice pa t.ps.length pc) (.int .u8 t.re)
  have hT4 : ∀ K, N ≤ K → TP K w4 t (.agg #[.slice pa t.ps.length pc, .int .u8 t.re]) := fun K hK => ⟨pa, pc, rfl, Ex.Lies.move (unhide HL4) fun _ b o hg hp => ⟨by omega, fun j hj => ((unhide HB4).cell (p := ⟨b, o + j, none⟩) (Nat.lt_trans hg lN)).trans (hp j hj)⟩⟩
  have hTX := TP.set2' (hT4 N (Nat.le_refl _)) (hT4 (w.heap.size + 1) (by omega)) hr4 (.slice pa t.ps.length pc) (.int .u8 t.re)
  refine bodyPost_ret (v := .tuple #[.agg #[.slice pa t.ps.length pc, .int .u8 t.re], .bool true]) (by simp [results, Tryz.results121, go_sem, q0, q1]) rfl ⟨SgP.yes hTX, q2⟩
set_option maxRecDepth 100000 in
set_option maxHeartbeats 3200000 in
theorem sg_call_no {w : World} {N : Nat} {m : M8} {vl va vt : Value} {lo : List Int} {s : St} (h : Wk w N m vl lo va vt s) (hl : s.la.length ≤ 1099511627776) (n al of re : Int) (vb ve vx : Value) {M : Mod} (hM : MdL w N M m) (hk : Gm.ty? M n = none) :
    Calls Tryz.prog 121 #[.pointer (some ⟨N, 0, none⟩), .agg #[.int .u8 16, .int .i64 n, .int .u32 al, .int .u32 of, .int .u8 re, vb, ve, vx]] w fun e w' => SgP N (none) e w' ∧ Below w.heap.size w w' := by
  have hlt := h.lt
  obtain ⟨W0, hW0, b1, b2, b3, b4⟩ := Gm.start2m (w := w) (ms := #[.int .u8 16, .int .i64 n, .int .u32 al, .int .u32 of, .int .u8 re, vb, ve, vx]) (ss := #[.slice none 0 0, .int .u8 0]) (t := 63) (t2 := 96)
  obtain ⟨c0, c1, c2, c3, c4, c5, c6, c7⟩ := Ex.cel8 b1
  have h0 := h.below b4
  have hM0 := hM.below b4
  have hty := fun W (hW : Below W0.heap.size W0 W) => Gm.vtypeOf_any (hM0.below hW).l hM.wf n
  rw [hk] at hty
  unfold Gm.TyB Gm.TyNo at hty
  obtain ⟨x0, x1, x2, x3, x4, x5, x6, x7⟩ := h0.box.mods
  obtain ⟨z0, z1⟩ := Gm.cel2 b2
  have fz : ∀ j, W0.frozen? ⟨w.heap.size + 1, j, none⟩ = false := fun j => frozen_of_row W0 _ j _ _ b2
  have lN : N < W0.heap.size := by omega
  have lW : w.heap.size < W0.heap.size := by omega
  have n4 : ¬ N = w.heap.size + 1 := by omega
  have n5 : ¬ w.heap.size + 1 = N := by omega
  have n3' : ¬ w.heap.size = w.heap.size + 1 := by omega
  have HTy := hide hty; have HW := hide hW0; have HB := hide b4; have HR := hide b2
  have hWsz : W0.heap.size = w.heap.size + 2 := by rw [← hW0]; simp
  have HWs := hide hWsz
  clear h h0 hM hM0 hl hty hW0 b1 b2 b4 hk c2 c3 c4 c5 c6 c7 hWsz
  go_enter Tryz.func121, Tryz.ntmps121
  go_upto_region 17 with fail
  rw [unhide HW]
  go_region_held3 (fun w' => w'.cell? ⟨N, 0, none⟩ = some m.v0 ∧ w'.cell? ⟨N, 1, none⟩ = some m.v1 ∧ w'.cell? ⟨N, 2, none⟩ = some m.v2 ∧ w'.cell? ⟨N, 3, none⟩ = some m.v3 ∧ w'.cell? ⟨N, 4, none⟩ = some m.v4 ∧ w'.cell? ⟨N, 5, none⟩ = some m.v5 ∧ w'.cell? ⟨N, 6, none⟩ = some m.v6 ∧ w'.cell? ⟨N, 7, none⟩ = some m.v7 ∧ w'.cell? ⟨w.heap.size, 1, none⟩ = some (.int .i64 n))
    (first | go_keep | exact ⟨x0, x1, x2, x3, x4, x5, x6, x7, c1⟩ | exact ⟨(hk4 _ _ lN).trans x0, (hk4 _ _ lN).trans x1, (hk4 _ _ lN).trans x2, (hk4 _ _ lN).trans x3, (hk4 _ _ lN).trans x4, (hk4 _ _ lN).trans x5, (hk4 _ _ lN).trans x6, (hk4 _ _ lN).trans x7, (hk4 _ _ lW).trans c1⟩ | exact ⟨(hs4 _ _ _ _ lN n4).trans x0, (hs4 _ _ _ _ lN n4).trans x1, (hs4 _ _ _ _ lN n4).trans x2, (hs4 _ _ _ _ lN n4).trans x3, (hs4 _ _ _ _ lN n4).trans x4, (hs4 _ _ _ _ lN n4).trans x5, (hs4 _ _ _ _ lN n4).trans x6, (hs4 _ _ _ _ lN n4).trans x7, (hs4 _ _ _ _ lW n3').trans c1⟩ | fail)
    (first
      | (go_at_call 28; refine (unhide HTy _ (drew_b W0)).mono ?_; rintro e w4 ⟨rfl, hb4⟩; have HB4 := hide (Below.on0 (drew_b W0) hb4 (drew_b W0).size); have hk4 : ∀ b o, b < W0.heap.size → w4.cell? ⟨b, o, none⟩ = W0.cell? ⟨b, o, none⟩ := (fun b o hlt => (unhide HB4).cell (p := ⟨b, o, none⟩) hlt); have z04 : w4.cell? ⟨w.heap.size + 1, 0, none⟩ = some (.slice none 0 0) := (hk4 _ _ b3).trans z0; have z14 : w4.cell? ⟨w.heap.size + 1, 1, none⟩ = some (.int .u8 0) := (hk4 _ _ b3).trans z1; have fz4 : ∀ j, w4.frozen? ⟨w.heap.size + 1, j, none⟩ = false := (fun j => frozen_of_row w4 _ j _ _ (((unhide HB4).block _ b3).trans (unhide HR))); have hs4 : ∀ b o y0 y1, b < W0.heap.size → ¬ b = w.heap.size + 1 → ((w4.setCell ⟨w.heap.size + 1, 0, none⟩ y0).setCell ⟨w.heap.size + 1, 1, none⟩ y1).cell? ⟨b, o, none⟩ = W0.cell? ⟨b, o, none⟩ := (fun b o y0 y1 hlt hne => (World.cell?_of_block (a := ⟨b, o, none⟩) ((heap_setCell_other _ ⟨w.heap.size + 1, 1, none⟩ b _ hne).trans (heap_setCell_other _ ⟨w.heap.size + 1, 0, none⟩ b _ hne))).trans (hk4 b o hlt)); clear hb4)
      | fail)
  clear hk4 hs4
  go_wp2
  have hr4 := ((unhide HB4).block _ b3).trans (unhide HR)
  obtain ⟨q0, q1, q2⟩ := Gm.fin2 hr4 (Below.on0 (unhide HB) (unhide HB4) (unhide HB).size) (by omega) (.slice none 0 0) (.int .u8 0)
  refine bodyPost_ret (v := .tuple #[.agg #[.slice none 0 0, .int .u8 0], .bool false]) (by simp [results, Tryz.results121, go_sem, q0, q1]) rfl ⟨SgP.no, q2⟩
end Vw
end Go.Proofs.YtcpknafaocdjdaaGreatDoor
