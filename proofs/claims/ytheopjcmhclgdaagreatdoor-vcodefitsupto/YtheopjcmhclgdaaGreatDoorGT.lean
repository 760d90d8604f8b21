/- The document's Fits. By mkvfg.py. -/
import Derived.Test.YtheopjcmhclgdaaGreatDoorGS
import Derived.Test.YtheopjcmhclgdaaGreatDoorHP
import Derived.Test.YtheopjcmhclgdaaGreatDoorHZ
import Derived.Deep.Cut

/- The document's meant. By mkvff.py. -/
namespace Go.Proofs.YtheopjcmhclgdaaGreatDoor
open Go.RowKit
namespace Vc
set_option linter.unusedVariables false
set_option linter.unusedSimpArgs false
open Gm (Mod Typ Fnc Glo Byts ModL WfM SzM TypC TyYes TyNo TyB ty?)
theorem nm_mnt : ((List.range 256).all fun n => ((rnm n == [109, 101, 109, 111, 114, 121, 46, 115, 105, 122, 101]) == decide (n = 63)) && ((rnm n == [109, 101, 109, 111, 114, 121, 46, 103, 114, 111, 119]) == decide (n = 64)) && ((rnm n == [103, 108, 111, 98, 97, 108, 46, 103, 101, 116]) == decide (n = 35)) && ((rnm n == [103, 108, 111, 98, 97, 108, 46, 115, 101, 116]) == decide (n = 36)) && ((rnm n == [99, 97, 108, 108]) == decide (n = 16)) && ((rnm n == [99, 97, 108, 108, 95, 105, 110, 100, 105, 114, 101, 99, 116]) == decide (n = 17))) = true := by kernel_rfl
theorem acc_mnt : acc 63 = false ∧ acc 64 = false ∧ acc 35 = false ∧ acc 36 = false ∧ acc 16 = false ∧ acc 17 = false := by refine ⟨?_, ?_, ?_, ?_, ?_, ?_⟩ <;> kernel_rfl
theorem nm_at (n : Nat) (hn : n < 256) : (rnm n == [109, 101, 109, 111, 114, 121, 46, 115, 105, 122, 101]) = decide (n = 63) ∧ (rnm n == [109, 101, 109, 111, 114, 121, 46, 103, 114, 111, 119]) = decide (n = 64) ∧ (rnm n == [103, 108, 111, 98, 97, 108, 46, 103, 101, 116]) = decide (n = 35) ∧ (rnm n == [103, 108, 111, 98, 97, 108, 46, 115, 101, 116]) = decide (n = 36) ∧ (rnm n == [99, 97, 108, 108]) = decide (n = 16) ∧ (rnm n == [99, 97, 108, 108, 95, 105, 110, 100, 105, 114, 101, 99, 116]) = decide (n = 17) := by
  have := List.all_eq_true.1 nm_mnt n (List.mem_range.2 hn)
  simp only [Bool.and_eq_true, beq_iff_eq] at this
  simpa [and_assoc] using this
/-- what is known of an instruction that may be -/
def Mb (x : In) : Prop := (x.op = 35 ∨ x.op = 36 ∨ x.op = 16 ∨ x.op = 17 → 0 ≤ x.n) ∧ -1 ≤ x.dst
theorem mb_of {re : Int} {rs : Bool} {x : In} (h : insM re rs x = true) : Mb x := by
  unfold insM at h
  simp only [Bool.and_eq_true, decide_eq_true_eq] at h
  refine ⟨fun ho => ?_, h.1.1⟩
  have h2 := h.2.1
  unfold may1 at h2
  cases hs : shp x.op rs with
  | none => rw [hs] at h2; cases h2
  | some s =>
    rw [hs] at h2
    have h3 : mayS s x = true := h2
    unfold mayS at h3
    have h4 : numM x = true := by
      simp only [Bool.and_eq_true] at h3
      first | exact h3.2 | exact h3.2.2 | exact h3.2.2.2
    unfold numM at h4
    rcases ho with ho | ho | ho | ho <;> (rw [ho] at h4; simpa [numd] using h4)
theorem zero3 {w : World} {c1 c2 : Array Value} {t t2 t3 : TypeId} {x0 x1 : Value} : ∃ W0, (((w.alloc (.cells c1 t)).alloc (.cells c2 t2)).alloc (.cells #[x0, x1] t3)) = W0 ∧ W0.heap[w.heap.size]? = some (.cells c1 t (0, 0)) ∧ W0.heap[w.heap.size + 1]? = some (.cells c2 t2 (0, 0)) ∧ W0.heap[w.heap.size + 1 + 1]? = some (.cells #[x0, x1] t3 (0, 0)) ∧ w.heap.size + 1 + 1 < W0.heap.size ∧ Below w.heap.size w W0 := by
  have e2 : (w.alloc (.cells c1 t)).heap.size = w.heap.size + 1 := by simp
  have e3 : ((w.alloc (.cells c1 t)).alloc (.cells c2 t2)).heap.size = w.heap.size + 1 + 1 := by simp
  have hn := heap_alloc_new (w.alloc (.cells c1 t)) (.cells c2 t2)
  have hn2 := heap_alloc_new ((w.alloc (.cells c1 t)).alloc (.cells c2 t2)) (.cells #[x0, x1] t3)
  rw [e2] at hn; rw [e3] at hn2
  refine ⟨_, rfl, ?_, ?_, hn2, by simp, (((Below.refl _ _).alloc (Nat.le_refl _) _).alloc (by simp) _).alloc (by simp; omega) _⟩
  · rw [Below.heap_alloc _ _ _ (by simp; omega), Below.heap_alloc _ _ _ (by simp)]; exact heap_alloc_new w (.cells c1 t)
  · rw [Below.heap_alloc _ _ _ (by simp)]; exact hn
set_option maxRecDepth 100000 in
set_option maxHeartbeats 3200000 in
theorem mt_acc {M : Mod} {g : Nat → Prop} {v0 v1 v2 v3 v4 v5 v6 v7 : Value} {w : World} (hM : ModL w g M v0 v1 v2 v3 v4 v5 v6 v7) (hwf : WfM M) (hs : SzM M) (x : In) (hx : x.op < 256) (hsl : x.src.length ≤ 1099511627776) (hmb : Mb x) (sa : Option Addr) (sc : Nat) (h : acc x.op = true) :
    Calls Tryz.prog 26 #[.agg #[v0, v1, v2, v3, v4, v5, v6, v7], .agg #[.int .u8 (x.op : Int), .int .i64 x.dst, .slice sa x.src.length sc, .int .i64 x.n, .int .u32 x.of]] w fun e w' => e = .returned (.bool (decide (0 < M.mems.length))) ∧ Below w.heap.size w w' := by
  have hN := fun W => rnm_any x.op hx W
  have hMe := fun W => rmem_any x.op hx W
  have hnm := nm_at x.op hx
  obtain ⟨a0, k0, rfl⟩ := hM.l0.sl; obtain ⟨a1, k1, rfl⟩ := hM.l1.sl; obtain ⟨a2, k2, rfl⟩ := hM.l2.sl; obtain ⟨a3, k3, rfl⟩ := hM.l3.sl; obtain ⟨a4, k4, rfl⟩ := hM.l4.sl; obtain ⟨a5, k5, rfl⟩ := hM.l5.sl; obtain ⟨a6, k6, rfl⟩ := hM.l6.sl; obtain ⟨a7, k7, rfl⟩ := hM.l7.sl
  have hlen := (And.intro hs.n0 (And.intro hs.n2 (And.intro hs.n3 hs.n4)))
  clear hM hwf hs
  generalize M.types.length = n0 at *; generalize M.funcs.length = n1 at *; generalize M.tables.length = n2 at *; generalize M.mems.length = n3 at *; generalize M.globs.length = n4 at *; generalize M.exps.length = n5 at *; generalize M.elems.length = n6 at *; generalize M.datas.length = n7 at *
  obtain ⟨op, dst, src, nn, of⟩ := x
  simp only [Mb] at *
  generalize src.length = sl at *
  have he : ∀ q, ((str (rnm op)).toList == q) = (rnm op == q) := fun q => by rw [str_toList]
  have e63 : ((str (rnm op)).toList == [109, 101, 109, 111, 114, 121, 46, 115, 105, 122, 101]) = decide (op = 63) := by rw [he]; exact hnm.1
  have e64 : ((str (rnm op)).toList == [109, 101, 109, 111, 114, 121, 46, 103, 114, 111, 119]) = decide (op = 64) := by rw [he]; exact hnm.2.1
  have e35 : ((str (rnm op)).toList == [103, 108, 111, 98, 97, 108, 46, 103, 101, 116]) = decide (op = 35) := by rw [he]; exact hnm.2.2.1
  have e36 : ((str (rnm op)).toList == [103, 108, 111, 98, 97, 108, 46, 115, 101, 116]) = decide (op = 36) := by rw [he]; exact hnm.2.2.2.1
  have e16 : ((str (rnm op)).toList == [99, 97, 108, 108]) = decide (op = 16) := by rw [he]; exact hnm.2.2.2.2.1
  have e17 : ((str (rnm op)).toList == [99, 97, 108, 108, 95, 105, 110, 100, 105, 114, 101, 99, 116]) = decide (op = 17) := by rw [he]; exact hnm.2.2.2.2.2
  generalize str (rnm op) = S at *
  clear he hnm
  obtain ⟨W0, hW0, b1, b2, b3, b5, b4⟩ := zero3 (w := w) (c1 := #[.slice a0 n0 k0, .slice a1 n1 k1, .slice a2 n2 k2, .slice a3 n3 k3, .slice a4 n4 k4, .slice a5 n5 k5, .slice a6 n6 k6, .slice a7 n7 k7]) (c2 := #[.int .u8 (op : Int), .int .i64 dst, .slice sa sl sc, .int .i64 nn, .int .u32 of]) (t := 30) (t2 := 81) (t3 := 59) (x0 := .slice none 0 0) (x1 := .int .u8 0)
  have hce : ∀ wx, Below W0.heap.size W0 wx → ((wx.cell? ⟨w.heap.size, 0, none⟩ = some (.slice a0 n0 k0) ∧ wx.cell? ⟨w.heap.size, 1, none⟩ = some (.slice a1 n1 k1) ∧ wx.cell? ⟨w.heap.size, 2, none⟩ = some (.slice a2 n2 k2) ∧ wx.cell? ⟨w.heap.size, 3, none⟩ = some (.slice a3 n3 k3) ∧ wx.cell? ⟨w.heap.size, 4, none⟩ = some (.slice a4 n4 k4) ∧ wx.cell? ⟨w.heap.size, 5, none⟩ = some (.slice a5 n5 k5) ∧ wx.cell? ⟨w.heap.size, 6, none⟩ = some (.slice a6 n6 k6) ∧ wx.cell? ⟨w.heap.size, 7, none⟩ = some (.slice a7 n7 k7)) ∧ (wx.cell? ⟨w.heap.size + 1, 0, none⟩ = some (.int .u8 (op : Int)) ∧ wx.cell? ⟨w.heap.size + 1, 1, none⟩ = some (.int .i64 dst) ∧ wx.cell? ⟨w.heap.size + 1, 2, none⟩ = some (.slice sa sl sc) ∧ wx.cell? ⟨w.heap.size + 1, 3, none⟩ = some (.int .i64 nn) ∧ wx.cell? ⟨w.heap.size + 1, 4, none⟩ = some (.int .u32 of)) ∧ (wx.cell? ⟨w.heap.size + 1 + 1, 0, none⟩ = some (.slice none 0 0) ∧ wx.cell? ⟨w.heap.size + 1 + 1, 1, none⟩ = some (.int .u8 0)) ∧ w.heap.size + 1 + 1 < wx.heap.size ∧ (∀ j, wx.frozen? ⟨w.heap.size + 1 + 1, j, none⟩ = false) ∧ wx.heap[w.heap.size + 1 + 1]? = some (.cells #[.slice none 0 0, .int .u8 0] 59 (0, 0))) := fun wx hb => by
    have r1 := (hb.block _ (by omega)).trans b1
    have r2 := (hb.block _ (by omega)).trans b2
    have r3 := (hb.block _ b5).trans b3
    exact ⟨mbox8 r1, cel5 r2, Gm.cel2 r3, Nat.lt_of_lt_of_le b5 hb.size, fun j => frozen_of_row wx _ j _ _ r3, r3⟩
  have HCe := hide hce; have HW := hide hW0; have HB0 := hide b4; have HN := hide hN; have HMe := hide hMe
  obtain ⟨⟨p0, p1, p2, p3, p4, p5, p6, p7⟩, ⟨q0, q1, q2, q3, q4⟩, ⟨z0, z1⟩, yl, fz, -⟩ := hce W0 (Below.refl _ _)
  clear hce hW0 b1 b2 b3 b4 b5 hN hMe
  rw [h] at HMe
  clear h
  go_enter Tryz.func26, Tryz.ntmps26
  go_upto_region 3 with fail
  rw [unhide HW]
  go_wp2_with fail
  refine (unhide HN W0).mono ?_
  rintro e w3 ⟨rfl, hb3⟩
  clear p0 p1 p2 p3 p4 p5 p6 p7 q0 q1 q2 q3 q4 z0 z1 yl fz
  obtain ⟨⟨p0, p1, p2, p3, p4, p5, p6, p7⟩, ⟨q0, q1, q2, q3, q4⟩, ⟨z0, z1⟩, yl, fz, -⟩ := unhide HCe w3 hb3
  have HB3 := hide hb3
  clear hb3
  go_wp2_with fail
  refine (unhide HMe w3).mono ?_
  rintro e w4 ⟨rfl, hb4⟩
  clear p0 p1 p2 p3 p4 p5 p6 p7 q0 q1 q2 q3 q4 z0 z1 yl fz
  have hb34 := (unhide HB3).trans (hb4.mono (unhide HB3).size)
  obtain ⟨⟨p0, p1, p2, p3, p4, p5, p6, p7⟩, ⟨q0, q1, q2, q3, q4⟩, ⟨z0, z1⟩, yl, fz, hr4⟩ := unhide HCe w4 hb34
  have HB4 := hide (Gm.Below.on0 (unhide HB0) hb34 (unhide HB0).size)
  have HB34 := hide hb34; have HR4 := hide hr4
  clear hb4 hb34 hr4
  go_wp2
  go_ret
  exact ⟨ret_bool (by simp), unhide HB4⟩
set_option maxRecDepth 100000 in
set_option maxHeartbeats 3200000 in
theorem mt_63 {M : Mod} {g : Nat → Prop} {v0 v1 v2 v3 v4 v5 v6 v7 : Value} {w : World} (hM : ModL w g M v0 v1 v2 v3 v4 v5 v6 v7) (hwf : WfM M) (hs : SzM M) (x : In) (hx : x.op < 256) (hsl : x.src.length ≤ 1099511627776) (hmb : Mb x) (sa : Option Addr) (sc : Nat) (h : x.op = 63) :
    Calls Tryz.prog 26 #[.agg #[v0, v1, v2, v3, v4, v5, v6, v7], .agg #[.int .u8 (x.op : Int), .int .i64 x.dst, .slice sa x.src.length sc, .int .i64 x.n, .int .u32 x.of]] w fun e w' => e = .returned (.bool (decide (0 < M.mems.length))) ∧ Below w.heap.size w w' := by
  have hN := fun W => rnm_any x.op hx W
  have hMe := fun W => rmem_any x.op hx W
  have hnm := nm_at x.op hx
  obtain ⟨a0, k0, rfl⟩ := hM.l0.sl; obtain ⟨a1, k1, rfl⟩ := hM.l1.sl; obtain ⟨a2, k2, rfl⟩ := hM.l2.sl; obtain ⟨a3, k3, rfl⟩ := hM.l3.sl; obtain ⟨a4, k4, rfl⟩ := hM.l4.sl; obtain ⟨a5, k5, rfl⟩ := hM.l5.sl; obtain ⟨a6, k6, rfl⟩ := hM.l6.sl; obtain ⟨a7, k7, rfl⟩ := hM.l7.sl
  have hlen := (And.intro hs.n0 (And.intro hs.n2 (And.intro hs.n3 hs.n4)))
  clear hM hwf hs
  generalize M.types.length = n0 at *; generalize M.funcs.length = n1 at *; generalize M.tables.length = n2 at *; generalize M.mems.length = n3 at *; generalize M.globs.length = n4 at *; generalize M.exps.length = n5 at *; generalize M.elems.length = n6 at *; generalize M.datas.length = n7 at *
  obtain ⟨op, dst, src, nn, of⟩ := x
  simp only [Mb] at *
  generalize src.length = sl at *
  have he : ∀ q, ((str (rnm op)).toList == q) = (rnm op == q) := fun q => by rw [str_toList]
  have e63 : ((str (rnm op)).toList == [109, 101, 109, 111, 114, 121, 46, 115, 105, 122, 101]) = decide (op = 63) := by rw [he]; exact hnm.1
  have e64 : ((str (rnm op)).toList == [109, 101, 109, 111, 114, 121, 46, 103, 114, 111, 119]) = decide (op = 64) := by rw [he]; exact hnm.2.1
  have e35 : ((str (rnm op)).toList == [103, 108, 111, 98, 97, 108, 46, 103, 101, 116]) = decide (op = 35) := by rw [he]; exact hnm.2.2.1
  have e36 : ((str (rnm op)).toList == [103, 108, 111, 98, 97, 108, 46, 115, 101, 116]) = decide (op = 36) := by rw [he]; exact hnm.2.2.2.1
  have e16 : ((str (rnm op)).toList == [99, 97, 108, 108]) = decide (op = 16) := by rw [he]; exact hnm.2.2.2.2.1
  have e17 : ((str (rnm op)).toList == [99, 97, 108, 108, 95, 105, 110, 100, 105, 114, 101, 99, 116]) = decide (op = 17) := by rw [he]; exact hnm.2.2.2.2.2
  generalize str (rnm op) = S at *
  clear he hnm
  obtain ⟨W0, hW0, b1, b2, b3, b5, b4⟩ := zero3 (w := w) (c1 := #[.slice a0 n0 k0, .slice a1 n1 k1, .slice a2 n2 k2, .slice a3 n3 k3, .slice a4 n4 k4, .slice a5 n5 k5, .slice a6 n6 k6, .slice a7 n7 k7]) (c2 := #[.int .u8 (op : Int), .int .i64 dst, .slice sa sl sc, .int .i64 nn, .int .u32 of]) (t := 30) (t2 := 81) (t3 := 59) (x0 := .slice none 0 0) (x1 := .int .u8 0)
  have hce : ∀ wx, Below W0.heap.size W0 wx → ((wx.cell? ⟨w.heap.size, 0, none⟩ = some (.slice a0 n0 k0) ∧ wx.cell? ⟨w.heap.size, 1, none⟩ = some (.slice a1 n1 k1) ∧ wx.cell? ⟨w.heap.size, 2, none⟩ = some (.slice a2 n2 k2) ∧ wx.cell? ⟨w.heap.size, 3, none⟩ = some (.slice a3 n3 k3) ∧ wx.cell? ⟨w.heap.size, 4, none⟩ = some (.slice a4 n4 k4) ∧ wx.cell? ⟨w.heap.size, 5, none⟩ = some (.slice a5 n5 k5) ∧ wx.cell? ⟨w.heap.size, 6, none⟩ = some (.slice a6 n6 k6) ∧ wx.cell? ⟨w.heap.size, 7, none⟩ = some (.slice a7 n7 k7)) ∧ (wx.cell? ⟨w.heap.size + 1, 0, none⟩ = some (.int .u8 (op : Int)) ∧ wx.cell? ⟨w.heap.size + 1, 1, none⟩ = some (.int .i64 dst) ∧ wx.cell? ⟨w.heap.size + 1, 2, none⟩ = some (.slice sa sl sc) ∧ wx.cell? ⟨w.heap.size + 1, 3, none⟩ = some (.int .i64 nn) ∧ wx.cell? ⟨w.heap.size + 1, 4, none⟩ = some (.int .u32 of)) ∧ (wx.cell? ⟨w.heap.size + 1 + 1, 0, none⟩ = some (.slice none 0 0) ∧ wx.cell? ⟨w.heap.size + 1 + 1, 1, none⟩ = some (.int .u8 0)) ∧ w.heap.size + 1 + 1 < wx.heap.size ∧ (∀ j, wx.frozen? ⟨w.heap.size + 1 + 1, j, none⟩ = false) ∧ wx.heap[w.heap.size + 1 + 1]? = some (.cells #[.slice none 0 0, .int .u8 0] 59 (0, 0))) := fun wx hb => by
    have r1 := (hb.block _ (by omega)).trans b1
    have r2 := (hb.block _ (by omega)).trans b2
    have r3 := (hb.block _ b5).trans b3
    exact ⟨mbox8 r1, cel5 r2, Gm.cel2 r3, Nat.lt_of_lt_of_le b5 hb.size, fun j => frozen_of_row wx _ j _ _ r3, r3⟩
  have HCe := hide hce; have HW := hide hW0; have HB0 := hide b4; have HN := hide hN; have HMe := hide hMe
  obtain ⟨⟨p0, p1, p2, p3, p4, p5, p6, p7⟩, ⟨q0, q1, q2, q3, q4⟩, ⟨z0, z1⟩, yl, fz, -⟩ := hce W0 (Below.refl _ _)
  clear hce hW0 b1 b2 b3 b4 b5 hN hMe
  subst h
  simp only [show ((63 : Nat) : Int) = 63 from rfl, Nat.reduceEqDiff, decide_true, decide_false] at *
  rw [show acc 63 = false from by first | exact acc_mnt.1 | exact acc_mnt.2.1] at HMe
  go_enter Tryz.func26, Tryz.ntmps26
  go_upto_region 3 with fail
  rw [unhide HW]
  go_wp2_with fail
  refine (unhide HN W0).mono ?_
  rintro e w3 ⟨rfl, hb3⟩
  clear p0 p1 p2 p3 p4 p5 p6 p7 q0 q1 q2 q3 q4 z0 z1 yl fz
  obtain ⟨⟨p0, p1, p2, p3, p4, p5, p6, p7⟩, ⟨q0, q1, q2, q3, q4⟩, ⟨z0, z1⟩, yl, fz, -⟩ := unhide HCe w3 hb3
  have HB3 := hide hb3
  clear hb3
  go_wp2_with fail
  refine (unhide HMe w3).mono ?_
  rintro e w4 ⟨rfl, hb4⟩
  clear p0 p1 p2 p3 p4 p5 p6 p7 q0 q1 q2 q3 q4 z0 z1 yl fz
  have hb34 := (unhide HB3).trans (hb4.mono (unhide HB3).size)
  obtain ⟨⟨p0, p1, p2, p3, p4, p5, p6, p7⟩, ⟨q0, q1, q2, q3, q4⟩, ⟨z0, z1⟩, yl, fz, hr4⟩ := unhide HCe w4 hb34
  have HB4 := hide (Gm.Below.on0 (unhide HB0) hb34 (unhide HB0).size)
  have HB34 := hide hb34; have HR4 := hide hr4
  clear hb4 hb34 hr4
  go_wp2
  go_ret
  exact ⟨ret_bool (by simp), unhide HB4⟩
set_option maxRecDepth 100000 in
set_option maxHeartbeats 3200000 in
theorem mt_64 {M : Mod} {g : Nat → Prop} {v0 v1 v2 v3 v4 v5 v6 v7 : Value} {w : World} (hM : ModL w g M v0 v1 v2 v3 v4 v5 v6 v7) (hwf : WfM M) (hs : SzM M) (x : In) (hx : x.op < 256) (hsl : x.src.length ≤ 1099511627776) (hmb : Mb x) (sa : Option Addr) (sc : Nat) (h : x.op = 64) :
    Calls Tryz.prog 26 #[.agg #[v0, v1, v2, v3, v4, v5, v6, v7], .agg #[.int .u8 (x.op : Int), .int .i64 x.dst, .slice sa x.src.length sc, .int .i64 x.n, .int .u32 x.of]] w fun e w' => e = .returned (.bool (decide (0 < M.mems.length))) ∧ Below w.heap.size w w' := by
  have hN := fun W => rnm_any x.op hx W
  have hMe := fun W => rmem_any x.op hx W
  have hnm := nm_at x.op hx
  obtain ⟨a0, k0, rfl⟩ := hM.l0.sl; obtain ⟨a1, k1, rfl⟩ := hM.l1.sl; obtain ⟨a2, k2, rfl⟩ := hM.l2.sl; obtain ⟨a3, k3, rfl⟩ := hM.l3.sl; obtain ⟨a4, k4, rfl⟩ := hM.l4.sl; obtain ⟨a5, k5, rfl⟩ := hM.l5.sl; obtain ⟨a6, k6, rfl⟩ := hM.l6.sl; obtain ⟨a7, k7, rfl⟩ := hM.l7.sl
  have hlen := (And.intro hs.n0 (And.intro hs.n2 (And.intro hs.n3 hs.n4)))
  clear hM hwf hs
  generalize M.types.length = n0 at *; generalize M.funcs.length = n1 at *; generalize M.tables.length = n2 at *; generalize M.mems.length = n3 at *; generalize M.globs.length = n4 at *; generalize M.exps.length = n5 at *; generalize M.elems.length = n6 at *; generalize M.datas.length = n7 at *
  obtain ⟨op, dst, src, nn, of⟩ := x
  simp only [Mb] at *
  generalize src.length = sl at *
  have he : ∀ q, ((str (rnm op)).toList == q) = (rnm op == q) := fun q => by rw [str_toList]
  have e63 : ((str (rnm op)).toList == [109, 101, 109, 111, 114, 121, 46, 115, 105, 122, 101]) = decide (op = 63) := by rw [he]; exact hnm.1
  have e64 : ((str (rnm op)).toList == [109, 101, 109, 111, 114, 121, 46, 103, 114, 111, 119]) = decide (op = 64) := by rw [he]; exact hnm.2.1
  have e35 : ((str (rnm op)).toList == [103, 108, 111, 98, 97, 108, 46, 103, 101, 116]) = decide (op = 35) := by rw [he]; exact hnm.2.2.1
  have e36 : ((str (rnm op)).toList == [103, 108, 111, 98, 97, 108, 46, 115, 101, 116]) = decide (op = 36) := by rw [he]; exact hnm.2.2.2.1
  have e16 : ((str (rnm op)).toList == [99, 97, 108, 108]) = decide (op = 16) := by rw [he]; exact hnm.2.2.2.2.1
  have e17 : ((str (rnm op)).toList == [99, 97, 108, 108, 95, 105, 110, 100, 105, 114, 101, 99, 116]) = decide (op = 17) := by rw [he]; exact hnm.2.2.2.2.2
  generalize str (rnm op) = S at *
  clear he hnm
  obtain ⟨W0, hW0, b1, b2, b3, b5, b4⟩ := zero3 (w := w) (c1 := #[.slice a0 n0 k0, .slice a1 n1 k1, .slice a2 n2 k2, .slice a3 n3 k3, .slice a4 n4 k4, .slice a5 n5 k5, .slice a6 n6 k6, .slice a7 n7 k7]) (c2 := #[.int .u8 (op : Int), .int .i64 dst, .slice sa sl sc, .int .i64 nn, .int .u32 of]) (t := 30) (t2 := 81) (t3 := 59) (x0 := .slice none 0 0) (x1 := .int .u8 0)
  have hce : ∀ wx, Below W0.heap.size W0 wx → ((wx.cell? ⟨w.heap.size, 0, none⟩ = some (.slice a0 n0 k0) ∧ wx.cell? ⟨w.heap.size, 1, none⟩ = some (.slice a1 n1 k1) ∧ wx.cell? ⟨w.heap.size, 2, none⟩ = some (.slice a2 n2 k2) ∧ wx.cell? ⟨w.heap.size, 3, none⟩ = some (.slice a3 n3 k3) ∧ wx.cell? ⟨w.heap.size, 4, none⟩ = some (.slice a4 n4 k4) ∧ wx.cell? ⟨w.heap.size, 5, none⟩ = some (.slice a5 n5 k5) ∧ wx.cell? ⟨w.heap.size, 6, none⟩ = some (.slice a6 n6 k6) ∧ wx.cell? ⟨w.heap.size, 7, none⟩ = some (.slice a7 n7 k7)) ∧ (wx.cell? ⟨w.heap.size + 1, 0, none⟩ = some (.int .u8 (op : Int)) ∧ wx.cell? ⟨w.heap.size + 1, 1, none⟩ = some (.int .i64 dst) ∧ wx.cell? ⟨w.heap.size + 1, 2, none⟩ = some (.slice sa sl sc) ∧ wx.cell? ⟨w.heap.size + 1, 3, none⟩ = some (.int .i64 nn) ∧ wx.cell? ⟨w.heap.size + 1, 4, none⟩ = some (.int .u32 of)) ∧ (wx.cell? ⟨w.heap.size + 1 + 1, 0, none⟩ = some (.slice none 0 0) ∧ wx.cell? ⟨w.heap.size + 1 + 1, 1, none⟩ = some (.int .u8 0)) ∧ w.heap.size + 1 + 1 < wx.heap.size ∧ (∀ j, wx.frozen? ⟨w.heap.size + 1 + 1, j, none⟩ = false) ∧ wx.heap[w.heap.size + 1 + 1]? = some (.cells #[.slice none 0 0, .int .u8 0] 59 (0, 0))) := fun wx hb => by
    have r1 := (hb.block _ (by omega)).trans b1
    have r2 := (hb.block _ (by omega)).trans b2
    have r3 := (hb.block _ b5).trans b3
    exact ⟨mbox8 r1, cel5 r2, Gm.cel2 r3, Nat.lt_of_lt_of_le b5 hb.size, fun j => frozen_of_row wx _ j _ _ r3, r3⟩
  have HCe := hide hce; have HW := hide hW0; have HB0 := hide b4; have HN := hide hN; have HMe := hide hMe
  obtain ⟨⟨p0, p1, p2, p3, p4, p5, p6, p7⟩, ⟨q0, q1, q2, q3, q4⟩, ⟨z0, z1⟩, yl, fz, -⟩ := hce W0 (Below.refl _ _)
  clear hce hW0 b1 b2 b3 b4 b5 hN hMe
  subst h
  simp only [show ((64 : Nat) : Int) = 64 from rfl, Nat.reduceEqDiff, decide_true, decide_false] at *
  rw [show acc 64 = false from by first | exact acc_mnt.1 | exact acc_mnt.2.1] at HMe
  go_enter Tryz.func26, Tryz.ntmps26
  go_upto_region 3 with fail
  rw [unhide HW]
  go_wp2_with fail
  refine (unhide HN W0).mono ?_
  rintro e w3 ⟨rfl, hb3⟩
  clear p0 p1 p2 p3 p4 p5 p6 p7 q0 q1 q2 q3 q4 z0 z1 yl fz
  obtain ⟨⟨p0, p1, p2, p3, p4, p5, p6, p7⟩, ⟨q0, q1, q2, q3, q4⟩, ⟨z0, z1⟩, yl, fz, -⟩ := unhide HCe w3 hb3
  have HB3 := hide hb3
  clear hb3
  go_wp2_with fail
  refine (unhide HMe w3).mono ?_
  rintro e w4 ⟨rfl, hb4⟩
  clear p0 p1 p2 p3 p4 p5 p6 p7 q0 q1 q2 q3 q4 z0 z1 yl fz
  have hb34 := (unhide HB3).trans (hb4.mono (unhide HB3).size)
  obtain ⟨⟨p0, p1, p2, p3, p4, p5, p6, p7⟩, ⟨q0, q1, q2, q3, q4⟩, ⟨z0, z1⟩, yl, fz, hr4⟩ := unhide HCe w4 hb34
  have HB4 := hide (Gm.Below.on0 (unhide HB0) hb34 (unhide HB0).size)
  have HB34 := hide hb34; have HR4 := hide hr4
  clear hb4 hb34 hr4
  go_wp2
  go_ret
  exact ⟨ret_bool (by simp), unhide HB4⟩
set_option maxRecDepth 100000 in
set_option maxHeartbeats 3200000 in
theorem mt_35 {M : Mod} {g : Nat → Prop} {v0 v1 v2 v3 v4 v5 v6 v7 : Value} {w : World} (hM : ModL w g M v0 v1 v2 v3 v4 v5 v6 v7) (hwf : WfM M) (hs : SzM M) (x : In) (hx : x.op < 256) (hsl : x.src.length ≤ 1099511627776) (hmb : Mb x) (sa : Option Addr) (sc : Nat) (h : x.op = 35) :
    Calls Tryz.prog 26 #[.agg #[v0, v1, v2, v3, v4, v5, v6, v7], .agg #[.int .u8 (x.op : Int), .int .i64 x.dst, .slice sa x.src.length sc, .int .i64 x.n, .int .u32 x.of]] w fun e w' => e = .returned (.bool (gth M x.n)) ∧ Below w.heap.size w w' := by
  have hN := fun W => rnm_any x.op hx W
  have hMe := fun W => rmem_any x.op hx W
  have hnm := nm_at x.op hx
  have hq : gth M x.n = (decide (0 ≤ x.n) && decide (x.n < (M.globs.length : Int))) := rfl
  rw [hq]
  clear hq
  obtain ⟨a0, k0, rfl⟩ := hM.l0.sl; obtain ⟨a1, k1, rfl⟩ := hM.l1.sl; obtain ⟨a2, k2, rfl⟩ := hM.l2.sl; obtain ⟨a3, k3, rfl⟩ := hM.l3.sl; obtain ⟨a4, k4, rfl⟩ := hM.l4.sl; obtain ⟨a5, k5, rfl⟩ := hM.l5.sl; obtain ⟨a6, k6, rfl⟩ := hM.l6.sl; obtain ⟨a7, k7, rfl⟩ := hM.l7.sl
  have hlen := (And.intro hs.n0 (And.intro hs.n2 (And.intro hs.n3 hs.n4)))
  clear hM hwf hs
  generalize M.types.length = n0 at *; generalize M.funcs.length = n1 at *; generalize M.tables.length = n2 at *; generalize M.mems.length = n3 at *; generalize M.globs.length = n4 at *; generalize M.exps.length = n5 at *; generalize M.elems.length = n6 at *; generalize M.datas.length = n7 at *
  obtain ⟨op, dst, src, nn, of⟩ := x
  simp only [Mb] at *
  generalize src.length = sl at *
  have he : ∀ q, ((str (rnm op)).toList == q) = (rnm op == q) := fun q => by rw [str_toList]
  have e63 : ((str (rnm op)).toList == [109, 101, 109, 111, 114, 121, 46, 115, 105, 122, 101]) = decide (op = 63) := by rw [he]; exact hnm.1
  have e64 : ((str (rnm op)).toList == [109, 101, 109, 111, 114, 121, 46, 103, 114, 111, 119]) = decide (op = 64) := by rw [he]; exact hnm.2.1
  have e35 : ((str (rnm op)).toList == [103, 108, 111, 98, 97, 108, 46, 103, 101, 116]) = decide (op = 35) := by rw [he]; exact hnm.2.2.1
  have e36 : ((str (rnm op)).toList == [103, 108, 111, 98, 97, 108, 46, 115, 101, 116]) = decide (op = 36) := by rw [he]; exact hnm.2.2.2.1
  have e16 : ((str (rnm op)).toList == [99, 97, 108, 108]) = decide (op = 16) := by rw [he]; exact hnm.2.2.2.2.1
  have e17 : ((str (rnm op)).toList == [99, 97, 108, 108, 95, 105, 110, 100, 105, 114, 101, 99, 116]) = decide (op = 17) := by rw [he]; exact hnm.2.2.2.2.2
  generalize str (rnm op) = S at *
  clear he hnm
  obtain ⟨W0, hW0, b1, b2, b3, b5, b4⟩ := zero3 (w := w) (c1 := #[.slice a0 n0 k0, .slice a1 n1 k1, .slice a2 n2 k2, .slice a3 n3 k3, .slice a4 n4 k4, .slice a5 n5 k5, .slice a6 n6 k6, .slice a7 n7 k7]) (c2 := #[.int .u8 (op : Int), .int .i64 dst, .slice sa sl sc, .int .i64 nn, .int .u32 of]) (t := 30) (t2 := 81) (t3 := 59) (x0 := .slice none 0 0) (x1 := .int .u8 0)
  have hce : ∀ wx, Below W0.heap.size W0 wx → ((wx.cell? ⟨w.heap.size, 0, none⟩ = some (.slice a0 n0 k0) ∧ wx.cell? ⟨w.heap.size, 1, none⟩ = some (.slice a1 n1 k1) ∧ wx.cell? ⟨w.heap.size, 2, none⟩ = some (.slice a2 n2 k2) ∧ wx.cell? ⟨w.heap.size, 3, none⟩ = some (.slice a3 n3 k3) ∧ wx.cell? ⟨w.heap.size, 4, none⟩ = some (.slice a4 n4 k4) ∧ wx.cell? ⟨w.heap.size, 5, none⟩ = some (.slice a5 n5 k5) ∧ wx.cell? ⟨w.heap.size, 6, none⟩ = some (.slice a6 n6 k6) ∧ wx.cell? ⟨w.heap.size, 7, none⟩ = some (.slice a7 n7 k7)) ∧ (wx.cell? ⟨w.heap.size + 1, 0, none⟩ = some (.int .u8 (op : Int)) ∧ wx.cell? ⟨w.heap.size + 1, 1, none⟩ = some (.int .i64 dst) ∧ wx.cell? ⟨w.heap.size + 1, 2, none⟩ = some (.slice sa sl sc) ∧ wx.cell? ⟨w.heap.size + 1, 3, none⟩ = some (.int .i64 nn) ∧ wx.cell? ⟨w.heap.size + 1, 4, none⟩ = some (.int .u32 of)) ∧ (wx.cell? ⟨w.heap.size + 1 + 1, 0, none⟩ = some (.slice none 0 0) ∧ wx.cell? ⟨w.heap.size + 1 + 1, 1, none⟩ = some (.int .u8 0)) ∧ w.heap.size + 1 + 1 < wx.heap.size ∧ (∀ j, wx.frozen? ⟨w.heap.size + 1 + 1, j, none⟩ = false) ∧ wx.heap[w.heap.size + 1 + 1]? = some (.cells #[.slice none 0 0, .int .u8 0] 59 (0, 0))) := fun wx hb => by
    have r1 := (hb.block _ (by omega)).trans b1
    have r2 := (hb.block _ (by omega)).trans b2
    have r3 := (hb.block _ b5).trans b3
    exact ⟨mbox8 r1, cel5 r2, Gm.cel2 r3, Nat.lt_of_lt_of_le b5 hb.size, fun j => frozen_of_row wx _ j _ _ r3, r3⟩
  have HCe := hide hce; have HW := hide hW0; have HB0 := hide b4; have HN := hide hN; have HMe := hide hMe
  obtain ⟨⟨p0, p1, p2, p3, p4, p5, p6, p7⟩, ⟨q0, q1, q2, q3, q4⟩, ⟨z0, z1⟩, yl, fz, -⟩ := hce W0 (Below.refl _ _)
  clear hce hW0 b1 b2 b3 b4 b5 hN hMe
  subst h
  simp only [show ((35 : Nat) : Int) = 35 from rfl, Nat.reduceEqDiff, decide_true, decide_false] at *
  rw [show acc 35 = false from acc_mnt.2.2.1] at HMe
  have h0 : 0 ≤ nn := hmb.1 (by simp)
  go_enter Tryz.func26, Tryz.ntmps26
  go_upto_region 3 with fail
  rw [unhide HW]
  go_wp2_with fail
  refine (unhide HN W0).mono ?_
  rintro e w3 ⟨rfl, hb3⟩
  clear p0 p1 p2 p3 p4 p5 p6 p7 q0 q1 q2 q3 q4 z0 z1 yl fz
  obtain ⟨⟨p0, p1, p2, p3, p4, p5, p6, p7⟩, ⟨q0, q1, q2, q3, q4⟩, ⟨z0, z1⟩, yl, fz, -⟩ := unhide HCe w3 hb3
  have HB3 := hide hb3
  clear hb3
  go_wp2_with fail
  refine (unhide HMe w3).mono ?_
  rintro e w4 ⟨rfl, hb4⟩
  clear p0 p1 p2 p3 p4 p5 p6 p7 q0 q1 q2 q3 q4 z0 z1 yl fz
  have hb34 := (unhide HB3).trans (hb4.mono (unhide HB3).size)
  obtain ⟨⟨p0, p1, p2, p3, p4, p5, p6, p7⟩, ⟨q0, q1, q2, q3, q4⟩, ⟨z0, z1⟩, yl, fz, hr4⟩ := unhide HCe w4 hb34
  have HB4 := hide (Gm.Below.on0 (unhide HB0) hb34 (unhide HB0).size)
  have HB34 := hide hb34; have HR4 := hide hr4
  clear hb4 hb34 hr4
  go_wp2
  go_ret
  exact ⟨ret_bool (by simp [h0]), unhide HB4⟩
set_option maxRecDepth 100000 in
set_option maxHeartbeats 3200000 in
theorem mt_36 {M : Mod} {g : Nat → Prop} {v0 v1 v2 v3 v4 v5 v6 v7 : Value} {w : World} (hM : ModL w g M v0 v1 v2 v3 v4 v5 v6 v7) (hwf : WfM M) (hs : SzM M) (x : In) (hx : x.op < 256) (hsl : x.src.length ≤ 1099511627776) (hmb : Mb x) (sa : Option Addr) (sc : Nat) (h : x.op = 36) :
    Calls Tryz.prog 26 #[.agg #[v0, v1, v2, v3, v4, v5, v6, v7], .agg #[.int .u8 (x.op : Int), .int .i64 x.dst, .slice sa x.src.length sc, .int .i64 x.n, .int .u32 x.of]] w fun e w' => e = .returned (.bool (gth M x.n && gmu M x.n)) ∧ Below w.heap.size w w' := by
  have hN := fun W => rnm_any x.op hx W
  have hMe := fun W => rmem_any x.op hx W
  have hnm := nm_at x.op hx
  have hq : gth M x.n = (decide (0 ≤ x.n) && decide (x.n < (M.globs.length : Int))) := rfl
  rw [hq]
  clear hq
  have hm : 0 ≤ x.n → x.n < M.globs.length → ∃ j : Nat, x.n = j ∧ ∃ b o, b < w.heap.size ∧ (∃ cp, v4 = .slice (some ⟨b, o, none⟩) M.globs.length cp) ∧ w.cell? ⟨b, o + j * 10 + 1, none⟩ = some (.bool (gmu M x.n)) := fun hq1 hq2 => by
    obtain ⟨j, hj⟩ : ∃ j : Nat, x.n = j := ⟨x.n.toNat, by omega⟩
    have hlt : j < M.globs.length := by omega
    obtain ⟨b, o, cp, hv, -, hb, -, cs, -, ⟨ds, rfl, -⟩, hcs⟩ := hM.l4.at hlt
    refine ⟨j, hj, b, o, hb, ⟨cp, hv⟩, ?_⟩
    rw [hcs 1 (.bool (M.globs[j]).mu) rfl, hj]
    unfold gmu
    rw [Int.toNat_natCast, List.getElem?_eq_getElem hlt]
  generalize gmu M x.n = mu at *
  obtain ⟨a0, k0, rfl⟩ := hM.l0.sl; obtain ⟨a1, k1, rfl⟩ := hM.l1.sl; obtain ⟨a2, k2, rfl⟩ := hM.l2.sl; obtain ⟨a3, k3, rfl⟩ := hM.l3.sl; obtain ⟨a4, k4, rfl⟩ := hM.l4.sl; obtain ⟨a5, k5, rfl⟩ := hM.l5.sl; obtain ⟨a6, k6, rfl⟩ := hM.l6.sl; obtain ⟨a7, k7, rfl⟩ := hM.l7.sl
  have hlen := (And.intro hs.n0 (And.intro hs.n2 (And.intro hs.n3 hs.n4)))
  clear hM hwf hs
  generalize M.types.length = n0 at *; generalize M.funcs.length = n1 at *; generalize M.tables.length = n2 at *; generalize M.mems.length = n3 at *; generalize M.globs.length = n4 at *; generalize M.exps.length = n5 at *; generalize M.elems.length = n6 at *; generalize M.datas.length = n7 at *
  obtain ⟨op, dst, src, nn, of⟩ := x
  simp only [Mb] at *
  generalize src.length = sl at *
  have he : ∀ q, ((str (rnm op)).toList == q) = (rnm op == q) := fun q => by rw [str_toList]
  have e63 : ((str (rnm op)).toList == [109, 101, 109, 111, 114, 121, 46, 115, 105, 122, 101]) = decide (op = 63) := by rw [he]; exact hnm.1
  have e64 : ((str (rnm op)).toList == [109, 101, 109, 111, 114, 121, 46, 103, 114, 111, 119]) = decide (op = 64) := by rw [he]; exact hnm.2.1
  have e35 : ((str (rnm op)).toList == [103, 108, 111, 98, 97, 108, 46, 103, 101, 116]) = decide (op = 35) := by rw [he]; exact hnm.2.2.1
  have e36 : ((str (rnm op)).toList == [103, 108, 111, 98, 97, 108, 46, 115, 101, 116]) = decide (op = 36) := by rw [he]; exact hnm.2.2.2.1
  have e16 : ((str (rnm op)).toList == [99, 97, 108, 108]) = decide (op = 16) := by rw [he]; exact hnm.2.2.2.2.1
  have e17 : ((str (rnm op)).toList == [99, 97, 108, 108, 95, 105, 110, 100, 105, 114, 101, 99, 116]) = decide (op = 17) := by rw [he]; exact hnm.2.2.2.2.2
  generalize str (rnm op) = S at *
  clear he hnm
  obtain ⟨W0, hW0, b1, b2, b3, b5, b4⟩ := zero3 (w := w) (c1 := #[.slice a0 n0 k0, .slice a1 n1 k1, .slice a2 n2 k2, .slice a3 n3 k3, .slice a4 n4 k4, .slice a5 n5 k5, .slice a6 n6 k6, .slice a7 n7 k7]) (c2 := #[.int .u8 (op : Int), .int .i64 dst, .slice sa sl sc, .int .i64 nn, .int .u32 of]) (t := 30) (t2 := 81) (t3 := 59) (x0 := .slice none 0 0) (x1 := .int .u8 0)
  have hce : ∀ wx, Below W0.heap.size W0 wx → ((wx.cell? ⟨w.heap.size, 0, none⟩ = some (.slice a0 n0 k0) ∧ wx.cell? ⟨w.heap.size, 1, none⟩ = some (.slice a1 n1 k1) ∧ wx.cell? ⟨w.heap.size, 2, none⟩ = some (.slice a2 n2 k2) ∧ wx.cell? ⟨w.heap.size, 3, none⟩ = some (.slice a3 n3 k3) ∧ wx.cell? ⟨w.heap.size, 4, none⟩ = some (.slice a4 n4 k4) ∧ wx.cell? ⟨w.heap.size, 5, none⟩ = some (.slice a5 n5 k5) ∧ wx.cell? ⟨w.heap.size, 6, none⟩ = some (.slice a6 n6 k6) ∧ wx.cell? ⟨w.heap.size, 7, none⟩ = some (.slice a7 n7 k7)) ∧ (wx.cell? ⟨w.heap.size + 1, 0, none⟩ = some (.int .u8 (op : Int)) ∧ wx.cell? ⟨w.heap.size + 1, 1, none⟩ = some (.int .i64 dst) ∧ wx.cell? ⟨w.heap.size + 1, 2, none⟩ = some (.slice sa sl sc) ∧ wx.cell? ⟨w.heap.size + 1, 3, none⟩ = some (.int .i64 nn) ∧ wx.cell? ⟨w.heap.size + 1, 4, none⟩ = some (.int .u32 of)) ∧ (wx.cell? ⟨w.heap.size + 1 + 1, 0, none⟩ = some (.slice none 0 0) ∧ wx.cell? ⟨w.heap.size + 1 + 1, 1, none⟩ = some (.int .u8 0)) ∧ w.heap.size + 1 + 1 < wx.heap.size ∧ (∀ j, wx.frozen? ⟨w.heap.size + 1 + 1, j, none⟩ = false) ∧ wx.heap[w.heap.size + 1 + 1]? = some (.cells #[.slice none 0 0, .int .u8 0] 59 (0, 0))) := fun wx hb => by
    have r1 := (hb.block _ (by omega)).trans b1
    have r2 := (hb.block _ (by omega)).trans b2
    have r3 := (hb.block _ b5).trans b3
    exact ⟨mbox8 r1, cel5 r2, Gm.cel2 r3, Nat.lt_of_lt_of_le b5 hb.size, fun j => frozen_of_row wx _ j _ _ r3, r3⟩
  have HCe := hide hce; have HW := hide hW0; have HB0 := hide b4; have HN := hide hN; have HMe := hide hMe
  obtain ⟨⟨p0, p1, p2, p3, p4, p5, p6, p7⟩, ⟨q0, q1, q2, q3, q4⟩, ⟨z0, z1⟩, yl, fz, -⟩ := hce W0 (Below.refl _ _)
  clear hce hW0 b1 b2 b3 b4 b5 hN hMe
  subst h
  simp only [show ((36 : Nat) : Int) = 36 from rfl, Nat.reduceEqDiff, decide_true, decide_false] at *
  rw [show acc 36 = false from acc_mnt.2.2.2.1] at HMe
  have h0 : 0 ≤ nn := hmb.1 (by simp)
  by_cases h1 : nn < (n4 : Int)
  · obtain ⟨j, rfl, b, o, hbw, ⟨cp, hv4⟩, hcell⟩ := hm h0 h1
    simp only [Value.slice.injEq] at hv4
    obtain ⟨rfl, -, rfl⟩ := hv4
    have HCl := hide hcell
    clear hm hcell hmb
    go_enter Tryz.func26, Tryz.ntmps26
    go_upto_region 3 with fail
    rw [unhide HW]
    go_wp2_with fail
    refine (unhide HN W0).mono ?_
    rintro e w3 ⟨rfl, hb3⟩
    clear p0 p1 p2 p3 p4 p5 p6 p7 q0 q1 q2 q3 q4 z0 z1 yl fz
    obtain ⟨⟨p0, p1, p2, p3, p4, p5, p6, p7⟩, ⟨q0, q1, q2, q3, q4⟩, ⟨z0, z1⟩, yl, fz, -⟩ := unhide HCe w3 hb3
    have HB3 := hide hb3
    clear hb3
    go_wp2_with fail
    refine (unhide HMe w3).mono ?_
    rintro e w4 ⟨rfl, hb4⟩
    clear p0 p1 p2 p3 p4 p5 p6 p7 q0 q1 q2 q3 q4 z0 z1 yl fz
    have hb34 := (unhide HB3).trans (hb4.mono (unhide HB3).size)
    obtain ⟨⟨p0, p1, p2, p3, p4, p5, p6, p7⟩, ⟨q0, q1, q2, q3, q4⟩, ⟨z0, z1⟩, yl, fz, hr4⟩ := unhide HCe w4 hb34
    have HB4 := hide (Gm.Below.on0 (unhide HB0) hb34 (unhide HB0).size)
    have HB34 := hide hb34; have HR4 := hide hr4
    clear hb4 hb34 hr4
    have uc := ((unhide HB4).cell (p := ⟨b, o + j * 10 + 1, none⟩) hbw).trans (unhide HCl)
    have h2 : (j : Int) < (n4 : Int) := h1
    go_wp2
    go_ret
    exact ⟨ret_bool (by simp [h1]), unhide HB4⟩
  · have d1 : decide (nn < (n4 : Int)) = false := decide_eq_false h1
    clear hm hmb
    go_enter Tryz.func26, Tryz.ntmps26
    go_upto_region 3 with fail
    rw [unhide HW]
    go_wp2_with fail
    refine (unhide HN W0).mono ?_
    rintro e w3 ⟨rfl, hb3⟩
    clear p0 p1 p2 p3 p4 p5 p6 p7 q0 q1 q2 q3 q4 z0 z1 yl fz
    obtain ⟨⟨p0, p1, p2, p3, p4, p5, p6, p7⟩, ⟨q0, q1, q2, q3, q4⟩, ⟨z0, z1⟩, yl, fz, -⟩ := unhide HCe w3 hb3
    have HB3 := hide hb3
    clear hb3
    go_wp2_with fail
    refine (unhide HMe w3).mono ?_
    rintro e w4 ⟨rfl, hb4⟩
    clear p0 p1 p2 p3 p4 p5 p6 p7 q0 q1 q2 q3 q4 z0 z1 yl fz
    have hb34 := (unhide HB3).trans (hb4.mono (unhide HB3).size)
    obtain ⟨⟨p0, p1, p2, p3, p4, p5, p6, p7⟩, ⟨q0, q1, q2, q3, q4⟩, ⟨z0, z1⟩, yl, fz, hr4⟩ := unhide HCe w4 hb34
    have HB4 := hide (Gm.Below.on0 (unhide HB0) hb34 (unhide HB0).size)
    have HB34 := hide hb34; have HR4 := hide hr4
    clear hb4 hb34 hr4
    go_wp2
    go_ret
    exact ⟨ret_bool (by simp; intro _ h; exfalso; omega), unhide HB4⟩
theorem rtype_wrap {M : Mod} {g : Nat → Prop} {v0 v1 v2 v3 v4 v5 v6 v7 : Value} {w : World} (hM : ModL w g M v0 v1 v2 v3 v4 v5 v6 v7) (hwf : WfM M) (hs : SzM M) (f : Int) : TyB 24 (.agg #[v0, v1, v2, v3, v4, v5, v6, v7]) w g f (ty? M f) := Gm.rtype_any hM hwf hs f
set_option maxRecDepth 100000 in
set_option maxHeartbeats 3200000 in
theorem mt_16n {M : Mod} {g : Nat → Prop} {v0 v1 v2 v3 v4 v5 v6 v7 : Value} {w : World} (hM : ModL w g M v0 v1 v2 v3 v4 v5 v6 v7) (hwf : WfM M) (hs : SzM M) (x : In) (hx : x.op < 256) (hsl : x.src.length ≤ 1099511627776) (hmb : Mb x) (sa : Option Addr) (sc : Nat) (h : x.op = 16) (ho : ty? M x.n = none) :
    Calls Tryz.prog 26 #[.agg #[v0, v1, v2, v3, v4, v5, v6, v7], .agg #[.int .u8 (x.op : Int), .int .i64 x.dst, .slice sa x.src.length sc, .int .i64 x.n, .int .u32 x.of]] w fun e w' => e = .returned (.bool (false)) ∧ Below w.heap.size w w' := by
  have hN := fun W => rnm_any x.op hx W
  have hMe := fun W => rmem_any x.op hx W
  have hnm := nm_at x.op hx
  have hty : ∀ W, Below w.heap.size w W → TyNo 24 (.agg #[v0, v1, v2, v3, v4, v5, v6, v7]) W x.n := fun W hW => by
    have h := rtype_wrap (hM.moved (g' := g) (Gm.Mv.below hW (fun _ _ q => q)) hW.size) hwf hs x.n
    rw [ho] at h; exact h
  unfold TyNo at hty
  clear ho
  obtain ⟨a0, k0, rfl⟩ := hM.l0.sl; obtain ⟨a1, k1, rfl⟩ := hM.l1.sl; obtain ⟨a2, k2, rfl⟩ := hM.l2.sl; obtain ⟨a3, k3, rfl⟩ := hM.l3.sl; obtain ⟨a4, k4, rfl⟩ := hM.l4.sl; obtain ⟨a5, k5, rfl⟩ := hM.l5.sl; obtain ⟨a6, k6, rfl⟩ := hM.l6.sl; obtain ⟨a7, k7, rfl⟩ := hM.l7.sl
  have hlen := (And.intro hs.n0 (And.intro hs.n2 (And.intro hs.n3 hs.n4)))
  clear hM hwf hs
  generalize M.types.length = n0 at *; generalize M.funcs.length = n1 at *; generalize M.tables.length = n2 at *; generalize M.mems.length = n3 at *; generalize M.globs.length = n4 at *; generalize M.exps.length = n5 at *; generalize M.elems.length = n6 at *; generalize M.datas.length = n7 at *
  obtain ⟨op, dst, src, nn, of⟩ := x
  simp only [Mb] at *
  generalize src.length = sl at *
  have he : ∀ q, ((str (rnm op)).toList == q) = (rnm op == q) := fun q => by rw [str_toList]
  have e63 : ((str (rnm op)).toList == [109, 101, 109, 111, 114, 121, 46, 115, 105, 122, 101]) = decide (op = 63) := by rw [he]; exact hnm.1
  have e64 : ((str (rnm op)).toList == [109, 101, 109, 111, 114, 121, 46, 103, 114, 111, 119]) = decide (op = 64) := by rw [he]; exact hnm.2.1
  have e35 : ((str (rnm op)).toList == [103, 108, 111, 98, 97, 108, 46, 103, 101, 116]) = decide (op = 35) := by rw [he]; exact hnm.2.2.1
  have e36 : ((str (rnm op)).toList == [103, 108, 111, 98, 97, 108, 46, 115, 101, 116]) = decide (op = 36) := by rw [he]; exact hnm.2.2.2.1
  have e16 : ((str (rnm op)).toList == [99, 97, 108, 108]) = decide (op = 16) := by rw [he]; exact hnm.2.2.2.2.1
  have e17 : ((str (rnm op)).toList == [99, 97, 108, 108, 95, 105, 110, 100, 105, 114, 101, 99, 116]) = decide (op = 17) := by rw [he]; exact hnm.2.2.2.2.2
  generalize str (rnm op) = S at *
  clear he hnm
  obtain ⟨W0, hW0, b1, b2, b3, b5, b4⟩ := zero3 (w := w) (c1 := #[.slice a0 n0 k0, .slice a1 n1 k1, .slice a2 n2 k2, .slice a3 n3 k3, .slice a4 n4 k4, .slice a5 n5 k5, .slice a6 n6 k6, .slice a7 n7 k7]) (c2 := #[.int .u8 (op : Int), .int .i64 dst, .slice sa sl sc, .int .i64 nn, .int .u32 of]) (t := 30) (t2 := 81) (t3 := 59) (x0 := .slice none 0 0) (x1 := .int .u8 0)
  have hce : ∀ wx, Below W0.heap.size W0 wx → ((wx.cell? ⟨w.heap.size, 0, none⟩ = some (.slice a0 n0 k0) ∧ wx.cell? ⟨w.heap.size, 1, none⟩ = some (.slice a1 n1 k1) ∧ wx.cell? ⟨w.heap.size, 2, none⟩ = some (.slice a2 n2 k2) ∧ wx.cell? ⟨w.heap.size, 3, none⟩ = some (.slice a3 n3 k3) ∧ wx.cell? ⟨w.heap.size, 4, none⟩ = some (.slice a4 n4 k4) ∧ wx.cell? ⟨w.heap.size, 5, none⟩ = some (.slice a5 n5 k5) ∧ wx.cell? ⟨w.heap.size, 6, none⟩ = some (.slice a6 n6 k6) ∧ wx.cell? ⟨w.heap.size, 7, none⟩ = some (.slice a7 n7 k7)) ∧ (wx.cell? ⟨w.heap.size + 1, 0, none⟩ = some (.int .u8 (op : Int)) ∧ wx.cell? ⟨w.heap.size + 1, 1, none⟩ = some (.int .i64 dst) ∧ wx.cell? ⟨w.heap.size + 1, 2, none⟩ = some (.slice sa sl sc) ∧ wx.cell? ⟨w.heap.size + 1, 3, none⟩ = some (.int .i64 nn) ∧ wx.cell? ⟨w.heap.size + 1, 4, none⟩ = some (.int .u32 of)) ∧ (wx.cell? ⟨w.heap.size + 1 + 1, 0, none⟩ = some (.slice none 0 0) ∧ wx.cell? ⟨w.heap.size + 1 + 1, 1, none⟩ = some (.int .u8 0)) ∧ w.heap.size + 1 + 1 < wx.heap.size ∧ (∀ j, wx.frozen? ⟨w.heap.size + 1 + 1, j, none⟩ = false) ∧ wx.heap[w.heap.size + 1 + 1]? = some (.cells #[.slice none 0 0, .int .u8 0] 59 (0, 0))) := fun wx hb => by
    have r1 := (hb.block _ (by omega)).trans b1
    have r2 := (hb.block _ (by omega)).trans b2
    have r3 := (hb.block _ b5).trans b3
    exact ⟨mbox8 r1, cel5 r2, Gm.cel2 r3, Nat.lt_of_lt_of_le b5 hb.size, fun j => frozen_of_row wx _ j _ _ r3, r3⟩
  have HCe := hide hce; have HW := hide hW0; have HB0 := hide b4; have HN := hide hN; have HMe := hide hMe
  obtain ⟨⟨p0, p1, p2, p3, p4, p5, p6, p7⟩, ⟨q0, q1, q2, q3, q4⟩, ⟨z0, z1⟩, yl, fz, -⟩ := hce W0 (Below.refl _ _)
  clear hce hW0 b1 b2 b3 b4 b5 hN hMe
  subst h
  simp only [show ((16 : Nat) : Int) = 16 from rfl, Nat.reduceEqDiff, decide_true, decide_false] at *
  rw [show acc 16 = false from acc_mnt.2.2.2.2.1] at HMe
  have HTy := hide hty
  clear hty
  go_enter Tryz.func26, Tryz.ntmps26
  go_upto_region 3 with fail
  rw [unhide HW]
  go_wp2_with fail
  refine (unhide HN W0).mono ?_
  rintro e w3 ⟨rfl, hb3⟩
  clear p0 p1 p2 p3 p4 p5 p6 p7 q0 q1 q2 q3 q4 z0 z1 yl fz
  obtain ⟨⟨p0, p1, p2, p3, p4, p5, p6, p7⟩, ⟨q0, q1, q2, q3, q4⟩, ⟨z0, z1⟩, yl, fz, -⟩ := unhide HCe w3 hb3
  have HB3 := hide hb3
  clear hb3
  go_wp2_with fail
  refine (unhide HMe w3).mono ?_
  rintro e w4 ⟨rfl, hb4⟩
  clear p0 p1 p2 p3 p4 p5 p6 p7 q0 q1 q2 q3 q4 z0 z1 yl fz
  have hb34 := (unhide HB3).trans (hb4.mono (unhide HB3).size)
  obtain ⟨⟨p0, p1, p2, p3, p4, p5, p6, p7⟩, ⟨q0, q1, q2, q3, q4⟩, ⟨z0, z1⟩, yl, fz, hr4⟩ := unhide HCe w4 hb34
  have HB4 := hide (Gm.Below.on0 (unhide HB0) hb34 (unhide HB0).size)
  have HB34 := hide hb34; have HR4 := hide hr4
  clear hb4 hb34 hr4
  go_wp2_with fail
  refine (unhide HTy w4 (unhide HB4)).mono ?_
  rintro e w5 ⟨rfl, hb5⟩
  have hb45 := (unhide HB34).trans (hb5.mono (unhide HB34).size)
  clear p0 p1 p2 p3 p4 p5 p6 p7 q0 q1 q2 q3 q4 z0 z1 yl fz
  obtain ⟨⟨p0, p1, p2, p3, p4, p5, p6, p7⟩, ⟨q0, q1, q2, q3, q4⟩, ⟨z0, z1⟩, yl, fz, hr5⟩ := unhide HCe w5 hb45
  have HB5 := hide (Gm.Below.on0 (unhide HB0) hb45 (unhide HB0).size)
  have HR5 := hide hr5
  have ns1 : ¬ w.heap.size + 1 = w.heap.size + 1 + 1 := by omega
  clear hb5 hb45 hr5
  obtain ⟨u0, u1, u2⟩ := Gm.fin2 (unhide HR5) (unhide HB5) (by omega) (.slice none 0 0) (.int .u8 0)
  have HU := hide u2
  clear u2
  go_wp2
  go_ret
  first | exact ⟨ret_bool (by simp), unhide HU⟩ | exact ⟨ret_bool (by simp), unhide HB5⟩
set_option maxRecDepth 100000 in
set_option maxHeartbeats 3200000 in
theorem mt_16s {M : Mod} {g : Nat → Prop} {v0 v1 v2 v3 v4 v5 v6 v7 : Value} {w : World} (hM : ModL w g M v0 v1 v2 v3 v4 v5 v6 v7) (hwf : WfM M) (hs : SzM M) (x : In) (hx : x.op < 256) (hsl : x.src.length ≤ 1099511627776) (hmb : Mb x) (sa : Option Addr) (sc : Nat) {t : Typ} (h : x.op = 16) (ho : ty? M x.n = some t) :
    Calls Tryz.prog 26 #[.agg #[v0, v1, v2, v3, v4, v5, v6, v7], .agg #[.int .u8 (x.op : Int), .int .i64 x.dst, .slice sa x.src.length sc, .int .i64 x.n, .int .u32 x.of]] w fun e w' => e = .returned (.bool (cls (some t) x 0)) ∧ Below w.heap.size w w' := by
  have hN := fun W => rnm_any x.op hx W
  have hMe := fun W => rmem_any x.op hx W
  have hnm := nm_at x.op hx
  have hty : ∀ W, Below w.heap.size w W → TyYes 24 (.agg #[v0, v1, v2, v3, v4, v5, v6, v7]) W g x.n t := fun W hW => by
    have h := rtype_wrap (hM.moved (g' := g) (Gm.Mv.below hW (fun _ _ q => q)) hW.size) hwf hs x.n
    rw [ho] at h; exact h
  unfold TyYes at hty
  have hd : cls (some t) x 0 = (decide (x.src.length = 0 + t.ps.length) && (decide (x.dst ≠ -1) == decide (t.re ≠ 0))) := rfl
  rw [hd]
  clear ho hd
  obtain ⟨a0, k0, rfl⟩ := hM.l0.sl; obtain ⟨a1, k1, rfl⟩ := hM.l1.sl; obtain ⟨a2, k2, rfl⟩ := hM.l2.sl; obtain ⟨a3, k3, rfl⟩ := hM.l3.sl; obtain ⟨a4, k4, rfl⟩ := hM.l4.sl; obtain ⟨a5, k5, rfl⟩ := hM.l5.sl; obtain ⟨a6, k6, rfl⟩ := hM.l6.sl; obtain ⟨a7, k7, rfl⟩ := hM.l7.sl
  have hlen := (And.intro hs.n0 (And.intro hs.n2 (And.intro hs.n3 hs.n4)))
  clear hM hwf hs
  generalize M.types.length = n0 at *; generalize M.funcs.length = n1 at *; generalize M.tables.length = n2 at *; generalize M.mems.length = n3 at *; generalize M.globs.length = n4 at *; generalize M.exps.length = n5 at *; generalize M.elems.length = n6 at *; generalize M.datas.length = n7 at *
  obtain ⟨op, dst, src, nn, of⟩ := x
  simp only [Mb] at *
  generalize src.length = sl at *
  have he : ∀ q, ((str (rnm op)).toList == q) = (rnm op == q) := fun q => by rw [str_toList]
  have e63 : ((str (rnm op)).toList == [109, 101, 109, 111, 114, 121, 46, 115, 105, 122, 101]) = decide (op = 63) := by rw [he]; exact hnm.1
  have e64 : ((str (rnm op)).toList == [109, 101, 109, 111, 114, 121, 46, 103, 114, 111, 119]) = decide (op = 64) := by rw [he]; exact hnm.2.1
  have e35 : ((str (rnm op)).toList == [103, 108, 111, 98, 97, 108, 46, 103, 101, 116]) = decide (op = 35) := by rw [he]; exact hnm.2.2.1
  have e36 : ((str (rnm op)).toList == [103, 108, 111, 98, 97, 108, 46, 115, 101, 116]) = decide (op = 36) := by rw [he]; exact hnm.2.2.2.1
  have e16 : ((str (rnm op)).toList == [99, 97, 108, 108]) = decide (op = 16) := by rw [he]; exact hnm.2.2.2.2.1
  have e17 : ((str (rnm op)).toList == [99, 97, 108, 108, 95, 105, 110, 100, 105, 114, 101, 99, 116]) = decide (op = 17) := by rw [he]; exact hnm.2.2.2.2.2
  generalize str (rnm op) = S at *
  clear he hnm
  obtain ⟨W0, hW0, b1, b2, b3, b5, b4⟩ := zero3 (w := w) (c1 := #[.slice a0 n0 k0, .slice a1 n1 k1, .slice a2 n2 k2, .slice a3 n3 k3, .slice a4 n4 k4, .slice a5 n5 k5, .slice a6 n6 k6, .slice a7 n7 k7]) (c2 := #[.int .u8 (op : Int), .int .i64 dst, .slice sa sl sc, .int .i64 nn, .int .u32 of]) (t := 30) (t2 := 81) (t3 := 59) (x0 := .slice none 0 0) (x1 := .int .u8 0)
  have hce : ∀ wx, Below W0.heap.size W0 wx → ((wx.cell? ⟨w.heap.size, 0, none⟩ = some (.slice a0 n0 k0) ∧ wx.cell? ⟨w.heap.size, 1, none⟩ = some (.slice a1 n1 k1) ∧ wx.cell? ⟨w.heap.size, 2, none⟩ = some (.slice a2 n2 k2) ∧ wx.cell? ⟨w.heap.size, 3, none⟩ = some (.slice a3 n3 k3) ∧ wx.cell? ⟨w.heap.size, 4, none⟩ = some (.slice a4 n4 k4) ∧ wx.cell? ⟨w.heap.size, 5, none⟩ = some (.slice a5 n5 k5) ∧ wx.cell? ⟨w.heap.size, 6, none⟩ = some (.slice a6 n6 k6) ∧ wx.cell? ⟨w.heap.size, 7, none⟩ = some (.slice a7 n7 k7)) ∧ (wx.cell? ⟨w.heap.size + 1, 0, none⟩ = some (.int .u8 (op : Int)) ∧ wx.cell? ⟨w.heap.size + 1, 1, none⟩ = some (.int .i64 dst) ∧ wx.cell? ⟨w.heap.size + 1, 2, none⟩ = some (.slice sa sl sc) ∧ wx.cell? ⟨w.heap.size + 1, 3, none⟩ = some (.int .i64 nn) ∧ wx.cell? ⟨w.heap.size + 1, 4, none⟩ = some (.int .u32 of)) ∧ (wx.cell? ⟨w.heap.size + 1 + 1, 0, none⟩ = some (.slice none 0 0) ∧ wx.cell? ⟨w.heap.size + 1 + 1, 1, none⟩ = some (.int .u8 0)) ∧ w.heap.size + 1 + 1 < wx.heap.size ∧ (∀ j, wx.frozen? ⟨w.heap.size + 1 + 1, j, none⟩ = false) ∧ wx.heap[w.heap.size + 1 + 1]? = some (.cells #[.slice none 0 0, .int .u8 0] 59 (0, 0))) := fun wx hb => by
    have r1 := (hb.block _ (by omega)).trans b1
    have r2 := (hb.block _ (by omega)).trans b2
    have r3 := (hb.block _ b5).trans b3
    exact ⟨mbox8 r1, cel5 r2, Gm.cel2 r3, Nat.lt_of_lt_of_le b5 hb.size, fun j => frozen_of_row wx _ j _ _ r3, r3⟩
  have HCe := hide hce; have HW := hide hW0; have HB0 := hide b4; have HN := hide hN; have HMe := hide hMe
  obtain ⟨⟨p0, p1, p2, p3, p4, p5, p6, p7⟩, ⟨q0, q1, q2, q3, q4⟩, ⟨z0, z1⟩, yl, fz, -⟩ := hce W0 (Below.refl _ _)
  clear hce hW0 b1 b2 b3 b4 b5 hN hMe
  subst h
  simp only [show ((16 : Nat) : Int) = 16 from rfl, Nat.reduceEqDiff, decide_true, decide_false] at *
  rw [show acc 16 = false from acc_mnt.2.2.2.2.1] at HMe
  have HTy := hide hty
  clear hty
  obtain ⟨ps, re⟩ := t
  simp only at *
  generalize ps.length = pl at *
  have hd1 : decide (dst ≥ 0) = decide (dst ≠ -1) := by
    have := hmb.2
    by_cases h : dst = -1
    · subst h; decide
    · rw [decide_eq_true h]; simp; omega
  have hd2 : (re != 0) = decide (re ≠ 0) := by by_cases h : re = 0 <;> simp [h]
  have hfin : ∀ b1 b2 : Bool, ((re != 0) == decide (dst ≥ 0)) = (decide (dst ≠ -1) == decide (re ≠ 0)) := fun _ _ => by rw [hd1, hd2]; cases decide (dst ≠ -1) <;> cases decide (re ≠ 0) <;> rfl
  have HF := hide (hfin true true)
  clear hd1 hd2 hfin
  have hHl : Hid ((sl : Int) ≤ 1099511627776) := hide (by omega)
  go_enter Tryz.func26, Tryz.ntmps26
  go_upto_region 3 with fail
  rw [unhide HW]
  go_wp2_with fail
  refine (unhide HN W0).mono ?_
  rintro e w3 ⟨rfl, hb3⟩
  clear p0 p1 p2 p3 p4 p5 p6 p7 q0 q1 q2 q3 q4 z0 z1 yl fz
  obtain ⟨⟨p0, p1, p2, p3, p4, p5, p6, p7⟩, ⟨q0, q1, q2, q3, q4⟩, ⟨z0, z1⟩, yl, fz, -⟩ := unhide HCe w3 hb3
  have HB3 := hide hb3
  clear hb3
  go_wp2_with fail
  refine (unhide HMe w3).mono ?_
  rintro e w4 ⟨rfl, hb4⟩
  clear p0 p1 p2 p3 p4 p5 p6 p7 q0 q1 q2 q3 q4 z0 z1 yl fz
  have hb34 := (unhide HB3).trans (hb4.mono (unhide HB3).size)
  obtain ⟨⟨p0, p1, p2, p3, p4, p5, p6, p7⟩, ⟨q0, q1, q2, q3, q4⟩, ⟨z0, z1⟩, yl, fz, hr4⟩ := unhide HCe w4 hb34
  have HB4 := hide (Gm.Below.on0 (unhide HB0) hb34 (unhide HB0).size)
  have HB34 := hide hb34; have HR4 := hide hr4
  clear hb4 hb34 hr4
  go_wp2_with fail
  refine (unhide HTy w4 (unhide HB4)).mono ?_
  rintro e w5 ⟨pa, pc, rfl, -, hb5⟩
  have hb45 := (unhide HB34).trans (hb5.mono (unhide HB34).size)
  clear p0 p1 p2 p3 p4 p5 p6 p7 q0 q1 q2 q3 q4 z0 z1 yl fz
  obtain ⟨⟨p0, p1, p2, p3, p4, p5, p6, p7⟩, ⟨q0, q1, q2, q3, q4⟩, ⟨z0, z1⟩, yl, fz, hr5⟩ := unhide HCe w5 hb45
  have HB5 := hide (Gm.Below.on0 (unhide HB0) hb45 (unhide HB0).size)
  have HR5 := hide hr5
  have ns1 : ¬ w.heap.size + 1 = w.heap.size + 1 + 1 := by omega
  clear hb5 hb45 hr5
  obtain ⟨u0, u1, u2⟩ := Gm.fin2 (unhide HR5) (unhide HB5) (by omega) (.slice pa pl pc) (.int .u8 re)
  have HU := hide u2
  clear u2
  by_cases hl : sl = pl
  · subst hl
    go_wp2
    go_ret
    exact ⟨ret_bool (by rw [unhide HF]; simp), unhide HU⟩
  · have hl2 : ((sl : Int) == (pl : Int)) = false := by simp; omega
    have HL := hide hl
    clear hl
    go_wp2
    go_ret
    exact ⟨ret_bool (by have hl := unhide HL; simp [hl]), unhide HU⟩
set_option maxRecDepth 100000 in
set_option maxHeartbeats 3200000 in
theorem mt_17n {M : Mod} {g : Nat → Prop} {v0 v1 v2 v3 v4 v5 v6 v7 : Value} {w : World} (hM : ModL w g M v0 v1 v2 v3 v4 v5 v6 v7) (hwf : WfM M) (hs : SzM M) (x : In) (hx : x.op < 256) (hsl : x.src.length ≤ 1099511627776) (hmb : Mb x) (sa : Option Addr) (sc : Nat) (h : x.op = 17) (ho : M.tables.length = 0 ∨ (M.types.length : Int) ≤ x.n) :
    Calls Tryz.prog 26 #[.agg #[v0, v1, v2, v3, v4, v5, v6, v7], .agg #[.int .u8 (x.op : Int), .int .i64 x.dst, .slice sa x.src.length sc, .int .i64 x.n, .int .u32 x.of]] w fun e w' => e = .returned (.bool (false)) ∧ Below w.heap.size w w' := by
  have hN := fun W => rnm_any x.op hx W
  have hMe := fun W => rmem_any x.op hx W
  have hnm := nm_at x.op hx
  obtain ⟨a0, k0, rfl⟩ := hM.l0.sl; obtain ⟨a1, k1, rfl⟩ := hM.l1.sl; obtain ⟨a2, k2, rfl⟩ := hM.l2.sl; obtain ⟨a3, k3, rfl⟩ := hM.l3.sl; obtain ⟨a4, k4, rfl⟩ := hM.l4.sl; obtain ⟨a5, k5, rfl⟩ := hM.l5.sl; obtain ⟨a6, k6, rfl⟩ := hM.l6.sl; obtain ⟨a7, k7, rfl⟩ := hM.l7.sl
  have hlen := (And.intro hs.n0 (And.intro hs.n2 (And.intro hs.n3 hs.n4)))
  clear hM hwf hs
  generalize M.types.length = n0 at *; generalize M.funcs.length = n1 at *; generalize M.tables.length = n2 at *; generalize M.mems.length = n3 at *; generalize M.globs.length = n4 at *; generalize M.exps.length = n5 at *; generalize M.elems.length = n6 at *; generalize M.datas.length = n7 at *
  obtain ⟨op, dst, src, nn, of⟩ := x
  simp only [Mb] at *
  generalize src.length = sl at *
  have he : ∀ q, ((str (rnm op)).toList == q) = (rnm op == q) := fun q => by rw [str_toList]
  have e63 : ((str (rnm op)).toList == [109, 101, 109, 111, 114, 121, 46, 115, 105, 122, 101]) = decide (op = 63) := by rw [he]; exact hnm.1
  have e64 : ((str (rnm op)).toList == [109, 101, 109, 111, 114, 121, 46, 103, 114, 111, 119]) = decide (op = 64) := by rw [he]; exact hnm.2.1
  have e35 : ((str (rnm op)).toList == [103, 108, 111, 98, 97, 108, 46, 103, 101, 116]) = decide (op = 35) := by rw [he]; exact hnm.2.2.1
  have e36 : ((str (rnm op)).toList == [103, 108, 111, 98, 97, 108, 46, 115, 101, 116]) = decide (op = 36) := by rw [he]; exact hnm.2.2.2.1
  have e16 : ((str (rnm op)).toList == [99, 97, 108, 108]) = decide (op = 16) := by rw [he]; exact hnm.2.2.2.2.1
  have e17 : ((str (rnm op)).toList == [99, 97, 108, 108, 95, 105, 110, 100, 105, 114, 101, 99, 116]) = decide (op = 17) := by rw [he]; exact hnm.2.2.2.2.2
  generalize str (rnm op) = S at *
  clear he hnm
  obtain ⟨W0, hW0, b1, b2, b3, b5, b4⟩ := zero3 (w := w) (c1 := #[.slice a0 n0 k0, .slice a1 n1 k1, .slice a2 n2 k2, .slice a3 n3 k3, .slice a4 n4 k4, .slice a5 n5 k5, .slice a6 n6 k6, .slice a7 n7 k7]) (c2 := #[.int .u8 (op : Int), .int .i64 dst, .slice sa sl sc, .int .i64 nn, .int .u32 of]) (t := 30) (t2 := 81) (t3 := 59) (x0 := .slice none 0 0) (x1 := .int .u8 0)
  have hce : ∀ wx, Below W0.heap.size W0 wx → ((wx.cell? ⟨w.heap.size, 0, none⟩ = some (.slice a0 n0 k0) ∧ wx.cell? ⟨w.heap.size, 1, none⟩ = some (.slice a1 n1 k1) ∧ wx.cell? ⟨w.heap.size, 2, none⟩ = some (.slice a2 n2 k2) ∧ wx.cell? ⟨w.heap.size, 3, none⟩ = some (.slice a3 n3 k3) ∧ wx.cell? ⟨w.heap.size, 4, none⟩ = some (.slice a4 n4 k4) ∧ wx.cell? ⟨w.heap.size, 5, none⟩ = some (.slice a5 n5 k5) ∧ wx.cell? ⟨w.heap.size, 6, none⟩ = some (.slice a6 n6 k6) ∧ wx.cell? ⟨w.heap.size, 7, none⟩ = some (.slice a7 n7 k7)) ∧ (wx.cell? ⟨w.heap.size + 1, 0, none⟩ = some (.int .u8 (op : Int)) ∧ wx.cell? ⟨w.heap.size + 1, 1, none⟩ = some (.int .i64 dst) ∧ wx.cell? ⟨w.heap.size + 1, 2, none⟩ = some (.slice sa sl sc) ∧ wx.cell? ⟨w.heap.size + 1, 3, none⟩ = some (.int .i64 nn) ∧ wx.cell? ⟨w.heap.size + 1, 4, none⟩ = some (.int .u32 of)) ∧ (wx.cell? ⟨w.heap.size + 1 + 1, 0, none⟩ = some (.slice none 0 0) ∧ wx.cell? ⟨w.heap.size + 1 + 1, 1, none⟩ = some (.int .u8 0)) ∧ w.heap.size + 1 + 1 < wx.heap.size ∧ (∀ j, wx.frozen? ⟨w.heap.size + 1 + 1, j, none⟩ = false) ∧ wx.heap[w.heap.size + 1 + 1]? = some (.cells #[.slice none 0 0, .int .u8 0] 59 (0, 0))) := fun wx hb => by
    have r1 := (hb.block _ (by omega)).trans b1
    have r2 := (hb.block _ (by omega)).trans b2
    have r3 := (hb.block _ b5).trans b3
    exact ⟨mbox8 r1, cel5 r2, Gm.cel2 r3, Nat.lt_of_lt_of_le b5 hb.size, fun j => frozen_of_row wx _ j _ _ r3, r3⟩
  have HCe := hide hce; have HW := hide hW0; have HB0 := hide b4; have HN := hide hN; have HMe := hide hMe
  obtain ⟨⟨p0, p1, p2, p3, p4, p5, p6, p7⟩, ⟨q0, q1, q2, q3, q4⟩, ⟨z0, z1⟩, yl, fz, -⟩ := hce W0 (Below.refl _ _)
  clear hce hW0 b1 b2 b3 b4 b5 hN hMe
  subst h
  simp only [show ((17 : Nat) : Int) = 17 from rfl, Nat.reduceEqDiff, decide_true, decide_false] at *
  rw [show acc 17 = false from acc_mnt.2.2.2.2.2] at HMe
  have h0 : 0 ≤ nn := hmb.1 (by simp)
  by_cases h1 : n2 = 0
  · subst h1
    clear ho
    go_enter Tryz.func26, Tryz.ntmps26
    go_upto_region 3 with fail
    rw [unhide HW]
    go_wp2_with fail
    refine (unhide HN W0).mono ?_
    rintro e w3 ⟨rfl, hb3⟩
    clear p0 p1 p2 p3 p4 p5 p6 p7 q0 q1 q2 q3 q4 z0 z1 yl fz
    obtain ⟨⟨p0, p1, p2, p3, p4, p5, p6, p7⟩, ⟨q0, q1, q2, q3, q4⟩, ⟨z0, z1⟩, yl, fz, -⟩ := unhide HCe w3 hb3
    have HB3 := hide hb3
    clear hb3
    go_wp2_with fail
    refine (unhide HMe w3).mono ?_
    rintro e w4 ⟨rfl, hb4⟩
    clear p0 p1 p2 p3 p4 p5 p6 p7 q0 q1 q2 q3 q4 z0 z1 yl fz
    have hb34 := (unhide HB3).trans (hb4.mono (unhide HB3).size)
    obtain ⟨⟨p0, p1, p2, p3, p4, p5, p6, p7⟩, ⟨q0, q1, q2, q3, q4⟩, ⟨z0, z1⟩, yl, fz, hr4⟩ := unhide HCe w4 hb34
    have HB4 := hide (Gm.Below.on0 (unhide HB0) hb34 (unhide HB0).size)
    have HB34 := hide hb34; have HR4 := hide hr4
    clear hb4 hb34 hr4
    go_wp2
    go_ret
    exact ⟨ret_bool (by simp), unhide HB4⟩
  · have h2 : (n0 : Int) ≤ nn := by rcases ho with h | h; exact absurd h h1; exact h
    have h3 : ((n2 : Int) == 0) = false := by simp; omega
    have h4 : nn ≥ (n0 : Int) := h2
    clear ho h1
    go_enter Tryz.func26, Tryz.ntmps26
    go_upto_region 3 with fail
    rw [unhide HW]
    go_wp2_with fail
    refine (unhide HN W0).mono ?_
    rintro e w3 ⟨rfl, hb3⟩
    clear p0 p1 p2 p3 p4 p5 p6 p7 q0 q1 q2 q3 q4 z0 z1 yl fz
    obtain ⟨⟨p0, p1, p2, p3, p4, p5, p6, p7⟩, ⟨q0, q1, q2, q3, q4⟩, ⟨z0, z1⟩, yl, fz, -⟩ := unhide HCe w3 hb3
    have HB3 := hide hb3
    clear hb3
    go_wp2_with fail
    refine (unhide HMe w3).mono ?_
    rintro e w4 ⟨rfl, hb4⟩
    clear p0 p1 p2 p3 p4 p5 p6 p7 q0 q1 q2 q3 q4 z0 z1 yl fz
    have hb34 := (unhide HB3).trans (hb4.mono (unhide HB3).size)
    obtain ⟨⟨p0, p1, p2, p3, p4, p5, p6, p7⟩, ⟨q0, q1, q2, q3, q4⟩, ⟨z0, z1⟩, yl, fz, hr4⟩ := unhide HCe w4 hb34
    have HB4 := hide (Gm.Below.on0 (unhide HB0) hb34 (unhide HB0).size)
    have HB34 := hide hb34; have HR4 := hide hr4
    clear hb4 hb34 hr4
    go_wp2
    go_ret
    exact ⟨ret_bool (by simp), unhide HB4⟩
set_option maxRecDepth 100000 in
set_option maxHeartbeats 3200000 in
theorem mt_17s {M : Mod} {g : Nat → Prop} {v0 v1 v2 v3 v4 v5 v6 v7 : Value} {w : World} (hM : ModL w g M v0 v1 v2 v3 v4 v5 v6 v7) (hwf : WfM M) (hs : SzM M) (x : In) (hx : x.op < 256) (hsl : x.src.length ≤ 1099511627776) (hmb : Mb x) (sa : Option Addr) (sc : Nat) {t : Typ} (h : x.op = 17) (h2 : 0 < M.tables.length) {j : Nat} (hj : x.n = j) (hjl : j < M.types.length) (ho : M.types[j] = t) :
    Calls Tryz.prog 26 #[.agg #[v0, v1, v2, v3, v4, v5, v6, v7], .agg #[.int .u8 (x.op : Int), .int .i64 x.dst, .slice sa x.src.length sc, .int .i64 x.n, .int .u32 x.of]] w fun e w' => e = .returned (.bool (cls (some t) x 1)) ∧ Below w.heap.size w w' := by
  have hN := fun W => rnm_any x.op hx W
  have hMe := fun W => rmem_any x.op hx W
  have hnm := nm_at x.op hx
  have hd : cls (some t) x 1 = (decide (x.src.length = 1 + t.ps.length) && (decide (x.dst ≠ -1) == decide (t.re ≠ 0))) := rfl
  rw [hd]
  obtain ⟨b', o', c0, hv0, -, hb', -, cs', -, ⟨vt, rfl, hvt⟩, hcs'⟩ := hM.l0.at hjl
  obtain ⟨ta, tc, rfl, -⟩ := hvt
  have f2 : w.cell? ⟨b', o' + j * 2, none⟩ = some (.slice ta (M.types[j]).ps.length tc) := hcs' 0 _ rfl
  have f3 : w.cell? ⟨b', o' + j * 2 + 1, none⟩ = some (.int .u8 (M.types[j]).re) := hcs' 1 _ rfl
  rw [ho] at f2 f3
  have hjn : (j : Int) < (M.types.length : Int) := by omega
  clear ho hd hcs' hjl
  obtain ⟨a0, k0, rfl⟩ := hM.l0.sl; obtain ⟨a1, k1, rfl⟩ := hM.l1.sl; obtain ⟨a2, k2, rfl⟩ := hM.l2.sl; obtain ⟨a3, k3, rfl⟩ := hM.l3.sl; obtain ⟨a4, k4, rfl⟩ := hM.l4.sl; obtain ⟨a5, k5, rfl⟩ := hM.l5.sl; obtain ⟨a6, k6, rfl⟩ := hM.l6.sl; obtain ⟨a7, k7, rfl⟩ := hM.l7.sl
  have hlen := (And.intro hs.n0 (And.intro hs.n2 (And.intro hs.n3 hs.n4)))
  clear hM hwf hs
  generalize M.types.length = n0 at *; generalize M.funcs.length = n1 at *; generalize M.tables.length = n2 at *; generalize M.mems.length = n3 at *; generalize M.globs.length = n4 at *; generalize M.exps.length = n5 at *; generalize M.elems.length = n6 at *; generalize M.datas.length = n7 at *
  obtain ⟨op, dst, src, nn, of⟩ := x
  simp only [Mb] at *
  generalize src.length = sl at *
  have he : ∀ q, ((str (rnm op)).toList == q) = (rnm op == q) := fun q => by rw [str_toList]
  have e63 : ((str (rnm op)).toList == [109, 101, 109, 111, 114, 121, 46, 115, 105, 122, 101]) = decide (op = 63) := by rw [he]; exact hnm.1
  have e64 : ((str (rnm op)).toList == [109, 101, 109, 111, 114, 121, 46, 103, 114, 111, 119]) = decide (op = 64) := by rw [he]; exact hnm.2.1
  have e35 : ((str (rnm op)).toList == [103, 108, 111, 98, 97, 108, 46, 103, 101, 116]) = decide (op = 35) := by rw [he]; exact hnm.2.2.1
  have e36 : ((str (rnm op)).toList == [103, 108, 111, 98, 97, 108, 46, 115, 101, 116]) = decide (op = 36) := by rw [he]; exact hnm.2.2.2.1
  have e16 : ((str (rnm op)).toList == [99, 97, 108, 108]) = decide (op = 16) := by rw [he]; exact hnm.2.2.2.2.1
  have e17 : ((str (rnm op)).toList == [99, 97, 108, 108, 95, 105, 110, 100, 105, 114, 101, 99, 116]) = decide (op = 17) := by rw [he]; exact hnm.2.2.2.2.2
  generalize str (rnm op) = S at *
  clear he hnm
  obtain ⟨W0, hW0, b1, b2, b3, b5, b4⟩ := zero3 (w := w) (c1 := #[.slice a0 n0 k0, .slice a1 n1 k1, .slice a2 n2 k2, .slice a3 n3 k3, .slice a4 n4 k4, .slice a5 n5 k5, .slice a6 n6 k6, .slice a7 n7 k7]) (c2 := #[.int .u8 (op : Int), .int .i64 dst, .slice sa sl sc, .int .i64 nn, .int .u32 of]) (t := 30) (t2 := 81) (t3 := 59) (x0 := .slice none 0 0) (x1 := .int .u8 0)
  have hce : ∀ wx, Below W0.heap.size W0 wx → ((wx.cell? ⟨w.heap.size, 0, none⟩ = some (.slice a0 n0 k0) ∧ wx.cell? ⟨w.heap.size, 1, none⟩ = some (.slice a1 n1 k1) ∧ wx.cell? ⟨w.heap.size, 2, none⟩ = some (.slice a2 n2 k2) ∧ wx.cell? ⟨w.heap.size, 3, none⟩ = some (.slice a3 n3 k3) ∧ wx.cell? ⟨w.heap.size, 4, none⟩ = some (.slice a4 n4 k4) ∧ wx.cell? ⟨w.heap.size, 5, none⟩ = some (.slice a5 n5 k5) ∧ wx.cell? ⟨w.heap.size, 6, none⟩ = some (.slice a6 n6 k6) ∧ wx.cell? ⟨w.heap.size, 7, none⟩ = some (.slice a7 n7 k7)) ∧ (wx.cell? ⟨w.heap.size + 1, 0, none⟩ = some (.int .u8 (op : Int)) ∧ wx.cell? ⟨w.heap.size + 1, 1, none⟩ = some (.int .i64 dst) ∧ wx.cell? ⟨w.heap.size + 1, 2, none⟩ = some (.slice sa sl sc) ∧ wx.cell? ⟨w.heap.size + 1, 3, none⟩ = some (.int .i64 nn) ∧ wx.cell? ⟨w.heap.size + 1, 4, none⟩ = some (.int .u32 of)) ∧ (wx.cell? ⟨w.heap.size + 1 + 1, 0, none⟩ = some (.slice none 0 0) ∧ wx.cell? ⟨w.heap.size + 1 + 1, 1, none⟩ = some (.int .u8 0)) ∧ w.heap.size + 1 + 1 < wx.heap.size ∧ (∀ j, wx.frozen? ⟨w.heap.size + 1 + 1, j, none⟩ = false) ∧ wx.heap[w.heap.size + 1 + 1]? = some (.cells #[.slice none 0 0, .int .u8 0] 59 (0, 0))) := fun wx hb => by
    have r1 := (hb.block _ (by omega)).trans b1
    have r2 := (hb.block _ (by omega)).trans b2
    have r3 := (hb.block _ b5).trans b3
    exact ⟨mbox8 r1, cel5 r2, Gm.cel2 r3, Nat.lt_of_lt_of_le b5 hb.size, fun j => frozen_of_row wx _ j _ _ r3, r3⟩
  have HCe := hide hce; have HW := hide hW0; have HB0 := hide b4; have HN := hide hN; have HMe := hide hMe
  obtain ⟨⟨p0, p1, p2, p3, p4, p5, p6, p7⟩, ⟨q0, q1, q2, q3, q4⟩, ⟨z0, z1⟩, yl, fz, -⟩ := hce W0 (Below.refl _ _)
  clear hce hW0 b1 b2 b3 b4 b5 hN hMe
  subst h
  simp only [show ((17 : Nat) : Int) = 17 from rfl, Nat.reduceEqDiff, decide_true, decide_false] at *
  rw [show acc 17 = false from acc_mnt.2.2.2.2.2] at HMe
  subst hj
  simp only [Value.slice.injEq] at hv0
  obtain ⟨rfl, -, rfl⟩ := hv0
  obtain ⟨ps, re⟩ := t
  simp only at *
  generalize ps.length = pl at *
  have hd1 : decide (dst ≥ 0) = decide (dst ≠ -1) := by
    have := hmb.2
    by_cases h : dst = -1
    · subst h; decide
    · rw [decide_eq_true h]; simp; omega
  have hd2 : (re != 0) = decide (re ≠ 0) := by by_cases h : re = 0 <;> simp [h]
  have hfin : ∀ b1 b2 : Bool, ((re != 0) == decide (dst ≥ 0)) = (decide (dst ≠ -1) == decide (re ≠ 0)) := fun _ _ => by rw [hd1, hd2]; cases decide (dst ≠ -1) <;> cases decide (re ≠ 0) <;> rfl
  have HF := hide (hfin true true)
  clear hd1 hd2 hfin
  have F2 := hide f2; have F3 := hide f3
  clear f2 f3
  have hHl : (sl : Int) ≤ 1099511627776 := by omega
  have h3 : ((n2 : Int) == 0) = false := by simp; omega
  have h4 : decide ((j : Int) ≥ (n0 : Int)) = false := decide_eq_false (by omega)
  have h5 : decide ((n0 : Int) ≤ (j : Int)) = false := decide_eq_false (by omega)
  have h6 : decide (n0 ≤ j) = false := decide_eq_false (by omega)
  clear hmb hsl
  go_enter Tryz.func26, Tryz.ntmps26
  go_upto_region 3 with fail
  rw [unhide HW]
  go_wp2_with fail
  refine (unhide HN W0).mono ?_
  rintro e w3 ⟨rfl, hb3⟩
  clear p0 p1 p2 p3 p4 p5 p6 p7 q0 q1 q2 q3 q4 z0 z1 yl fz
  obtain ⟨⟨p0, p1, p2, p3, p4, p5, p6, p7⟩, ⟨q0, q1, q2, q3, q4⟩, ⟨z0, z1⟩, yl, fz, -⟩ := unhide HCe w3 hb3
  have HB3 := hide hb3
  clear hb3
  go_wp2_with fail
  refine (unhide HMe w3).mono ?_
  rintro e w4 ⟨rfl, hb4⟩
  clear p0 p1 p2 p3 p4 p5 p6 p7 q0 q1 q2 q3 q4 z0 z1 yl fz
  have hb34 := (unhide HB3).trans (hb4.mono (unhide HB3).size)
  obtain ⟨⟨p0, p1, p2, p3, p4, p5, p6, p7⟩, ⟨q0, q1, q2, q3, q4⟩, ⟨z0, z1⟩, yl, fz, hr4⟩ := unhide HCe w4 hb34
  have HB4 := hide (Gm.Below.on0 (unhide HB0) hb34 (unhide HB0).size)
  have HB34 := hide hb34; have HR4 := hide hr4
  clear hb4 hb34 hr4
  have f2 := ((unhide HB4).cell (p := ⟨b', o' + j * 2, none⟩) hb').trans (unhide F2)
  have f3 := ((unhide HB4).cell (p := ⟨b', o' + j * 2 + 1, none⟩) hb').trans (unhide F3)
  have nb' : ¬ b' = w.heap.size + 1 + 1 := by omega
  have ns1 : ¬ w.heap.size + 1 = w.heap.size + 1 + 1 := by omega
  have ns0 : ¬ w.heap.size = w.heap.size + 1 + 1 := by omega
  obtain ⟨u0, u1, u2⟩ := Gm.fin2 (unhide HR4) (unhide HB4) (by omega) (.slice ta pl tc) (.int .u8 re)
  have HU := hide u2
  clear u2 h2
  by_cases hl : sl = 1 + pl
  · have hl2 : ((sl : Int) - 1 == (pl : Int)) = true := by simp; omega
    have HL := hide hl
    clear hl
    go_wp2
    go_ret
    exact ⟨ret_bool (by have hl := unhide HL; rw [unhide HF]; simp [hl]), unhide HU⟩
  · have hl2 : ((sl : Int) - 1 == (pl : Int)) = false := by simp; omega
    have HL := hide hl
    clear hl
    go_wp2
    go_ret
    exact ⟨ret_bool (by have hl := unhide HL; simp [hl]), unhide HU⟩
set_option maxRecDepth 100000 in
set_option maxHeartbeats 3200000 in
theorem mt_else {M : Mod} {g : Nat → Prop} {v0 v1 v2 v3 v4 v5 v6 v7 : Value} {w : World} (hM : ModL w g M v0 v1 v2 v3 v4 v5 v6 v7) (hwf : WfM M) (hs : SzM M) (x : In) (hx : x.op < 256) (hsl : x.src.length ≤ 1099511627776) (hmb : Mb x) (sa : Option Addr) (sc : Nat) (h1 : ¬ x.op = 63) (h2 : ¬ x.op = 64) (h3 : ¬ x.op = 35) (h4 : ¬ x.op = 36) (h5 : ¬ x.op = 16) (h6 : ¬ x.op = 17) (h : acc x.op = false) :
    Calls Tryz.prog 26 #[.agg #[v0, v1, v2, v3, v4, v5, v6, v7], .agg #[.int .u8 (x.op : Int), .int .i64 x.dst, .slice sa x.src.length sc, .int .i64 x.n, .int .u32 x.of]] w fun e w' => e = .returned (.bool (true)) ∧ Below w.heap.size w w' := by
  have hN := fun W => rnm_any x.op hx W
  have hMe := fun W => rmem_any x.op hx W
  have hnm := nm_at x.op hx
  obtain ⟨a0, k0, rfl⟩ := hM.l0.sl; obtain ⟨a1, k1, rfl⟩ := hM.l1.sl; obtain ⟨a2, k2, rfl⟩ := hM.l2.sl; obtain ⟨a3, k3, rfl⟩ := hM.l3.sl; obtain ⟨a4, k4, rfl⟩ := hM.l4.sl; obtain ⟨a5, k5, rfl⟩ := hM.l5.sl; obtain ⟨a6, k6, rfl⟩ := hM.l6.sl; obtain ⟨a7, k7, rfl⟩ := hM.l7.sl
  have hlen := (And.intro hs.n0 (And.intro hs.n2 (And.intro hs.n3 hs.n4)))
  clear hM hwf hs
  generalize M.types.length = n0 at *; generalize M.funcs.length = n1 at *; generalize M.tables.length = n2 at *; generalize M.mems.length = n3 at *; generalize M.globs.length = n4 at *; generalize M.exps.length = n5 at *; generalize M.elems.length = n6 at *; generalize M.datas.length = n7 at *
  obtain ⟨op, dst, src, nn, of⟩ := x
  simp only [Mb] at *
  generalize src.length = sl at *
  have he : ∀ q, ((str (rnm op)).toList == q) = (rnm op == q) := fun q => by rw [str_toList]
  have e63 : ((str (rnm op)).toList == [109, 101, 109, 111, 114, 121, 46, 115, 105, 122, 101]) = decide (op = 63) := by rw [he]; exact hnm.1
  have e64 : ((str (rnm op)).toList == [109, 101, 109, 111, 114, 121, 46, 103, 114, 111, 119]) = decide (op = 64) := by rw [he]; exact hnm.2.1
  have e35 : ((str (rnm op)).toList == [103, 108, 111, 98, 97, 108, 46, 103, 101, 116]) = decide (op = 35) := by rw [he]; exact hnm.2.2.1
  have e36 : ((str (rnm op)).toList == [103, 108, 111, 98, 97, 108, 46, 115, 101, 116]) = decide (op = 36) := by rw [he]; exact hnm.2.2.2.1
  have e16 : ((str (rnm op)).toList == [99, 97, 108, 108]) = decide (op = 16) := by rw [he]; exact hnm.2.2.2.2.1
  have e17 : ((str (rnm op)).toList == [99, 97, 108, 108, 95, 105, 110, 100, 105, 114, 101, 99, 116]) = decide (op = 17) := by rw [he]; exact hnm.2.2.2.2.2
  generalize str (rnm op) = S at *
  clear he hnm
  obtain ⟨W0, hW0, b1, b2, b3, b5, b4⟩ := zero3 (w := w) (c1 := #[.slice a0 n0 k0, .slice a1 n1 k1, .slice a2 n2 k2, .slice a3 n3 k3, .slice a4 n4 k4, .slice a5 n5 k5, .slice a6 n6 k6, .slice a7 n7 k7]) (c2 := #[.int .u8 (op : Int), .int .i64 dst, .slice sa sl sc, .int .i64 nn, .int .u32 of]) (t := 30) (t2 := 81) (t3 := 59) (x0 := .slice none 0 0) (x1 := .int .u8 0)
  have hce : ∀ wx, Below W0.heap.size W0 wx → ((wx.cell? ⟨w.heap.size, 0, none⟩ = some (.slice a0 n0 k0) ∧ wx.cell? ⟨w.heap.size, 1, none⟩ = some (.slice a1 n1 k1) ∧ wx.cell? ⟨w.heap.size, 2, none⟩ = some (.slice a2 n2 k2) ∧ wx.cell? ⟨w.heap.size, 3, none⟩ = some (.slice a3 n3 k3) ∧ wx.cell? ⟨w.heap.size, 4, none⟩ = some (.slice a4 n4 k4) ∧ wx.cell? ⟨w.heap.size, 5, none⟩ = some (.slice a5 n5 k5) ∧ wx.cell? ⟨w.heap.size, 6, none⟩ = some (.slice a6 n6 k6) ∧ wx.cell? ⟨w.heap.size, 7, none⟩ = some (.slice a7 n7 k7)) ∧ (wx.cell? ⟨w.heap.size + 1, 0, none⟩ = some (.int .u8 (op : Int)) ∧ wx.cell? ⟨w.heap.size + 1, 1, none⟩ = some (.int .i64 dst) ∧ wx.cell? ⟨w.heap.size + 1, 2, none⟩ = some (.slice sa sl sc) ∧ wx.cell? ⟨w.heap.size + 1, 3, none⟩ = some (.int .i64 nn) ∧ wx.cell? ⟨w.heap.size + 1, 4, none⟩ = some (.int .u32 of)) ∧ (wx.cell? ⟨w.heap.size + 1 + 1, 0, none⟩ = some (.slice none 0 0) ∧ wx.cell? ⟨w.heap.size + 1 + 1, 1, none⟩ = some (.int .u8 0)) ∧ w.heap.size + 1 + 1 < wx.heap.size ∧ (∀ j, wx.frozen? ⟨w.heap.size + 1 + 1, j, none⟩ = false) ∧ wx.heap[w.heap.size + 1 + 1]? = some (.cells #[.slice none 0 0, .int .u8 0] 59 (0, 0))) := fun wx hb => by
    have r1 := (hb.block _ (by omega)).trans b1
    have r2 := (hb.block _ (by omega)).trans b2
    have r3 := (hb.block _ b5).trans b3
    exact ⟨mbox8 r1, cel5 r2, Gm.cel2 r3, Nat.lt_of_lt_of_le b5 hb.size, fun j => frozen_of_row wx _ j _ _ r3, r3⟩
  have HCe := hide hce; have HW := hide hW0; have HB0 := hide b4; have HN := hide hN; have HMe := hide hMe
  obtain ⟨⟨p0, p1, p2, p3, p4, p5, p6, p7⟩, ⟨q0, q1, q2, q3, q4⟩, ⟨z0, z1⟩, yl, fz, -⟩ := hce W0 (Below.refl _ _)
  clear hce hW0 b1 b2 b3 b4 b5 hN hMe
  rw [h] at HMe
  simp only [h1, h2, h3, h4, h5, h6, decide_false] at *
  clear h h1 h2 h3 h4 h5 h6
  go_enter Tryz.func26, Tryz.ntmps26
  go_upto_region 3 with fail
  rw [unhide HW]
  go_wp2_with fail
  refine (unhide HN W0).mono ?_
  rintro e w3 ⟨rfl, hb3⟩
  clear p0 p1 p2 p3 p4 p5 p6 p7 q0 q1 q2 q3 q4 z0 z1 yl fz
  obtain ⟨⟨p0, p1, p2, p3, p4, p5, p6, p7⟩, ⟨q0, q1, q2, q3, q4⟩, ⟨z0, z1⟩, yl, fz, -⟩ := unhide HCe w3 hb3
  have HB3 := hide hb3
  clear hb3
  go_wp2_with fail
  refine (unhide HMe w3).mono ?_
  rintro e w4 ⟨rfl, hb4⟩
  clear p0 p1 p2 p3 p4 p5 p6 p7 q0 q1 q2 q3 q4 z0 z1 yl fz
  have hb34 := (unhide HB3).trans (hb4.mono (unhide HB3).size)
  obtain ⟨⟨p0, p1, p2, p3, p4, p5, p6, p7⟩, ⟨q0, q1, q2, q3, q4⟩, ⟨z0, z1⟩, yl, fz, hr4⟩ := unhide HCe w4 hb34
  have HB4 := hide (Gm.Below.on0 (unhide HB0) hb34 (unhide HB0).size)
  have HB34 := hide hb34; have HR4 := hide hr4
  clear hb4 hb34 hr4
  go_wp2
  go_ret
  exact ⟨ret_bool (by simp), unhide HB4⟩
theorem meant_any {M : Mod} {g : Nat → Prop} {v0 v1 v2 v3 v4 v5 v6 v7 : Value} {w : World} (hM : ModL w g M v0 v1 v2 v3 v4 v5 v6 v7) (hwf : WfM M) (hs : SzM M) (x : In) (hx : x.op < 256) (hsl : x.src.length ≤ 1099511627776) (hmb : Mb x) (sa : Option Addr) (sc : Nat) :
    Calls Tryz.prog 26 #[.agg #[v0, v1, v2, v3, v4, v5, v6, v7], .agg #[.int .u8 (x.op : Int), .int .i64 x.dst, .slice sa x.src.length sc, .int .i64 x.n, .int .u32 x.of]] w fun e w' => e = .returned (.bool (mnt M x)) ∧ Below w.heap.size w w' := by
  have hac := acc_mnt
  unfold mnt
  by_cases h1 : x.op = 63 ∨ x.op = 64
  · rw [if_pos h1]
    rcases h1 with h | h
    · exact mt_63 hM hwf hs x hx hsl hmb sa sc h
    · exact mt_64 hM hwf hs x hx hsl hmb sa sc h
  rw [if_neg h1]
  by_cases h3 : x.op = 35
  · rw [if_pos h3]; exact mt_35 hM hwf hs x hx hsl hmb sa sc h3
  rw [if_neg h3]
  by_cases h4 : x.op = 36
  · rw [if_pos h4]; exact mt_36 hM hwf hs x hx hsl hmb sa sc h4
  rw [if_neg h4]
  by_cases h5 : x.op = 16
  · rw [if_pos h5]
    cases ho : ty? M x.n with
    | none => exact mt_16n hM hwf hs x hx hsl hmb sa sc h5 ho
    | some t => exact mt_16s hM hwf hs x hx hsl hmb sa sc h5 ho
  rw [if_neg h5]
  by_cases h6 : x.op = 17
  · rw [if_pos h6]
    have h0 : 0 ≤ x.n := hmb.1 (by simp [h6])
    by_cases ht : M.tables.length = 0
    · rw [show decide (0 < M.tables.length) = false by simp [ht]]
      exact mt_17n hM hwf hs x hx hsl hmb sa sc h6 (.inl ht)
    rw [show decide (0 < M.tables.length) = true by simp; omega, Bool.true_and]
    by_cases hq : (M.types.length : Int) ≤ x.n
    · rw [show atT M x.n = none by unfold atT; rw [if_neg (by omega), List.getElem?_eq_none (by omega)]]
      exact mt_17n hM hwf hs x hx hsl hmb sa sc h6 (.inr hq)
    · obtain ⟨j, hj⟩ : ∃ j : Nat, x.n = j := ⟨x.n.toNat, by omega⟩
      have hjl : j < M.types.length := by omega
      rw [show atT M x.n = some M.types[j] by unfold atT; rw [if_neg (by omega), hj, Int.toNat_natCast, List.getElem?_eq_getElem hjl]]
      exact mt_17s hM hwf hs x hx hsl hmb sa sc h6 (by omega) hj hjl rfl
  rw [if_neg h6]
  cases ha : acc x.op with
  | true => rw [Bool.not_true, Bool.false_or]; exact mt_acc hM hwf hs x hx hsl hmb sa sc ha
  | false => rw [Bool.not_false, Bool.true_or]; exact mt_else hM hwf hs x hx hsl hmb sa sc (fun e => h1 (.inl e)) (fun e => h1 (.inr e)) h3 h4 h5 h6 ha
end Vc
end Go.Proofs.YtheopjcmhclgdaaGreatDoor

/- The document's Fits. By mkvfg.py. -/
namespace Go.Proofs.YtheopjcmhclgdaaGreatDoor
open Go.RowKit
namespace Vc
set_option linter.unusedVariables false
set_option linter.unusedSimpArgs false
open Gm (Mod Typ Fnc Glo Byts ModL WfM SzM TypC TyYes TyNo TyB ty?)
theorem mb_all {c : Co} (h : chk c = true) : ∀ b ∈ c.bl, ∀ y ∈ b.ins, Mb y := by
  intro b hb y hy
  unfold chk at h
  simp only [Bool.and_eq_true] at h
  have h2 := List.all_eq_true.1 h.2 b hb
  unfold blkM at h2
  simp only [Bool.and_eq_true] at h2
  have h3 := h2.2.1
  unfold insAll at h3
  obtain ⟨i, hi, rfl⟩ := List.getElem_of_mem hy
  have h4 := List.all_eq_true.1 h3 i (List.mem_range.2 hi)
  unfold okAt at h4
  rw [List.getElem?_eq_getElem hi] at h4
  simp only [Bool.and_eq_true] at h4
  exact mb_of h4.2
theorem start3 {w : World} {c1 c2 : Array Value} {t t2 : TypeId} : ∃ W0, ((w.alloc (.cells c1 t)).alloc (.cells c2 t2)) = W0 ∧ W0.heap[w.heap.size]? = some (.cells c1 t (0, 0)) ∧ W0.heap[w.heap.size + 1]? = some (.cells c2 t2 (0, 0)) ∧ w.heap.size + 1 < W0.heap.size ∧ Below w.heap.size w W0 := start85

set_option maxRecDepth 100000 in
set_option maxHeartbeats 6400000 in
theorem rfits_any {M : Mod} {g gc : Nat → Prop} {v0 v1 v2 v3 v4 v5 v6 v7 : Value} {w : World} (hM : ModL w g M v0 v1 v2 v3 v4 v5 v6 v7) (hwf : WfM M) (hs : SzM M) (f : Int) (c : Co) (hc : WfC c) (v : Value) (hv : Bls w gc c.bl v) (hz : siz c.bl ≤ 1099511627776) :
    Calls Tryz.prog 11 #[.agg #[v0, v1, v2, v3, v4, v5, v6, v7], .int .i64 f, .agg #[.int .i64 c.pa, .int .i64 c.re, .bool c.rs, v]] w fun e w' => e = .returned (.int .i64 (fitN M f c)) ∧ Below w.heap.size w w' := by
  have hmv : ∀ W, Below w.heap.size w W → ModL W g M v0 v1 v2 v3 v4 v5 v6 v7 := fun W hW => hM.moved (g' := g) (Gm.Mv.below hW (fun _ _ q => q)) hW.size
  have hmay := fun W (hW : Below w.heap.size w W) => rmay_any c hc gc v W (hv.below hW) hz
  have hty := fun W (hW : Below w.heap.size w W) => rtype_wrap (hmv W hW) hwf hs f
  have hft := fun W (hW : Below w.heap.size w W) (x : In) (hx : x.op < 256) (hl : x.src.length ≤ 1099511627776) (hb : Mb x) sa sc => meant_any (hmv W hW) hwf hs x hx hl hb sa sc
  have hdef : fitN M f c = if chk c then (match ty? M f with
    | none => 1
    | some t => if c.pa = t.ps.length ∧ c.rs = decide (t.re ≠ 0) then (if mntA M c.bl then 0 else 7) else 7) else 1 := rfl
  have hlen := hc.len
  have hbls := hc.bl
  have hmb := fun h => mb_all (c := c) h
  have HV := hide hv
  obtain ⟨ca, cc, rfl, hcc, -, hA⟩ := hv
  obtain ⟨a0, k0, rfl⟩ := hM.l0.sl; obtain ⟨a1, k1, rfl⟩ := hM.l1.sl; obtain ⟨a2, k2, rfl⟩ := hM.l2.sl; obtain ⟨a3, k3, rfl⟩ := hM.l3.sl; obtain ⟨a4, k4, rfl⟩ := hM.l4.sl; obtain ⟨a5, k5, rfl⟩ := hM.l5.sl; obtain ⟨a6, k6, rfl⟩ := hM.l6.sl; obtain ⟨a7, k7, rfl⟩ := hM.l7.sl
  obtain ⟨W0, hW0, b1, b2, b3, b4⟩ := start3 (w := w) (c1 := #[.slice a0 M.types.length k0, .slice a1 M.funcs.length k1, .slice a2 M.tables.length k2, .slice a3 M.mems.length k3, .slice a4 M.globs.length k4, .slice a5 M.exps.length k5, .slice a6 M.elems.length k6, .slice a7 M.datas.length k7]) (c2 := #[.int .i64 c.pa, .int .i64 c.re, .bool c.rs, .slice ca c.bl.length cc]) (t := 30) (t2 := 33)
  have ano := fun j x h h2 => mntA_no (M := M) (l := c.bl) (j := j) (x := x) h h2
  have ayes := all_yes (l := c.bl) (f := fun b => b.ins.all (mnt M))
  have HMay := hide hmay; have HTy := hide hty; have HFt := hide hft; have HW := hide hW0; have HB0 := hide b4; have HR1 := hide b1; have HR2 := hide b2; have HA := hide hA; have HBs := hide hbls; have HL0 := hide b3; have HD := hide hdef; have ANo := hide ano; have AYes := hide ayes; have HMb := hide hmb
  clear hmv hmay hty hft hW0 b1 b2 b3 b4 hA hbls hM hwf hs hc hz hdef hcc ano ayes hmb
  generalize hE : fitN M f c = E at *
  have HE := hide hE; clear hE
  obtain ⟨pa, re, rs, bl⟩ := c
  simp only at *
  have hlw0 : w.heap.size < W0.heap.size := Nat.lt_of_succ_lt (unhide HL0)
  have htyc : ∃ rv0 rv1 ok, (∀ W, Below w.heap.size w W → Calls Tryz.prog 24 #[.agg #[.slice a0 M.types.length k0, .slice a1 M.funcs.length k1, .slice a2 M.tables.length k2, .slice a3 M.mems.length k3, .slice a4 M.globs.length k4, .slice a5 M.exps.length k5, .slice a6 M.elems.length k6, .slice a7 M.datas.length k7], .int .i64 f] W fun e w' => ∃ pa pl pc, rv0 = pl ∧ e = .returned (.tuple #[.agg #[.slice pa pl pc, .int .u8 rv1], .bool ok]) ∧ Below W.heap.size W w') ∧
      (ok = false → ty? M f = none) ∧ (ok = true → ∃ t, ty? M f = some t ∧ rv0 = t.ps.length ∧ rv1 = t.re) := by
    have h := unhide HTy
    cases ho : ty? M f with
    | none =>
      rw [ho] at h
      refine ⟨0, 0, false, fun W hW => (show TyNo _ _ _ _ from h W hW).mono ?_, fun _ => rfl, (fun h => by cases h)⟩
      rintro e w' ⟨rfl, hb⟩
      exact ⟨_, _, _, rfl, rfl, hb⟩
    | some t =>
      rw [ho] at h
      refine ⟨t.ps.length, t.re, true, fun W hW => (show TyYes _ _ _ _ _ _ from h W hW).mono ?_, (fun h => by cases h), fun _ => ⟨t, rfl, rfl, rfl⟩⟩
      rintro e w' ⟨pa, pc, rfl, -, hb⟩
      exact ⟨_, _, _, rfl, rfl, hb⟩
  obtain ⟨pl, tre, ok, htc, hok0, hok1⟩ := htyc
  have HTc := hide htc; have HOk0 := hide hok0; have HOk1 := hide hok1
  clear htc hok0 hok1 HTy
  obtain ⟨p0, p1, p2, p3, p4, p5, p6, p7⟩ := mbox8 (unhide HR1)
  obtain ⟨q0, q1, q2, q3, -, -⟩ := cob_cells (unhide HR2)
  generalize M.types.length = n0 at *; generalize M.funcs.length = n1 at *; generalize M.tables.length = n2 at *; generalize M.mems.length = n3 at *; generalize M.globs.length = n4 at *; generalize M.exps.length = n5 at *; generalize M.elems.length = n6 at *; generalize M.datas.length = n7 at *
  generalize hL : bl.length = bn at *
  have HL := hide hL; clear hL
  go_enter Tryz.func11, Tryz.ntmps11
  go_upto_region 1 with fail
  rw [unhide HW]
  go_wp2_with fail
  refine (unhide HTc W0 (unhide HB0)).mono ?_
  rintro e w1 ⟨qa, ql, qc, rfl, rfl, hb1⟩
  obtain ⟨W3, hW3⟩ : ∃ W, w1.alloc (.cells #[.slice qa pl qc, .int .u8 tre] 59) = W := ⟨_, rfl⟩
  have hr3 : W3.heap[w1.heap.size]? = some (.cells #[.slice qa pl qc, .int .u8 tre] 59 (0, 0)) := by rw [← hW3]; exact heap_alloc_new _ _
  have hb3 : Below w1.heap.size w1 W3 := by rw [← hW3]; exact one_alloc _ _
  have hb23 := hb1.trans (hb3.mono hb1.size)
  have HB3 := hide (Gm.Below.on0 (unhide HB0) hb23 (unhide HB0).size)
  have HM3 := hide ((hb23.block _ hlw0).trans (unhide HR1))
  have HC3 := hide ((hb23.block _ (unhide HL0)).trans (unhide HR2))
  have HT3 := hide hr3
  have HW3 := hide hW3
  clear hb1 hb3 hb23 hr3 hW3 p0 p1 p2 p3 p4 p5 p6 p7 q0 q1 q2 q3
  obtain ⟨q0, q1, q2, q3, -, -⟩ := cob_cells (unhide HC3)
  go_upto_region 2 with fail
  rw [unhide HW3]
  clear HW3
  generalize hNT : w1.heap.size = NT at *
  have HNT := hide hNT; clear hNT
  go_wp2_with fail
  refine (unhide HMay W3 (unhide HB3)).mono ?_
  rintro e w4 ⟨rfl, hb4⟩
  have HB4 := hide (Gm.Below.on0 (unhide HB3) hb4 (unhide HB3).size)
  have HM4 := hide ((hb4.block _ (Array.getElem?_eq_some_iff.1 (unhide HM3)).1).trans (unhide HM3))
  have HC4 := hide ((hb4.block _ (Array.getElem?_eq_some_iff.1 (unhide HC3)).1).trans (unhide HC3))
  have HT4 := hide ((hb4.block _ (Array.getElem?_eq_some_iff.1 (unhide HT3)).1).trans (unhide HT3))
  clear hb4 q0 q1 q2 q3 HM3 HC3 HT3
  obtain ⟨q0, q1, q2, q3, -, -⟩ := cob_cells (unhide HC4)
  obtain ⟨t0, t1⟩ := Gm.cel2 (unhide HT4)
  cases hck : chk ⟨pa, re, rs, bl⟩ with
  | false =>
    have HRes := hide (show E = 1 by rw [unhide HD, hck]; rfl)
    clear hck HD
    go_wp2
    go_ret
    exact ⟨ret_int (unhide HRes).symm, unhide HB4⟩
  | true =>
  have HD2 := hide (show E = (match ty? M f with
    | none => 1
    | some t => if pa = t.ps.length ∧ rs = decide (t.re ≠ 0) then (if mntA M bl then 0 else 7) else 7) by rw [unhide HD, hck]; rfl)
  have HMb2 := hide (unhide HMb hck)
  clear hck HD HMb
  cases ok with
  | false =>
    have HRes := hide (show E = 1 by rw [unhide HD2, unhide HOk0 rfl])
    clear HD2 HOk0 HOk1
    go_wp2
    go_ret
    exact ⟨ret_int (unhide HRes).symm, unhide HB4⟩
  | true =>
  have HD3 := hide (show E = if pa = (pl : Int) ∧ rs = decide (tre ≠ 0) then (if mntA M bl then 0 else 7) else 7 by
    obtain ⟨t, h1, h2, h3⟩ := unhide HOk1 rfl
    rw [unhide HD2, h1, h2, h3])
  clear HD2 HOk0 HOk1
  by_cases hp : ¬ pa = (pl : Int)
  · have HRes := hide (show E = 7 by rw [unhide HD3, if_neg (fun h => hp h.1)])
    have hp1 : (pa != (pl : Int)) = true := by simpa using hp
    clear hp
    go_wp2
    go_ret
    exact ⟨ret_int (unhide HRes).symm, unhide HB4⟩
  have hp := Decidable.not_not.1 hp
  by_cases hr : ¬ rs = decide (tre ≠ 0)
  · have HRes := hide (show E = 7 by rw [unhide HD3, if_neg (fun h => hr h.2)])
    have hp1 : (pa != (pl : Int)) = false := by simpa using hp
    have hr1 : (tre != 0) = !rs := by
      have : (tre != 0) = decide (tre ≠ 0) := by by_cases h : tre = 0 <;> simp [h]
      rw [this]; revert hr; cases rs <;> cases decide (tre ≠ 0) <;> simp
    clear hp hr
    go_wp2
    go_ret
    exact ⟨ret_int (unhide HRes).symm, unhide HB4⟩
  have hr := Decidable.not_not.1 hr
  have HD4 := hide (show E = if mntA M bl then 0 else 7 by rw [unhide HD3, if_pos ⟨hp, hr⟩])
  have hp1 : (pa != (pl : Int)) = false := by simpa using hp
  have hr1 : (tre != 0) = rs := by
    have : (tre != 0) = decide (tre ≠ 0) := by by_cases h : tre = 0 <;> simp [h]
    rw [this, hr]
  clear hp hr HD3
  go_wp2_with fail
  clear q0 q1 q2 q3 t0 t1 hp1 hr1
  go_loopw [9] (fun c wr => ∃ j : Nat, c = .int .i64 j ∧ (j : Int) ≤ bn ∧ (∀ i x, i < j → bl[i]? = some x → x.ins.all (mnt M) = true) ∧ Below w4.heap.size w4 wr) (fun c _ => bn - (intOf c).toNat)
  case atStart => exact ⟨0, rfl, by omega, fun i x h => absurd h (by omega), Below.refl _ _⟩
  case round =>
    obtain ⟨j, rfl, hj, hall, hbel⟩ := hrel
    have HAll := hide hall; clear hall
    have hbW := Gm.Below.on0 (unhide HB4) hbel (unhide HB4).size
    have hCw := (hbel.block _ (Array.getElem?_eq_some_iff.1 (unhide HC4)).1).trans (unhide HC4)
    obtain ⟨q0, q1, q2, q3, -, -⟩ := cob_cells hCw
    clear hCw
    by_cases hlt : (j : Int) < bn
    · obtain ⟨x, hx⟩ : ∃ x, bl[j]? = some x := ⟨_, List.getElem?_eq_getElem (by have := unhide HL; omega)⟩
      obtain ⟨b, o, rfl, hgb, hblt, hit⟩ := unhide HA (by omega)
      obtain ⟨cs, hcl, ⟨vi, vn, rfl, hi, hn⟩, hce⟩ := hit j x hx
      have HE0 := hide (hce 0 _ rfl)
      simp only [Nat.add_zero] at HE0
      have hwx := unhide HBs x (List.mem_of_getElem? hx)
      have hxl := hwx.len
      have hop := fun y (hy : y ∈ x.ins) => And.intro (hwx.ins y hy).op (And.intro (hwx.ins y hy).len (unhide HMb2 x (List.mem_of_getElem? hx) y hy))
      obtain ⟨ai, ci, rfl, hci, -, hI⟩ := hi
      have HX := hide hx; have HBel := hide hbel; have HI := hide hI; have HOp := hide hop; have HBW := hide hbW
      clear hit hcl hce hbel hwx hI hop hx hbW hj hn
      have hins : ∀ i y, x.ins[i]? = some y → y ∈ x.ins := fun i y h => List.mem_of_getElem? h
      have HIns := hide hins; clear hins
      generalize hil : x.ins.length = il at *
      have HIl := hide hil; clear hil
      go_wp2_with fail
      clear q0 q1 q2 q3
      generalize hww : wr = WR at *
      clear hww
      go_loopw [10] (fun c wr => ∃ k : Nat, c = .int .i64 k ∧ (k : Int) ≤ il ∧ (∀ i y, i < k → x.ins[i]? = some y → mnt M y = true) ∧ Below w4.heap.size w4 wr) (fun c _ => il - (intOf c).toNat)
      case atStart => exact ⟨0, rfl, by omega, fun i y h => absurd h (by omega), unhide HBel⟩
      case round =>
        obtain ⟨k, rfl, hk, hall2, hbel2⟩ := hrel
        have HAll2 := hide hall2; clear hall2
        have hbW2 := Gm.Below.on0 (unhide HB4) hbel2 (unhide HB4).size
        have hCw := (hbel2.block _ (Array.getElem?_eq_some_iff.1 (unhide HC4)).1).trans (unhide HC4)
        obtain ⟨q0, q1, q2, q3, -, ql⟩ := cob_cells hCw
        have u0 : wr.cell? ⟨b, o + j * 3, none⟩ = some (.slice ai il ci) := (hbW2.cell (p := ⟨b, o + j * 3, none⟩) hblt).trans (unhide HE0)
        clear hCw
        by_cases hlt2 : (k : Int) < il
        · obtain ⟨y, hy⟩ : ∃ y, x.ins[k]? = some y := ⟨_, List.getElem?_eq_getElem (by have := unhide HIl; omega)⟩
          obtain ⟨bi, oi, rfl, hgi, hilt, hiti⟩ := unhide HI (by have := unhide HIl; omega)
          obtain ⟨cs, hcl, ⟨vs, rfl, hsr⟩, hce⟩ := hiti k y hy
          have cc1 := fun i u hu => (hbW2.cell (p := ⟨bi, oi + k * 5 + i, none⟩) hilt).trans (hce i u hu)
          have e0 := cc1 0 _ rfl; have e1 := cc1 1 _ rfl; have e2 := cc1 2 _ rfl; have e3 := cc1 3 _ rfl; have e4 := cc1 4 _ rfl
          simp only [Nat.add_zero] at e0
          obtain ⟨hoy, hyln, hymb⟩ := unhide HOp y (unhide HIns k y hy)
          obtain ⟨sa, sc, rfl, -⟩ := hsr
          obtain ⟨p0, p1, p2, p3, p4, p5, p6, p7⟩ := mbox8 ((hbel2.block _ (Array.getElem?_eq_some_iff.1 (unhide HM4)).1).trans (unhide HM4))
          have hFt := fun d => unhide HFt (wr.drewN d) (hbW2.trans ((drewn wr d).mono hbW2.size)) y hoy hyln hymb sa sc
          have HFt2 := hide hFt
          have HY := hide hy; have HBel2 := hide hbel2; have HBw2 := hide hbW2
          clear hiti hcl hce cc1 hbel2 hbW2 hy hk hFt hoy hyln hymb q0 q1 q2
          have dk : decide ((k : Int) < (il : Int)) = true := decide_eq_true hlt2
          cases hm : mnt M y with
          | _ =>
            rw [hm] at HFt2
            have HM0 := hide hm
            clear hm
            obtain ⟨yop, ydst, ysrc, yn, yof⟩ := y
            simp only at *
            generalize hyl : ysrc.length = yl at *
            have HYl := hide hyl; clear hyl
            have l0 : w.heap.size < wr.heap.size := World.block_lt_of_cell? wr _ p0
            have l1 : b < wr.heap.size := World.block_lt_of_cell? wr _ u0
            have l2 : bi < wr.heap.size := World.block_lt_of_cell? wr _ e0
            go_upto_region 12 with fail
            go_region_held3 (fun w' => w'.cell? ⟨w.heap.size, 0, none⟩ = some (.slice a0 n0 k0) ∧ w'.cell? ⟨w.heap.size, 1, none⟩ = some (.slice a1 n1 k1) ∧ w'.cell? ⟨w.heap.size, 2, none⟩ = some (.slice a2 n2 k2) ∧ w'.cell? ⟨w.heap.size, 3, none⟩ = some (.slice a3 n3 k3) ∧ w'.cell? ⟨w.heap.size, 4, none⟩ = some (.slice a4 n4 k4) ∧ w'.cell? ⟨w.heap.size, 5, none⟩ = some (.slice a5 n5 k5) ∧ w'.cell? ⟨w.heap.size, 6, none⟩ = some (.slice a6 n6 k6) ∧ w'.cell? ⟨w.heap.size, 7, none⟩ = some (.slice a7 n7 k7) ∧ w'.cell? ⟨w.heap.size + 1, 3, none⟩ = some (.slice (some ⟨b, o, none⟩) bn cc) ∧ w'.cell? ⟨b, o + j * 3, none⟩ = some (.slice (some ⟨bi, oi, none⟩) il ci) ∧ w'.cell? ⟨bi, oi + k * 5, none⟩ = some (.int .u8 (yop : Int)) ∧ w'.cell? ⟨bi, oi + k * 5 + 1, none⟩ = some (.int .i64 ydst) ∧ w'.cell? ⟨bi, oi + k * 5 + 2, none⟩ = some (.slice sa yl sc) ∧ w'.cell? ⟨bi, oi + k * 5 + 3, none⟩ = some (.int .i64 yn) ∧ w'.cell? ⟨bi, oi + k * 5 + 4, none⟩ = some (.int .u32 yof))
              (first | go_keep | exact ⟨p0, p1, p2, p3, p4, p5, p6, p7, q3, u0, e0, e1, e2, e3, e4⟩ | exact ⟨(hk5 _ _ l0).trans p0, (hk5 _ _ l0).trans p1, (hk5 _ _ l0).trans p2, (hk5 _ _ l0).trans p3, (hk5 _ _ l0).trans p4, (hk5 _ _ l0).trans p5, (hk5 _ _ l0).trans p6, (hk5 _ _ l0).trans p7, (hk5 _ _ ql).trans q3, (hk5 _ _ l1).trans u0, (hk5 _ _ l2).trans e0, (hk5 _ _ l2).trans e1, (hk5 _ _ l2).trans e2, (hk5 _ _ l2).trans e3, (hk5 _ _ l2).trans e4⟩ | fail)
              (first
                | (go_at_call 26; refine (unhide HFt2 1).mono ?_; rintro e w5 ⟨rfl, hb5⟩; have hk5 : ∀ b o, b < wr.heap.size → w5.cell? ⟨b, o, none⟩ = wr.cell? ⟨b, o, none⟩ := (fun b o hlt => ((drewn wr 1).trans (hb5.mono (drewn wr 1).size)).cell (p := ⟨b, o, none⟩) hlt); have HB5 := hide ((unhide HBel2).trans (((drewn wr 1).trans (hb5.mono (drewn wr 1).size)).mono (unhide HBel2).size)); clear hb5)
                | fail)
            clear p0 p1 p2 p3 p4 p5 p6 p7 e0 e1 e2 e3 e4 q3 u0 hk5
            first
            | (have hff := unhide HM0
               have HRes := hide (show E = 7 by rw [unhide HD4, unhide ANo j x (unhide HX) (insA_no (unhide HY) (show mnt M _ = false from hff))]; rfl)
               clear hff
               go_wp2
               go_ret
               exact ⟨ret_int (unhide HRes).symm, Gm.Below.on0 (unhide HB4) (unhide HB5) (unhide HB4).size⟩)
            | (go_wp2
               go_roundw
               case rel => exact ⟨k + 1, by go_num, by omega, fun i z hi hz => by
                 by_cases e : i = k
                 · subst e
                   obtain rfl := Option.some.inj ((unhide HY).symm.trans hz)
                   exact unhide HM0
                 · exact unhide HAll2 i z (by omega) hz, unhide HB5⟩
               case measure => simp [intOf]; omega)
        · obtain rfl : k = il := by omega
          have HBel2 := hide hbel2
          have HYes := hide (insA_yes (M := M) (l := x.ins) fun i y hi hq => unhide HAll2 i y (by have := unhide HIl; omega) hq)
          clear hk hlt2 hbel2 hbW2
          go_wp2
          go_roundw
          case rel => exact ⟨j + 1, by go_num, by omega, fun i z hi hz => by
            by_cases e : i = j
            · subst e
              obtain rfl := Option.some.inj ((unhide HX).symm.trans hz)
              exact unhide HYes
            · exact unhide HAll i z (by omega) hz, unhide HBel2⟩
          case measure => simp [intOf]; omega
    · obtain rfl : j = bn := by omega
      have HRes := hide (show E = 0 by
        rw [unhide HD4, show mntA M bl = true from unhide AYes fun i x hi hx => unhide HAll i x (by have := unhide HL; omega) hx]; rfl)
      have HBW := hide hbW
      clear hj hlt hbel hbW
      go_wp2
      go_ret
      exact ⟨ret_int (unhide HRes).symm, unhide HBW⟩
end Vc
end Go.Proofs.YtheopjcmhclgdaaGreatDoor
