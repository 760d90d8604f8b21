/- inst.Find at the module that sure makes; sure. -/
import Derived.Test.YtcljcnaglkbjcaaGreatDoorInB
import Derived.Test.YtcljcnaglkbjcaaGreatDoorNum
import Derived.Test.YtcljcnaglkbjcaaGreatDoorOpI
namespace Go.Proofs.YtcljcnaglkbjcaaGreatDoor
open Go.RowKit Go.Maps Go.Shelf
set_option linter.unusedVariables false

set_option maxRecDepth 100000 in
set_option maxHeartbeats 1000000 in
theorem find0 {w : World} {bm bd be : Nat} {y : Value} (h : M0 w bm bd be y) :
    Calls Tryz.prog 17 #[.agg #[.slice none 0 0, .slice none 0 0, .slice none 0 0, .slice (some ⟨bm, 0, none⟩) 1 1, .slice none 0 0, .slice (some ⟨be, 0, none⟩) 1 1, .slice none 0 0, .slice (some ⟨bd, 0, none⟩) 1 1], .string ⟨#[109]⟩] w fun e w' => e = .returned (.tuple #[.int .i64 0, .iface 135 (.int .i64 10)]) ∧ Below w.heap.size w w' := by
  have c0 := h.e0; have c1 := h.e1; have c2 := h.e2
  have hlt := h.lte
  clear h
  have n0 : ¬ be = w.heap.size := by omega
  have hb0 : Below w.heap.size w ((w.alloc (.cells #[.slice none 0 0, .slice none 0 0, .slice none 0 0, .slice (some ⟨bm, 0, none⟩) 1 1, .slice none 0 0, .slice (some ⟨be, 0, none⟩) 1 1, .slice none 0 0, .slice (some ⟨bd, 0, none⟩) 1 1] 47)).alloc (.cells #[.string ⟨#[109]⟩, .int .u8 2, .int .u32 0] 129)) := ((Below.refl _ _).alloc (Nat.le_refl _) _).alloc (by simp) _
  have HB0 := hide hb0; clear hb0
  go_enter Tryz.func17, Tryz.ntmps17
  go_wp2
  refine wp_loop_rounds 2 ?_
  rw [rounds_succ]
  go_wp2
  rw [rounds_succ]
  go_wp2
  go_ret2
  exact ⟨rfl, unhide HB0⟩

/-- what is asked of the variables: ops' tables, errors.errorType -/
def Gl (w : World) : Prop := Tb w ∧ ErrT w
theorem Gl.below {w w' : World} (h : Gl w) (hb : Below w.heap.size w w') : Gl w' := ⟨h.1.below hb, h.2.below (Nat.le_refl _) hb⟩
theorem St0.below {w w' : World} {sb mb mg : Nat} (h : St0 w sb mb mg) (hb : Below w.heap.size w w') : St0 w' sb mb mg := by
  obtain ⟨ga, gc, hs⟩ := h.st
  exact ⟨⟨ga, gc, (hb.block _ (Array.getElem?_eq_some_iff.1 hs).1).trans hs⟩, h.m.below (Nat.le_refl _) hb⟩
theorem St0.put {w : World} {sb mb mg bd : Nat} (h : St0 w sb mb mg) {cs : Array Value} (hd : w.heap[bd]? = some (.cells cs 128 (0, 0))) (j : Nat) (v : Value) : St0 (w.setCell ⟨bd, j, none⟩ v) sb mb mg := by
  obtain ⟨ga, gc, hs⟩ := h.st
  have n1 : sb ≠ bd := by rintro rfl; have := hd.symm.trans hs; simp at this
  have n2 : mb ≠ bd := by rintro rfl; have := hd.symm.trans h.m.box; simp at this
  have n3 : mg ≠ bd := by rintro rfl; obtain ⟨cur, hc, _⟩ := h.m.row; have := hd.symm.trans hc; simp at this
  exact ⟨⟨ga, gc, (heap_setCell_other w _ _ _ n1).trans hs⟩, h.m.keep (heap_setCell_other w _ _ _ n2) (heap_setCell_other w _ _ _ n3)⟩
theorem M0.put {w : World} {bm bd be : Nat} {y : Value} (h : M0 w bm bd be y) (v : Value) (n1 : bm ≠ bd) (n2 : be ≠ bd) : M0 (w.setCell ⟨bd, 9, none⟩ v) bm bd be v :=
  ⟨(heap_setCell_other w _ _ _ n1).trans h.lim, (heap_setCell_same w bd 9 _ _ v h.dat).trans rfl, (heap_setCell_other w _ _ _ n2).trans h.exp⟩

set_option maxRecDepth 100000 in
set_option maxHeartbeats 1000000 in
theorem sure_any (w : World) (hG : Gl w) :
    Calls Tryz.prog 11 #[] w fun e w' => e = .returned (.bool true) ∧ Below w.heap.size w w' := by
  obtain ⟨B, hB⟩ : ∃ B, B = w.heap.size := ⟨_, rfl⟩
  obtain ⟨wL, eL⟩ : ∃ wL, wL = w.alloc (.cells #[.int .u32 1, .bool false, .int .u32 0] 122) := ⟨_, rfl⟩
  obtain ⟨wD, eD⟩ : ∃ wD, wD = wL.alloc (.cells #[.int .u32 0, .int .u8 65, .int .i64 4096, .int .u32 0, .int .u32 0, .int .u8 0, .slice none 0 0, .slice none 0 0, .slice none 0 0, .slice none 0 0] 128) := ⟨_, rfl⟩
  obtain ⟨wE, eE⟩ : ∃ wE, wE = wD.alloc (.cells #[.string ⟨#[109]⟩, .int .u8 2, .int .u32 0] 129) := ⟨_, rfl⟩
  obtain ⟨w4, e4⟩ : ∃ w4, w4 = wE.alloc (.cells #[.slice none 0 0, .slice none 0 0, .slice none 0 0, .slice (some ⟨w.heap.size, 0, none⟩) 1 1, .slice none 0 0, .slice (some ⟨w.heap.size + 1 + 1, 0, none⟩) 1 1, .slice none 0 0, .slice (some ⟨w.heap.size + 1, 0, none⟩) 1 1] 47) := ⟨_, rfl⟩
  have zL : wL.heap.size = w.heap.size + 1 := by rw [eL]; simp
  have zD : wD.heap.size = w.heap.size + 1 + 1 := by rw [eD, ← zL]; simp
  have zE : wE.heap.size = w.heap.size + 1 + 1 + 1 := by rw [eE, ← zD]; simp
  have bL : Below w.heap.size w wL := by rw [eL]; exact (Below.refl _ _).alloc (Nat.le_refl _) _
  have bD : Below wL.heap.size wL wD := by rw [eD]; exact (Below.refl _ _).alloc (Nat.le_refl _) _
  have bE : Below wD.heap.size wD wE := by rw [eE]; exact (Below.refl _ _).alloc (Nat.le_refl _) _
  have b4 : Below wE.heap.size wE w4 := by rw [e4]; exact (Below.refl _ _).alloc (Nat.le_refl _) _
  have rL : wL.heap[w.heap.size]? = some (.cells #[.int .u32 1, .bool false, .int .u32 0] 122 (0, 0)) := by rw [eL]; exact heap_alloc_new _ _
  have rD : wD.heap[w.heap.size + 1]? = some (.cells #[.int .u32 0, .int .u8 65, .int .i64 4096, .int .u32 0, .int .u32 0, .int .u8 0, .slice none 0 0, .slice none 0 0, .slice none 0 0, .slice none 0 0] 128 (0, 0)) := by rw [← zL, eD]; exact heap_alloc_new _ _
  have rE : wE.heap[w.heap.size + 1 + 1]? = some (.cells #[.string ⟨#[109]⟩, .int .u8 2, .int .u32 0] 129 (0, 0)) := by rw [← zD, eE]; exact heap_alloc_new _ _
  have r4 : w4.heap[w.heap.size + 1 + 1 + 1]? = some (.cells #[.slice none 0 0, .slice none 0 0, .slice none 0 0, .slice (some ⟨w.heap.size, 0, none⟩) 1 1, .slice none 0 0, .slice (some ⟨w.heap.size + 1 + 1, 0, none⟩) 1 1, .slice none 0 0, .slice (some ⟨w.heap.size + 1, 0, none⟩) 1 1] 47 (0, 0)) := by rw [e4, ← zE]; exact heap_alloc_new _ _
  have hM : M0 w4 w.heap.size (w.heap.size + 1) (w.heap.size + 1 + 1) (.slice none 0 0) :=
    ⟨(b4.block _ (by omega)).trans ((bE.block _ (by omega)).trans ((bD.block _ (by omega)).trans rL)), (b4.block _ (by omega)).trans ((bE.block _ (by omega)).trans rD), (b4.block _ (by omega)).trans rE⟩
  have hb4 : Below w.heap.size w w4 := Below.on (Below.on (Below.on bL bD) bE) b4
  have E4 : ((((w.alloc (.cells #[.int .u32 1, .bool false, .int .u32 0] 122)).alloc (.cells #[.int .u32 0, .int .u8 65, .int .i64 4096, .int .u32 0, .int .u32 0, .int .u8 0, .slice none 0 0, .slice none 0 0, .slice none 0 0, .slice none 0 0] 128)).alloc (.cells #[.string ⟨#[109]⟩, .int .u8 2, .int .u32 0] 129)).alloc (.cells #[.slice none 0 0, .slice none 0 0, .slice none 0 0, .slice (some ⟨w.heap.size, 0, none⟩) 1 1, .slice none 0 0, .slice (some ⟨w.heap.size + 1 + 1, 0, none⟩) 1 1, .slice none 0 0, .slice (some ⟨w.heap.size + 1, 0, none⟩) 1 1] 47)) = w4 := by rw [e4, eE, eD, eL]
  have HG := hide hG; have HM := hide hM; have HB4 := hide hb4; have R4 := hide r4; have HE4 := hide E4
  clear hG hM hb4 r4 E4 eL eD eE e4 zL zD zE bL bD bE b4 rL rD rE hB
  go_enter Tryz.func11, Tryz.ntmps11
  go_wp2_with fail
  rw [unhide HE4]
  refine (new0 0 (by omega) (unhide HM) ((unhide HG).below (unhide HB4)).1.2.1).mono ?_
  rintro e w5 ⟨hP, hb5⟩
  obtain ⟨sb, mb, mg, rfl, hS⟩ := hP.1 rfl
  have hM5 := (unhide HM).below hb5
  have r5 := (hb5.block _ (Array.getElem?_eq_some_iff.1 (unhide R4)).1).trans (unhide R4)
  have b5 := Below.on (unhide HB4) hb5
  have l5 := (Array.getElem?_eq_some_iff.1 r5).1
  have ld := hM5.ltd
  have lt1 : w.heap.size + 1 ≤ w5.heap.size := by omega
  obtain ⟨p0, p1, p2, p3, p4, p5, p6, p7⟩ := mbox r5
  obtain ⟨d0, d1, d2, d3, d4, d5, d6, d7, d8, d9⟩ := dbox hM5.dat
  have fz : w5.frozen? ⟨w.heap.size + 1, 9, none⟩ = false := frozen_of_row w5 _ 9 _ _ hM5.dat
  have hs6 : Below w.heap.size w (w5.setCell ⟨w.heap.size + 1, 9, none⟩ (.slice (some ⟨w5.heap.size, 0, none⟩) 1 1)) := b5.setCell (p := ⟨w.heap.size + 1, 9, none⟩) (by simp) _
  have m6 := hM5.put (.slice (some ⟨w5.heap.size, 0, none⟩) 1 1) (by omega) (by omega)
  have s6 := hS.put hM5.dat 9 (.slice (some ⟨w5.heap.size, 0, none⟩) 1 1)
  have r6 := (heap_setCell_other w5 ⟨w.heap.size + 1, 9, none⟩ (w.heap.size + 1 + 1 + 1) (.slice (some ⟨w5.heap.size, 0, none⟩) 1 1) (by simp; omega)).trans r5
  have ha6 := (Below.refl (w5.setCell ⟨w.heap.size + 1, 9, none⟩ (.slice (some ⟨w5.heap.size, 0, none⟩) 1 1)).heap.size (w5.setCell ⟨w.heap.size + 1, 9, none⟩ (.slice (some ⟨w5.heap.size, 0, none⟩) 1 1))).alloc (Nat.le_refl _) (.cells #[.int .u8 1] 5)
  have B6 := hide (Below.on hs6 ha6); have M6 := hide (m6.below ha6); have S6 := hide (s6.below ha6); have R6 := hide ((ha6.block _ (Array.getElem?_eq_some_iff.1 r6).1).trans r6)
  clear hP hb5 hS hM5 r5 b5 ha6 hs6 m6 s6 r6 HM HB4 R4 HE4 d0 d1 d2 d3 d4 d5 d6 d7 d8
  go_wp2_with fail
  have l6 := (Array.getElem?_eq_some_iff.1 (unhide R6)).1
  clear p0 p1 p2 p3 p4 p5 p6 p7 d9 fz
  generalize (w5.setCell ⟨w.heap.size + 1, 9, none⟩ (.slice (some ⟨w5.heap.size, 0, none⟩) 1 1)).alloc (.cells #[.int .u8 1] 5) = w6 at *
  refine (new0 1 (by omega) (unhide M6) ((unhide HG).below (unhide B6)).1.2.1).mono ?_
  rintro e w7 ⟨hP, hb7⟩
  obtain rfl := hP.2 rfl
  have m7 := (unhide M6).below hb7
  have s7 := (unhide S6).below hb7
  have r7 := (hb7.block _ l6).trans (unhide R6)
  have b7 := Below.on (unhide B6) hb7
  have B7 := hide b7; have M7 := hide m7; have S7 := hide s7; have R7 := hide r7
  clear hP hb7 m7 s7 r7 b7 B6 M6 S6 R6 l6
  obtain ⟨q0, q1, q2, q3, q4, q5, q6, q7⟩ := mbox (unhide R7)
  have l7 := (Array.getElem?_eq_some_iff.1 (unhide R7)).1
  go_wp2_with fail
  refine (find0 (unhide M7)).mono ?_
  rintro e w8 ⟨rfl, hb8⟩
  have s8 := (unhide S7).below hb8
  have b8 := Below.on (unhide B7) hb8
  obtain ⟨ga, gc, hst⟩ := s8.st
  obtain ⟨t0, t1, t2⟩ := ebox hst
  have lsb := (Array.getElem?_eq_some_iff.1 hst).1
  have HPg := hide (pages_any s8.m)
  have B8 := hide b8
  clear hb8 s8 b8 hst t1 t2 B7 M7 S7 R7 q0 q1 q2 q3 q4 q5 q6 q7 l7
  go_wp2_with fail
  refine (unhide HPg).mono ?_
  rintro e w9 ⟨rfl, rfl⟩
  go_wp2_with fail
  refine (num_hit 12 _ ((unhide HG).below (unhide B8)).2).mono ?_
  rintro e w9 ⟨rfl, hb9⟩
  have B9 := hide (Below.on (unhide B8) hb9)
  clear hb9 B8 HPg
  go_wp2_with fail
  refine (num_hit 10 _ ((unhide HG).below (unhide B9)).2).mono ?_
  rintro e w10 ⟨rfl, hb10⟩
  have B10 := hide (Below.on (unhide B9) hb10)
  clear hb10 B9
  go_wp2
  go_ret
  exact ⟨rfl, unhide B10⟩
end Go.Proofs.YtcljcnaglkbjcaaGreatDoor
