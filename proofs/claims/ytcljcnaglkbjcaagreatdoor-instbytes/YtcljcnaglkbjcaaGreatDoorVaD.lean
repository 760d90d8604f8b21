/- valid.Check of the module that sure makes. -/
import Derived.Test.YtcljcnaglkbjcaaGreatDoorVaC
namespace Go.Proofs.YtcljcnaglkbjcaaGreatDoor
open Go.RowKit Go.Maps Go.Shelf
set_option linter.unusedVariables false

theorem mbox {w : World} {x0 x1 x2 x3 x4 x5 x6 x7 : Value} {B : Nat} {t : TypeId} (h : w.heap[B]? = some (.cells #[x0, x1, x2, x3, x4, x5, x6, x7] t (0, 0))) :
    w.cell? ⟨B, 0, none⟩ = some x0 ∧ w.cell? ⟨B, 1, none⟩ = some x1 ∧ w.cell? ⟨B, 2, none⟩ = some x2 ∧ w.cell? ⟨B, 3, none⟩ = some x3 ∧ w.cell? ⟨B, 4, none⟩ = some x4 ∧ w.cell? ⟨B, 5, none⟩ = some x5 ∧ w.cell? ⟨B, 6, none⟩ = some x6 ∧ w.cell? ⟨B, 7, none⟩ = some x7 := by
  refine ⟨?_, ?_, ?_, ?_, ?_, ?_, ?_, ?_⟩ <;> (rw [cell_of_row w B _ _ _ _ h]; rfl)

set_option maxRecDepth 100000 in
set_option maxHeartbeats 1000000 in
theorem inLimits0 {w : World} {bm bd be yl yc : Nat} {ya : Option Addr} (h : M0 w bm bd be (.slice ya yl yc)) :
    Calls Tryz.prog 65 #[.agg #[.slice none 0 0, .slice none 0 0, .slice none 0 0, .slice (some ⟨bm, 0, none⟩) 1 1, .slice none 0 0, .slice (some ⟨be, 0, none⟩) 1 1, .slice none 0 0, .slice (some ⟨bd, 0, none⟩) 1 1]] w fun e w' => e = .returned (.bool true) ∧ Below w.heap.size w w' := by
  have hb0 : Below w.heap.size w (w.alloc (.cells #[.slice none 0 0, .slice none 0 0, .slice none 0 0, .slice (some ⟨bm, 0, none⟩) 1 1, .slice none 0 0, .slice (some ⟨be, 0, none⟩) 1 1, .slice none 0 0, .slice (some ⟨bd, 0, none⟩) 1 1] 47)) := (Below.refl _ _).alloc (Nat.le_refl _) _
  have HB0 := hide hb0; have HM := hide h
  clear hb0 h
  go_enter Tryz.func65, Tryz.ntmps65
  go_wp2_with fail
  have hr := heap_alloc_new w (.cells #[.slice none 0 0, .slice none 0 0, .slice none 0 0, .slice (some ⟨bm, 0, none⟩) 1 1, .slice none 0 0, .slice (some ⟨be, 0, none⟩) 1 1, .slice none 0 0, .slice (some ⟨bd, 0, none⟩) 1 1] 47)
  have HR := hide hr; clear hr
  generalize w.alloc (.cells #[.slice none 0 0, .slice none 0 0, .slice none 0 0, .slice (some ⟨bm, 0, none⟩) 1 1, .slice none 0 0, .slice (some ⟨be, 0, none⟩) 1 1, .slice none 0 0, .slice (some ⟨bd, 0, none⟩) 1 1] 47) = w0 at *
  refine (all0_L _ _ _ _ _).mono ?_
  rintro e w1 ⟨rfl, hb1⟩
  have hr1 := (hb1.block _ (Array.getElem?_eq_some_iff.1 (unhide HR)).1).trans (unhide HR)
  have hlt := (Array.getElem?_eq_some_iff.1 hr1).1
  obtain ⟨q0, q1, q2, q3, q4, q5, q6, q7⟩ := mbox hr1
  have HB1 := hide (Below.on (unhide HB0) hb1)
  clear hb1 hr1 HR HB0 q0 q1 q2 q4 q5 q6 q7
  go_wp2_with fail
  refine (all1_L ((unhide HM).below (unhide HB1)) 94 (enters_of Tryz.func94 (by kernel_rfl) rfl) true fun W => lim2_any 1 0 false W).mono ?_
  rintro e w2 ⟨rfl, hb2⟩
  have HB2 := hide (Below.on (unhide HB1) hb2); clear hb2
  go_wp2
  go_ret
  exact ⟨rfl, unhide HB2⟩

set_option maxRecDepth 100000 in
set_option maxHeartbeats 1000000 in
theorem kindsRight0 {w : World} {bm bd be yl yc : Nat} {ya : Option Addr} (h : M0 w bm bd be (.slice ya yl yc)) :
    Calls Tryz.prog 66 #[.agg #[.slice none 0 0, .slice none 0 0, .slice none 0 0, .slice (some ⟨bm, 0, none⟩) 1 1, .slice none 0 0, .slice (some ⟨be, 0, none⟩) 1 1, .slice none 0 0, .slice (some ⟨bd, 0, none⟩) 1 1]] w fun e w' => e = .returned (.bool true) ∧ Below w.heap.size w w' := by
  have hb0 : Below w.heap.size w (w.alloc (.cells #[.slice none 0 0, .slice none 0 0, .slice none 0 0, .slice (some ⟨bm, 0, none⟩) 1 1, .slice none 0 0, .slice (some ⟨be, 0, none⟩) 1 1, .slice none 0 0, .slice (some ⟨bd, 0, none⟩) 1 1] 47)) := (Below.refl _ _).alloc (Nat.le_refl _) _
  have HB0 := hide hb0
  clear hb0 h
  go_enter Tryz.func66, Tryz.ntmps66
  go_wp2_with fail
  have hr := heap_alloc_new w (.cells #[.slice none 0 0, .slice none 0 0, .slice none 0 0, .slice (some ⟨bm, 0, none⟩) 1 1, .slice none 0 0, .slice (some ⟨be, 0, none⟩) 1 1, .slice none 0 0, .slice (some ⟨bd, 0, none⟩) 1 1] 47)
  have HR := hide hr; clear hr
  generalize w.alloc (.cells #[.slice none 0 0, .slice none 0 0, .slice none 0 0, .slice (some ⟨bm, 0, none⟩) 1 1, .slice none 0 0, .slice (some ⟨be, 0, none⟩) 1 1, .slice none 0 0, .slice (some ⟨bd, 0, none⟩) 1 1] 47) = w0 at *
  refine (all0_T _ _ _ _ _).mono ?_
  rintro e w1 ⟨rfl, hb1⟩
  have hr1 := (hb1.block _ (Array.getElem?_eq_some_iff.1 (unhide HR)).1).trans (unhide HR)
  have hlt := (Array.getElem?_eq_some_iff.1 hr1).1
  obtain ⟨q0, q1, q2, q3, q4, q5, q6, q7⟩ := mbox hr1
  have HB1 := hide (Below.on (unhide HB0) hb1); have HR1 := hide hr1
  clear hb1 hr1 HR HB0 q0 q2 q3 q4 q5 q6 q7
  go_wp2_with fail
  refine (all0_F _ _ _ _ _).mono ?_
  rintro e w2 ⟨rfl, hb2⟩
  have hr2 := (hb2.block _ hlt).trans (unhide HR1)
  have hlt2 := (Array.getElem?_eq_some_iff.1 hr2).1
  obtain ⟨p0, p1, p2, p3, p4, p5, p6, p7⟩ := mbox hr2
  have HB2 := hide (Below.on (unhide HB1) hb2)
  clear hb2 hr2 HR1 HB1 p0 p1 p2 p3 p5 p6 p7 q1 hlt
  go_wp2_with fail
  refine (all0_G _ _ _ _ _).mono ?_
  rintro e w3 ⟨rfl, hb3⟩
  have HB3 := hide (Below.on (unhide HB2) hb3); clear hb3
  go_wp2
  go_ret
  exact ⟨rfl, unhide HB3⟩

set_option maxRecDepth 100000 in
set_option maxHeartbeats 1000000 in
theorem const0 {w : World} (hT : TC w 5 fmV) :
    Calls Tryz.prog 108 #[.agg #[.int .u8 65, .int .i64 4096, .int .u32 0, .int .u32 0, .int .u8 0, .slice none 0 0, .slice none 0 0, .slice none 0 0], .int .u8 127] w fun e w' => e = .returned (.bool true) ∧ Below w.heap.size w w' := by
  have hb0 : Below w.heap.size w (w.alloc (.cells #[.int .u8 65, .int .i64 4096, .int .u32 0, .int .u32 0, .int .u8 0, .slice none 0 0, .slice none 0 0, .slice none 0 0] 126)) := (Below.refl _ _).alloc (Nat.le_refl _) _
  have hf := form_any 65 (by omega) _ (hT.below hb0)
  rw [show fam ((65 : Nat) : Int) = some ⟨65, 65, 1, 0, 0, 127⟩ by rfl] at hf
  simp only [formR, errV_0] at hf
  have HF := hide hf; have HB0 := hide hb0
  clear hf hb0 hT
  go_enter Tryz.func108, Tryz.ntmps108
  go_wp2_with fail
  refine (unhide HF).mono ?_
  rintro e w1 ⟨rfl, hb1⟩
  have HB1 := hide (Below.on (unhide HB0) hb1); clear hb1
  go_wp2
  go_ret
  exact ⟨rfl, unhide HB1⟩

set_option maxRecDepth 100000 in
set_option maxHeartbeats 1000000 in
theorem data0 {w : World} (bm bd be yl yc : Nat) (ya : Option Addr) (hT : TC w 5 fmV) :
    Calls Tryz.prog 115 #[.agg #[.slice none 0 0, .slice none 0 0, .slice none 0 0, .slice (some ⟨bm, 0, none⟩) 1 1, .slice none 0 0, .slice (some ⟨be, 0, none⟩) 1 1, .slice none 0 0, .slice (some ⟨bd, 0, none⟩) 1 1], .agg #[.int .u32 0, .int .u8 65, .int .i64 4096, .int .u32 0, .int .u32 0, .int .u8 0, .slice none 0 0, .slice none 0 0, .slice none 0 0, .slice ya yl yc]] w fun e w' => e = .returned (.bool true) ∧ Below w.heap.size w w' := by
  have hb0 : Below w.heap.size w ((w.alloc (.cells #[.slice none 0 0, .slice none 0 0, .slice none 0 0, .slice (some ⟨bm, 0, none⟩) 1 1, .slice none 0 0, .slice (some ⟨be, 0, none⟩) 1 1, .slice none 0 0, .slice (some ⟨bd, 0, none⟩) 1 1] 47)).alloc (.cells #[.int .u32 0, .int .u8 65, .int .i64 4096, .int .u32 0, .int .u32 0, .int .u8 0, .slice none 0 0, .slice none 0 0, .slice none 0 0, .slice ya yl yc] 128)) := ((Below.refl _ _).alloc (Nat.le_refl _) _).alloc (by simp) _
  have HF := hide (const0 (hT.below hb0)); have HB0 := hide hb0
  clear hb0 hT
  go_enter Tryz.func115, Tryz.ntmps115
  go_wp2_with fail
  refine (unhide HF).mono ?_
  rintro e w1 ⟨rfl, hb1⟩
  have HB1 := hide (Below.on (unhide HB0) hb1); clear hb1
  go_wp2
  go_ret
  exact ⟨rfl, unhide HB1⟩

set_option maxRecDepth 100000 in
set_option maxHeartbeats 1000000 in
theorem datac0 {w : World} (bm bd be yl yc B : Nat) (ya : Option Addr) (hT : TC w 5 fmV) (hr : w.heap[B]? = some (.cells #[.slice none 0 0, .slice none 0 0, .slice none 0 0, .slice (some ⟨bm, 0, none⟩) 1 1, .slice none 0 0, .slice (some ⟨be, 0, none⟩) 1 1, .slice none 0 0, .slice (some ⟨bd, 0, none⟩) 1 1] 47 (0, 0))) :
    Calls Tryz.prog 114 #[.agg #[.int .u32 0, .int .u8 65, .int .i64 4096, .int .u32 0, .int .u32 0, .int .u8 0, .slice none 0 0, .slice none 0 0, .slice none 0 0, .slice ya yl yc], .pointer (some ⟨B, 0, none⟩)] w fun e w' => e = .returned (.bool true) ∧ Below w.heap.size w w' := by
  have hb0 : Below w.heap.size w (w.alloc (.cells #[.int .u32 0, .int .u8 65, .int .i64 4096, .int .u32 0, .int .u32 0, .int .u8 0, .slice none 0 0, .slice none 0 0, .slice none 0 0, .slice ya yl yc] 128)) := (Below.refl _ _).alloc (Nat.le_refl _) _
  have hlt := (Array.getElem?_eq_some_iff.1 hr).1
  have hne : ¬ B = w.heap.size := by omega
  obtain ⟨q0, q1, q2, q3, q4, q5, q6, q7⟩ := mbox hr
  have HF := hide (data0 bm bd be yl yc ya (hT.below hb0)); have HB0 := hide hb0
  clear hb0 hT hr
  go_enter Tryz.func114, Tryz.ntmps114
  go_wp2_with fail
  refine (unhide HF).mono ?_
  rintro e w1 ⟨rfl, hb1⟩
  have HB1 := hide (Below.on (unhide HB0) hb1); clear hb1
  go_wp2
  go_ret
  exact ⟨rfl, unhide HB1⟩

set_option maxRecDepth 100000 in
set_option maxHeartbeats 1000000 in
theorem target0 {w : World} {bm bd be yl yc : Nat} {ya : Option Addr} (h : M0 w bm bd be (.slice ya yl yc)) :
    Calls Tryz.prog 141 #[.agg #[.slice none 0 0, .slice none 0 0, .slice none 0 0, .slice (some ⟨bm, 0, none⟩) 1 1, .slice none 0 0, .slice (some ⟨be, 0, none⟩) 1 1, .slice none 0 0, .slice (some ⟨bd, 0, none⟩) 1 1], .agg #[.string ⟨#[109]⟩, .int .u8 2, .int .u32 0]] w fun e w' => e = .returned (.bool true) ∧ Below w.heap.size w w' := by
  have hb0 : Below w.heap.size w ((w.alloc (.cells #[.slice none 0 0, .slice none 0 0, .slice none 0 0, .slice (some ⟨bm, 0, none⟩) 1 1, .slice none 0 0, .slice (some ⟨be, 0, none⟩) 1 1, .slice none 0 0, .slice (some ⟨bd, 0, none⟩) 1 1] 47)).alloc (.cells #[.string ⟨#[109]⟩, .int .u8 2, .int .u32 0] 129)) := ((Below.refl _ _).alloc (Nat.le_refl _) _).alloc (by simp) _
  have h1 := h.below hb0
  have HF := hide (there_L_yes bm 0 1 1 0 1 false 0 _ h1.ltm (by omega) (by omega) h1.l0 h1.l1 h1.l2); have HB0 := hide hb0
  clear hb0 h h1
  go_enter Tryz.func141, Tryz.ntmps141
  go_wp2_with fail
  refine (unhide HF).mono ?_
  rintro e w1 ⟨rfl, hb1⟩
  have HB1 := hide (Below.on (unhide HB0) hb1); clear hb1
  go_wp2
  go_ret
  exact ⟨rfl, unhide HB1⟩

theorem lawS : Keyed Tryz.prog 9 := string_keyed Tryz.underlying9
theorem zeroI (w : World) : (zeroValue 3).run Tryz.prog w = .ok (.int .i64 0) w := by kernel_rfl
end Go.Proofs.YtcljcnaglkbjcaaGreatDoor
