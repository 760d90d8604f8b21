/- inst.layDatas, New, Find at the module that sure makes. -/
import Derived.Test.YtcljcnaglkbjcaaGreatDoorInA
namespace Go.Proofs.YtcljcnaglkbjcaaGreatDoor
open Go.RowKit Go.Maps Go.Shelf
set_option linter.unusedVariables false

theorem drew_below (w : World) : Below w.heap.size w w.drew := ⟨rfl, rfl, rfl, Nat.le_refl _, fun _ _ => rfl⟩
theorem dbox {w : World} {x0 x1 x2 x3 x4 x5 x6 x7 x8 x9 : Value} {B : Nat} {t : TypeId} (h : w.heap[B]? = some (.cells #[x0, x1, x2, x3, x4, x5, x6, x7, x8, x9] t (0, 0))) :
    w.cell? ⟨B, 0, none⟩ = some x0 ∧ w.cell? ⟨B, 1, none⟩ = some x1 ∧ w.cell? ⟨B, 2, none⟩ = some x2 ∧ w.cell? ⟨B, 3, none⟩ = some x3 ∧ w.cell? ⟨B, 4, none⟩ = some x4 ∧ w.cell? ⟨B, 5, none⟩ = some x5 ∧ w.cell? ⟨B, 6, none⟩ = some x6 ∧ w.cell? ⟨B, 7, none⟩ = some x7 ∧ w.cell? ⟨B, 8, none⟩ = some x8 ∧ w.cell? ⟨B, 9, none⟩ = some x9 := by
  refine ⟨?_, ?_, ?_, ?_, ?_, ?_, ?_, ?_, ?_, ?_⟩ <;> (rw [cell_of_row w B _ _ _ _ h]; rfl)

set_option maxRecDepth 100000 in
set_option maxHeartbeats 1000000 in
theorem layDatas0 {w : World} {bm bd be yc sb mb mg gc : Nat} {ya ga : Option Addr} (n : Nat) (hn : (n : Int) ≤ 1) (h : M0 w bm bd be (.slice ya n yc)) (hm : MemAt w mb mg 4096 4096 16 (List.replicate 4096 0)) (hs : w.heap[sb]? = some (.cells #[.pointer (some ⟨mb, 0, none⟩), .slice none 0 0, .slice ga 0 gc] 90 (0, 0))) :
    Calls Tryz.prog 40 #[.pointer (some ⟨sb, 0, none⟩), .slice (some ⟨bd, 0, none⟩) 1 1] w fun e w' => e = .returned (.bool (decide (n = 0))) ∧ Below w.heap.size w w' := by
  have hlt := h.ltd
  have hsl := (Array.getElem?_eq_some_iff.1 hs).1
  obtain ⟨d0, d1, d2, d3, d4, d5, d6, d7, d8, d9⟩ := dbox h.dat
  obtain ⟨s0, s1, s2⟩ := ebox hs
  have n0 : ¬ bd = w.heap.size := by omega
  have hb0 : Below w.heap.size w (w.alloc (.cells #[.int .u32 0, .int .u8 65, .int .i64 4096, .int .u32 0, .int .u32 0, .int .u8 0, .slice none 0 0, .slice none 0 0, .slice none 0 0, .slice ya n yc] 128)) := (Below.refl _ _).alloc (Nat.le_refl _) _
  obtain ⟨W, hW⟩ : ∃ W, w.alloc (.cells #[.int .u32 0, .int .u8 65, .int .i64 4096, .int .u32 0, .int .u32 0, .int .u8 0, .slice none 0 0, .slice none 0 0, .slice none 0 0, .slice ya n yc] 128) = W := ⟨_, rfl⟩
  have hr := heap_alloc_new w (.cells #[.int .u32 0, .int .u8 65, .int .i64 4096, .int .u32 0, .int .u32 0, .int .u8 0, .slice none 0 0, .slice none 0 0, .slice none 0 0, .slice ya n yc] 128)
  rw [hW] at hr hb0
  have hmW := hm.below (Nat.le_refl _) hb0
  obtain ⟨f0, f1, f2, f3, f4, f5, f6, f7, f8, f9⟩ := dbox hr
  obtain ⟨t0, t1, t2⟩ := ebox ((hb0.block _ hsl).trans hs)
  have HW := hide hW; have HMW := hide hmW; have HB0 := hide hb0; have HR := hide hr
  have HF := hide (And.intro f1 (And.intro f2 (And.intro f3 (And.intro f4 (And.intro f5 (And.intro f6 (And.intro f7 (And.intro f8 (And.intro f9 t0)))))))))
  clear h hm hs hb0 hW hr hmW s1 s2 f0 f1 f2 f3 f4 f5 f6 f7 f8 f9 t0 t1 t2
  go_enter Tryz.func40, Tryz.ntmps40
  go_wp2
  refine wp_loop_rounds 2 ?_
  rw [rounds_succ]
  go_wp2_with fail
  rw [unhide HW]
  obtain ⟨f1, f2, f3, f4, f5, f6, f7, f8, f9, t0⟩ := unhide HF
  clear d0 d1 d2 d3 d4 d5 d6 d7 d8 d9 s0
  have HLS := hide (Nat.lt_of_lt_of_le hsl (unhide HB0).size)
  have HLB := hide (Array.getElem?_eq_some_iff.1 (unhide HR)).1
  have HT0 := hide t0
  rcases (show n = 0 ∨ n = 1 by omega) with rfl | rfl
  · have HP := hide (fun W => place0 0 (by omega) W)
    change Hid (∀ W : World, Calls Tryz.prog 69 #[.agg #[.int .u8 65, .int .i64 4096, .int .u32 0, .int .u32 0, .int .u8 0, .slice none 0 0, .slice none 0 0, .slice none 0 0], .int .i64 0, .int .i64 4096] W fun e w' => e = .returned (.tuple #[.int .i64 4096, .bool true]) ∧ Below W.heap.size W w') at HP
    go_region_held3 (fun w' => w'.cell? ⟨w.heap.size, 1, none⟩ = some (.int .u8 65) ∧ w'.cell? ⟨w.heap.size, 2, none⟩ = some (.int .i64 4096) ∧ w'.cell? ⟨w.heap.size, 3, none⟩ = some (.int .u32 0) ∧ w'.cell? ⟨w.heap.size, 4, none⟩ = some (.int .u32 0) ∧ w'.cell? ⟨w.heap.size, 5, none⟩ = some (.int .u8 0) ∧ w'.cell? ⟨w.heap.size, 6, none⟩ = some (.slice none 0 0) ∧ w'.cell? ⟨w.heap.size, 7, none⟩ = some (.slice none 0 0) ∧ w'.cell? ⟨w.heap.size, 8, none⟩ = some (.slice none 0 0) ∧ w'.cell? ⟨w.heap.size, 9, none⟩ = some (.slice ya 0 yc) ∧ w'.cell? ⟨sb, 0, none⟩ = some (.pointer (some ⟨mb, 0, none⟩)))
      (first | go_keep)
      (first
        | (go_at_call 30
           refine (pages_any ((unhide HMW).keep (w' := W.drew) rfl rfl)).mono ?_
           rintro e w3 ⟨rfl, rfl⟩)
        | (go_at_call 69
           refine (unhide HP _).mono ?_
           rintro e w3 ⟨rfl, hb3⟩
           have HB3 := hide hb3
           have hrw : w3.heap[w.heap.size]? = W.heap[w.heap.size]? := hb3.block w.heap.size (unhide HLB)
           have hrs : w3.heap[sb]? = W.heap[sb]? := hb3.block sb (unhide HLS)
           obtain ⟨g0, g1, g2, g3, g4, g5, g6, g7, g8, g9⟩ := dbox (hrw.trans (unhide HR))
           have u0 : w3.cell? ⟨sb, 0, none⟩ = some (.pointer (some ⟨mb, 0, none⟩)) := (hb3.cell (p := ⟨sb, 0, none⟩) (unhide HLS)).trans (unhide HT0)
           have hz3 : w.heap.size < w3.heap.size := Nat.lt_of_lt_of_le (unhide HLB) hb3.size
           clear hb3 hrw hrs)
        | fail)
    clear HF
    go_wp2
    refine wp_loop_rounds 1 ?_
    rw [rounds_succ]
    go_wp2
    rw [rounds_succ]
    go_wp2
    go_ret
    exact ⟨rfl, Below.on (unhide HB0) (Below.on (drew_below W) (unhide HB3))⟩
  · have HP := hide (fun W => place0 1 (by omega) W)
    change Hid (∀ W : World, Calls Tryz.prog 69 #[.agg #[.int .u8 65, .int .i64 4096, .int .u32 0, .int .u32 0, .int .u8 0, .slice none 0 0, .slice none 0 0, .slice none 0 0], .int .i64 1, .int .i64 4096] W fun e w' => e = .returned (.tuple #[.int .i64 0, .bool false]) ∧ Below W.heap.size W w') at HP
    go_region_held3 (fun w' => w'.cell? ⟨w.heap.size, 1, none⟩ = some (.int .u8 65) ∧ w'.cell? ⟨w.heap.size, 2, none⟩ = some (.int .i64 4096) ∧ w'.cell? ⟨w.heap.size, 3, none⟩ = some (.int .u32 0) ∧ w'.cell? ⟨w.heap.size, 4, none⟩ = some (.int .u32 0) ∧ w'.cell? ⟨w.heap.size, 5, none⟩ = some (.int .u8 0) ∧ w'.cell? ⟨w.heap.size, 6, none⟩ = some (.slice none 0 0) ∧ w'.cell? ⟨w.heap.size, 7, none⟩ = some (.slice none 0 0) ∧ w'.cell? ⟨w.heap.size, 8, none⟩ = some (.slice none 0 0) ∧ w'.cell? ⟨w.heap.size, 9, none⟩ = some (.slice ya 1 yc) ∧ w'.cell? ⟨sb, 0, none⟩ = some (.pointer (some ⟨mb, 0, none⟩)))
      (first | go_keep)
      (first
        | (go_at_call 30
           refine (pages_any ((unhide HMW).keep (w' := W.drew) rfl rfl)).mono ?_
           rintro e w3 ⟨rfl, rfl⟩)
        | (go_at_call 69
           refine (unhide HP _).mono ?_
           rintro e w3 ⟨rfl, hb3⟩
           have HB3 := hide hb3
           have hrw : w3.heap[w.heap.size]? = W.heap[w.heap.size]? := hb3.block w.heap.size (unhide HLB)
           have hrs : w3.heap[sb]? = W.heap[sb]? := hb3.block sb (unhide HLS)
           obtain ⟨g0, g1, g2, g3, g4, g5, g6, g7, g8, g9⟩ := dbox (hrw.trans (unhide HR))
           have u0 : w3.cell? ⟨sb, 0, none⟩ = some (.pointer (some ⟨mb, 0, none⟩)) := (hb3.cell (p := ⟨sb, 0, none⟩) (unhide HLS)).trans (unhide HT0)
           have hz3 : w.heap.size < w3.heap.size := Nat.lt_of_lt_of_le (unhide HLB) hb3.size
           clear hb3 hrw hrs)
        | fail)
    go_wp2
    go_ret
    exact ⟨rfl, Below.on (unhide HB0) (Below.on (drew_below W) (unhide HB3))⟩

/-- what New leaves: the state in block sb, its memory -/
structure St0 (w : World) (sb mb mg : Nat) : Prop where
  st : ∃ ga gc, w.heap[sb]? = some (.cells #[.pointer (some ⟨mb, 0, none⟩), .slice none 0 0, .slice ga 0 gc] 90 (0, 0))
  m : MemAt w mb mg 4096 4096 16 (List.replicate 4096 0)

def NewP (n : Nat) (e : Ending) (w' : World) : Prop := (n = 0 → ∃ sb mb mg, e = .returned (.tuple #[.pointer (some ⟨sb, 0, none⟩), .int .i64 0, .nilIface]) ∧ St0 w' sb mb mg) ∧ (n = 1 → e = .returned (.tuple #[.pointer none, .int .i64 4, .iface 135 (.int .i64 12)]))

set_option maxRecDepth 100000 in
set_option maxHeartbeats 1000000 in
theorem new0 {w : World} {bm bd be yc : Nat} {ya : Option Addr} (n : Nat) (hn : (n : Int) ≤ 1) (h : M0 w bm bd be (.slice ya n yc)) (hT : TC w 5 fmV) :
    Calls Tryz.prog 12 #[.agg #[.slice none 0 0, .slice none 0 0, .slice none 0 0, .slice (some ⟨bm, 0, none⟩) 1 1, .slice none 0 0, .slice (some ⟨be, 0, none⟩) 1 1, .slice none 0 0, .slice (some ⟨bd, 0, none⟩) 1 1]] w fun e w' => NewP n e w' ∧ Below w.heap.size w w' := by
  have hb0 : Below w.heap.size w (w.alloc (.cells #[.slice none 0 0, .slice none 0 0, .slice none 0 0, .slice (some ⟨bm, 0, none⟩) 1 1, .slice none 0 0, .slice (some ⟨be, 0, none⟩) 1 1, .slice none 0 0, .slice (some ⟨bd, 0, none⟩) 1 1] 47)) := (Below.refl _ _).alloc (Nat.le_refl _) _
  have HB0 := hide hb0; have HM := hide h; have HTT := hide hT
  clear hb0 h hT
  go_enter Tryz.func12, Tryz.ntmps12
  go_wp2_with fail
  have hr := heap_alloc_new w (.cells #[.slice none 0 0, .slice none 0 0, .slice none 0 0, .slice (some ⟨bm, 0, none⟩) 1 1, .slice none 0 0, .slice (some ⟨be, 0, none⟩) 1 1, .slice none 0 0, .slice (some ⟨bd, 0, none⟩) 1 1] 47)
  have HR := hide hr; clear hr
  generalize w.alloc (.cells #[.slice none 0 0, .slice none 0 0, .slice none 0 0, .slice (some ⟨bm, 0, none⟩) 1 1, .slice none 0 0, .slice (some ⟨be, 0, none⟩) 1 1, .slice none 0 0, .slice (some ⟨bd, 0, none⟩) 1 1] 47) = w0 at *
  refine (check0 ((unhide HM).below (unhide HB0)) ((unhide HTT).below (unhide HB0))).mono ?_
  rintro e w1 ⟨rfl, hb1⟩
  have hr1 := (hb1.block _ (Array.getElem?_eq_some_iff.1 (unhide HR)).1).trans (unhide HR)
  have hlt1 := (Array.getElem?_eq_some_iff.1 hr1).1
  have HB1 := hide (Below.on (unhide HB0) hb1); have HR1 := hide hr1
  clear hb1 hr1 HR HB0
  go_wp2_with fail
  obtain ⟨q0, q1, q2, q3, q4, q5, q6, q7⟩ := mbox (unhide HR1)
  clear q0 q1 q5 q6 q7
  go_region_held3 (fun w' => w'.cell? ⟨w.heap.size, 2, none⟩ = some (.slice none 0 0) ∧ w'.cell? ⟨w.heap.size, 3, none⟩ = some (.slice (some ⟨bm, 0, none⟩) 1 1) ∧ w'.cell? ⟨w.heap.size, 4, none⟩ = some (.slice none 0 0))
    (first | go_keep)
    (first
      | (go_at_call 36
         refine (firstMem0 (((unhide HM).below (unhide HB1)).below (drew_below w1))).mono ?_
         rintro e w3 ⟨rfl, hm3, hb3⟩
         have HM3 := hide hm3
         have HB3 := hide (Below.on (drew_below w1) hb3)
         clear hm3 hb3
         obtain ⟨k0, k1, k2, k3, k4, k5, k6, k7⟩ := mbox (((unhide HB3).block w.heap.size hlt1).trans (unhide HR1))
         clear k0 k1 k5 k6 k7)
      | (go_at_call 37
         refine (firstTab0 _).mono ?_
         rintro e w4 ⟨rfl, rfl⟩)
      | (go_at_call 38
         refine (firstVal0 _).mono ?_
         rintro e w5 ⟨⟨ga, gc, rfl⟩, hb5⟩
         have lt3 : w.heap.size < w3.heap.size := Nat.lt_of_lt_of_le hlt1 (unhide HB3).size
         have hr5 : w5.heap[w.heap.size]? = some (.cells #[.slice none 0 0, .slice none 0 0, .slice none 0 0, .slice (some ⟨bm, 0, none⟩) 1 1, .slice none 0 0, .slice (some ⟨be, 0, none⟩) 1 1, .slice none 0 0, .slice (some ⟨bd, 0, none⟩) 1 1] 47 (0, 0)) := (hb5.block _ lt3).trans (((unhide HB3).block w.heap.size hlt1).trans (unhide HR1))
         have HR5 := hide hr5
         have HB5 := hide hb5
         obtain ⟨j0, j1, j2, j3, j4, j5, j6, j7⟩ := mbox hr5
         clear hb5 hr5 j0 j1 j5 j6 j7 lt3)
      | fail)
  have b5 : Below w.heap.size w w5 := Below.on (Below.on (unhide HB1) (unhide HB3)) (unhide HB5)
  have m5 := (unhide HM3).below (Nat.le_refl _) (unhide HB5)
  have lt5 : w.heap.size < w5.heap.size := (Array.getElem?_eq_some_iff.1 (unhide HR5)).1
  have hs6 := heap_alloc_new w5 (.cells #[.pointer (some ⟨w1.heap.size + 1, 0, none⟩), .slice none 0 0, .slice ga 0 gc] 90)
  have b6 : Below w.heap.size w (w5.alloc (.cells #[.pointer (some ⟨w1.heap.size + 1, 0, none⟩), .slice none 0 0, .slice ga 0 gc] 90)) := b5.alloc b5.size _
  have m6 : MemAt _ (w1.heap.size + 1) w1.heap.size 4096 4096 16 (List.replicate 4096 0) := m5.below (Nat.le_refl _) ((Below.refl w5.heap.size w5).alloc (Nat.le_refl _) (.cells #[.pointer (some ⟨w1.heap.size + 1, 0, none⟩), .slice none 0 0, .slice ga 0 gc] 90))
  have r6 := (Below.heap_alloc w5 (.cells #[.pointer (some ⟨w1.heap.size + 1, 0, none⟩), .slice none 0 0, .slice ga 0 gc] 90) _ lt5).trans (unhide HR5)
  obtain ⟨p0, p1, p2, p3, p4, p5, p6, p7⟩ := mbox r6
  have lt6 := (Array.getElem?_eq_some_iff.1 r6).1
  have S6 := hide hs6; have B6 := hide b6; have M6 := hide m6; have R6 := hide r6
  clear b5 m5 lt5 hs6 b6 m6 r6 HB1 HB3 HB5 HR5 HR1 HM3 p0 p1 p2 p3 p4 p5 q2 q3 q4 k2 k3 k4 j2 j3 j4 hlt1
  generalize w5.alloc (.cells #[.pointer (some ⟨w1.heap.size + 1, 0, none⟩), .slice none 0 0, .slice ga 0 gc] 90) = w6 at *
  generalize w5.heap.size = sb at *
  generalize w1.heap.size + 1 = mb at *
  go_wp2_with fail
  refine (layElems0 _ _).mono ?_
  rintro e w7 ⟨rfl, rfl⟩
  go_wp2_with fail
  refine (layDatas0 n hn ((unhide HM).below (unhide B6)) (unhide M6) (unhide S6)).mono ?_
  rintro e w7 ⟨rfl, hb7⟩
  have b7 := Below.on (unhide B6) hb7
  have m7 := (unhide M6).below (Nat.le_refl _) hb7
  have s7 := (hb7.block sb (Array.getElem?_eq_some_iff.1 (unhide S6)).1).trans (unhide S6)
  have B7 := hide b7; have M7 := hide m7; have S7 := hide s7
  clear hb7 b7 m7 s7 p6 p7 B6 M6 S6 R6 HTT HM lt6
  rcases (show n = 0 ∨ n = 1 by omega) with rfl | rfl
  · simp only [decide_true]
    go_wp2
    go_ret3
    exact ⟨⟨fun _ => ⟨sb, mb, _, rfl, ⟨⟨_, _, unhide S7⟩, unhide M7⟩⟩, fun h => absurd h (by decide)⟩, unhide B7⟩
  · simp only [show decide ((1 : Nat) = 0) = false from rfl]
    go_wp2
    go_ret3
    exact ⟨⟨fun h => absurd h (by decide), fun _ => rfl⟩, unhide B7⟩
end Go.Proofs.YtcljcnaglkbjcaaGreatDoor
