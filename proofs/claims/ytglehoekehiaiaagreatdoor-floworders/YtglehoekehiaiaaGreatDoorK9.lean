/- K9: what follows, part by part: each part tells what it holds. -/
import Derived.Test.YtglehoekehiaiaaGreatDoorK2
import Derived.Deep.RegionWith
import Derived.Deep.Cut
namespace Go.Proofs.YtglehoekehiaiaaGreatDoor
open Go.RowKit
set_option linter.unusedVariables false
set_option linter.unusedSimpArgs false
set_option maxRecDepth 100000
set_option maxHeartbeats 32000000
namespace Vc
/- shape.May. -/
def mayS (s : Shp) (x : In) : Bool := !decide ((x.src.length : Int) < s.t) && (!decide (s.t < (x.src.length : Int)) || s.m) && (s.e || (s.g == (x.dst != -1))) && (x.of == 0 || acc x.op) && numM x
def may1 (x : In) (r : Bool) : Bool := match shp x.op r with
 | none => false
 | some s => mayS s x
theorem may1_any (x : In) (hx : WfI x) (r : Bool) (g : Nat → Prop) (v : Value) (w : World) (hT : Fms w) (hv : NumsL w g x.src v) :
    Calls Tryz.prog 98 #[.agg #[.int .u8 (x.op : Int), .int .i64 x.dst, v, .int .i64 x.n, .int .u32 x.of], .bool r] w fun e w' => e = .returned (.bool (may1 x r)) ∧ Below w.heap.size w w' := by
 obtain ⟨a, cp, rfl, _⟩ := hv
 have hg := fun W => gives_any x (.slice a x.src.length cp) W ⟨_, _, _, rfl⟩
 have hN := fun W => numM_any x hx (.slice a x.src.length cp) W ⟨_, _, _, rfl⟩
 have hA := fun W h => acc_any x.op hx.op W h
 have hO := fun W h => of_any x.op hx.op r W h
 have hof := hx.of1
 have hof0 := hx.of0
 have hlen := hx.len
 clear hx
 have hm : may1 x r = match shp x.op r with | none => false | some s => mayS s x := rfl
 cases hs : shp x.op r with
 | none =>
   rw [hm, hs]
   have hc := hO (w.alloc (.cells #[.int .u8 (x.op : Int), .int .i64 x.dst, .slice a x.src.length cp, .int .i64 x.n, .int .u32 x.of] 166)) (TC.below hT (one_alloc _ _))
   rw [hs] at hc
   simp only [ofV] at hc ⊢
   have HC := hide hc
   clear hc hs hm hg hN hA hO hT
   obtain ⟨op, dst, src, nn, of⟩ := x
   simp only at *
   generalize src.length = ln at *
   go_enter Tryz.func98, Tryz.ntmps98
   go_wp2_with fail
   refine (unhide HC).mono ?_
   rintro e w1 ⟨rfl, hb⟩
   have HB := hide (Below.on (one_alloc _ _) hb); clear hb HC
   go_wp2
   go_ret
   exact ⟨rfl, (unhide HB).alloc (unhide HB).size _⟩
 | some s =>
   rw [hm, hs]
   have hc := hO (w.alloc (.cells #[.int .u8 (x.op : Int), .int .i64 x.dst, .slice a x.src.length cp, .int .i64 x.n, .int .u32 x.of] 166)) (TC.below hT (one_alloc _ _))
   rw [hs] at hc
   simp only [ofV] at hc ⊢
   have HC := hide hc; have HG := hide hg; have HN := hide hN; have HA := hide hA; have HT := hide hT
   clear hc hs hm hg hN hA hO hT
   obtain ⟨st, sm, sg, se⟩ := s
   simp only [mayS] at HC ⊢
   obtain ⟨op, dst, src, nn, of⟩ := x
   simp only at *
   generalize src.length = ln at *
   go_enter Tryz.func98, Tryz.ntmps98
   go_wp2_with fail
   refine (unhide HC).mono ?_
   rintro e w1 ⟨rfl, hb⟩
   have HB := hide (Below.on (one_alloc w _) hb)
   have r0 := (hb.block w.heap.size (by simp)).trans (heap_alloc_new w (.cells #[.int .u8 (op : Int), .int .i64 dst, .slice a ln cp, .int .i64 nn, .int .u32 of] 166))
   clear hb HC
   obtain ⟨W, hW⟩ : ∃ W, w1.alloc (.cells #[.int .i64 st, .bool sm, .bool sg, .bool se] 182) = W := ⟨_, rfl⟩
   have hbW : Below w.heap.size w W := by rw [← hW]; exact (unhide HB).alloc (unhide HB).size _
   have r1 : W.heap[w1.heap.size]? = some (.cells #[.int .i64 st, .bool sm, .bool sg, .bool se] 182 (0, 0)) := by rw [← hW]; exact heap_alloc_new _ _
   have hlt0 : w.heap.size < w1.heap.size := (Array.getElem?_eq_some_iff.1 r0).1
   have r2 : W.heap[w.heap.size]? = some (.cells #[.int .u8 (op : Int), .int .i64 dst, .slice a ln cp, .int .i64 nn, .int .u32 of] 166 (0, 0)) := by rw [← hW, Below.heap_alloc _ _ _ hlt0]; exact r0
   have fin : ∀ (W' : World), Below W.heap.size W W' → Below w.heap.size w W' := fun W' h => Below.on hbW h
   have FIN := hide fin
   have HTW := hide (TC.below (unhide HT) hbW)
   go_upto_region 2 with fail
   try rw [hW]
   have hB0 : w.heap.size < W.heap.size := (Array.getElem?_eq_some_iff.1 r2).1
   have hB1 : w1.heap.size < W.heap.size := (Array.getElem?_eq_some_iff.1 r1).1
   clear fin hbW hW HB r0 HT
   generalize hBq : w.heap.size = B0 at *
   have HBq := hide hBq; clear hBq
   generalize w1.heap.size = B1 at *
   clear w1
   have R1 := hide r1; have R2 := hide r2
   have cells : ∀ W', Below W.heap.size W W' → (W'.cell? ⟨B0, 0, none⟩ = some (.int .u8 (op : Int)) ∧ W'.cell? ⟨B0, 1, none⟩ = some (.int .i64 dst) ∧ W'.cell? ⟨B0, 2, none⟩ = some (.slice a ln cp) ∧ W'.cell? ⟨B0, 3, none⟩ = some (.int .i64 nn) ∧ W'.cell? ⟨B0, 4, none⟩ = some (.int .u32 of)) ∧ (W'.cell? ⟨B1, 0, none⟩ = some (.int .i64 st) ∧ W'.cell? ⟨B1, 1, none⟩ = some (.bool sm) ∧ W'.cell? ⟨B1, 2, none⟩ = some (.bool sg) ∧ W'.cell? ⟨B1, 3, none⟩ = some (.bool se)) := by
    intro W' h
    have q2 := (h.block B0 hB0).trans (unhide R2)
    have q1 := (h.block B1 hB1).trans (unhide R1)
    refine ⟨⟨?_, ?_, ?_, ?_, ?_⟩, ?_, ?_, ?_, ?_⟩
    all_goals first | (rw [cell_of_row W' B0 _ _ _ _ q2]; rfl) | (rw [cell_of_row W' B1 _ _ _ _ q1]; rfl)
   have CE := hide cells
   obtain ⟨⟨a0, a1, a2, a3, a4⟩, b0, b1, b2, b3⟩ := cells W (Below.refl _ _)
   clear cells r1 r2 hB0 hB1
   by_cases l1 : (ln : Int) < st
   ·have HR := hide (show (!decide ((ln : Int) < st) && (!decide (st < (ln : Int)) || sm) && (se || (sg == (dst != -1))) && (of == 0 || acc op) && numM ⟨op, dst, src, nn, of⟩) = false by simp [l1])
    go_wp2
    go_ret
    exact ⟨ret_bool (unhide HR).symm, by rw [unhide HBq]; exact unhide FIN _ (Below.refl _ _)⟩
   have t1 : decide ((ln : Int) < st) = false := by simpa using l1
   by_cases l2 : st < (ln : Int)
   ·have t2 : decide (st < (ln : Int)) = true := by simpa using l2
    clear l1 l2
    cases sm with
    | false =>
      have HR := hide (show (!decide ((ln : Int) < st) && (!decide (st < (ln : Int)) || false) && (se || (sg == (dst != -1))) && (of == 0 || acc op) && numM ⟨op, dst, src, nn, of⟩) = false by simp [t2])
      go_wp2
      go_ret
      exact ⟨ret_bool (unhide HR).symm, by rw [unhide HBq]; exact unhide FIN _ (Below.refl _ _)⟩
    | true =>
      cases se with
      | true =>
        go_upto_region 6 with fail
        go_quiet (fail)
        have HBc := hide (drewn W nq)
        by_cases o0 : of = 0
        ·subst o0
         have HR := hide (show (!decide ((ln : Int) < st) && (!decide (st < (ln : Int)) || true) && (true || (sg == (dst != -1))) && ((0 : Int) == 0 || acc op) && numM ⟨op, dst, src, nn, 0⟩) = numM ⟨op, dst, src, nn, 0⟩ by simp [t1, t2])
         go_wp2_with fail
         refine (unhide HN _).mono ?_
         rintro e w9 ⟨rfl, hb9⟩
         have HB9 := hide (unhide FIN _ (Below.on (unhide HBc) hb9)); clear hb9
         generalize hnb : numM ⟨op, dst, src, nn, 0⟩ = nb
         have HNB := hide hnb; clear hnb
         go_wp2
         go_ret
         exact ⟨ret_bool ((unhide HNB).symm.trans (unhide HR).symm), by rw [unhide HBq]; exact unhide HB9⟩
        ·have to : (of != 0) = true := by simpa using o0
         have tf : (of == 0) = false := by simpa using o0
         clear o0
         go_wp2_with fail
         refine (unhide HA _ (TC.below (unhide HTW) (unhide HBc))).mono ?_
         rintro e w8 ⟨rfl, hb8⟩
         have HBc := hide (Below.on (unhide HBc) hb8)
         obtain ⟨⟨a0, a1, a2, a3, a4⟩, b0, b1, b2, b3⟩ := unhide CE w8 (unhide HBc)
         clear hb8
         cases ha : acc op with
         | false =>
           have HR := hide (show (!decide ((ln : Int) < st) && (!decide (st < (ln : Int)) || true) && (true || (sg == (dst != -1))) && ((of : Int) == 0 || acc op) && numM ⟨op, dst, src, nn, of⟩) = false by simp [ha, tf])
           clear ha
           go_wp2
           go_ret
           exact ⟨ret_bool (unhide HR).symm, by rw [unhide HBq]; exact unhide FIN _ (unhide HBc)⟩
         | true =>
           have HR := hide (show (!decide ((ln : Int) < st) && (!decide (st < (ln : Int)) || true) && (true || (sg == (dst != -1))) && ((of : Int) == 0 || acc op) && numM ⟨op, dst, src, nn, of⟩) = numM ⟨op, dst, src, nn, of⟩ by simp [ha, t1, t2, tf])
           clear ha
           go_wp2_with fail
           refine (unhide HN _).mono ?_
           rintro e w9 ⟨rfl, hb9⟩
           have HB9 := hide (unhide FIN _ (Below.on (unhide HBc) hb9)); clear hb9
           generalize hnb : numM ⟨op, dst, src, nn, of⟩ = nb
           have HNB := hide hnb; clear hnb
           go_wp2
           go_ret
           exact ⟨ret_bool ((unhide HNB).symm.trans (unhide HR).symm), by rw [unhide HBq]; exact unhide HB9⟩
      | false =>
        go_upto_region 6 with fail
        go_region_with (go_at_call 115; refine (unhide HG _).mono ?_; rintro e w6 ⟨rfl, hb6⟩; have HBc := hide (Below.on (drewn W 1) hb6); obtain ⟨⟨a0, a1, a2, a3, a4⟩, b0, b1, b2, b3⟩ := unhide CE w6 (unhide HBc); clear hb6)
        all_goals
         generalize hbd : (dst != -1) = bd at *
         have HBD := hide hbd; clear hbd
         cases sg <;> cases bd
         ·by_cases o0 : of = 0
          ·subst o0
           have HR := hide (show (!decide ((ln : Int) < st) && (!decide (st < (ln : Int)) || true) && (false || (false == (dst != -1))) && ((0 : Int) == 0 || acc op) && numM ⟨op, dst, src, nn, 0⟩) = numM ⟨op, dst, src, nn, 0⟩ by rw [unhide HBD]; simp [t1, t2])
           go_wp2_with fail
           refine (unhide HN _).mono ?_
           rintro e w9 ⟨rfl, hb9⟩
           have HB9 := hide (unhide FIN _ (Below.on (unhide HBc) hb9)); clear hb9
           generalize hnb : numM ⟨op, dst, src, nn, 0⟩ = nb
           have HNB := hide hnb; clear hnb
           go_wp2
           go_ret
           exact ⟨ret_bool ((unhide HNB).symm.trans (unhide HR).symm), by rw [unhide HBq]; exact unhide HB9⟩
          ·have to : (of != 0) = true := by simpa using o0
           have tf : (of == 0) = false := by simpa using o0
           clear o0
           go_wp2_with fail
           refine (unhide HA _ (TC.below (unhide HTW) (unhide HBc))).mono ?_
           rintro e w8 ⟨rfl, hb8⟩
           have HBc := hide (Below.on (unhide HBc) hb8)
           obtain ⟨⟨a0, a1, a2, a3, a4⟩, b0, b1, b2, b3⟩ := unhide CE w8 (unhide HBc)
           clear hb8
           cases ha : acc op with
           | false =>
             have HR := hide (show (!decide ((ln : Int) < st) && (!decide (st < (ln : Int)) || true) && (false || (false == (dst != -1))) && ((of : Int) == 0 || acc op) && numM ⟨op, dst, src, nn, of⟩) = false by rw [unhide HBD]; simp [ha, tf])
             clear ha
             go_wp2
             go_ret
             exact ⟨ret_bool (unhide HR).symm, by rw [unhide HBq]; exact unhide FIN _ (unhide HBc)⟩
           | true =>
             have HR := hide (show (!decide ((ln : Int) < st) && (!decide (st < (ln : Int)) || true) && (false || (false == (dst != -1))) && ((of : Int) == 0 || acc op) && numM ⟨op, dst, src, nn, of⟩) = numM ⟨op, dst, src, nn, of⟩ by rw [unhide HBD]; simp [ha, t1, t2, tf])
             clear ha
             go_wp2_with fail
             refine (unhide HN _).mono ?_
             rintro e w9 ⟨rfl, hb9⟩
             have HB9 := hide (unhide FIN _ (Below.on (unhide HBc) hb9)); clear hb9
             generalize hnb : numM ⟨op, dst, src, nn, of⟩ = nb
             have HNB := hide hnb; clear hnb
             go_wp2
             go_ret
             exact ⟨ret_bool ((unhide HNB).symm.trans (unhide HR).symm), by rw [unhide HBq]; exact unhide HB9⟩
         ·have HR := hide (show (!decide ((ln : Int) < st) && (!decide (st < (ln : Int)) || true) && (false || (false == (dst != -1))) && ((of : Int) == 0 || acc op) && numM ⟨op, dst, src, nn, of⟩) = false by rw [unhide HBD]; simp)
          go_wp2
          go_ret
          exact ⟨ret_bool (unhide HR).symm, by rw [unhide HBq]; exact unhide FIN _ (unhide HBc)⟩
         ·have HR := hide (show (!decide ((ln : Int) < st) && (!decide (st < (ln : Int)) || true) && (false || (true == (dst != -1))) && ((of : Int) == 0 || acc op) && numM ⟨op, dst, src, nn, of⟩) = false by rw [unhide HBD]; simp)
          go_wp2
          go_ret
          exact ⟨ret_bool (unhide HR).symm, by rw [unhide HBq]; exact unhide FIN _ (unhide HBc)⟩
         ·by_cases o0 : of = 0
          ·subst o0
           have HR := hide (show (!decide ((ln : Int) < st) && (!decide (st < (ln : Int)) || true) && (false || (true == (dst != -1))) && ((0 : Int) == 0 || acc op) && numM ⟨op, dst, src, nn, 0⟩) = numM ⟨op, dst, src, nn, 0⟩ by rw [unhide HBD]; simp [t1, t2])
           go_wp2_with fail
           refine (unhide HN _).mono ?_
           rintro e w9 ⟨rfl, hb9⟩
           have HB9 := hide (unhide FIN _ (Below.on (unhide HBc) hb9)); clear hb9
           generalize hnb : numM ⟨op, dst, src, nn, 0⟩ = nb
           have HNB := hide hnb; clear hnb
           go_wp2
           go_ret
           exact ⟨ret_bool ((unhide HNB).symm.trans (unhide HR).symm), by rw [unhide HBq]; exact unhide HB9⟩
          ·have to : (of != 0) = true := by simpa using o0
           have tf : (of == 0) = false := by simpa using o0
           clear o0
           go_wp2_with fail
           refine (unhide HA _ (TC.below (unhide HTW) (unhide HBc))).mono ?_
           rintro e w8 ⟨rfl, hb8⟩
           have HBc := hide (Below.on (unhide HBc) hb8)
           obtain ⟨⟨a0, a1, a2, a3, a4⟩, b0, b1, b2, b3⟩ := unhide CE w8 (unhide HBc)
           clear hb8
           cases ha : acc op with
           | false =>
             have HR := hide (show (!decide ((ln : Int) < st) && (!decide (st < (ln : Int)) || true) && (false || (true == (dst != -1))) && ((of : Int) == 0 || acc op) && numM ⟨op, dst, src, nn, of⟩) = false by rw [unhide HBD]; simp [ha, tf])
             clear ha
             go_wp2
             go_ret
             exact ⟨ret_bool (unhide HR).symm, by rw [unhide HBq]; exact unhide FIN _ (unhide HBc)⟩
           | true =>
             have HR := hide (show (!decide ((ln : Int) < st) && (!decide (st < (ln : Int)) || true) && (false || (true == (dst != -1))) && ((of : Int) == 0 || acc op) && numM ⟨op, dst, src, nn, of⟩) = numM ⟨op, dst, src, nn, of⟩ by rw [unhide HBD]; simp [ha, t1, t2, tf])
             clear ha
             go_wp2_with fail
             refine (unhide HN _).mono ?_
             rintro e w9 ⟨rfl, hb9⟩
             have HB9 := hide (unhide FIN _ (Below.on (unhide HBc) hb9)); clear hb9
             generalize hnb : numM ⟨op, dst, src, nn, of⟩ = nb
             have HNB := hide hnb; clear hnb
             go_wp2
             go_ret
             exact ⟨ret_bool ((unhide HNB).symm.trans (unhide HR).symm), by rw [unhide HBq]; exact unhide HB9⟩
   ·have t2 : decide (st < (ln : Int)) = false := by simpa using l2
    clear l1 l2
    cases se with
    | true =>
      go_upto_region 6 with fail
      go_quiet (fail)
      have HBc := hide (drewn W nq)
      by_cases o0 : of = 0
      ·subst o0
       have HR := hide (show (!decide ((ln : Int) < st) && (!decide (st < (ln : Int)) || sm) && (true || (sg == (dst != -1))) && ((0 : Int) == 0 || acc op) && numM ⟨op, dst, src, nn, 0⟩) = numM ⟨op, dst, src, nn, 0⟩ by simp [t1, t2])
       go_wp2_with fail
       refine (unhide HN _).mono ?_
       rintro e w9 ⟨rfl, hb9⟩
       have HB9 := hide (unhide FIN _ (Below.on (unhide HBc) hb9)); clear hb9
       generalize hnb : numM ⟨op, dst, src, nn, 0⟩ = nb
       have HNB := hide hnb; clear hnb
       go_wp2
       go_ret
       exact ⟨ret_bool ((unhide HNB).symm.trans (unhide HR).symm), by rw [unhide HBq]; exact unhide HB9⟩
      ·have to : (of != 0) = true := by simpa using o0
       have tf : (of == 0) = false := by simpa using o0
       clear o0
       go_wp2_with fail
       refine (unhide HA _ (TC.below (unhide HTW) (unhide HBc))).mono ?_
       rintro e w8 ⟨rfl, hb8⟩
       have HBc := hide (Below.on (unhide HBc) hb8)
       obtain ⟨⟨a0, a1, a2, a3, a4⟩, b0, b1, b2, b3⟩ := unhide CE w8 (unhide HBc)
       clear hb8
       cases ha : acc op with
       | false =>
         have HR := hide (show (!decide ((ln : Int) < st) && (!decide (st < (ln : Int)) || sm) && (true || (sg == (dst != -1))) && ((of : Int) == 0 || acc op) && numM ⟨op, dst, src, nn, of⟩) = false by simp [ha, tf])
         clear ha
         go_wp2
         go_ret
         exact ⟨ret_bool (unhide HR).symm, by rw [unhide HBq]; exact unhide FIN _ (unhide HBc)⟩
       | true =>
         have HR := hide (show (!decide ((ln : Int) < st) && (!decide (st < (ln : Int)) || sm) && (true || (sg == (dst != -1))) && ((of : Int) == 0 || acc op) && numM ⟨op, dst, src, nn, of⟩) = numM ⟨op, dst, src, nn, of⟩ by simp [ha, t1, t2, tf])
         clear ha
         go_wp2_with fail
         refine (unhide HN _).mono ?_
         rintro e w9 ⟨rfl, hb9⟩
         have HB9 := hide (unhide FIN _ (Below.on (unhide HBc) hb9)); clear hb9
         generalize hnb : numM ⟨op, dst, src, nn, of⟩ = nb
         have HNB := hide hnb; clear hnb
         go_wp2
         go_ret
         exact ⟨ret_bool ((unhide HNB).symm.trans (unhide HR).symm), by rw [unhide HBq]; exact unhide HB9⟩
    | false =>
      go_upto_region 6 with fail
      go_region_with (go_at_call 115; refine (unhide HG _).mono ?_; rintro e w6 ⟨rfl, hb6⟩; have HBc := hide (Below.on (drewn W 1) hb6); obtain ⟨⟨a0, a1, a2, a3, a4⟩, b0, b1, b2, b3⟩ := unhide CE w6 (unhide HBc); clear hb6)
      all_goals
       generalize hbd : (dst != -1) = bd at *
       have HBD := hide hbd; clear hbd
       cases sg <;> cases bd
       ·by_cases o0 : of = 0
        ·subst o0
         have HR := hide (show (!decide ((ln : Int) < st) && (!decide (st < (ln : Int)) || sm) && (false || (false == (dst != -1))) && ((0 : Int) == 0 || acc op) && numM ⟨op, dst, src, nn, 0⟩) = numM ⟨op, dst, src, nn, 0⟩ by rw [unhide HBD]; simp [t1, t2])
         go_wp2_with fail
         refine (unhide HN _).mono ?_
         rintro e w9 ⟨rfl, hb9⟩
         have HB9 := hide (unhide FIN _ (Below.on (unhide HBc) hb9)); clear hb9
         generalize hnb : numM ⟨op, dst, src, nn, 0⟩ = nb
         have HNB := hide hnb; clear hnb
         go_wp2
         go_ret
         exact ⟨ret_bool ((unhide HNB).symm.trans (unhide HR).symm), by rw [unhide HBq]; exact unhide HB9⟩
        ·have to : (of != 0) = true := by simpa using o0
         have tf : (of == 0) = false := by simpa using o0
         clear o0
         go_wp2_with fail
         refine (unhide HA _ (TC.below (unhide HTW) (unhide HBc))).mono ?_
         rintro e w8 ⟨rfl, hb8⟩
         have HBc := hide (Below.on (unhide HBc) hb8)
         obtain ⟨⟨a0, a1, a2, a3, a4⟩, b0, b1, b2, b3⟩ := unhide CE w8 (unhide HBc)
         clear hb8
         cases ha : acc op with
         | false =>
           have HR := hide (show (!decide ((ln : Int) < st) && (!decide (st < (ln : Int)) || sm) && (false || (false == (dst != -1))) && ((of : Int) == 0 || acc op) && numM ⟨op, dst, src, nn, of⟩) = false by rw [unhide HBD]; simp [ha, tf])
           clear ha
           go_wp2
           go_ret
           exact ⟨ret_bool (unhide HR).symm, by rw [unhide HBq]; exact unhide FIN _ (unhide HBc)⟩
         | true =>
           have HR := hide (show (!decide ((ln : Int) < st) && (!decide (st < (ln : Int)) || sm) && (false || (false == (dst != -1))) && ((of : Int) == 0 || acc op) && numM ⟨op, dst, src, nn, of⟩) = numM ⟨op, dst, src, nn, of⟩ by rw [unhide HBD]; simp [ha, t1, t2, tf])
           clear ha
           go_wp2_with fail
           refine (unhide HN _).mono ?_
           rintro e w9 ⟨rfl, hb9⟩
           have HB9 := hide (unhide FIN _ (Below.on (unhide HBc) hb9)); clear hb9
           generalize hnb : numM ⟨op, dst, src, nn, of⟩ = nb
           have HNB := hide hnb; clear hnb
           go_wp2
           go_ret
           exact ⟨ret_bool ((unhide HNB).symm.trans (unhide HR).symm), by rw [unhide HBq]; exact unhide HB9⟩
       ·have HR := hide (show (!decide ((ln : Int) < st) && (!decide (st < (ln : Int)) || sm) && (false || (false == (dst != -1))) && ((of : Int) == 0 || acc op) && numM ⟨op, dst, src, nn, of⟩) = false by rw [unhide HBD]; simp)
        go_wp2
        go_ret
        exact ⟨ret_bool (unhide HR).symm, by rw [unhide HBq]; exact unhide FIN _ (unhide HBc)⟩
       ·have HR := hide (show (!decide ((ln : Int) < st) && (!decide (st < (ln : Int)) || sm) && (false || (true == (dst != -1))) && ((of : Int) == 0 || acc op) && numM ⟨op, dst, src, nn, of⟩) = false by rw [unhide HBD]; simp)
        go_wp2
        go_ret
        exact ⟨ret_bool (unhide HR).symm, by rw [unhide HBq]; exact unhide FIN _ (unhide HBc)⟩
       ·by_cases o0 : of = 0
        ·subst o0
         have HR := hide (show (!decide ((ln : Int) < st) && (!decide (st < (ln : Int)) || sm) && (false || (true == (dst != -1))) && ((0 : Int) == 0 || acc op) && numM ⟨op, dst, src, nn, 0⟩) = numM ⟨op, dst, src, nn, 0⟩ by rw [unhide HBD]; simp [t1, t2])
         go_wp2_with fail
         refine (unhide HN _).mono ?_
         rintro e w9 ⟨rfl, hb9⟩
         have HB9 := hide (unhide FIN _ (Below.on (unhide HBc) hb9)); clear hb9
         generalize hnb : numM ⟨op, dst, src, nn, 0⟩ = nb
         have HNB := hide hnb; clear hnb
         go_wp2
         go_ret
         exact ⟨ret_bool ((unhide HNB).symm.trans (unhide HR).symm), by rw [unhide HBq]; exact unhide HB9⟩
        ·have to : (of != 0) = true := by simpa using o0
         have tf : (of == 0) = false := by simpa using o0
         clear o0
         go_wp2_with fail
         refine (unhide HA _ (TC.below (unhide HTW) (unhide HBc))).mono ?_
         rintro e w8 ⟨rfl, hb8⟩
         have HBc := hide (Below.on (unhide HBc) hb8)
         obtain ⟨⟨a0, a1, a2, a3, a4⟩, b0, b1, b2, b3⟩ := unhide CE w8 (unhide HBc)
         clear hb8
         cases ha : acc op with
         | false =>
           have HR := hide (show (!decide ((ln : Int) < st) && (!decide (st < (ln : Int)) || sm) && (false || (true == (dst != -1))) && ((of : Int) == 0 || acc op) && numM ⟨op, dst, src, nn, of⟩) = false by rw [unhide HBD]; simp [ha, tf])
           clear ha
           go_wp2
           go_ret
           exact ⟨ret_bool (unhide HR).symm, by rw [unhide HBq]; exact unhide FIN _ (unhide HBc)⟩
         | true =>
           have HR := hide (show (!decide ((ln : Int) < st) && (!decide (st < (ln : Int)) || sm) && (false || (true == (dst != -1))) && ((of : Int) == 0 || acc op) && numM ⟨op, dst, src, nn, of⟩) = numM ⟨op, dst, src, nn, of⟩ by rw [unhide HBD]; simp [ha, t1, t2, tf])
           clear ha
           go_wp2_with fail
           refine (unhide HN _).mono ?_
           rintro e w9 ⟨rfl, hb9⟩
           have HB9 := hide (unhide FIN _ (Below.on (unhide HBc) hb9)); clear hb9
           generalize hnb : numM ⟨op, dst, src, nn, of⟩ = nb
           have HNB := hide hnb; clear hnb
           go_wp2
           go_ret
           exact ⟨ret_bool ((unhide HNB).symm.trans (unhide HR).symm), by rw [unhide HBq]; exact unhide HB9⟩
/- vcode.allThere, insMay. -/
def okN (m z : Int) : Bool := decide (0 ≤ z) && decide (z < m)
def allT (l : List Int) (m : Int) : Bool := l.all (okN m)
theorem allc_any (z m : Int) (B : Nat) (w : World) (hB : w.cell? ⟨B, 0, none⟩ = some (.int .i64 m)) :
    Calls Tryz.prog 100 #[.int .i64 z, .pointer (some ⟨B, 0, none⟩)] w fun e w' => e = .returned (.bool (!okN m z)) ∧ w' = w := by
  by_cases h0 : z < 0
  · have HR := hide (show (!okN m z) = true by simp [okN]; omega)
    go_enter Tryz.func100, Tryz.ntmps100
    go_wp2
    go_ret
    exact ⟨ret_bool (unhide HR).symm, rfl⟩
  · have t0 : decide (z < 0) = false := by simpa using h0
    by_cases h1 : z < m
    · have HR := hide (show (!okN m z) = false by simp [okN, h1]; omega)
      have t1 : decide (z ≥ m) = false := by simp; omega
      have t2 : decide (m ≤ z) = false := by simp; omega
      clear h0 h1
      go_enter Tryz.func100, Tryz.ntmps100
      go_wp2
      go_ret
      exact ⟨ret_bool (unhide HR).symm, rfl⟩
    · have HR := hide (show (!okN m z) = true by simp [okN]; omega)
      have t1 : decide (z ≥ m) = true := by simp; omega
      have t2 : decide (m ≤ z) = true := by simp; omega
      clear h0 h1
      go_enter Tryz.func100, Tryz.ntmps100
      go_wp2
      go_ret
      exact ⟨ret_bool (unhide HR).symm, rfl⟩
theorem all_lt {l : List Int} {m : Int} {k : Nat} (hk : k < l.length) (h : ∀ i, i < k → okN m (l.getD i 0) = true) (h2 : okN m (l.getD k 0) = false) : allT l m = false := by
  unfold allT
  rw [List.all_eq_false]
  refine ⟨l[k], List.getElem_mem hk, ?_⟩
  simpa [List.getD, hk] using h2
theorem all_all {l : List Int} {m : Int} (h : ∀ i, i < l.length → okN m (l.getD i 0) = true) : allT l m = true := by
  unfold allT
  rw [List.all_eq_true]
  intro x hx
  obtain ⟨i, hi, rfl⟩ := List.getElem_of_mem hx
  have := h i hi
  simpa [List.getD, hi] using this
/-- what an index says -/
def IxB (e : Ending) (b : Bool) : Prop := ∃ r : Int, e = .returned (.int .i64 r) ∧ decide (r ≥ 0) = b
theorem idx_any (l : List Int) (m : Int) (B : Nat) (g : Nat → Prop) (v : Value) (w : World) (hv : NumsL w g l v) (hn : l.length ≤ 1099511627776) (hB : w.cell? ⟨B, 0, none⟩ = some (.int .i64 m)) :
    Calls Tryz.prog 118 #[v, .func (.func 100) #[] #[.pointer (some ⟨B, 0, none⟩)]] w fun e w' => IxB e (!allT l m) ∧ w' = w := by
  obtain ⟨a, cp, rfl, hcp, _, hA⟩ := hv
  have HA := hide hA; have HB := hide hB
  clear hA hB
  have hat := fun k h => all_lt (l := l) (m := m) (k := k) h
  have hal := all_all (l := l) (m := m)
  have HAT := hide hat; have HAL := hide hal; clear hat hal
  generalize hL : l.length = n at *
  have HL := hide hL; clear hL
  go_enter Tryz.func118, Tryz.ntmps118
  go_wp2_with fail
  go_loopw [8] (fun i wr => ∃ k : Nat, i = .int .i64 k ∧ (k : Int) ≤ n ∧ (∀ i, i < k → okN m (l.getD i 0) = true) ∧ wr = w) (fun i _ => ((n : Int) - intOf i).toNat)
  case atStart => exact ⟨0, rfl, by omega, fun i hi => absurd hi (by omega), rfl⟩
  case round =>
    obtain ⟨k, rfl, hk, hall, rfl⟩ := hrel
    have HAll := hide hall; clear hall
    by_cases hlt : (k : Int) < n
    · obtain ⟨b, o, rfl, _, hc⟩ := unhide HA (by omega)
      have c0 := hc k (by have := unhide HL; omega)
      have hcl := allc_any (l.getD k 0) m B wr (unhide HB)
      have HC := hide hcl
      clear hc hcl hk
      generalize hz : l.getD k 0 = z at *
      have HZ := hide hz; clear hz
      cases hq : okN m z with
      | true =>
        rw [hq] at HC
        have HQ := hide hq; clear hq
        go_wp2_with fail
        refine (unhide HC).mono ?_
        rintro e w1 ⟨rfl, rfl⟩
        go_wp2
        go_roundw
        case rel => exact ⟨k + 1, by go_num, by omega, fun i hi => by
          by_cases e : i = k
          · subst e; rw [unhide HZ]; exact unhide HQ
          · exact unhide HAll i (by omega), trivial⟩
        case measure => simp [intOf]; omega
      | false =>
        rw [hq] at HC
        have HQ := hide (unhide HAT k (by have := unhide HL; omega) (unhide HAll) (by rw [unhide HZ]; exact hq)); clear hq
        go_wp2_with fail
        refine (unhide HC).mono ?_
        rintro e w1 ⟨rfl, rfl⟩
        go_wp2
        go_ret
        exact ⟨⟨_, rfl, by rw [unhide HQ]; simp⟩, rfl⟩
    · obtain rfl : k = n := by omega
      have HQ := hide (unhide HAL (unhide HAll))
      clear hk hlt
      go_wp2
      go_ret
      exact ⟨⟨_, rfl, by rw [unhide HQ]; decide⟩, rfl⟩
theorem allThere_any (l : List Int) (m : Int) (g : Nat → Prop) (v : Value) (w : World) (hv : NumsL w g l v) (hn : l.length ≤ 1099511627776) :
    Calls Tryz.prog 83 #[v, .int .i64 m] w fun e w' => e = .returned (.bool (allT l m)) ∧ Below w.heap.size w w' := by
  have hx := idx_any l m w.heap.size g v (w.alloc (.cells #[.int .i64 m] 3)) (hv.below (one_alloc _ _)) hn (by simp)
  obtain ⟨a, cp, rfl, _⟩ := hv
  have HX := hide hx; clear hx
  generalize hL : l.length = n at *
  generalize hq : allT l m = q at *
  have hC : Calls Tryz.prog 99 #[.slice a n cp, .func (.func 100) #[] #[.pointer (some ⟨w.heap.size, 0, none⟩)]] (w.alloc (.cells #[.int .i64 m] 3)) fun e w' => e = .returned (.bool (!q)) ∧ w' = w.alloc (.cells #[.int .i64 m] 3) := by
    go_enter Tryz.func99, Tryz.ntmps99
    go_wp2_with fail
    refine (unhide HX).mono ?_
    rintro e w1 ⟨⟨r, rfl, hr⟩, rfl⟩
    have HR := hide hr; clear hr
    go_wp2
    go_ret
    exact ⟨ret_bool (unhide HR), rfl⟩
  have HC := hide hC; clear hC HX
  go_enter Tryz.func83, Tryz.ntmps83
  go_wp2_with fail
  refine (unhide HC).mono ?_
  rintro e w1 ⟨rfl, rfl⟩
  go_wp2
  go_ret
  exact ⟨ret_bool (by simp), one_alloc _ _⟩
/-- may an instruction be? -/
def insM (re : Int) (rs : Bool) (x : In) : Bool := (decide (-1 ≤ x.dst) && decide (x.dst < re)) && (may1 x rs && allT x.src re)
theorem box2 {w W' : World} {a b : Array Value} {s t : TypeId} (h : Below ((w.alloc (.cells a s)).alloc (.cells b t)).heap.size ((w.alloc (.cells a s)).alloc (.cells b t)) W') :
    W'.heap[w.heap.size]? = some (.cells a s (0, 0)) ∧ W'.heap[w.heap.size + 1]? = some (.cells b t (0, 0)) := by
  refine ⟨(h.block _ (by simp; omega)).trans ?_, (h.block _ (by simp)).trans ?_⟩
  · rw [Below.heap_alloc _ _ _ (by simp)]; exact heap_alloc_new _ _
  · have := heap_alloc_new (w.alloc (.cells a s)) (.cells b t); simpa using this
theorem insM_any (c : Co) (x : In) (hx : WfI x) (g : Nat → Prop) (vb v : Value) (w : World) (hT : Fms w) (hv : NumsL w g x.src v) (hvb : ∃ a n k, vb = .slice a n k) :
    Calls Tryz.prog 81 #[.agg #[.int .i64 c.pa, .int .i64 c.re, .bool c.rs, vb], .agg #[.int .u8 (x.op : Int), .int .i64 x.dst, v, .int .i64 x.n, .int .u32 x.of]] w fun e w' => e = .returned (.bool (insM c.re c.rs x)) ∧ Below w.heap.size w w' := by
  obtain ⟨ba, bn, bk, rfl⟩ := hvb
  have hM := fun W h hh => may1_any x hx c.rs g v W h hh
  have hA := fun W hh => allThere_any x.src c.re g v W hh hx.len
  have HV := hide hv; have HT := hide hT
  obtain ⟨a, cp, rfl, _⟩ := hv
  obtain ⟨pa, re, rs, bl⟩ := c
  have hm : ∀ b : Bool, may1 x rs = b → insM re rs x = ((decide (-1 ≤ x.dst) && decide (x.dst < re)) && (b && allT x.src re)) := fun b h => by rw [← h]; rfl
  have HM := hide hM; have HA := hide hA; have HMM := hide hm
  have hI : insM re rs x = ((decide (-1 ≤ x.dst) && decide (x.dst < re)) && (may1 x rs && allT x.src re)) := rfl
  have HI := hide hI
  clear hM hA hm hI hT hx
  generalize hb1 : may1 x rs = b1 at *
  have HB1 := hide hb1; clear hb1
  generalize hb2 : allT x.src re = b2 at *
  have HB2 := hide hb2; clear hb2
  generalize hb3 : insM re rs x = b3 at *
  have HB3 := hide hb3; clear hb3
  obtain ⟨op, dst, src, nn, of⟩ := x
  simp only at *
  generalize src.length = ln at *
  by_cases d0 : dst < -1
  · have HR := hide (show b3 = false by rw [unhide HI]; simp; omega)
    clear HI
    go_enter Tryz.func81, Tryz.ntmps81
    go_wp2
    go_ret
    exact ⟨ret_bool (unhide HR).symm, two_allocs _ _ _⟩
  have t0 : decide (dst < -1) = false := by simpa using d0
  by_cases d1 : dst < re
  · have t1 : decide (dst ≥ re) = false := by simp; omega
    have t2 : decide (re ≤ dst) = false := by simp; omega
    have t3 : ¬ (re ≤ dst) := by omega
    have HR := hide (show b3 = (b1 && b2) by rw [unhide HI]; simp [d1]; intro; omega)
    clear d0 d1 HI
    have hb0 := two_allocs w (.cells #[.int .i64 pa, .int .i64 re, .bool rs, .slice ba bn bk] 29) (.cells #[.int .u8 (op : Int), .int .i64 dst, .slice a ln cp, .int .i64 nn, .int .u32 of] 53)
    have hc := unhide HM _ (TC.below (unhide HT) hb0) ((unhide HV).below hb0)
    have HC := hide hc; have HB0 := hide hb0
    clear hc hb0
    cases b1 with
    | false =>
      go_enter Tryz.func81, Tryz.ntmps81
      go_wp2_with fail
      refine (unhide HC).mono ?_
      rintro e w1 ⟨rfl, hb⟩
      have HB := hide (Below.on (unhide HB0) hb); clear hb
      go_wp2
      go_ret
      exact ⟨ret_bool (by rw [unhide HR]; rfl), unhide HB⟩
    | true =>
      go_enter Tryz.func81, Tryz.ntmps81
      go_wp2_with fail
      refine (unhide HC).mono ?_
      rintro e w1 ⟨rfl, hb⟩
      have HB := hide (Below.on (unhide HB0) hb)
      obtain ⟨r0, r1⟩ := box2 hb
      have c1 : w1.cell? ⟨w.heap.size, 1, none⟩ = some (.int .i64 re) := by rw [cell_of_row w1 _ 1 _ _ _ r0]; rfl
      have c2 : w1.cell? ⟨w.heap.size + 1, 2, none⟩ = some (.slice a ln cp) := by rw [cell_of_row w1 _ 2 _ _ _ r1]; rfl
      clear hb r0 r1
      go_wp2_with fail
      refine (unhide HA _ ((unhide HV).below (unhide HB))).mono ?_
      rintro e w2 ⟨rfl, hb2⟩
      have HB2 := hide (Below.on (unhide HB) hb2); clear hb2
      go_wp2
      go_ret
      exact ⟨ret_bool (by rw [unhide HR]; rfl), unhide HB2⟩
  · have t1 : decide (dst ≥ re) = true := by simp; omega
    have t2 : decide (re ≤ dst) = true := by simp; omega
    have t3 : re ≤ dst := by omega
    have HR := hide (show b3 = false by rw [unhide HI]; simp [d1])
    clear d0 d1 HI
    go_enter Tryz.func81, Tryz.ntmps81
    go_wp2
    go_ret
    exact ⟨ret_bool (unhide HR).symm, two_allocs _ _ _⟩
end Vc
end Go.Proofs.YtglehoekehiaiaaGreatDoor
