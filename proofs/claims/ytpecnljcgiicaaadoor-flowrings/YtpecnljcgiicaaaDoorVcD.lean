/- shape.May. -/
import Derived.Test.YtpecnljcgiicaaaDoorVcC
import Derived.Deep.RegionWith
import Derived.Deep.Cut
namespace Go.Proofs.YtpecnljcgiicaaaDoor
open Go.RowKit
namespace Vc
set_option linter.unusedVariables false

def mayS (s : Shp) (x : In) : Bool := !decide ((x.src.length : Int) < s.t) && (!decide (s.t < (x.src.length : Int)) || s.m) && (s.e || (s.g == (x.dst != -1))) && (x.of == 0 || acc x.op) && numM x
def may1 (x : In) (r : Bool) : Bool := match shp x.op r with
  | none => false
  | some s => mayS s x

set_option maxRecDepth 100000 in
set_option maxHeartbeats 3200000 in
theorem may1_any (x : In) (hx : WfI x) (r : Bool) (g : Nat → Prop) (v : Value) (w : World) (hT : Fms w) (hv : NumsL w g x.src v) :
    Calls Tryd.prog 59 #[.agg #[.int .u8 (x.op : Int), .int .i64 x.dst, v, .int .i64 x.n, .int .u32 x.of], .bool r] w fun e w' => e = .returned (.bool (may1 x r)) ∧ Below w.heap.size w w' := by
  obtain ⟨a, cp, rfl, _⟩ := hv
  have hg := fun W => gives_any x (.slice a x.src.length cp) W ⟨_, _, _, rfl⟩
  have hN := fun W => numM_any x hx (.slice a x.src.length cp) W ⟨_, _, _, rfl⟩
  have hA := fun W h => acc_any x.op hx.op W h
  have hO := fun W h => of_any x.op hx.op r W h
  have hof := hx.of1
  have hof0 := hx.of0
  have hlen := hx.len
  clear hx
  have hm : may1 x r = match shp x.op r with | none => false | some s => mayS s x := rfl
  cases hs : shp x.op r with
  | none =>
    rw [hm, hs]
    have hc := hO (w.alloc (.cells #[.int .u8 (x.op : Int), .int .i64 x.dst, .slice a x.src.length cp, .int .i64 x.n, .int .u32 x.of] 97)) (TC.below hT (one_alloc _ _))
    rw [hs] at hc
    simp only [ofV] at hc ⊢
    have HC := hide hc
    clear hc hs hm hg hN hA hO hT
    obtain ⟨op, dst, src, nn, of⟩ := x
    simp only at *
    generalize src.length = ln at *
    go_enter Tryd.func59, Tryd.ntmps59
    go_wp2_with fail
    refine (unhide HC).mono ?_
    rintro e w1 ⟨rfl, hb⟩
    have HB := hide (Below.on (one_alloc _ _) hb); clear hb HC
    go_wp2
    go_ret
    exact ⟨rfl, (unhide HB).alloc (unhide HB).size _⟩
  | some s =>
    rw [hm, hs]
    have hc := hO (w.alloc (.cells #[.int .u8 (x.op : Int), .int .i64 x.dst, .slice a x.src.length cp, .int .i64 x.n, .int .u32 x.of] 97)) (TC.below hT (one_alloc _ _))
    rw [hs] at hc
    simp only [ofV] at hc ⊢
    have HC := hide hc; have HG := hide hg; have HN := hide hN; have HA := hide hA; have HT := hide hT
    clear hc hs hm hg hN hA hO hT
    obtain ⟨st, sm, sg, se⟩ := s
    simp only [mayS] at HC ⊢
    obtain ⟨op, dst, src, nn, of⟩ := x
    simp only at *
    generalize src.length = ln at *
    go_enter Tryd.func59, Tryd.ntmps59
    go_wp2_with fail
    refine (unhide HC).mono ?_
    rintro e w1 ⟨rfl, hb⟩
    have HB := hide (Below.on (one_alloc w _) hb)
    have r0 := (hb.block w.heap.size (by simp)).trans (heap_alloc_new w (.cells #[.int .u8 (op : Int), .int .i64 dst, .slice a ln cp, .int .i64 nn, .int .u32 of] 97))
    clear hb HC
    obtain ⟨W, hW⟩ : ∃ W, w1.alloc (.cells #[.int .i64 st, .bool sm, .bool sg, .bool se] 117) = W := ⟨_, rfl⟩
    have hbW : Below w.heap.size w W := by rw [← hW]; exact (unhide HB).alloc (unhide HB).size _
    have r1 : W.heap[w1.heap.size]? = some (.cells #[.int .i64 st, .bool sm, .bool sg, .bool se] 117 (0, 0)) := by rw [← hW]; exact heap_alloc_new _ _
    have hlt0 : w.heap.size < w1.heap.size := (Array.getElem?_eq_some_iff.1 r0).1
    have r2 : W.heap[w.heap.size]? = some (.cells #[.int .u8 (op : Int), .int .i64 dst, .slice a ln cp, .int .i64 nn, .int .u32 of] 97 (0, 0)) := by rw [← hW, Below.heap_alloc _ _ _ hlt0]; exact r0
    have fin : ∀ (W' : World), Below W.heap.size W W' → Below w.heap.size w W' := fun W' h => Below.on hbW h
    have FIN := hide fin
    have HTW := hide (TC.below (unhide HT) hbW)
    go_upto_region 2 with fail
    try rw [hW]
    have hB0 : w.heap.size < W.heap.size := (Array.getElem?_eq_some_iff.1 r2).1
    have hB1 : w1.heap.size < W.heap.size := (Array.getElem?_eq_some_iff.1 r1).1
    clear fin hbW hW HB r0 HT
    generalize hBq : w.heap.size = B0 at *
    have HBq := hide hBq; clear hBq
    generalize w1.heap.size = B1 at *
    clear w1
    have R1 := hide r1; have R2 := hide r2
    have cells : ∀ W', Below W.heap.size W W' → (W'.cell? ⟨B0, 0, none⟩ = some (.int .u8 (op : Int)) ∧ W'.cell? ⟨B0, 1, none⟩ = some (.int .i64 dst) ∧ W'.cell? ⟨B0, 2, none⟩ = some (.slice a ln cp) ∧ W'.cell? ⟨B0, 3, none⟩ = some (.int .i64 nn) ∧ W'.cell? ⟨B0, 4, none⟩ = some (.int .u32 of)) ∧ (W'.cell? ⟨B1, 0, none⟩ = some (.int .i64 st) ∧ W'.cell? ⟨B1, 1, none⟩ = some (.bool sm) ∧ W'.cell? ⟨B1, 2, none⟩ = some (.bool sg) ∧ W'.cell? ⟨B1, 3, none⟩ = some (.bool se)) := by
      intro W' h
      have q2 := (h.block B0 hB0).trans (unhide R2)
      have q1 := (h.block B1 hB1).trans (unhide R1)
      refine ⟨⟨?_, ?_, ?_, ?_, ?_⟩, ?_, ?_, ?_, ?_⟩
      all_goals first | (rw [cell_of_row W' B0 _ _ _ _ q2]; rfl) | (rw [cell_of_row W' B1 _ _ _ _ q1]; rfl)
    have CE := hide cells
    obtain ⟨⟨a0, a1, a2, a3, a4⟩, b0, b1, b2, b3⟩ := cells W (Below.refl _ _)
    clear cells r1 r2 hB0 hB1
    by_cases l1 : (ln : Int) < st
    · have HR := hide (show (!decide ((ln : Int) < st) && (!decide (st < (ln : Int)) || sm) && (se || (sg == (dst != -1))) && (of == 0 || acc op) && numM ⟨op, dst, src, nn, of⟩) = false by simp [l1])
      go_wp2
      go_ret
      exact ⟨ret_bool (unhide HR).symm, by rw [unhide HBq]; exact unhide FIN _ (Below.refl _ _)⟩
    have t1 : decide ((ln : Int) < st) = false := by simpa using l1
    by_cases l2 : st < (ln : Int)
    · have t2 : decide (st < (ln : Int)) = true := by simpa using l2
      clear l1 l2
      cases sm with
      | false =>
        have HR := hide (show (!decide ((ln : Int) < st) && (!decide (st < (ln : Int)) || false) && (se || (sg == (dst != -1))) && (of == 0 || acc op) && numM ⟨op, dst, src, nn, of⟩) = false by simp [t2])
        go_wp2
        go_ret
        exact ⟨ret_bool (unhide HR).symm, by rw [unhide HBq]; exact unhide FIN _ (Below.refl _ _)⟩
      | true =>
        cases se with
        | true =>
          go_upto_region 6 with fail
          go_quiet (fail)
          have HBc := hide (drewn W nq)
          by_cases o0 : of = 0
          · subst o0
            have HR := hide (show (!decide ((ln : Int) < st) && (!decide (st < (ln : Int)) || true) && (true || (sg == (dst != -1))) && ((0 : Int) == 0 || acc op) && numM ⟨op, dst, src, nn, 0⟩) = numM ⟨op, dst, src, nn, 0⟩ by simp [t1, t2])
            go_wp2_with fail
            refine (unhide HN _).mono ?_
            rintro e w9 ⟨rfl, hb9⟩
            have HB9 := hide (unhide FIN _ (Below.on (unhide HBc) hb9)); clear hb9
            generalize hnb : numM ⟨op, dst, src, nn, 0⟩ = nb
            have HNB := hide hnb; clear hnb
            go_wp2
            go_ret
            exact ⟨ret_bool ((unhide HNB).symm.trans (unhide HR).symm), by rw [unhide HBq]; exact unhide HB9⟩
          · have to : (of != 0) = true := by simpa using o0
            have tf : (of == 0) = false := by simpa using o0
            clear o0
            go_wp2_with fail
            refine (unhide HA _ (TC.below (unhide HTW) (unhide HBc))).mono ?_
            rintro e w8 ⟨rfl, hb8⟩
            have HBc := hide (Below.on (unhide HBc) hb8)
            obtain ⟨⟨a0, a1, a2, a3, a4⟩, b0, b1, b2, b3⟩ := unhide CE w8 (unhide HBc)
            clear hb8
            cases ha : acc op with
            | false =>
              have HR := hide (show (!decide ((ln : Int) < st) && (!decide (st < (ln : Int)) || true) && (true || (sg == (dst != -1))) && ((of : Int) == 0 || acc op) && numM ⟨op, dst, src, nn, of⟩) = false by simp [ha, tf])
              clear ha
              go_wp2
              go_ret
              exact ⟨ret_bool (unhide HR).symm, by rw [unhide HBq]; exact unhide FIN _ (unhide HBc)⟩
            | true =>
              have HR := hide (show (!decide ((ln : Int) < st) && (!decide (st < (ln : Int)) || true) && (true || (sg == (dst != -1))) && ((of : Int) == 0 || acc op) && numM ⟨op, dst, src, nn, of⟩) = numM ⟨op, dst, src, nn, of⟩ by simp [ha, t1, t2, tf])
              clear ha
              go_wp2_with fail
              refine (unhide HN _).mono ?_
              rintro e w9 ⟨rfl, hb9⟩
              have HB9 := hide (unhide FIN _ (Below.on (unhide HBc) hb9)); clear hb9
              generalize hnb : numM ⟨op, dst, src, nn, of⟩ = nb
              have HNB := hide hnb; clear hnb
              go_wp2
              go_ret
              exact ⟨ret_bool ((unhide HNB).symm.trans (unhide HR).symm), by rw [unhide HBq]; exact unhide HB9⟩
        | false =>
          go_upto_region 6 with fail
          go_region_with (go_at_call 76; refine (unhide HG _).mono ?_; rintro e w6 ⟨rfl, hb6⟩; have HBc := hide (Below.on (drewn W 1) hb6); obtain ⟨⟨a0, a1, a2, a3, a4⟩, b0, b1, b2, b3⟩ := unhide CE w6 (unhide HBc); clear hb6)
          all_goals
            generalize hbd : (dst != -1) = bd at *
            have HBD := hide hbd; clear hbd
            cases sg <;> cases bd
            · by_cases o0 : of = 0
              · subst o0
                have HR := hide (show (!decide ((ln : Int) < st) && (!decide (st < (ln : Int)) || true) && (false || (false == (dst != -1))) && ((0 : Int) == 0 || acc op) && numM ⟨op, dst, src, nn, 0⟩) = numM ⟨op, dst, src, nn, 0⟩ by rw [unhide HBD]; simp [t1, t2])
                go_wp2_with fail
                refine (unhide HN _).mono ?_
                rintro e w9 ⟨rfl, hb9⟩
                have HB9 := hide (unhide FIN _ (Below.on (unhide HBc) hb9)); clear hb9
                generalize hnb : numM ⟨op, dst, src, nn, 0⟩ = nb
                have HNB := hide hnb; clear hnb
                go_wp2
                go_ret
                exact ⟨ret_bool ((unhide HNB).symm.trans (unhide HR).symm), by rw [unhide HBq]; exact unhide HB9⟩
              · have to : (of != 0) = true := by simpa using o0
                have tf : (of == 0) = false := by simpa using o0
                clear o0
                go_wp2_with fail
                refine (unhide HA _ (TC.below (unhide HTW) (unhide HBc))).mono ?_
                rintro e w8 ⟨rfl, hb8⟩
                have HBc := hide (Below.on (unhide HBc) hb8)
                obtain ⟨⟨a0, a1, a2, a3, a4⟩, b0, b1, b2, b3⟩ := unhide CE w8 (unhide HBc)
                clear hb8
                cases ha : acc op with
                | false =>
                  have HR := hide (show (!decide ((ln : Int) < st) && (!decide (st < (ln : Int)) || true) && (false || (false == (dst != -1))) && ((of : Int) == 0 || acc op) && numM ⟨op, dst, src, nn, of⟩) = false by rw [unhide HBD]; simp [ha, tf])
                  clear ha
                  go_wp2
                  go_ret
                  exact ⟨ret_bool (unhide HR).symm, by rw [unhide HBq]; exact unhide FIN _ (unhide HBc)⟩
                | true =>
                  have HR := hide (show (!decide ((ln : Int) < st) && (!decide (st < (ln : Int)) || true) && (false || (false == (dst != -1))) && ((of : Int) == 0 || acc op) && numM ⟨op, dst, src, nn, of⟩) = numM ⟨op, dst, src, nn, of⟩ by rw [unhide HBD]; simp [ha, t1, t2, tf])
                  clear ha
                  go_wp2_with fail
                  refine (unhide HN _).mono ?_
                  rintro e w9 ⟨rfl, hb9⟩
                  have HB9 := hide (unhide FIN _ (Below.on (unhide HBc) hb9)); clear hb9
                  generalize hnb : numM ⟨op, dst, src, nn, of⟩ = nb
                  have HNB := hide hnb; clear hnb
                  go_wp2
                  go_ret
                  exact ⟨ret_bool ((unhide HNB).symm.trans (unhide HR).symm), by rw [unhide HBq]; exact unhide HB9⟩
            · have HR := hide (show (!decide ((ln : Int) < st) && (!decide (st < (ln : Int)) || true) && (false || (false == (dst != -1))) && ((of : Int) == 0 || acc op) && numM ⟨op, dst, src, nn, of⟩) = false by rw [unhide HBD]; simp)
              go_wp2
              go_ret
              exact ⟨ret_bool (unhide HR).symm, by rw [unhide HBq]; exact unhide FIN _ (unhide HBc)⟩
            · have HR := hide (show (!decide ((ln : Int) < st) && (!decide (st < (ln : Int)) || true) && (false || (true == (dst != -1))) && ((of : Int) == 0 || acc op) && numM ⟨op, dst, src, nn, of⟩) = false by rw [unhide HBD]; simp)
              go_wp2
              go_ret
              exact ⟨ret_bool (unhide HR).symm, by rw [unhide HBq]; exact unhide FIN _ (unhide HBc)⟩
            · by_cases o0 : of = 0
              · subst o0
                have HR := hide (show (!decide ((ln : Int) < st) && (!decide (st < (ln : Int)) || true) && (false || (true == (dst != -1))) && ((0 : Int) == 0 || acc op) && numM ⟨op, dst, src, nn, 0⟩) = numM ⟨op, dst, src, nn, 0⟩ by rw [unhide HBD]; simp [t1, t2])
                go_wp2_with fail
                refine (unhide HN _).mono ?_
                rintro e w9 ⟨rfl, hb9⟩
                have HB9 := hide (unhide FIN _ (Below.on (unhide HBc) hb9)); clear hb9
                generalize hnb : numM ⟨op, dst, src, nn, 0⟩ = nb
                have HNB := hide hnb; clear hnb
                go_wp2
                go_ret
                exact ⟨ret_bool ((unhide HNB).symm.trans (unhide HR).symm), by rw [unhide HBq]; exact unhide HB9⟩
              · have to : (of != 0) = true := by simpa using o0
                have tf : (of == 0) = false := by simpa using o0
                clear o0
                go_wp2_with fail
                refine (unhide HA _ (TC.below (unhide HTW) (unhide HBc))).mono ?_
                rintro e w8 ⟨rfl, hb8⟩
                have HBc := hide (Below.on (unhide HBc) hb8)
                obtain ⟨⟨a0, a1, a2, a3, a4⟩, b0, b1, b2, b3⟩ := unhide CE w8 (unhide HBc)
                clear hb8
                cases ha : acc op with
                | false =>
                  have HR := hide (show (!decide ((ln : Int) < st) && (!decide (st < (ln : Int)) || true) && (false || (true == (dst != -1))) && ((of : Int) == 0 || acc op) && numM ⟨op, dst, src, nn, of⟩) = false by rw [unhide HBD]; simp [ha, tf])
                  clear ha
                  go_wp2
                  go_ret
                  exact ⟨ret_bool (unhide HR).symm, by rw [unhide HBq]; exact unhide FIN _ (unhide HBc)⟩
                | true =>
                  have HR := hide (show (!decide ((ln : Int) < st) && (!decide (st < (ln : Int)) || true) && (false || (true == (dst != -1))) && ((of : Int) == 0 || acc op) && numM ⟨op, dst, src, nn, of⟩) = numM ⟨op, dst, src, nn, of⟩ by rw [unhide HBD]; simp [ha, t1, t2, tf])
                  clear ha
                  go_wp2_with fail
                  refine (unhide HN _).mono ?_
                  rintro e w9 ⟨rfl, hb9⟩
                  have HB9 := hide (unhide FIN _ (Below.on (unhide HBc) hb9)); clear hb9
                  generalize hnb : numM ⟨op, dst, src, nn, of⟩ = nb
                  have HNB := hide hnb; clear hnb
                  go_wp2
                  go_ret
                  exact ⟨ret_bool ((unhide HNB).symm.trans (unhide HR).symm), by rw [unhide HBq]; exact unhide HB9⟩
    · have t2 : decide (st < (ln : Int)) = false := by simpa using l2
      clear l1 l2
      cases se with
      | true =>
        go_upto_region 6 with fail
        go_quiet (fail)
        have HBc := hide (drewn W nq)
        by_cases o0 : of = 0
        · subst o0
          have HR := hide (show (!decide ((ln : Int) < st) && (!decide (st < (ln : Int)) || sm) && (true || (sg == (dst != -1))) && ((0 : Int) == 0 || acc op) && numM ⟨op, dst, src, nn, 0⟩) = numM ⟨op, dst, src, nn, 0⟩ by simp [t1, t2])
          go_wp2_with fail
          refine (unhide HN _).mono ?_
          rintro e w9 ⟨rfl, hb9⟩
          have HB9 := hide (unhide FIN _ (Below.on (unhide HBc) hb9)); clear hb9
          generalize hnb : numM ⟨op, dst, src, nn, 0⟩ = nb
          have HNB := hide hnb; clear hnb
          go_wp2
          go_ret
          exact ⟨ret_bool ((unhide HNB).symm.trans (unhide HR).symm), by rw [unhide HBq]; exact unhide HB9⟩
        · have to : (of != 0) = true := by simpa using o0
          have tf : (of == 0) = false := by simpa using o0
          clear o0
          go_wp2_with fail
          refine (unhide HA _ (TC.below (unhide HTW) (unhide HBc))).mono ?_
          rintro e w8 ⟨rfl, hb8⟩
          have HBc := hide (Below.on (unhide HBc) hb8)
          obtain ⟨⟨a0, a1, a2, a3, a4⟩, b0, b1, b2, b3⟩ := unhide CE w8 (unhide HBc)
          clear hb8
          cases ha : acc op with
          | false =>
            have HR := hide (show (!decide ((ln : Int) < st) && (!decide (st < (ln : Int)) || sm) && (true || (sg == (dst != -1))) && ((of : Int) == 0 || acc op) && numM ⟨op, dst, src, nn, of⟩) = false by simp [ha, tf])
            clear ha
            go_wp2
            go_ret
            exact ⟨ret_bool (unhide HR).symm, by rw [unhide HBq]; exact unhide FIN _ (unhide HBc)⟩
          | true =>
            have HR := hide (show (!decide ((ln : Int) < st) && (!decide (st < (ln : Int)) || sm) && (true || (sg == (dst != -1))) && ((of : Int) == 0 || acc op) && numM ⟨op, dst, src, nn, of⟩) = numM ⟨op, dst, src, nn, of⟩ by simp [ha, t1, t2, tf])
            clear ha
            go_wp2_with fail
            refine (unhide HN _).mono ?_
            rintro e w9 ⟨rfl, hb9⟩
            have HB9 := hide (unhide FIN _ (Below.on (unhide HBc) hb9)); clear hb9
            generalize hnb : numM ⟨op, dst, src, nn, of⟩ = nb
            have HNB := hide hnb; clear hnb
            go_wp2
            go_ret
            exact ⟨ret_bool ((unhide HNB).symm.trans (unhide HR).symm), by rw [unhide HBq]; exact unhide HB9⟩
      | false =>
        go_upto_region 6 with fail
        go_region_with (go_at_call 76; refine (unhide HG _).mono ?_; rintro e w6 ⟨rfl, hb6⟩; have HBc := hide (Below.on (drewn W 1) hb6); obtain ⟨⟨a0, a1, a2, a3, a4⟩, b0, b1, b2, b3⟩ := unhide CE w6 (unhide HBc); clear hb6)
        all_goals
          generalize hbd : (dst != -1) = bd at *
          have HBD := hide hbd; clear hbd
          cases sg <;> cases bd
          · by_cases o0 : of = 0
            · subst o0
              have HR := hide (show (!decide ((ln : Int) < st) && (!decide (st < (ln : Int)) || sm) && (false || (false == (dst != -1))) && ((0 : Int) == 0 || acc op) && numM ⟨op, dst, src, nn, 0⟩) = numM ⟨op, dst, src, nn, 0⟩ by rw [unhide HBD]; simp [t1, t2])
              go_wp2_with fail
              refine (unhide HN _).mono ?_
              rintro e w9 ⟨rfl, hb9⟩
              have HB9 := hide (unhide FIN _ (Below.on (unhide HBc) hb9)); clear hb9
              generalize hnb : numM ⟨op, dst, src, nn, 0⟩ = nb
              have HNB := hide hnb; clear hnb
              go_wp2
              go_ret
              exact ⟨ret_bool ((unhide HNB).symm.trans (unhide HR).symm), by rw [unhide HBq]; exact unhide HB9⟩
            · have to : (of != 0) = true := by simpa using o0
              have tf : (of == 0) = false := by simpa using o0
              clear o0
              go_wp2_with fail
              refine (unhide HA _ (TC.below (unhide HTW) (unhide HBc))).mono ?_
              rintro e w8 ⟨rfl, hb8⟩
              have HBc := hide (Below.on (unhide HBc) hb8)
              obtain ⟨⟨a0, a1, a2, a3, a4⟩, b0, b1, b2, b3⟩ := unhide CE w8 (unhide HBc)
              clear hb8
              cases ha : acc op with
              | false =>
                have HR := hide (show (!decide ((ln : Int) < st) && (!decide (st < (ln : Int)) || sm) && (false || (false == (dst != -1))) && ((of : Int) == 0 || acc op) && numM ⟨op, dst, src, nn, of⟩) = false by rw [unhide HBD]; simp [ha, tf])
                clear ha
                go_wp2
                go_ret
                exact ⟨ret_bool (unhide HR).symm, by rw [unhide HBq]; exact unhide FIN _ (unhide HBc)⟩
              | true =>
                have HR := hide (show (!decide ((ln : Int) < st) && (!decide (st < (ln : Int)) || sm) && (false || (false == (dst != -1))) && ((of : Int) == 0 || acc op) && numM ⟨op, dst, src, nn, of⟩) = numM ⟨op, dst, src, nn, of⟩ by rw [unhide HBD]; simp [ha, t1, t2, tf])
                clear ha
                go_wp2_with fail
                refine (unhide HN _).mono ?_
                rintro e w9 ⟨rfl, hb9⟩
                have HB9 := hide (unhide FIN _ (Below.on (unhide HBc) hb9)); clear hb9
                generalize hnb : numM ⟨op, dst, src, nn, of⟩ = nb
                have HNB := hide hnb; clear hnb
                go_wp2
                go_ret
                exact ⟨ret_bool ((unhide HNB).symm.trans (unhide HR).symm), by rw [unhide HBq]; exact unhide HB9⟩
          · have HR := hide (show (!decide ((ln : Int) < st) && (!decide (st < (ln : Int)) || sm) && (false || (false == (dst != -1))) && ((of : Int) == 0 || acc op) && numM ⟨op, dst, src, nn, of⟩) = false by rw [unhide HBD]; simp)
            go_wp2
            go_ret
            exact ⟨ret_bool (unhide HR).symm, by rw [unhide HBq]; exact unhide FIN _ (unhide HBc)⟩
          · have HR := hide (show (!decide ((ln : Int) < st) && (!decide (st < (ln : Int)) || sm) && (false || (true == (dst != -1))) && ((of : Int) == 0 || acc op) && numM ⟨op, dst, src, nn, of⟩) = false by rw [unhide HBD]; simp)
            go_wp2
            go_ret
            exact ⟨ret_bool (unhide HR).symm, by rw [unhide HBq]; exact unhide FIN _ (unhide HBc)⟩
          · by_cases o0 : of = 0
            · subst o0
              have HR := hide (show (!decide ((ln : Int) < st) && (!decide (st < (ln : Int)) || sm) && (false || (true == (dst != -1))) && ((0 : Int) == 0 || acc op) && numM ⟨op, dst, src, nn, 0⟩) = numM ⟨op, dst, src, nn, 0⟩ by rw [unhide HBD]; simp [t1, t2])
              go_wp2_with fail
              refine (unhide HN _).mono ?_
              rintro e w9 ⟨rfl, hb9⟩
              have HB9 := hide (unhide FIN _ (Below.on (unhide HBc) hb9)); clear hb9
              generalize hnb : numM ⟨op, dst, src, nn, 0⟩ = nb
              have HNB := hide hnb; clear hnb
              go_wp2
              go_ret
              exact ⟨ret_bool ((unhide HNB).symm.trans (unhide HR).symm), by rw [unhide HBq]; exact unhide HB9⟩
            · have to : (of != 0) = true := by simpa using o0
              have tf : (of == 0) = false := by simpa using o0
              clear o0
              go_wp2_with fail
              refine (unhide HA _ (TC.below (unhide HTW) (unhide HBc))).mono ?_
              rintro e w8 ⟨rfl, hb8⟩
              have HBc := hide (Below.on (unhide HBc) hb8)
              obtain ⟨⟨a0, a1, a2, a3, a4⟩, b0, b1, b2, b3⟩ := unhide CE w8 (unhide HBc)
              clear hb8
              cases ha : acc op with
              | false =>
                have HR := hide (show (!decide ((ln : Int) < st) && (!decide (st < (ln : Int)) || sm) && (false || (true == (dst != -1))) && ((of : Int) == 0 || acc op) && numM ⟨op, dst, src, nn, of⟩) = false by rw [unhide HBD]; simp [ha, tf])
                clear ha
                go_wp2
                go_ret
                exact ⟨ret_bool (unhide HR).symm, by rw [unhide HBq]; exact unhide FIN _ (unhide HBc)⟩
              | true =>
                have HR := hide (show (!decide ((ln : Int) < st) && (!decide (st < (ln : Int)) || sm) && (false || (true == (dst != -1))) && ((of : Int) == 0 || acc op) && numM ⟨op, dst, src, nn, of⟩) = numM ⟨op, dst, src, nn, of⟩ by rw [unhide HBD]; simp [ha, t1, t2, tf])
                clear ha
                go_wp2_with fail
                refine (unhide HN _).mono ?_
                rintro e w9 ⟨rfl, hb9⟩
                have HB9 := hide (unhide FIN _ (Below.on (unhide HBc) hb9)); clear hb9
                generalize hnb : numM ⟨op, dst, src, nn, of⟩ = nb
                have HNB := hide hnb; clear hnb
                go_wp2
                go_ret
                exact ⟨ret_bool ((unhide HNB).symm.trans (unhide HR).symm), by rw [unhide HBq]; exact unhide HB9⟩
end Vc
end Go.Proofs.YtpecnljcgiicaaaDoor
