/- valid.exportsMayBe, partsMayBe, Check of the module that sure makes. -/
import Derived.Test.YtcljcnaglkbjcaaGreatDoorVaD
import Derived.Maps.Views
namespace Go.Proofs.YtcljcnaglkbjcaaGreatDoor
open Go.RowKit Go.Maps Go.Shelf
set_option linter.unusedVariables false

theorem ebox {w : World} {x0 x1 x2 : Value} {B : Nat} {t : TypeId} (h : w.heap[B]? = some (.cells #[x0, x1, x2] t (0, 0))) :
    w.cell? ⟨B, 0, none⟩ = some x0 ∧ w.cell? ⟨B, 1, none⟩ = some x1 ∧ w.cell? ⟨B, 2, none⟩ = some x2 := by
  refine ⟨?_, ?_, ?_⟩ <;> (rw [cell_of_row w B _ _ _ _ h]; rfl)
theorem map_nil_at (kl : Lit) (c : Int) (h : (DataW.map [] : DataW Unit).atKey kl (.lit (.int .i64 0)) = .lit (.int .i64 c)) : c = 0 := by
  have e : (DataW.map [] : DataW Unit).atKey kl (.lit (.int .i64 0)) = .lit (.int .i64 0) := rfl
  rw [e] at h
  injection h with h
  injection h with h1 h2
  exact h2.symm
theorem map_put_at (kl : Lit) (hk : WideAt.IsKeyLit kl) (a c : Int) (h : ((DataW.map [] : DataW Unit).put kl (.lit (.int .i64 a))).atKey kl (.lit (.int .i64 0)) = .lit (.int .i64 c)) : c = a := by
  rw [atKey_put_same ⟨_, rfl⟩ hk] at h
  injection h with h
  injection h with h1 h2
  exact h2.symm

theorem grown_facts {w wA w1 : World} {cs : Array Value} {t : TypeId} (hA : Below w.heap.size w wA) (rA : wA.heap[w.heap.size]? = some (.cells cs t (0, 0))) (sA : wA.heap.size = w.heap.size + 2) (hg : (wA.alloc (.cells #[.string ⟨#[109]⟩, .int .u8 2, .int .u32 0] 129)).grownBy w1 (some (w.heap.size + 1))) :
    w1.heap[w.heap.size]? = some (.cells cs t (0, 0)) ∧ w1.heap[wA.heap.size]? = some (.cells #[.string ⟨#[109]⟩, .int .u8 2, .int .u32 0] 129 (0, 0)) ∧ Below w.heap.size w w1 ∧ wA.heap.size < w1.heap.size ∧ w.heap.size < w1.heap.size := by
  have e : (wA.alloc (.cells #[.string ⟨#[109]⟩, .int .u8 2, .int .u32 0] 129)).heap.size = wA.heap.size + 1 := by simp
  have hz := hg.size
  rw [e] at hz
  refine ⟨?_, ?_, (hA.alloc hA.size _).grown hg (by omega) (fun k hk => by cases hk; omega), by omega, by omega⟩
  · rw [hg.block _ (by omega) (by simp)]; exact (Below.heap_alloc _ _ _ (by omega)).trans rA
  · rw [hg.block _ (by omega) (by simp; omega)]; exact heap_alloc_new _ _

set_option maxRecDepth 100000 in
set_option maxHeartbeats 1000000 in
theorem exports0 {w : World} {bm bd be yl yc : Nat} {ya : Option Addr} (h : M0 w bm bd be (.slice ya yl yc)) :
    Calls Tryz.prog 109 #[.agg #[.slice none 0 0, .slice none 0 0, .slice none 0 0, .slice (some ⟨bm, 0, none⟩) 1 1, .slice none 0 0, .slice (some ⟨be, 0, none⟩) 1 1, .slice none 0 0, .slice (some ⟨bd, 0, none⟩) 1 1]] w fun e w' => e = .returned (.bool true) ∧ Below w.heap.size w w' := by
  have hmm := @run_makeMap Tryz.prog
  have hkey : keyOf Tryz.prog 9 (.string ⟨#[109]⟩) = some (.string [109]) := by kernel_rfl
  obtain ⟨wA, eA⟩ : ∃ wA, (w.alloc (.cells #[.slice none 0 0, .slice none 0 0, .slice none 0 0, .slice (some ⟨bm, 0, none⟩) 1 1, .slice none 0 0, .slice (some ⟨be, 0, none⟩) 1 1, .slice none 0 0, .slice (some ⟨bd, 0, none⟩) 1 1] 47)).alloc (.map #[] 0) = wA := ⟨_, rfl⟩
  have hA : Below w.heap.size w wA := by rw [← eA]; exact ((Below.refl _ _).alloc (Nat.le_refl _) _).alloc (by simp) _
  have rA : wA.heap[w.heap.size]? = some (.cells #[.slice none 0 0, .slice none 0 0, .slice none 0 0, .slice (some ⟨bm, 0, none⟩) 1 1, .slice none 0 0, .slice (some ⟨be, 0, none⟩) 1 1, .slice none 0 0, .slice (some ⟨bd, 0, none⟩) 1 1] 47 (0, 0)) := by rw [← eA]; exact (Below.heap_alloc _ _ _ (by simp)).trans (heap_alloc_new _ _)
  have oA : wA.ownsMap Tryz.prog 9 (plainElem (H := Unit) Tryz.prog 3) (w.heap.size + 1) 0 (.map []) := by
    rw [← eA]
    have := World.ownsMap_made (H := Unit) (w.alloc (.cells #[.slice none 0 0, .slice none 0 0, .slice none 0 0, .slice (some ⟨bm, 0, none⟩) 1 1, .slice none 0 0, .slice (some ⟨be, 0, none⟩) 1 1, .slice none 0 0, .slice (some ⟨bd, 0, none⟩) 1 1] 47)) Tryz.prog 9 (plainElem (H := Unit) Tryz.prog 3); simpa using this
  have sA : wA.heap.size = w.heap.size + 2 := by rw [← eA]; simp
  have hM := h.below hA
  have c0 := hM.e0; have c1 := hM.e1; have c2 := hM.e2
  have hlt := h.lte
  have HM := hide hM; have HA := hide hA; have RA := hide rA; have OA := hide oA; have SA := hide sA; have EA := hide eA
  have h0 := h
  clear h hA rA oA sA hM eA
  go_enter Tryz.func109, Tryz.ntmps109
  go_wp2
  refine wp_loop_rounds 2 ?_
  rw [rounds_succ]
  rw [unhide EA]
  have hsz : ¬ be = wA.heap.size := by rw [unhide SA]; omega
  have HH := hide h0; clear h0
  go_wp2_with (first
   | (at_lookup; refine wpList_lookup_own_int _ rfl _ _ 280 rfl 9 3 .i64 lawS Tryz.underlying280 Tryz.underlying3 (zeroI _) (w.heap.size + 1) 0 _ rfl ((unhide OA).alloc _) _ _ rfl hkey ?_; intro c hat hwc; obtain rfl := map_nil_at _ _ hat; clear hat hwc)
   | (at_mapUpdate; (refine wpList_mapUpdate_own _ rfl _ _ _ 280 rfl 9 3 lawS Tryz.underlying280 _ (w.heap.size + 1) 0 _ rfl ((unhide OA).alloc _) (by unfold maxLen; omega) _ _ _ rfl rfl hkey _ [] (plainElem_int Tryz.underlying3 (by decide)) ?_; intro w1 hown1 hgrow1; obtain ⟨f1, f2, f3, f4, f5⟩ := grown_facts (unhide HA) (unhide RA) (unhide SA) hgrow1; obtain ⟨q0, q1, q2, q3, q4, q5, q6, q7⟩ := mbox f1; obtain ⟨r0, r1, r2⟩ := ebox f2; have HB1 := hide f3; have HO1 := hide hown1; clear f1 f2 f3 hgrow1 hown1 OA RA))
   | (at_lookup; refine wpList_lookup_own_int _ rfl _ _ 280 rfl 9 3 .i64 lawS Tryz.underlying280 Tryz.underlying3 (zeroI _) (w.heap.size + 1) 1 _ rfl (unhide HO1) _ _ rfl hkey ?_; intro c hat hwc; obtain rfl := map_put_at (.string [109]) trivial _ _ hat; clear hat hwc)
   | fail)
  refine (target0 ((unhide HH).below (unhide HB1))).mono ?_
  rintro e w2 ⟨rfl, hb2⟩
  have HB2 := hide (Below.on (unhide HB1) hb2)
  clear hb2
  go_wp2
  rw [rounds_succ]
  go_wp2
  go_ret
  exact ⟨rfl, unhide HB2⟩

set_option maxRecDepth 100000 in
set_option maxHeartbeats 1000000 in
theorem parts0 {w : World} {bm bd be yl yc : Nat} {ya : Option Addr} (h : M0 w bm bd be (.slice ya yl yc)) (hT : TC w 5 fmV) :
    Calls Tryz.prog 67 #[.agg #[.slice none 0 0, .slice none 0 0, .slice none 0 0, .slice (some ⟨bm, 0, none⟩) 1 1, .slice none 0 0, .slice (some ⟨be, 0, none⟩) 1 1, .slice none 0 0, .slice (some ⟨bd, 0, none⟩) 1 1]] w fun e w' => e = .returned (.bool true) ∧ Below w.heap.size w w' := by
  have hb0 : Below w.heap.size w (w.alloc (.cells #[.slice none 0 0, .slice none 0 0, .slice none 0 0, .slice (some ⟨bm, 0, none⟩) 1 1, .slice none 0 0, .slice (some ⟨be, 0, none⟩) 1 1, .slice none 0 0, .slice (some ⟨bd, 0, none⟩) 1 1] 47)) := (Below.refl _ _).alloc (Nat.le_refl _) _
  have HB0 := hide hb0; have HM := hide h; have HTT := hide hT
  clear hb0 h hT
  go_enter Tryz.func67, Tryz.ntmps67
  go_wp2_with fail
  have hr := heap_alloc_new w (.cells #[.slice none 0 0, .slice none 0 0, .slice none 0 0, .slice (some ⟨bm, 0, none⟩) 1 1, .slice none 0 0, .slice (some ⟨be, 0, none⟩) 1 1, .slice none 0 0, .slice (some ⟨bd, 0, none⟩) 1 1] 47)
  have HR := hide hr; clear hr
  generalize w.alloc (.cells #[.slice none 0 0, .slice none 0 0, .slice none 0 0, .slice (some ⟨bm, 0, none⟩) 1 1, .slice none 0 0, .slice (some ⟨be, 0, none⟩) 1 1, .slice none 0 0, .slice (some ⟨bd, 0, none⟩) 1 1] 47) = w0 at *
  refine (all0_F _ _ _ _ _).mono ?_
  rintro e w1 ⟨rfl, hb1⟩
  have hr1 := (hb1.block _ (Array.getElem?_eq_some_iff.1 (unhide HR)).1).trans (unhide HR)
  have hlt1 := (Array.getElem?_eq_some_iff.1 hr1).1
  obtain ⟨q0, q1, q2, q3, q4, q5, q6, q7⟩ := mbox hr1
  have HB1 := hide (Below.on (unhide HB0) hb1); have HR1 := hide hr1
  clear hb1 hr1 HR HB0 q0 q1 q3 q4 q5 q6 q7
  go_wp2_with fail
  clear q2 hlt1
  refine (all0_L _ _ _ _ _).mono ?_
  rintro e w2 ⟨rfl, hb1⟩
  have hr1 := (hb1.block _ (Array.getElem?_eq_some_iff.1 (unhide HR1)).1).trans (unhide HR1)
  have hlt2 := (Array.getElem?_eq_some_iff.1 hr1).1
  obtain ⟨q0, q1, q2, q3, q4, q5, q6, q7⟩ := mbox hr1
  have HB2 := hide (Below.on (unhide HB1) hb1); have HR2 := hide hr1
  clear hb1 hr1 HR1 HB1 q0 q1 q2 q4 q5 q6 q7
  go_wp2_with fail
  clear q3 hlt2
  refine (all1_L ((unhide HM).below (unhide HB2)) 106 (enters_of Tryz.func106 (by kernel_rfl) rfl) true fun W => bounds_any 1 0 false W).mono ?_
  rintro e w3 ⟨rfl, hb1⟩
  have hr1 := (hb1.block _ (Array.getElem?_eq_some_iff.1 (unhide HR2)).1).trans (unhide HR2)
  have hlt3 := (Array.getElem?_eq_some_iff.1 hr1).1
  obtain ⟨q0, q1, q2, q3, q4, q5, q6, q7⟩ := mbox hr1
  have HB3 := hide (Below.on (unhide HB2) hb1); have HR3 := hide hr1
  clear hb1 hr1 HR2 HB2 q0 q1 q2 q3 q5 q6 q7
  go_wp2_with fail
  clear q4 hlt3
  refine (all0_G _ _ _ _ _).mono ?_
  rintro e w4 ⟨rfl, hb1⟩
  have hr1 := (hb1.block _ (Array.getElem?_eq_some_iff.1 (unhide HR3)).1).trans (unhide HR3)
  have hlt4 := (Array.getElem?_eq_some_iff.1 hr1).1
  obtain ⟨q0, q1, q2, q3, q4, q5, q6, q7⟩ := mbox hr1
  have HB4 := hide (Below.on (unhide HB3) hb1); have HR4 := hide hr1
  clear hb1 hr1 HR3 HB3 
  go_wp2_with fail
  clear q0 q1 q2 q3 q4 q5 q6 q7 hlt4
  refine (exports0 ((unhide HM).below (unhide HB4))).mono ?_
  rintro e w5 ⟨rfl, hb1⟩
  have hr1 := (hb1.block _ (Array.getElem?_eq_some_iff.1 (unhide HR4)).1).trans (unhide HR4)
  have hlt5 := (Array.getElem?_eq_some_iff.1 hr1).1
  obtain ⟨q0, q1, q2, q3, q4, q5, q6, q7⟩ := mbox hr1
  have HB5 := hide (Below.on (unhide HB4) hb1); have HR5 := hide hr1
  clear hb1 hr1 HR4 HB4 q0 q1 q2 q3 q4 q5 q7
  go_wp2_with fail
  clear q6 hlt5
  refine (all0_E _ _ _ _ _).mono ?_
  rintro e w6 ⟨rfl, hb1⟩
  have hr1 := (hb1.block _ (Array.getElem?_eq_some_iff.1 (unhide HR5)).1).trans (unhide HR5)
  have hlt6 := (Array.getElem?_eq_some_iff.1 hr1).1
  obtain ⟨q0, q1, q2, q3, q4, q5, q6, q7⟩ := mbox hr1
  have HB6 := hide (Below.on (unhide HB5) hb1); have HR6 := hide hr1
  clear hb1 hr1 HR5 HB5 q0 q1 q2 q3 q4 q5 q6
  go_wp2_with fail
  clear q7 hlt6
  have hM6 := (unhide HM).below (unhide HB6)
  have hd := all_D bd 0 1 1 114 #[.pointer (some ⟨w.heap.size, 0, none⟩)] (enters_of Tryz.func114 (by kernel_rfl) rfl) (cvD (.slice ya yl yc)) (fun _ => true) w6 (by omega) hM6.ltd (fun i hi j hj => by
    obtain rfl : i = 0 := by omega
    rw [show 0 + 0 * 10 + j = j by omega, hM6.d j]
    match j, hj with
    | 0, _ => rfl
    | 1, _ => rfl
    | 2, _ => rfl
    | 3, _ => rfl
    | 4, _ => rfl
    | 5, _ => rfl
    | 6, _ => rfl
    | 7, _ => rfl
    | 8, _ => rfl
    | 9, _ => rfl) (fun i hi W hW => datac0 bm bd be yl yc w.heap.size ya ((unhide HTT).below (Below.on (unhide HB6) hW)) ((hW.block _ (Array.getElem?_eq_some_iff.1 (unhide HR6)).1).trans (unhide HR6)))
  refine hd.mono ?_
  rintro e w7 ⟨rfl, hb1⟩
  have HB7 := hide (Below.on (unhide HB6) hb1)
  clear hb1 hd hM6
  simp only [List.range_succ, List.range_zero, List.nil_append, List.all_cons, List.all_nil, Bool.and_true]
  go_wp2
  go_ret
  exact ⟨rfl, unhide HB7⟩

set_option maxRecDepth 100000 in
set_option maxHeartbeats 1000000 in
theorem check0 {w : World} {bm bd be yl yc : Nat} {ya : Option Addr} (h : M0 w bm bd be (.slice ya yl yc)) (hT : TC w 5 fmV) :
    Calls Tryz.prog 35 #[.agg #[.slice none 0 0, .slice none 0 0, .slice none 0 0, .slice (some ⟨bm, 0, none⟩) 1 1, .slice none 0 0, .slice (some ⟨be, 0, none⟩) 1 1, .slice none 0 0, .slice (some ⟨bd, 0, none⟩) 1 1]] w fun e w' => e = .returned (.tuple #[.int .i64 (-1), .nilIface]) ∧ Below w.heap.size w w' := by
  have hb0 : Below w.heap.size w (w.alloc (.cells #[.slice none 0 0, .slice none 0 0, .slice none 0 0, .slice (some ⟨bm, 0, none⟩) 1 1, .slice none 0 0, .slice (some ⟨be, 0, none⟩) 1 1, .slice none 0 0, .slice (some ⟨bd, 0, none⟩) 1 1] 47)) := (Below.refl _ _).alloc (Nat.le_refl _) _
  have HB0 := hide hb0; have HM := hide h; have HTT := hide hT
  clear hb0 h hT
  go_enter Tryz.func35, Tryz.ntmps35
  go_wp2_with fail
  have hr := heap_alloc_new w (.cells #[.slice none 0 0, .slice none 0 0, .slice none 0 0, .slice (some ⟨bm, 0, none⟩) 1 1, .slice none 0 0, .slice (some ⟨be, 0, none⟩) 1 1, .slice none 0 0, .slice (some ⟨bd, 0, none⟩) 1 1] 47)
  have HR := hide hr; clear hr
  generalize w.alloc (.cells #[.slice none 0 0, .slice none 0 0, .slice none 0 0, .slice (some ⟨bm, 0, none⟩) 1 1, .slice none 0 0, .slice (some ⟨be, 0, none⟩) 1 1, .slice none 0 0, .slice (some ⟨bd, 0, none⟩) 1 1] 47) = w0 at *
  refine (inLimits0 ((unhide HM).below (unhide HB0))).mono ?_
  rintro e w1 ⟨rfl, hb1⟩
  have hr1 := (hb1.block _ (Array.getElem?_eq_some_iff.1 (unhide HR)).1).trans (unhide HR)
  have hlt1 := (Array.getElem?_eq_some_iff.1 hr1).1
  obtain ⟨q0, q1, q2, q3, q4, q5, q6, q7⟩ := mbox hr1
  have HB1 := hide (Below.on (unhide HB0) hb1); have HR1 := hide hr1
  clear hb1 hr1 HR HB0 
  go_wp2_with fail
  clear q0 q1 q2 q3 q4 q5 q6 q7 hlt1
  refine (kindsRight0 ((unhide HM).below (unhide HB1))).mono ?_
  rintro e w2 ⟨rfl, hb1⟩
  have hr1 := (hb1.block _ (Array.getElem?_eq_some_iff.1 (unhide HR1)).1).trans (unhide HR1)
  have hlt2 := (Array.getElem?_eq_some_iff.1 hr1).1
  obtain ⟨q0, q1, q2, q3, q4, q5, q6, q7⟩ := mbox hr1
  have HB2 := hide (Below.on (unhide HB1) hb1); have HR2 := hide hr1
  clear hb1 hr1 HR1 HB1 
  go_wp2_with fail
  clear q0 q1 q2 q3 q4 q5 q6 q7 hlt2
  refine (parts0 ((unhide HM).below (unhide HB2)) ((unhide HTT).below (unhide HB2))).mono ?_
  rintro e w3 ⟨rfl, hb1⟩
  have hr1 := (hb1.block _ (Array.getElem?_eq_some_iff.1 (unhide HR2)).1).trans (unhide HR2)
  have hlt3 := (Array.getElem?_eq_some_iff.1 hr1).1
  obtain ⟨q0, q1, q2, q3, q4, q5, q6, q7⟩ := mbox hr1
  have HB3 := hide (Below.on (unhide HB2) hb1); have HR3 := hide hr1
  clear hb1 hr1 HR2 HB2 q0 q2 q3 q4 q5 q6 q7
  go_wp2_with fail
  clear q1 hlt3
  refine wp_loop_rounds 1 ?_
  rw [rounds_succ]
  go_wp2
  go_ret2
  exact ⟨rfl, unhide HB3⟩
end Go.Proofs.YtcljcnaglkbjcaaGreatDoor
