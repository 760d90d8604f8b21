/- shape.of, numberMay, May. By mkof.py. -/
import Derived.Test.YtpecnljcgiicaaaDoorVcB
namespace Go.Proofs.YtpecnljcgiicaaaDoor
open Go.RowKit
namespace Vc
set_option linter.unusedVariables false

theorem set4 (w : World) (b : Nat) (t : TypeId) (x0 x1 x2 x3 v0 v1 v2 v3 : Value) (h : w.heap[b]? = some (.cells #[x0, x1, x2, x3] t (0, 0))) :
    ((((w.setCell ⟨b, 0, none⟩ v0).setCell ⟨b, 1, none⟩ v1).setCell ⟨b, 2, none⟩ v2).setCell ⟨b, 3, none⟩ v3).heap[b]? = some (.cells #[v0, v1, v2, v3] t (0, 0)) := by
  have h0 := (heap_setCell_same w b 0 _ _ v0 h).trans rfl
  have h1 := (heap_setCell_same _ b 1 _ _ v1 h0).trans rfl
  have h2 := (heap_setCell_same _ b 2 _ _ v2 h1).trans rfl
  have h3 := (heap_setCell_same _ b 3 _ _ v3 h2).trans rfl
  rw [h3]; rfl
theorem bel4 {B : Nat} {a w : World} (h : Below B a w) (b : Nat) (hb : B ≤ b) (v0 v1 v2 v3 : Value) : Below B a ((((w.setCell ⟨b, 0, none⟩ v0).setCell ⟨b, 1, none⟩ v1).setCell ⟨b, 2, none⟩ v2).setCell ⟨b, 3, none⟩ v3) :=
  (((h.setCell (p := ⟨b, 0, none⟩) hb v0).setCell (p := ⟨b, 1, none⟩) hb v1).setCell (p := ⟨b, 2, none⟩) hb v2).setCell (p := ⟨b, 3, none⟩) hb v3

set_option maxRecDepth 100000 in
theorem of_65 (r : Bool) (w : World) : Calls Tryd.prog 75 #[.int .u8 65, .bool r] w fun e w' => e = .returned (ofV (shp 65 r)) ∧ Below w.heap.size w w' := by
  go_enter Tryd.func75, Tryd.ntmps75
  go_wp2
  refine bodyPost_ret (v := .tuple #[.agg #[.int .i64 0, .bool false, .bool false, .bool false], .bool false]) (by simp [results, Tryd.results75, go_sem]) rfl ⟨rfl, one_alloc _ _⟩

set_option maxRecDepth 100000 in
theorem of_192 (r : Bool) (w : World) : Calls Tryd.prog 75 #[.int .u8 192, .bool r] w fun e w' => e = .returned (ofV (shp 192 r)) ∧ Below w.heap.size w w' := by
  go_enter Tryd.func75, Tryd.ntmps75
  go_wp2
  refine bodyPost_ret (v := .tuple #[.agg #[.int .i64 1, .bool false, .bool true, .bool false], .bool true]) (by simp [results, Tryd.results75, go_sem]) rfl ⟨rfl, one_alloc _ _⟩

set_option maxRecDepth 100000 in
theorem of_27 (r : Bool) (w : World) : Calls Tryd.prog 75 #[.int .u8 27, .bool r] w fun e w' => e = .returned (ofV (shp 27 r)) ∧ Below w.heap.size w w' := by
  go_enter Tryd.func75, Tryd.ntmps75
  go_wp2
  refine bodyPost_ret (v := .tuple #[.agg #[.int .i64 3, .bool false, .bool true, .bool false], .bool true]) (by simp [results, Tryd.results75, go_sem]) rfl ⟨rfl, one_alloc _ _⟩

set_option maxRecDepth 100000 in
theorem of_35 (r : Bool) (w : World) : Calls Tryd.prog 75 #[.int .u8 35, .bool r] w fun e w' => e = .returned (ofV (shp 35 r)) ∧ Below w.heap.size w w' := by
  go_enter Tryd.func75, Tryd.ntmps75
  go_wp2
  refine bodyPost_ret (v := .tuple #[.agg #[.int .i64 0, .bool false, .bool true, .bool false], .bool true]) (by simp [results, Tryd.results75, go_sem]) rfl ⟨rfl, one_alloc _ _⟩

set_option maxRecDepth 100000 in
theorem of_36 (r : Bool) (w : World) : Calls Tryd.prog 75 #[.int .u8 36, .bool r] w fun e w' => e = .returned (ofV (shp 36 r)) ∧ Below w.heap.size w w' := by
  go_enter Tryd.func75, Tryd.ntmps75
  go_wp2
  refine bodyPost_ret (v := .tuple #[.agg #[.int .i64 1, .bool false, .bool false, .bool false], .bool true]) (by simp [results, Tryd.results75, go_sem]) rfl ⟨rfl, one_alloc _ _⟩

set_option maxRecDepth 100000 in
theorem of_194 (r : Bool) (w : World) : Calls Tryd.prog 75 #[.int .u8 194, .bool r] w fun e w' => e = .returned (ofV (shp 194 r)) ∧ Below w.heap.size w w' := by
  go_enter Tryd.func75, Tryd.ntmps75
  go_wp2
  refine bodyPost_ret (v := .tuple #[.agg #[.int .i64 1, .bool false, .bool false, .bool false], .bool true]) (by simp [results, Tryd.results75, go_sem]) rfl ⟨rfl, one_alloc _ _⟩

set_option maxRecDepth 100000 in
theorem of_195 (r : Bool) (w : World) : Calls Tryd.prog 75 #[.int .u8 195, .bool r] w fun e w' => e = .returned (ofV (shp 195 r)) ∧ Below w.heap.size w w' := by
  go_enter Tryd.func75, Tryd.ntmps75
  go_wp2
  refine bodyPost_ret (v := .tuple #[.agg #[.int .i64 1, .bool false, .bool false, .bool false], .bool true]) (by simp [results, Tryd.results75, go_sem]) rfl ⟨rfl, one_alloc _ _⟩

set_option maxRecDepth 100000 in
theorem of_16 (r : Bool) (w : World) : Calls Tryd.prog 75 #[.int .u8 16, .bool r] w fun e w' => e = .returned (ofV (shp 16 r)) ∧ Below w.heap.size w w' := by
  go_enter Tryd.func75, Tryd.ntmps75
  go_wp2
  refine bodyPost_ret (v := .tuple #[.agg #[.int .i64 0, .bool true, .bool false, .bool true], .bool true]) (by simp [results, Tryd.results75, go_sem]) rfl ⟨rfl, one_alloc _ _⟩

set_option maxRecDepth 100000 in
theorem of_17 (r : Bool) (w : World) : Calls Tryd.prog 75 #[.int .u8 17, .bool r] w fun e w' => e = .returned (ofV (shp 17 r)) ∧ Below w.heap.size w w' := by
  go_enter Tryd.func75, Tryd.ntmps75
  go_wp2
  refine bodyPost_ret (v := .tuple #[.agg #[.int .i64 1, .bool true, .bool false, .bool true], .bool true]) (by simp [results, Tryd.results75, go_sem]) rfl ⟨rfl, one_alloc _ _⟩

set_option maxRecDepth 100000 in
theorem of_193 (r : Bool) (w : World) : Calls Tryd.prog 75 #[.int .u8 193, .bool r] w fun e w' => e = .returned (ofV (shp 193 r)) ∧ Below w.heap.size w w' := by
  go_enter Tryd.func75, Tryd.ntmps75
  go_wp2
  refine bodyPost_ret (v := .tuple #[.agg #[.int .i64 0, .bool false, .bool false, .bool false], .bool true]) (by simp [results, Tryd.results75, go_sem]) rfl ⟨rfl, one_alloc _ _⟩

set_option maxRecDepth 100000 in
theorem of_0 (r : Bool) (w : World) : Calls Tryd.prog 75 #[.int .u8 0, .bool r] w fun e w' => e = .returned (ofV (shp 0 r)) ∧ Below w.heap.size w w' := by
  go_enter Tryd.func75, Tryd.ntmps75
  go_wp2
  refine bodyPost_ret (v := .tuple #[.agg #[.int .i64 0, .bool false, .bool false, .bool false], .bool true]) (by simp [results, Tryd.results75, go_sem]) rfl ⟨rfl, one_alloc _ _⟩

set_option maxRecDepth 100000 in
theorem of_15_true (w : World) : Calls Tryd.prog 75 #[.int .u8 15, .bool true] w fun e w' => e = .returned (ofV (shp 15 true)) ∧ Below w.heap.size w w' := by
  go_enter Tryd.func75, Tryd.ntmps75
  go_wp2
  refine bodyPost_ret (v := .tuple #[.agg #[.int .i64 1, .bool false, .bool false, .bool false], .bool true]) (by simp [results, Tryd.results75, go_sem]) rfl ⟨rfl, one_alloc _ _⟩

set_option maxRecDepth 100000 in
theorem of_15_false (w : World) : Calls Tryd.prog 75 #[.int .u8 15, .bool false] w fun e w' => e = .returned (ofV (shp 15 false)) ∧ Below w.heap.size w w' := by
  go_enter Tryd.func75, Tryd.ntmps75
  go_wp2
  refine bodyPost_ret (v := .tuple #[.agg #[.int .i64 0, .bool false, .bool false, .bool false], .bool true]) (by simp [results, Tryd.results75, go_sem]) rfl ⟨rfl, one_alloc _ _⟩

theorem sh_no (n : Nat) (r : Bool) (hno : ∀ k ∈ [65, 192, 27, 35, 36, 194, 195, 16, 17, 193, 0, 15], n ≠ k) : shp n r = (sgn n).map fun p => ⟨p.1, false, p.2, false⟩ := by
  have h : ∀ k ∈ [65, 192, 27, 35, 36, 194, 195, 16, 17, 193, 0, 15], ¬ n = k := hno
  simp only [List.mem_cons, List.not_mem_nil, or_false, forall_eq_or_imp, forall_eq] at h
  obtain ⟨a0, a1, a2, a3, a4, a5, a6, a7, a8, a9, a10, a11⟩ := h
  unfold shp
  rw [if_neg a0, if_neg a1, if_neg a2, if_neg a3, if_neg (by omega), if_neg a7, if_neg a8, if_neg (by omega), if_neg a11]

set_option maxRecDepth 100000 in
set_option maxHeartbeats 3200000 in
theorem of_none (n : Nat) (hn : n < 256) (r : Bool) (w : World) (hT : Fms w) (hno : ∀ k ∈ [65, 192, 27, 35, 36, 194, 195, 16, 17, 193, 0, 15], n ≠ k) (hs : sgn n = none) :
    Calls Tryd.prog 75 #[.int .u8 n, .bool r] w fun e w' => e = .returned (ofV (shp n r)) ∧ Below w.heap.size w w' := by
  have t65 : ((n : Int) == 65) = false := by have := hno 65 (by decide); simp; omega
  have t192 : ((n : Int) == 192) = false := by have := hno 192 (by decide); simp; omega
  have t27 : ((n : Int) == 27) = false := by have := hno 27 (by decide); simp; omega
  have t35 : ((n : Int) == 35) = false := by have := hno 35 (by decide); simp; omega
  have t36 : ((n : Int) == 36) = false := by have := hno 36 (by decide); simp; omega
  have t194 : ((n : Int) == 194) = false := by have := hno 194 (by decide); simp; omega
  have t195 : ((n : Int) == 195) = false := by have := hno 195 (by decide); simp; omega
  have t16 : ((n : Int) == 16) = false := by have := hno 16 (by decide); simp; omega
  have t17 : ((n : Int) == 17) = false := by have := hno 17 (by decide); simp; omega
  have t193 : ((n : Int) == 193) = false := by have := hno 193 (by decide); simp; omega
  have t0 : ((n : Int) == 0) = false := by have := hno 0 (by decide); simp; omega
  have t15 : ((n : Int) == 15) = false := by have := hno 15 (by decide); simp; omega
  rw [sh_no n r hno, hs]
  simp only [Option.map_none, ofV]
  have h0 : Below w.heap.size w (w.alloc (.cells #[.int .i64 0, .bool false, .bool false, .bool false] 117)) := one_alloc _ _
  have hc : Calls Tryd.prog 86 #[.int .u8 n] (w.alloc (.cells #[.int .i64 0, .bool false, .bool false, .bool false] 117)) fun e w' => e = .returned (.tuple #[.agg #[.slice none 0 0, .int .u8 0], errV 1]) ∧ Below (w.alloc (.cells #[.int .i64 0, .bool false, .bool false, .bool false] 117)).heap.size (w.alloc (.cells #[.int .i64 0, .bool false, .bool false, .bool false] 117)) w' := by
    unfold sgn at hs
    split at hs
    · rename_i h36
      cases hf : fam n with
      | none => exact sign_none n hn _ (TC.below hT h0) hf
      | some x => exact sign_low n hn _ (TC.below hT h0) x hf (by omega)
    · cases hf : fam n with
      | none => exact sign_none n hn _ (TC.below hT h0) hf
      | some x => rw [hf] at hs; cases hs
  rw [errV_1] at hc
  have HC := hide hc; have H0 := hide h0
  clear hc hs hT h0 hno
  go_enter Tryd.func75, Tryd.ntmps75
  go_wp2_with fail
  refine (unhide HC).mono ?_
  rintro e w1 ⟨rfl, hb⟩
  have r0 := (hb.block w.heap.size (by simp)).trans (heap_alloc_new w (.cells #[.int .i64 0, .bool false, .bool false, .bool false] 117))
  have hlt : w.heap.size < w1.heap.size := (Array.getElem?_eq_some_iff.1 r0).1
  have HB := hide (Below.on (unhide H0) hb)
  clear hb
  generalize hB : w.heap.size = B at *
  have HBB := hide hB; clear hB
  have c0 : w1.cell? ⟨B, 0, none⟩ = some (.int .i64 0) := by rw [cell_of_row w1 _ 0 _ _ _ r0]; rfl
  have c1 : w1.cell? ⟨B, 1, none⟩ = some (.bool false) := by rw [cell_of_row w1 _ 1 _ _ _ r0]; rfl
  have c2 : w1.cell? ⟨B, 2, none⟩ = some (.bool false) := by rw [cell_of_row w1 _ 2 _ _ _ r0]; rfl
  have c3 : w1.cell? ⟨B, 3, none⟩ = some (.bool false) := by rw [cell_of_row w1 _ 3 _ _ _ r0]; rfl
  have ff : ∀ i, w1.frozen? ⟨B, i, none⟩ = false := fun i => by simp [World.frozen?, r0]
  have HR := hide r0; clear r0 H0 HC
  go_wp2
  have hr := set4 w1 B _ _ _ _ _ (.int .i64 0) (.bool false) (.bool false) (.bool false) (unhide HR)
  have hb := bel4 (unhide HB) B (Nat.le_refl _) (.int .i64 0) (.bool false) (.bool false) (.bool false)
  have hz : B < ((((w1.setCell ⟨B, 0, none⟩ (.int .i64 0)).setCell ⟨B, 1, none⟩ (.bool false)).setCell ⟨B, 2, none⟩ (.bool false)).setCell ⟨B, 3, none⟩ (.bool false)).heap.size := (Array.getElem?_eq_some_iff.1 hr).1
  clear c0 c1 c2 c3 ff HR hlt
  generalize (((w1.setCell ⟨B, 0, none⟩ (.int .i64 0)).setCell ⟨B, 1, none⟩ (.bool false)).setCell ⟨B, 2, none⟩ (.bool false)).setCell ⟨B, 3, none⟩ (.bool false) = W2 at *
  have c0 := cell_of_row W2 B 0 _ _ _ hr; have c1 := cell_of_row W2 B 1 _ _ _ hr; have c2 := cell_of_row W2 B 2 _ _ _ hr; have c3 := cell_of_row W2 B 3 _ _ _ hr
  simp only [List.getElem?_toArray, List.getElem?_cons_zero, List.getElem?_cons_succ] at c0 c1 c2 c3
  refine bodyPost_ret (v := .tuple #[.agg #[.int .i64 0, .bool false, .bool false, .bool false], .bool false]) (by simp [results, Tryd.results75, go_sem, c0, c1, c2, c3, hz]) rfl ⟨rfl, by rw [unhide HBB]; exact hb.alloc (by omega) _⟩

set_option maxRecDepth 100000 in
set_option maxHeartbeats 3200000 in
theorem of_some (n : Nat) (hn : n < 256) (r : Bool) (w : World) (hT : Fms w) (hno : ∀ k ∈ [65, 192, 27, 35, 36, 194, 195, 16, 17, 193, 0, 15], n ≠ k) (x : Fam) (hf : fam n = some x) (h36 : ¬ n ≤ 36) :
    Calls Tryd.prog 75 #[.int .u8 n, .bool r] w fun e w' => e = .returned (ofV (shp n r)) ∧ Below w.heap.size w w' := by
  have t65 : ((n : Int) == 65) = false := by have := hno 65 (by decide); simp; omega
  have t192 : ((n : Int) == 192) = false := by have := hno 192 (by decide); simp; omega
  have t27 : ((n : Int) == 27) = false := by have := hno 27 (by decide); simp; omega
  have t35 : ((n : Int) == 35) = false := by have := hno 35 (by decide); simp; omega
  have t36 : ((n : Int) == 36) = false := by have := hno 36 (by decide); simp; omega
  have t194 : ((n : Int) == 194) = false := by have := hno 194 (by decide); simp; omega
  have t195 : ((n : Int) == 195) = false := by have := hno 195 (by decide); simp; omega
  have t16 : ((n : Int) == 16) = false := by have := hno 16 (by decide); simp; omega
  have t17 : ((n : Int) == 17) = false := by have := hno 17 (by decide); simp; omega
  have t193 : ((n : Int) == 193) = false := by have := hno 193 (by decide); simp; omega
  have t0 : ((n : Int) == 0) = false := by have := hno 0 (by decide); simp; omega
  have t15 : ((n : Int) == 15) = false := by have := hno 15 (by decide); simp; omega
  rw [sh_no n r hno, show sgn n = some ((pk x.x x.y 2).length, x.g != 0) by simp [sgn, h36, hf]]
  simp only [Option.map_some, ofV]
  have h0 : Below w.heap.size w (w.alloc (.cells #[.int .i64 0, .bool false, .bool false, .bool false] 117)) := one_alloc _ _
  have hc := sign_yes n hn _ (TC.below hT h0) x hf (by omega)
  rw [errV_0] at hc
  obtain ⟨xa, xb, xo, xx, xy, xg⟩ := x
  simp only at hc ⊢
  have hpl : (pk xx xy 2).length ≤ 2 := by unfold pk; exact Nat.le_trans (List.length_filter_le _ _) (by simp)
  generalize (pk xx xy 2).length = pl at *
  have HC := hide hc; have H0 := hide h0
  clear hc hf hT h0 hno
  go_enter Tryd.func75, Tryd.ntmps75
  go_wp2_with fail
  refine (unhide HC).mono ?_
  rintro e w1 ⟨v, rfl, ho, hb⟩
  obtain ⟨va, vc, rfl⟩ := own_slice ho
  clear ho
  have r0 := (hb.block w.heap.size (by simp)).trans (heap_alloc_new w (.cells #[.int .i64 0, .bool false, .bool false, .bool false] 117))
  have hlt : w.heap.size < w1.heap.size := (Array.getElem?_eq_some_iff.1 r0).1
  have HB := hide (Below.on (unhide H0) hb)
  clear hb
  generalize hB : w.heap.size = B at *
  have HBB := hide hB; clear hB
  have c0 : w1.cell? ⟨B, 0, none⟩ = some (.int .i64 0) := by rw [cell_of_row w1 _ 0 _ _ _ r0]; rfl
  have c1 : w1.cell? ⟨B, 1, none⟩ = some (.bool false) := by rw [cell_of_row w1 _ 1 _ _ _ r0]; rfl
  have c2 : w1.cell? ⟨B, 2, none⟩ = some (.bool false) := by rw [cell_of_row w1 _ 2 _ _ _ r0]; rfl
  have c3 : w1.cell? ⟨B, 3, none⟩ = some (.bool false) := by rw [cell_of_row w1 _ 3 _ _ _ r0]; rfl
  have ff : ∀ i, w1.frozen? ⟨B, i, none⟩ = false := fun i => by simp [World.frozen?, r0]
  have HR := hide r0; clear r0 H0 HC
  go_wp2
  have hr := set4 w1 B _ _ _ _ _ (.int .i64 (pl : Int)) (.bool false) (.bool (xg != 0)) (.bool false) (unhide HR)
  have hb := bel4 (unhide HB) B (Nat.le_refl _) (.int .i64 (pl : Int)) (.bool false) (.bool (xg != 0)) (.bool false)
  have hz : B < ((((w1.setCell ⟨B, 0, none⟩ (.int .i64 (pl : Int))).setCell ⟨B, 1, none⟩ (.bool false)).setCell ⟨B, 2, none⟩ (.bool (xg != 0))).setCell ⟨B, 3, none⟩ (.bool false)).heap.size := (Array.getElem?_eq_some_iff.1 hr).1
  clear c0 c1 c2 c3 ff HR hlt
  generalize (((w1.setCell ⟨B, 0, none⟩ (.int .i64 (pl : Int))).setCell ⟨B, 1, none⟩ (.bool false)).setCell ⟨B, 2, none⟩ (.bool (xg != 0))).setCell ⟨B, 3, none⟩ (.bool false) = W2 at *
  have c0 := cell_of_row W2 B 0 _ _ _ hr; have c1 := cell_of_row W2 B 1 _ _ _ hr; have c2 := cell_of_row W2 B 2 _ _ _ hr; have c3 := cell_of_row W2 B 3 _ _ _ hr
  simp only [List.getElem?_toArray, List.getElem?_cons_zero, List.getElem?_cons_succ] at c0 c1 c2 c3
  refine bodyPost_ret (v := .tuple #[.agg #[.int .i64 (pl : Int), .bool false, .bool (xg != 0), .bool false], .bool true]) (by simp [results, Tryd.results75, go_sem, c0, c1, c2, c3, hz]) rfl ⟨rfl, by rw [unhide HBB]; exact hb.alloc (by omega) _⟩

theorem of_any (n : Nat) (hn : n < 256) (r : Bool) (w : World) (hT : Fms w) :
    Calls Tryd.prog 75 #[.int .u8 n, .bool r] w fun e w' => e = .returned (ofV (shp n r)) ∧ Below w.heap.size w w' := by
  by_cases hno : ∀ k ∈ [65, 192, 27, 35, 36, 194, 195, 16, 17, 193, 0, 15], n ≠ k
  · cases hs : sgn n with
    | none => exact of_none n hn r w hT hno hs
    | some p =>
      unfold sgn at hs
      split at hs
      · cases hs
      · rename_i h36
        cases hf : fam n with
        | none => rw [hf] at hs; cases hs
        | some x => exact of_some n hn r w hT hno x hf h36
  · have h : ∃ k ∈ [65, 192, 27, 35, 36, 194, 195, 16, 17, 193, 0, 15], n = k := by
      simp at hno ⊢; omega
    obtain ⟨k, hk, rfl⟩ := h
    simp only [List.mem_cons, List.not_mem_nil, or_false] at hk
    rcases hk with rfl | rfl | rfl | rfl | rfl | rfl | rfl | rfl | rfl | rfl | rfl | rfl
    · exact of_65 r w
    · exact of_192 r w
    · exact of_27 r w
    · exact of_35 r w
    · exact of_36 r w
    · exact of_194 r w
    · exact of_195 r w
    · exact of_16 r w
    · exact of_17 r w
    · exact of_193 r w
    · exact of_0 r w
    · cases r
      · exact of_15_false w
      · exact of_15_true w

/-- may its number be? -/
def numM (x : In) : Bool := if x.op = 66 then true else if numd x.op then decide (0 ≤ x.n) else x.n == 0
set_option maxRecDepth 100000 in
set_option maxHeartbeats 1600000 in
theorem numM_any (x : In) (hx : WfI x) (v : Value) (w : World) (hv : ∃ a n c, v = .slice a n c) :
    Calls Tryd.prog 78 #[.agg #[.int .u8 (x.op : Int), .int .i64 x.dst, v, .int .i64 x.n, .int .u32 x.of]] w fun e w' => e = .returned (.bool (numM x)) ∧ Below w.heap.size w w' := by
  obtain ⟨a, n, c, rfl⟩ := hv
  have hop := hx.op
  clear hx
  obtain ⟨op, dst, src, nn, of⟩ := x
  simp only [numM] at *
  by_cases h66 : op = 66
  · subst h66
    go_enter Tryd.func78, Tryd.ntmps78
    go_wp2
    go_ret
    exact ⟨rfl, one_alloc _ _⟩
  · rw [if_neg h66]
    have t : ((op : Int) == 66) = false := by simp; omega
    have hc := fun W => numd_any op hop W
    cases hn : numd op with
    | true =>
      rw [hn] at hc
      have HC := hide hc; clear hc hn h66
      go_enter Tryd.func78, Tryd.ntmps78
      go_wp2_with fail
      refine (unhide HC _).mono ?_
      rintro e w1 ⟨rfl, rfl⟩
      go_wp2
      go_ret
      exact ⟨rfl, one_alloc _ _⟩
    | false =>
      rw [hn] at hc
      have HC := hide hc; clear hc hn h66
      go_enter Tryd.func78, Tryd.ntmps78
      go_wp2_with fail
      refine (unhide HC _).mono ?_
      rintro e w1 ⟨rfl, rfl⟩
      go_wp2
      go_ret
      exact ⟨rfl, one_alloc _ _⟩
end Vc
end Go.Proofs.YtpecnljcgiicaaaDoor
