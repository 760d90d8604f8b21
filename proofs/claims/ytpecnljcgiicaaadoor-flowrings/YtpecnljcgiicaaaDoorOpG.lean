/- ops.Sign: what it returns. -/
import Derived.Test.YtpecnljcgiicaaaDoorOpF
import Derived.Deep.RegionWith
namespace Go.Proofs.YtpecnljcgiicaaaDoor
open Go.RowKit
set_option linter.unusedVariables false

theorem fms_bd : ∀ x ∈ fms, (0 ≤ x.x ∧ x.x ≤ 255) ∧ (0 ≤ x.y ∧ x.y ≤ 255) ∧ 0 ≤ x.g ∧ x.g ≤ 255 := by decide

/-- two cells written -/
theorem set2 (w : World) (b : Nat) (t : TypeId) (x0 x1 v0 v1 : Value) (h : w.heap[b]? = some (.cells #[x0, x1] t (0, 0))) :
    ((w.setCell ⟨b, 0, none⟩ v0).setCell ⟨b, 1, none⟩ v1).heap[b]? = some (.cells #[v0, v1] t (0, 0)) := by
  have h0 := heap_setCell_same w b 0 _ _ v0 h
  have h1 := heap_setCell_same _ b 1 _ _ v1 h0
  rw [h1]; rfl
theorem bel2 {B : Nat} {a w : World} (h : Below B a w) (b : Nat) (hb : B ≤ b) (v0 v1 : Value) : Below B a ((w.setCell ⟨b, 0, none⟩ v0).setCell ⟨b, 1, none⟩ v1) :=
  (h.setCell (p := ⟨b, 0, none⟩) hb v0).setCell (p := ⟨b, 1, none⟩) hb v1

set_option maxRecDepth 100000 in
set_option maxHeartbeats 1600000 in
theorem sign_none (n : Nat) (hn : n < 256) (w : World) (hT : TC w 0 fmV) (hf : fam n = none) :
    Calls Tryd.prog 86 #[.int .u8 n] w fun e w' => e = .returned (.tuple #[.agg #[.slice none 0 0, .int .u8 0], errV 1]) ∧ Below w.heap.size w w' := by
  have h0 : Below w.heap.size w (w.alloc (.cells #[.slice none 0 0, .int .u8 0] 131)) := (Below.refl _ _).alloc (Nat.le_refl _) _
  have hc := family_any n hn _ (hT.below h0)
  rw [hf] at hc
  simp only [famR, errV_1] at hc
  rw [errV_1]
  have HC := hide hc; have H0 := hide h0; clear hc hf hT h0
  go_enter Tryd.func86, Tryd.ntmps86
  go_wp2_with fail
  refine (unhide HC).mono ?_
  rintro e w1 ⟨rfl, hb⟩
  have hz := hb.size
  rw [show (w.alloc (.cells #[.slice none 0 0, .int .u8 0] 131)).heap.size = w.heap.size + 1 by show (w.heap.push _).size = _; rw [Array.size_push]] at hb hz
  have r0 : (w.alloc (.cells #[.slice none 0 0, .int .u8 0] 131)).heap[w.heap.size]? = some (.cells #[.slice none 0 0, .int .u8 0] 131 (0, 0)) := by show (w.heap.push _)[w.heap.size]? = _; rw [Array.getElem?_push_size]
  have hlt : w.heap.size < w1.heap.size := by omega
  clear hz
  have hr := (hb.block w.heap.size (by omega)).trans r0
  have c0 : w1.cell? ⟨w.heap.size, 0, none⟩ = some (.slice none 0 0) := by rw [cell_of_row w1 _ 0 _ _ _ hr]; rfl
  have c1 : w1.cell? ⟨w.heap.size, 1, none⟩ = some (.int .u8 0) := by rw [cell_of_row w1 _ 1 _ _ _ hr]; rfl
  have ff : ∀ i, w1.frozen? ⟨w.heap.size, i, none⟩ = false := fun i => by simp [World.frozen?, hr]
  have HB := hide ((unhide H0).trans (hb.mono (by omega))); have HR := hide hr
  clear hb r0 hr H0
  generalize hB : w.heap.size = B at *
  have HBB := hide hB; clear hB
  go_wp2
  have hr := set2 w1 B _ _ _ (.slice none 0 0) (.int .u8 0) (unhide HR)
  have hb := bel2 (unhide HB) B (Nat.le_refl _) (.slice none 0 0) (.int .u8 0)
  have hz : B < ((w1.setCell ⟨B, 0, none⟩ (.slice none 0 0)).setCell ⟨B, 1, none⟩ (.int .u8 0)).heap.size := (Array.getElem?_eq_some_iff.1 hr).1
  clear c0 c1 ff HR hlt
  generalize (w1.setCell ⟨B, 0, none⟩ (.slice none 0 0)).setCell ⟨B, 1, none⟩ (.int .u8 0) = W2 at *
  have c0 := cell_of_row W2 B 0 _ _ _ hr; have c1 := cell_of_row W2 B 1 _ _ _ hr
  simp only [List.getElem?_toArray, List.getElem?_cons_zero, List.getElem?_cons_succ] at c0 c1
  refine bodyPost_ret (v := .tuple #[.agg #[.slice none 0 0, .int .u8 0], .iface 64 (.int .i64 1)]) (by simp [results, Tryd.results86, go_sem, c0, c1, hz]) rfl ⟨rfl, by rw [unhide HBB]; exact hb.alloc (by omega) _⟩
set_option maxRecDepth 100000 in
set_option maxHeartbeats 1600000 in
theorem sign_low (n : Nat) (hn : n < 256) (w : World) (hT : TC w 0 fmV) (x : Fam) (hf : fam n = some x) (h36 : (n : Int) ≤ 36) :
    Calls Tryd.prog 86 #[.int .u8 n] w fun e w' => e = .returned (.tuple #[.agg #[.slice none 0 0, .int .u8 0], errV 1]) ∧ Below w.heap.size w w' := by
  have h0 : Below w.heap.size w (w.alloc (.cells #[.slice none 0 0, .int .u8 0] 131)) := (Below.refl _ _).alloc (Nat.le_refl _) _
  have hc := family_any n hn _ (hT.below h0)
  rw [hf] at hc
  obtain ⟨xa, xb, xo, xx, xy, xg⟩ := x
  simp only [famR, errV_0] at hc
  rw [errV_1]
  have HC := hide hc; have H0 := hide h0; clear hc hf hT h0
  go_enter Tryd.func86, Tryd.ntmps86
  go_wp2_with fail
  refine (unhide HC).mono ?_
  rintro e w1 ⟨rfl, hb⟩
  have hz := hb.size
  rw [show (w.alloc (.cells #[.slice none 0 0, .int .u8 0] 131)).heap.size = w.heap.size + 1 by show (w.heap.push _).size = _; rw [Array.size_push]] at hb hz
  have r0 : (w.alloc (.cells #[.slice none 0 0, .int .u8 0] 131)).heap[w.heap.size]? = some (.cells #[.slice none 0 0, .int .u8 0] 131 (0, 0)) := by show (w.heap.push _)[w.heap.size]? = _; rw [Array.getElem?_push_size]
  have hlt : w.heap.size < w1.heap.size := by omega
  clear hz
  have hr := (hb.block w.heap.size (by omega)).trans r0
  have c0 : w1.cell? ⟨w.heap.size, 0, none⟩ = some (.slice none 0 0) := by rw [cell_of_row w1 _ 0 _ _ _ hr]; rfl
  have c1 : w1.cell? ⟨w.heap.size, 1, none⟩ = some (.int .u8 0) := by rw [cell_of_row w1 _ 1 _ _ _ hr]; rfl
  have ff : ∀ i, w1.frozen? ⟨w.heap.size, i, none⟩ = false := fun i => by simp [World.frozen?, hr]
  have HB := hide ((unhide H0).trans (hb.mono (by omega))); have HR := hide hr
  clear hb r0 hr H0
  generalize hB : w.heap.size = B at *
  have HBB := hide hB; clear hB
  go_wp2
  have hr := set2 w1 B _ _ _ (.slice none 0 0) (.int .u8 0) (unhide HR)
  have hb := bel2 (unhide HB) B (Nat.le_refl _) (.slice none 0 0) (.int .u8 0)
  have hz : B < ((w1.setCell ⟨B, 0, none⟩ (.slice none 0 0)).setCell ⟨B, 1, none⟩ (.int .u8 0)).heap.size := (Array.getElem?_eq_some_iff.1 hr).1
  clear c0 c1 ff HR hlt
  generalize (w1.setCell ⟨B, 0, none⟩ (.slice none 0 0)).setCell ⟨B, 1, none⟩ (.int .u8 0) = W2 at *
  have c0 := cell_of_row W2 B 0 _ _ _ hr; have c1 := cell_of_row W2 B 1 _ _ _ hr
  simp only [List.getElem?_toArray, List.getElem?_cons_zero, List.getElem?_cons_succ] at c0 c1
  refine bodyPost_ret (v := .tuple #[.agg #[.slice none 0 0, .int .u8 0], .iface 64 (.int .i64 1)]) (by simp [results, Tryd.results86, go_sem, c0, c1, hz]) rfl ⟨rfl, by rw [unhide HBB]; exact hb.alloc (by omega) _⟩

/-- behind the call within Sign's last statement -/
theorem sg_facts {B : Nat} {w1 w3 : World} {cs : Array Value} {t u : TypeId} {r : Obj} (hlt : B < w1.heap.size) (hr : w1.heap[B]? = some r)
    (hb : Below (w1.alloc (.cells cs t)).drew.heap.size (w1.alloc (.cells cs t)).drew w3) :
    w3.heap[B]? = some r ∧ w3.heap[w1.heap.size]? = some (.cells cs t (0, 0)) ∧ w1.heap.size < w3.heap.size ∧ Below w1.heap.size w1 w3 := by
  have e : (w1.alloc (.cells cs t)).drew.heap = w1.heap.push (.cells cs t (0, 0)) := rfl
  have hz := hb.size
  have hk := hb.block
  rw [e, Array.size_push] at hz hk
  refine ⟨?_, ?_, by omega, ⟨hb.os, hb.tape, hb.output, by omega, fun k h => ?_⟩⟩
  · rw [hk B (by omega), Array.getElem?_push, if_neg (by omega)]; exact hr
  · rw [hk _ (by omega), Array.getElem?_push_size]
  · rw [hk k (by omega), Array.getElem?_push, if_neg (by omega)]

theorem sg_facts2 {B : Nat} {w1 w3 : World} {x0 x1 x2 x3 x4 x5 y0 y1 : Value} {t u : TypeId} (hlt : B < w1.heap.size) (hr : w1.heap[B]? = some (.cells #[y0, y1] u (0, 0)))
    (hb : Below (w1.alloc (.cells #[x0, x1, x2, x3, x4, x5] t)).drew.heap.size (w1.alloc (.cells #[x0, x1, x2, x3, x4, x5] t)).drew w3) :
    w3.heap[B]? = some (.cells #[y0, y1] u (0, 0)) ∧ w1.heap.size < w3.heap.size ∧ Below w1.heap.size w1 w3 ∧ w3.cell? ⟨B, 0, none⟩ = some y0 ∧ w3.cell? ⟨B, 1, none⟩ = some y1 ∧ (∀ i, w3.frozen? ⟨B, i, none⟩ = false) ∧ w3.cell? ⟨w1.heap.size, 5, none⟩ = some x5 := by
  obtain ⟨q1, q2, q3, q4⟩ := sg_facts (u := u) hlt hr hb
  refine ⟨q1, q3, q4, ?_, ?_, fun i => by simp [World.frozen?, q1], ?_⟩
  · rw [cell_of_row w3 _ 0 _ _ _ q1]; rfl
  · rw [cell_of_row w3 _ 1 _ _ _ q1]; rfl
  · rw [cell_of_row w3 _ 5 _ _ _ q2]; rfl

theorem own_slice {w : World} {base : Nat} {e : TypeId} {size n : Nat} {v : Value} {xs : List Value} (h : w.ownsRow base e size v n xs) : ∃ a cap, v = .slice a n cap := by
  rcases h.2 with ⟨rfl, rfl⟩ | ⟨g, cap, cur, rfl, _⟩
  · exact ⟨none, 0, rfl⟩
  · exact ⟨_, cap, rfl⟩

theorem own_mono {w : World} {base base' : Nat} {e : TypeId} {size : Nat} {v : Value} {n : Nat} {xs : List Value} (h : w.ownsRow base e size v n xs) (hb : base' ≤ base) : w.ownsRow base' e size v n xs := by
  refine ⟨h.1, ?_⟩
  rcases h.2 with h2 | ⟨g, cap, cur, e1, e2, e3⟩
  · exact .inl h2
  · exact .inr ⟨g, cap, cur, e1, Nat.le_trans hb e2, e3⟩

set_option maxRecDepth 100000 in
set_option maxHeartbeats 3200000 in
theorem sign_yes (n : Nat) (hn : n < 256) (w : World) (hT : TC w 0 fmV) (x : Fam) (hf : fam n = some x) (h36 : ¬ (n : Int) ≤ 36) :
    Calls Tryd.prog 86 #[.int .u8 n] w fun e w' => ∃ v, e = .returned (.tuple #[.agg #[v, .int .u8 x.g], errV 0]) ∧ w'.ownsRow w.heap.size 129 1 v (pk x.x x.y 2).length (kRow x.x x.y 2) ∧ Below w.heap.size w w' := by
  have h0 : Below w.heap.size w (w.alloc (.cells #[.slice none 0 0, .int .u8 0] 131)) := (Below.refl _ _).alloc (Nat.le_refl _) _
  have hc := family_any n hn _ (hT.below h0)
  rw [hf] at hc
  obtain ⟨bx, by', bg, bg'⟩ := fms_bd x (List.mem_of_find?_eq_some hf)
  obtain ⟨xa, xb, xo, xx, xy, xg⟩ := x
  simp only [famR, errV_0] at hc bx by' bg bg' ⊢
  have HC := hide hc; have H0 := hide h0; have HX := hide bx; have HY := hide by'
  clear hc hf hT h0 bx by'
  go_enter Tryd.func86, Tryd.ntmps86
  go_wp2_with fail
  refine (unhide HC).mono ?_
  rintro e w1 ⟨rfl, hb⟩
  have hz := hb.size
  rw [show (w.alloc (.cells #[.slice none 0 0, .int .u8 0] 131)).heap.size = w.heap.size + 1 by show (w.heap.push _).size = _; rw [Array.size_push]] at hb hz
  have r0 : (w.alloc (.cells #[.slice none 0 0, .int .u8 0] 131)).heap[w.heap.size]? = some (.cells #[.slice none 0 0, .int .u8 0] 131 (0, 0)) := by show (w.heap.push _)[w.heap.size]? = _; rw [Array.getElem?_push_size]
  have hlt : w.heap.size < w1.heap.size := by omega
  clear hz
  have hr := (hb.block w.heap.size (by omega)).trans r0
  have HB := hide ((unhide H0).trans (hb.mono (by omega))); have HR := hide hr
  clear hb r0 hr H0
  generalize hB : w.heap.size = B at *
  have HBB := hide hB; clear hB
  go_wp2_with fail
  go_region_with (go_at_call 91; refine (params_any _ _ _ _ _ _ _ (unhide HX) (unhide HY)).mono ?_; rintro e w3 ⟨v, rfl, ho, hb3⟩; obtain ⟨q1, q3, q4, c0, c1, ff, d5⟩ := sg_facts2 hlt (unhide HR) hb3; obtain ⟨ad, cap, rfl⟩ := own_slice ho; have Q1 := hide q1; have Q4 := hide q4; have HO := hide ho; have HB3 := hide hb3; clear q1 q4 ho hb3)
  all_goals
    go_wp2
    have hr := set2 w3 B _ _ _ (.slice ad (pk xx xy 2).length cap) (.int .u8 xg) (unhide Q1)
    have hb := bel2 ((unhide HB).trans ((unhide Q4).mono (by omega))) B (Nat.le_refl _) (.slice ad (pk xx xy 2).length cap) (.int .u8 xg)
    have ho := own_mono (base' := B) (ownsRow_setCell_below (ownsRow_setCell_below (unhide HO) (a := ⟨B, 0, none⟩) (by show B < (w1.heap.push _).size; rw [Array.size_push]; omega) (.slice ad (pk xx xy 2).length cap)) (a := ⟨B, 1, none⟩) (by show B < (w1.heap.push _).size; rw [Array.size_push]; omega) (.int .u8 xg)) (by show B ≤ (w1.heap.push _).size; rw [Array.size_push]; omega)
    clear c0 c1 ff d5 q3 Q1 Q4 HO HB3 hlt
    generalize (w3.setCell ⟨B, 0, none⟩ (.slice ad (pk xx xy 2).length cap)).setCell ⟨B, 1, none⟩ (.int .u8 xg) = W2 at *
    have c0 := cell_of_row W2 B 0 _ _ _ hr; have c1 := cell_of_row W2 B 1 _ _ _ hr
    simp only [List.getElem?_toArray, List.getElem?_cons_zero, List.getElem?_cons_succ] at c0 c1
    refine bodyPost_ret (v := .tuple #[.agg #[.slice ad (pk xx xy 2).length cap, .int .u8 xg], .nilIface]) (by simp [results, Tryd.results86, go_sem, c0, c1]) rfl ⟨_, rfl, by rw [unhide HBB]; exact ho, by rw [unhide HBB]; exact hb⟩
end Go.Proofs.YtpecnljcgiicaaaDoor
