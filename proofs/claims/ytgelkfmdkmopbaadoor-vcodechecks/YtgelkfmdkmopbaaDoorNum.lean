/- the statements' own function that tells an error's number, by errors.As. -/
import Derived.Test.YtgelkfmdkmopbaaDoorAs
namespace Go.Proofs.YtgelkfmdkmopbaaDoor
open Go.RowKit
set_option linter.unusedVariables false

theorem ErrT.lt {w : World} (h : ErrT w) : 0 < w.heap.size := block_lt_of_cell h
theorem ErrT.below {w w' : World} (h : ErrT w) {B : Nat} (hB : w.heap.size ≤ B) (hb : Below B w w') : ErrT w' :=
  (hb.cell (p := ⟨0, 0, none⟩) (by have := h.lt; simp; omega)).trans h

theorem as_use (k : Int) (t : Addr) (old : Value) (w : World) (hg : w.cell? ⟨0, 0, none⟩ = some (.iface 114 (.agg #[.pointer (some ⟨8, 32, none⟩)]))) (ht0 : w.cell? t = some old) (hf0 : w.frozen? t = false) :
    Calls Tryd.prog 30 #[.iface 60 (.int .i64 k), .iface 66 (.pointer (some t))] w fun ev w' => ev = .returned (.bool true) ∧ w'.cell? t = some (.int .i64 k) ∧ ∀ B, B ≤ t.block → Below B w w' := by
  refine (as_hit k t old w hg ht0 hf0).mono ?_
  rintro e w' ⟨he, hw⟩
  have htl : t.block < w.heap.size := block_lt_of_cell ht0
  refine ⟨he, ?_, fun B hB => ?_⟩
  · rw [hw]
    refine World.cell?_setCell_same _ _ _ (u := old) ?_
    rw [World.cell?_alloc_lt _ _ t (by simp; omega), World.cell?_alloc_lt _ _ t (by simp; omega), World.cell?_alloc_lt _ _ t (by simp; omega), World.cell?_alloc_lt _ _ t htl]; exact ht0
  · rw [hw]
    refine Below.setCell ?_ hB _
    exact ((((Below.refl B w).alloc (by omega) _).alloc (by simp; omega) _).alloc (by simp; omega) _).alloc (by simp; omega) _

set_option maxHeartbeats 400000 in
theorem num_nil (w : World) : Calls Tryd.prog 15 #[.nilIface] w fun e w' => e = .returned (.int .i64 0) ∧ Below w.heap.size w w' := by
  go_enter Tryd.func15, Tryd.ntmps15
  go_wp2
  go_ret
  exact ⟨rfl, (Below.refl _ _).alloc (Nat.le_refl _) _⟩

set_option maxHeartbeats 400000 in
theorem num_hit (k : Int) (w : World) (hg : ErrT w) : Calls Tryd.prog 15 #[.iface 60 (.int .i64 k)] w fun e w' => e = .returned (.int .i64 k) ∧ Below w.heap.size w w' := by
  have hlt := hg.lt
  have hg1 : (w.alloc (.cells #[.int .i64 0] 60)).cell? ⟨0, 0, none⟩ = some (.iface 114 (.agg #[.pointer (some ⟨8, 32, none⟩)])) := by
    rw [World.cell?_alloc_lt _ _ ⟨0, 0, none⟩ hlt]; exact hg
  have HG := hide hg1; clear hg1 hg
  go_enter Tryd.func15, Tryd.ntmps15
  go_wp2_with fail
  refine (as_use k ⟨w.heap.size, 0, none⟩ (.int .i64 0) _ (unhide HG) (by simp) (by simp)).mono ?_
  rintro e w1 ⟨rfl, hc, hb⟩
  have hb1 := ((Below.refl w.heap.size w).alloc (Nat.le_refl _) _).trans (hb w.heap.size (Nat.le_refl _))
  have HB := hide hb1; clear hb hb1 HG
  go_wp2
  go_ret
  exact ⟨rfl, unhide HB⟩
theorem num_any (k : Int) (w : World) (hg : ErrT w) : Calls Tryd.prog 15 #[errV k] w fun e w' => e = .returned (.int .i64 k) ∧ Below w.heap.size w w' := by
  by_cases h : k = 0
  · subst h; rw [errV_0]; exact num_nil w
  · have : errV k = .iface 60 (.int .i64 k) := by simp [errV, h]
    rw [this]; exact num_hit k w hg
end Go.Proofs.YtgelkfmdkmopbaaDoor
