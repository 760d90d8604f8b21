/- inst: low32, place, what a state begins with at the module that sure makes. -/
import Derived.Test.YtcljcnaglkbjcaaGreatDoorVaE
import Derived.Test.YtcljcnaglkbjcaaGreatDoorMemC
import Derived.Deep.RegionHeld3
namespace Go.Proofs.YtcljcnaglkbjcaaGreatDoor
open Go.RowKit Go.Maps Go.Shelf
set_option linter.unusedVariables false

theorem low32_any (v : Int) (w : World) (h0 : 0 ≤ v) (h1 : v < 18446744073709551616) :
    Calls Tryz.prog 49 #[.int .u64 v] w fun e w' => e = .returned (.int .u64 (v % 4294967296)) ∧ w = w' := by
  go_enter Tryz.func49, Tryz.ntmps49
  go_wp2
  go_ret
  exact ⟨ret_int (by first | rfl | (simp only [IntKind.wrap_u32, IntKind.wrap_u64]; omega)), rfl⟩

set_option maxRecDepth 100000 in
set_option maxHeartbeats 1000000 in
theorem place0 (n : Nat) (hn : (n : Int) ≤ 1) (w : World) :
    Calls Tryz.prog 69 #[.agg #[.int .u8 65, .int .i64 4096, .int .u32 0, .int .u32 0, .int .u8 0, .slice none 0 0, .slice none 0 0, .slice none 0 0], .int .i64 n, .int .i64 4096] w fun e w' => e = .returned (.tuple #[.int .i64 (if n = 0 then 4096 else 0), .bool (decide (n = 0))]) ∧ Below w.heap.size w w' := by
  have hl := fun W => low32_any 4096 W (by omega) (by omega)
  have HL := hide hl; clear hl
  have hb0 : Below w.heap.size w (w.alloc (.cells #[.int .u8 65, .int .i64 4096, .int .u32 0, .int .u32 0, .int .u8 0, .slice none 0 0, .slice none 0 0, .slice none 0 0] 126)) := (Below.refl _ _).alloc (Nat.le_refl _) _
  have HB0 := hide hb0; clear hb0
  rcases (show n = 0 ∨ n = 1 by omega) with rfl | rfl
  all_goals
    clear hn
    go_enter Tryz.func69, Tryz.ntmps69
    go_wp2_with fail
    refine (unhide HL _).mono ?_
    rintro e w1 ⟨rfl, rfl⟩
    go_wp2
    go_ret2
    exact ⟨rfl, unhide HB0⟩

set_option maxRecDepth 100000 in
set_option maxHeartbeats 1000000 in
theorem firstMem0 {w : World} {bm bd be yl yc : Nat} {ya : Option Addr} (h : M0 w bm bd be (.slice ya yl yc)) :
    Calls Tryz.prog 36 #[.slice (some ⟨bm, 0, none⟩) 1 1] w fun e w' => e = .returned (.pointer (some ⟨w.heap.size + 1, 0, none⟩)) ∧ MemAt w' (w.heap.size + 1) w.heap.size 4096 4096 16 (List.replicate 4096 0) ∧ Below w.heap.size w w' := by
  have c0 := h.l0; have c1 := h.l1; have c2 := h.l2; have hlt := h.ltm
  clear h
  have HN := hide (new_yes 1 16 w (by omega) (by omega) (by omega))
  go_enter Tryz.func36, Tryz.ntmps36
  go_wp2_with fail
  refine (unhide HN).mono ?_
  rintro e w1 ⟨rfl, hm, hb⟩
  simp only [Int.toNat_one, Nat.one_mul] at hm
  have HM := hide hm; have HB := hide hb; clear hm hb
  go_wp2
  go_ret
  exact ⟨rfl, unhide HM, unhide HB⟩

set_option maxRecDepth 100000 in
set_option maxHeartbeats 1000000 in
theorem firstTab0 (w : World) :
    Calls Tryz.prog 37 #[.slice none 0 0] w fun e w' => e = .returned (.slice none 0 0) ∧ w = w' := by
  go_enter Tryz.func37, Tryz.ntmps37
  go_wp2
  go_ret
  exact ⟨rfl, rfl⟩

theorem infoU64 : (Tryz.prog.info? 72).map (fun i => (i.zero, i.size, i.bytes)) = some (some (.int .u64 0), 1, 8) := by kernel_rfl

set_option maxRecDepth 100000 in
set_option maxHeartbeats 1000000 in
theorem firstVal0 (w : World) :
    Calls Tryz.prog 38 #[.slice none 0 0] w fun e w' => (∃ ga gc, e = .returned (.slice ga 0 gc)) ∧ Below w.heap.size w w' := by
  have hmk := fun wx => run_make_row' (P := Tryz.prog) 53 72 (.int .u64 0) 8 Tryz.underlying53 infoU64 rfl .i64 .i64 0 (by omega) (by omega) wx
  simp only [Int.ofNat_zero] at hmk
  go_enter Tryz.func38, Tryz.ntmps38
  go_wp2
  refine wp_loop_rounds 1 ?_
  rw [rounds_succ]
  go_wp2
  go_ret
  exact ⟨⟨_, _, rfl⟩, (Below.refl _ _).alloc (Nat.le_refl _) _⟩

set_option maxRecDepth 100000 in
set_option maxHeartbeats 1000000 in
theorem layElems0 (st : Option Addr) (w : World) :
    Calls Tryz.prog 39 #[.pointer st, .slice none 0 0] w fun e w' => e = .returned (.bool true) ∧ w = w' := by
  go_enter Tryz.func39, Tryz.ntmps39
  go_wp2
  refine wp_loop_rounds 1 ?_
  rw [rounds_succ]
  go_wp2
  go_ret
  exact ⟨rfl, rfl⟩
end Go.Proofs.YtcljcnaglkbjcaaGreatDoor
