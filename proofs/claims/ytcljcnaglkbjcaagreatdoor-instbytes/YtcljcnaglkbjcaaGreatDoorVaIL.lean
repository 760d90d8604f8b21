/- valid.item at api.Limits: isThere. -/
import Derived.Test.YtcljcnaglkbjcaaGreatDoorOn
namespace Go.Proofs.YtcljcnaglkbjcaaGreatDoor
open Go.RowKit
set_option linter.unusedVariables false

set_option maxRecDepth 100000 in
set_option maxHeartbeats 1000000 in
theorem it_L_yes (b o n cp i : Nat) (z0 : Int) (t1 : Bool) (z2 : Int) (w : World) (hb : b < w.heap.size) (hi : (i : Int) < n) (h0 : w.cell? ⟨b, o + i * 3, none⟩ = some (.int .u32 z0)) (h1 : w.cell? ⟨b, o + i * 3 + 1, none⟩ = some (.bool t1)) (h2 : w.cell? ⟨b, o + i * 3 + 2, none⟩ = some (.int .u32 z2)) :
    Calls Tryz.prog 182 #[.slice (some ⟨b, o, none⟩) n cp, .int .i64 i] w fun e w' => e = .returned (.tuple #[.agg #[.int .u32 z0, .bool t1, .int .u32 z2], .bool true]) ∧ Below w.heap.size w w' := by
  have hne : ¬ b = w.heap.size := by omega
  have i0 : ¬ (i : Int) < 0 := by omega
  have i1 : ¬ (n : Int) ≤ i := by omega
  have hB : Below w.heap.size w w := Below.refl _ _
  have HB := hide hB; clear hB
  go_enter Tryz.func182, Tryz.ntmps182
  go_wp2
  refine bodyPost_ret (v := .tuple #[.agg #[.int .u32 z0, .bool t1, .int .u32 z2], .bool true]) (by simp [results, Tryz.results182, go_sem]) rfl ⟨rfl, (Below.refl _ _).alloc (Nat.le_refl _) _⟩

set_option maxRecDepth 100000 in
set_option maxHeartbeats 1000000 in
theorem it_L_no (a : Option Addr) (n cp : Nat) (i : Int) (w : World) (hi : i < 0 ∨ (n : Int) ≤ i) :
    Calls Tryz.prog 182 #[.slice a n cp, .int .i64 i] w fun e w' => e = .returned (.tuple #[.agg #[.int .u32 0, .bool false, .int .u32 0], .bool false]) ∧ Below w.heap.size w w' := by
  have HB := hide (Below.refl w.heap.size w)
  by_cases h0 : i < 0
  · clear hi
    go_enter Tryz.func182, Tryz.ntmps182
    go_wp2
    refine bodyPost_ret (v := .tuple #[.agg #[.int .u32 0, .bool false, .int .u32 0], .bool false]) (by simp [results, Tryz.results182, go_sem]) rfl ⟨rfl, ((Below.refl _ _).alloc (Nat.le_refl _) _).alloc (by simp) _⟩
  · have h1 : (n : Int) ≤ i := by omega
    clear hi
    go_enter Tryz.func182, Tryz.ntmps182
    go_wp2
    refine bodyPost_ret (v := .tuple #[.agg #[.int .u32 0, .bool false, .int .u32 0], .bool false]) (by simp [results, Tryz.results182, go_sem]) rfl ⟨rfl, ((Below.refl _ _).alloc (Nat.le_refl _) _).alloc (by simp) _⟩

set_option maxRecDepth 100000 in
set_option maxHeartbeats 1000000 in
theorem there_L_yes (b o n cp i : Nat) (z0 : Int) (t1 : Bool) (z2 : Int) (w : World) (hb : b < w.heap.size) (hi : (i : Int) < n) (h32 : (i : Int) < 4294967296) (h0 : w.cell? ⟨b, o + i * 3, none⟩ = some (.int .u32 z0)) (h1 : w.cell? ⟨b, o + i * 3 + 1, none⟩ = some (.bool t1)) (h2 : w.cell? ⟨b, o + i * 3 + 2, none⟩ = some (.int .u32 z2)) :
    Calls Tryz.prog 165 #[.slice (some ⟨b, o, none⟩) n cp, .int .u32 i] w fun e w' => e = .returned (.bool true) ∧ Below w.heap.size w w' := by
  have H := hide (it_L_yes b o n cp i z0 t1 z2 w hb hi h0 h1 h2)
  clear hb hi h0 h1 h2
  go_enter Tryz.func165, Tryz.ntmps165
  go_wp2_with fail
  refine (unhide H).mono ?_
  rintro e w1 ⟨rfl, hb1⟩
  have HB := hide hb1; clear hb1
  go_wp2
  go_ret
  exact ⟨rfl, (unhide HB).alloc (unhide HB).size _⟩

set_option maxRecDepth 100000 in
set_option maxHeartbeats 1000000 in
theorem there_L_no (a : Option Addr) (n cp : Nat) (i : Int) (w : World) (hi : (n : Int) ≤ i) (h32 : 0 ≤ i ∧ i < 4294967296) :
    Calls Tryz.prog 165 #[.slice a n cp, .int .u32 i] w fun e w' => e = .returned (.bool false) ∧ Below w.heap.size w w' := by
  have H := hide (it_L_no a n cp i w (.inr hi))
  obtain ⟨p0, p1⟩ := h32
  clear hi
  go_enter Tryz.func165, Tryz.ntmps165
  go_wp2_with fail
  refine (unhide H).mono ?_
  rintro e w1 ⟨rfl, hb1⟩
  have HB := hide hb1; clear hb1
  go_wp2
  go_ret
  exact ⟨rfl, (unhide HB).alloc (unhide HB).size _⟩
end Go.Proofs.YtcljcnaglkbjcaaGreatDoor
