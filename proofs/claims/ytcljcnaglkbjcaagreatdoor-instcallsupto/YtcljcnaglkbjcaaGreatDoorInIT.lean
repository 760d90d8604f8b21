/- inst.item at api.Type. -/
import Derived.Test.YtcljcnaglkbjcaaGreatDoorOn
namespace Go.Proofs.YtcljcnaglkbjcaaGreatDoor
open Go.RowKit
set_option linter.unusedVariables false

set_option maxRecDepth 100000 in
set_option maxHeartbeats 1000000 in
theorem iti_T_yes (b o n cp i : Nat) (s0 : Option Addr) (l0 c0 : Nat) (z1 : Int) (w : World) (hb : b < w.heap.size) (hi : (i : Int) < n) (h0 : w.cell? ⟨b, o + i * 2, none⟩ = some (.slice s0 l0 c0)) (h1 : w.cell? ⟨b, o + i * 2 + 1, none⟩ = some (.int .u8 z1)) :
    Calls Tryz.prog 56 #[.slice (some ⟨b, o, none⟩) n cp, .int .i64 i] w fun e w' => e = .returned (.tuple #[.agg #[.slice s0 l0 c0, .int .u8 z1], .bool true]) ∧ Below w.heap.size w w' := by
  have hne : ¬ b = w.heap.size := by omega
  have i0 : ¬ (i : Int) < 0 := by omega
  have i1 : ¬ (n : Int) ≤ i := by omega
  have hB : Below w.heap.size w w := Below.refl _ _
  have HB := hide hB; clear hB
  go_enter Tryz.func56, Tryz.ntmps56
  go_wp2
  refine bodyPost_ret (v := .tuple #[.agg #[.slice s0 l0 c0, .int .u8 z1], .bool true]) (by simp [results, Tryz.results56, go_sem]) rfl ⟨rfl, (Below.refl _ _).alloc (Nat.le_refl _) _⟩

set_option maxRecDepth 100000 in
set_option maxHeartbeats 1000000 in
theorem iti_T_no (a : Option Addr) (n cp : Nat) (i : Int) (w : World) (hi : i < 0 ∨ (n : Int) ≤ i) :
    Calls Tryz.prog 56 #[.slice a n cp, .int .i64 i] w fun e w' => e = .returned (.tuple #[.agg #[.slice none 0 0, .int .u8 0], .bool false]) ∧ Below w.heap.size w w' := by
  have HB := hide (Below.refl w.heap.size w)
  by_cases h0 : i < 0
  · clear hi
    go_enter Tryz.func56, Tryz.ntmps56
    go_wp2
    refine bodyPost_ret (v := .tuple #[.agg #[.slice none 0 0, .int .u8 0], .bool false]) (by simp [results, Tryz.results56, go_sem]) rfl ⟨rfl, ((Below.refl _ _).alloc (Nat.le_refl _) _).alloc (by simp) _⟩
  · have h1 : (n : Int) ≤ i := by omega
    clear hi
    go_enter Tryz.func56, Tryz.ntmps56
    go_wp2
    refine bodyPost_ret (v := .tuple #[.agg #[.slice none 0 0, .int .u8 0], .bool false]) (by simp [results, Tryz.results56, go_sem]) rfl ⟨rfl, ((Below.refl _ _).alloc (Nat.le_refl _) _).alloc (by simp) _⟩
end Go.Proofs.YtcljcnaglkbjcaaGreatDoor
