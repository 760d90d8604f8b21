/- WC: what follows, part by part: each part tells what it holds. -/
import Derived.Test.YtcpknafaocdjdaaGreatDoorOn
import Derived.Test.YtcpknafaocdjdaaGreatDoorWB
import Derived.LoopN
import Derived.Deep.RegionHeld3

/- valid.item at api.Type: isThere. -/
namespace Go.Proofs.YtcpknafaocdjdaaGreatDoor
open Go.RowKit
set_option linter.unusedVariables false

set_option maxRecDepth 100000 in
set_option maxHeartbeats 1000000 in
theorem it_T_yes (b o n cp i : Nat) (s0 : Option Addr) (l0 c0 : Nat) (z1 : Int) (w : World) (hb : b < w.heap.size) (hi : (i : Int) < n) (h0 : w.cell? ⟨b, o + i * 2, none⟩ = some (.slice s0 l0 c0)) (h1 : w.cell? ⟨b, o + i * 2 + 1, none⟩ = some (.int .u8 z1)) :
    Calls Tryz.prog 61 #[.slice (some ⟨b, o, none⟩) n cp, .int .i64 i] w fun e w' => e = .returned (.tuple #[.agg #[.slice s0 l0 c0, .int .u8 z1], .bool true]) ∧ Below w.heap.size w w' := by
  have hne : ¬ b = w.heap.size := by omega
  have i0 : ¬ (i : Int) < 0 := by omega
  have i1 : ¬ (n : Int) ≤ i := by omega
  have hB : Below w.heap.size w w := Below.refl _ _
  have HB := hide hB; clear hB
  go_enter Tryz.func61, Tryz.ntmps61
  go_wp2
  refine bodyPost_ret (v := .tuple #[.agg #[.slice s0 l0 c0, .int .u8 z1], .bool true]) (by simp [results, Tryz.results61, go_sem]) rfl ⟨rfl, (Below.refl _ _).alloc (Nat.le_refl _) _⟩

set_option maxRecDepth 100000 in
set_option maxHeartbeats 1000000 in
theorem it_T_no (a : Option Addr) (n cp : Nat) (i : Int) (w : World) (hi : i < 0 ∨ (n : Int) ≤ i) :
    Calls Tryz.prog 61 #[.slice a n cp, .int .i64 i] w fun e w' => e = .returned (.tuple #[.agg #[.slice none 0 0, .int .u8 0], .bool false]) ∧ Below w.heap.size w w' := by
  have HB := hide (Below.refl w.heap.size w)
  by_cases h0 : i < 0
  · clear hi
    go_enter Tryz.func61, Tryz.ntmps61
    go_wp2
    refine bodyPost_ret (v := .tuple #[.agg #[.slice none 0 0, .int .u8 0], .bool false]) (by simp [results, Tryz.results61, go_sem]) rfl ⟨rfl, ((Below.refl _ _).alloc (Nat.le_refl _) _).alloc (by simp) _⟩
  · have h1 : (n : Int) ≤ i := by omega
    clear hi
    go_enter Tryz.func61, Tryz.ntmps61
    go_wp2
    refine bodyPost_ret (v := .tuple #[.agg #[.slice none 0 0, .int .u8 0], .bool false]) (by simp [results, Tryz.results61, go_sem]) rfl ⟨rfl, ((Below.refl _ _).alloc (Nat.le_refl _) _).alloc (by simp) _⟩

set_option maxRecDepth 100000 in
set_option maxHeartbeats 1000000 in
theorem there_T_yes (b o n cp i : Nat) (s0 : Option Addr) (l0 c0 : Nat) (z1 : Int) (w : World) (hb : b < w.heap.size) (hi : (i : Int) < n) (h32 : (i : Int) < 4294967296) (h0 : w.cell? ⟨b, o + i * 2, none⟩ = some (.slice s0 l0 c0)) (h1 : w.cell? ⟨b, o + i * 2 + 1, none⟩ = some (.int .u8 z1)) :
    Calls Tryz.prog 46 #[.slice (some ⟨b, o, none⟩) n cp, .int .u32 i] w fun e w' => e = .returned (.bool true) ∧ Below w.heap.size w w' := by
  have H := hide (it_T_yes b o n cp i s0 l0 c0 z1 w hb hi h0 h1)
  clear hb hi h0 h1
  go_enter Tryz.func46, Tryz.ntmps46
  go_wp2_with fail
  refine (unhide H).mono ?_
  rintro e w1 ⟨rfl, hb1⟩
  have HB := hide hb1; clear hb1
  go_wp2
  go_ret
  exact ⟨rfl, (unhide HB).alloc (unhide HB).size _⟩

set_option maxRecDepth 100000 in
set_option maxHeartbeats 1000000 in
theorem there_T_no (a : Option Addr) (n cp : Nat) (i : Int) (w : World) (hi : (n : Int) ≤ i) (h32 : 0 ≤ i ∧ i < 4294967296) :
    Calls Tryz.prog 46 #[.slice a n cp, .int .u32 i] w fun e w' => e = .returned (.bool false) ∧ Below w.heap.size w w' := by
  have H := hide (it_T_no a n cp i w (.inr hi))
  obtain ⟨p0, p1⟩ := h32
  clear hi
  go_enter Tryz.func46, Tryz.ntmps46
  go_wp2_with fail
  refine (unhide H).mono ?_
  rintro e w1 ⟨rfl, hb1⟩
  have HB := hide hb1; clear hb1
  go_wp2
  go_ret
  exact ⟨rfl, (unhide HB).alloc (unhide HB).size _⟩
end Go.Proofs.YtcpknafaocdjdaaGreatDoor

/- valid.item at api.Func: isThere. -/
namespace Go.Proofs.YtcpknafaocdjdaaGreatDoor
open Go.RowKit
set_option linter.unusedVariables false

set_option maxRecDepth 100000 in
set_option maxHeartbeats 1000000 in
theorem it_F_yes (b o n cp i : Nat) (z0 : Int) (s1 : Option Addr) (l1 c1 : Nat) (s2 : Option Addr) (l2 c2 : Nat) (w : World) (hb : b < w.heap.size) (hi : (i : Int) < n) (h0 : w.cell? ⟨b, o + i * 3, none⟩ = some (.int .u32 z0)) (h1 : w.cell? ⟨b, o + i * 3 + 1, none⟩ = some (.slice s1 l1 c1)) (h2 : w.cell? ⟨b, o + i * 3 + 2, none⟩ = some (.slice s2 l2 c2)) :
    Calls Tryz.prog 60 #[.slice (some ⟨b, o, none⟩) n cp, .int .i64 i] w fun e w' => e = .returned (.tuple #[.agg #[.int .u32 z0, .slice s1 l1 c1, .slice s2 l2 c2], .bool true]) ∧ Below w.heap.size w w' := by
  have hne : ¬ b = w.heap.size := by omega
  have i0 : ¬ (i : Int) < 0 := by omega
  have i1 : ¬ (n : Int) ≤ i := by omega
  have hB : Below w.heap.size w w := Below.refl _ _
  have HB := hide hB; clear hB
  go_enter Tryz.func60, Tryz.ntmps60
  go_wp2
  refine bodyPost_ret (v := .tuple #[.agg #[.int .u32 z0, .slice s1 l1 c1, .slice s2 l2 c2], .bool true]) (by simp [results, Tryz.results60, go_sem]) rfl ⟨rfl, (Below.refl _ _).alloc (Nat.le_refl _) _⟩

set_option maxRecDepth 100000 in
set_option maxHeartbeats 1000000 in
theorem it_F_no (a : Option Addr) (n cp : Nat) (i : Int) (w : World) (hi : i < 0 ∨ (n : Int) ≤ i) :
    Calls Tryz.prog 60 #[.slice a n cp, .int .i64 i] w fun e w' => e = .returned (.tuple #[.agg #[.int .u32 0, .slice none 0 0, .slice none 0 0], .bool false]) ∧ Below w.heap.size w w' := by
  have HB := hide (Below.refl w.heap.size w)
  by_cases h0 : i < 0
  · clear hi
    go_enter Tryz.func60, Tryz.ntmps60
    go_wp2
    refine bodyPost_ret (v := .tuple #[.agg #[.int .u32 0, .slice none 0 0, .slice none 0 0], .bool false]) (by simp [results, Tryz.results60, go_sem]) rfl ⟨rfl, ((Below.refl _ _).alloc (Nat.le_refl _) _).alloc (by simp) _⟩
  · have h1 : (n : Int) ≤ i := by omega
    clear hi
    go_enter Tryz.func60, Tryz.ntmps60
    go_wp2
    refine bodyPost_ret (v := .tuple #[.agg #[.int .u32 0, .slice none 0 0, .slice none 0 0], .bool false]) (by simp [results, Tryz.results60, go_sem]) rfl ⟨rfl, ((Below.refl _ _).alloc (Nat.le_refl _) _).alloc (by simp) _⟩

set_option maxRecDepth 100000 in
set_option maxHeartbeats 1000000 in
theorem there_F_yes (b o n cp i : Nat) (z0 : Int) (s1 : Option Addr) (l1 c1 : Nat) (s2 : Option Addr) (l2 c2 : Nat) (w : World) (hb : b < w.heap.size) (hi : (i : Int) < n) (h32 : (i : Int) < 4294967296) (h0 : w.cell? ⟨b, o + i * 3, none⟩ = some (.int .u32 z0)) (h1 : w.cell? ⟨b, o + i * 3 + 1, none⟩ = some (.slice s1 l1 c1)) (h2 : w.cell? ⟨b, o + i * 3 + 2, none⟩ = some (.slice s2 l2 c2)) :
    Calls Tryz.prog 90 #[.slice (some ⟨b, o, none⟩) n cp, .int .u32 i] w fun e w' => e = .returned (.bool true) ∧ Below w.heap.size w w' := by
  have H := hide (it_F_yes b o n cp i z0 s1 l1 c1 s2 l2 c2 w hb hi h0 h1 h2)
  clear hb hi h0 h1 h2
  go_enter Tryz.func90, Tryz.ntmps90
  go_wp2_with fail
  refine (unhide H).mono ?_
  rintro e w1 ⟨rfl, hb1⟩
  have HB := hide hb1; clear hb1
  go_wp2
  go_ret
  exact ⟨rfl, (unhide HB).alloc (unhide HB).size _⟩

set_option maxRecDepth 100000 in
set_option maxHeartbeats 1000000 in
theorem there_F_no (a : Option Addr) (n cp : Nat) (i : Int) (w : World) (hi : (n : Int) ≤ i) (h32 : 0 ≤ i ∧ i < 4294967296) :
    Calls Tryz.prog 90 #[.slice a n cp, .int .u32 i] w fun e w' => e = .returned (.bool false) ∧ Below w.heap.size w w' := by
  have H := hide (it_F_no a n cp i w (.inr hi))
  obtain ⟨p0, p1⟩ := h32
  clear hi
  go_enter Tryz.func90, Tryz.ntmps90
  go_wp2_with fail
  refine (unhide H).mono ?_
  rintro e w1 ⟨rfl, hb1⟩
  have HB := hide hb1; clear hb1
  go_wp2
  go_ret
  exact ⟨rfl, (unhide HB).alloc (unhide HB).size _⟩
end Go.Proofs.YtcpknafaocdjdaaGreatDoor

/- valid.item at api.Global: isThere. -/
namespace Go.Proofs.YtcpknafaocdjdaaGreatDoor
open Go.RowKit
set_option linter.unusedVariables false

set_option maxRecDepth 100000 in
set_option maxHeartbeats 1000000 in
theorem it_G_yes (b o n cp i : Nat) (z0 : Int) (t1 : Bool) (z2 : Int) (z3 : Int) (z4 : Int) (z5 : Int) (z6 : Int) (s7 : Option Addr) (l7 c7 : Nat) (s8 : Option Addr) (l8 c8 : Nat) (s9 : Option Addr) (l9 c9 : Nat) (w : World) (hb : b < w.heap.size) (hi : (i : Int) < n) (h0 : w.cell? ⟨b, o + i * 10, none⟩ = some (.int .u8 z0)) (h1 : w.cell? ⟨b, o + i * 10 + 1, none⟩ = some (.bool t1)) (h2 : w.cell? ⟨b, o + i * 10 + 2, none⟩ = some (.int .u8 z2)) (h3 : w.cell? ⟨b, o + i * 10 + 3, none⟩ = some (.int .i64 z3)) (h4 : w.cell? ⟨b, o + i * 10 + 4, none⟩ = some (.int .u32 z4)) (h5 : w.cell? ⟨b, o + i * 10 + 5, none⟩ = some (.int .u32 z5)) (h6 : w.cell? ⟨b, o + i * 10 + 6, none⟩ = some (.int .u8 z6)) (h7 : w.cell? ⟨b, o + i * 10 + 7, none⟩ = some (.slice s7 l7 c7)) (h8 : w.cell? ⟨b, o + i * 10 + 8, none⟩ = some (.slice s8 l8 c8)) (h9 : w.cell? ⟨b, o + i * 10 + 9, none⟩ = some (.slice s9 l9 c9)) :
    Calls Tryz.prog 129 #[.slice (some ⟨b, o, none⟩) n cp, .int .i64 i] w fun e w' => e = .returned (.tuple #[.agg #[.int .u8 z0, .bool t1, .int .u8 z2, .int .i64 z3, .int .u32 z4, .int .u32 z5, .int .u8 z6, .slice s7 l7 c7, .slice s8 l8 c8, .slice s9 l9 c9], .bool true]) ∧ Below w.heap.size w w' := by
  have hne : ¬ b = w.heap.size := by omega
  have i0 : ¬ (i : Int) < 0 := by omega
  have i1 : ¬ (n : Int) ≤ i := by omega
  have hB : Below w.heap.size w w := Below.refl _ _
  have HB := hide hB; clear hB
  go_enter Tryz.func129, Tryz.ntmps129
  go_wp2
  refine bodyPost_ret (v := .tuple #[.agg #[.int .u8 z0, .bool t1, .int .u8 z2, .int .i64 z3, .int .u32 z4, .int .u32 z5, .int .u8 z6, .slice s7 l7 c7, .slice s8 l8 c8, .slice s9 l9 c9], .bool true]) (by simp [results, Tryz.results129, go_sem]) rfl ⟨rfl, (Below.refl _ _).alloc (Nat.le_refl _) _⟩

set_option maxRecDepth 100000 in
set_option maxHeartbeats 1000000 in
theorem it_G_no (a : Option Addr) (n cp : Nat) (i : Int) (w : World) (hi : i < 0 ∨ (n : Int) ≤ i) :
    Calls Tryz.prog 129 #[.slice a n cp, .int .i64 i] w fun e w' => e = .returned (.tuple #[.agg #[.int .u8 0, .bool false, .int .u8 0, .int .i64 0, .int .u32 0, .int .u32 0, .int .u8 0, .slice none 0 0, .slice none 0 0, .slice none 0 0], .bool false]) ∧ Below w.heap.size w w' := by
  have HB := hide (Below.refl w.heap.size w)
  by_cases h0 : i < 0
  · clear hi
    go_enter Tryz.func129, Tryz.ntmps129
    go_wp2
    refine bodyPost_ret (v := .tuple #[.agg #[.int .u8 0, .bool false, .int .u8 0, .int .i64 0, .int .u32 0, .int .u32 0, .int .u8 0, .slice none 0 0, .slice none 0 0, .slice none 0 0], .bool false]) (by simp [results, Tryz.results129, go_sem]) rfl ⟨rfl, ((Below.refl _ _).alloc (Nat.le_refl _) _).alloc (by simp) _⟩
  · have h1 : (n : Int) ≤ i := by omega
    clear hi
    go_enter Tryz.func129, Tryz.ntmps129
    go_wp2
    refine bodyPost_ret (v := .tuple #[.agg #[.int .u8 0, .bool false, .int .u8 0, .int .i64 0, .int .u32 0, .int .u32 0, .int .u8 0, .slice none 0 0, .slice none 0 0, .slice none 0 0], .bool false]) (by simp [results, Tryz.results129, go_sem]) rfl ⟨rfl, ((Below.refl _ _).alloc (Nat.le_refl _) _).alloc (by simp) _⟩

set_option maxRecDepth 100000 in
set_option maxHeartbeats 1000000 in
theorem there_G_yes (b o n cp i : Nat) (z0 : Int) (t1 : Bool) (z2 : Int) (z3 : Int) (z4 : Int) (z5 : Int) (z6 : Int) (s7 : Option Addr) (l7 c7 : Nat) (s8 : Option Addr) (l8 c8 : Nat) (s9 : Option Addr) (l9 c9 : Nat) (w : World) (hb : b < w.heap.size) (hi : (i : Int) < n) (h32 : (i : Int) < 4294967296) (h0 : w.cell? ⟨b, o + i * 10, none⟩ = some (.int .u8 z0)) (h1 : w.cell? ⟨b, o + i * 10 + 1, none⟩ = some (.bool t1)) (h2 : w.cell? ⟨b, o + i * 10 + 2, none⟩ = some (.int .u8 z2)) (h3 : w.cell? ⟨b, o + i * 10 + 3, none⟩ = some (.int .i64 z3)) (h4 : w.cell? ⟨b, o + i * 10 + 4, none⟩ = some (.int .u32 z4)) (h5 : w.cell? ⟨b, o + i * 10 + 5, none⟩ = some (.int .u32 z5)) (h6 : w.cell? ⟨b, o + i * 10 + 6, none⟩ = some (.int .u8 z6)) (h7 : w.cell? ⟨b, o + i * 10 + 7, none⟩ = some (.slice s7 l7 c7)) (h8 : w.cell? ⟨b, o + i * 10 + 8, none⟩ = some (.slice s8 l8 c8)) (h9 : w.cell? ⟨b, o + i * 10 + 9, none⟩ = some (.slice s9 l9 c9)) :
    Calls Tryz.prog 113 #[.slice (some ⟨b, o, none⟩) n cp, .int .u32 i] w fun e w' => e = .returned (.bool true) ∧ Below w.heap.size w w' := by
  have H := hide (it_G_yes b o n cp i z0 t1 z2 z3 z4 z5 z6 s7 l7 c7 s8 l8 c8 s9 l9 c9 w hb hi h0 h1 h2 h3 h4 h5 h6 h7 h8 h9)
  clear hb hi h0 h1 h2 h3 h4 h5 h6 h7 h8 h9
  go_enter Tryz.func113, Tryz.ntmps113
  go_wp2_with fail
  refine (unhide H).mono ?_
  rintro e w1 ⟨rfl, hb1⟩
  have HB := hide hb1; clear hb1
  go_wp2
  go_ret
  exact ⟨rfl, (unhide HB).alloc (unhide HB).size _⟩

set_option maxRecDepth 100000 in
set_option maxHeartbeats 1000000 in
theorem there_G_no (a : Option Addr) (n cp : Nat) (i : Int) (w : World) (hi : (n : Int) ≤ i) (h32 : 0 ≤ i ∧ i < 4294967296) :
    Calls Tryz.prog 113 #[.slice a n cp, .int .u32 i] w fun e w' => e = .returned (.bool false) ∧ Below w.heap.size w w' := by
  have H := hide (it_G_no a n cp i w (.inr hi))
  obtain ⟨p0, p1⟩ := h32
  clear hi
  go_enter Tryz.func113, Tryz.ntmps113
  go_wp2_with fail
  refine (unhide H).mono ?_
  rintro e w1 ⟨rfl, hb1⟩
  have HB := hide hb1; clear hb1
  go_wp2
  go_ret
  exact ⟨rfl, (unhide HB).alloc (unhide HB).size _⟩
end Go.Proofs.YtcpknafaocdjdaaGreatDoor

/- valid.item at api.Kind. -/
namespace Go.Proofs.YtcpknafaocdjdaaGreatDoor
open Go.RowKit
set_option linter.unusedVariables false

set_option maxRecDepth 100000 in
set_option maxHeartbeats 1000000 in
theorem it_K_yes (b o n cp i : Nat) (z0 : Int) (w : World) (hb : b < w.heap.size) (hi : (i : Int) < n) (h0 : w.cell? ⟨b, o + i, none⟩ = some (.int .u8 z0)) :
    Calls Tryz.prog 135 #[.slice (some ⟨b, o, none⟩) n cp, .int .i64 i] w fun e w' => e = .returned (.tuple #[.int .u8 z0, .bool true]) ∧ Below w.heap.size w w' := by
  have hne : ¬ b = w.heap.size := by omega
  have i0 : ¬ (i : Int) < 0 := by omega
  have i1 : ¬ (n : Int) ≤ i := by omega
  have hB : Below w.heap.size w w := Below.refl _ _
  have HB := hide hB; clear hB
  go_enter Tryz.func135, Tryz.ntmps135
  go_wp2
  go_ret2
  exact ⟨rfl, unhide HB⟩

set_option maxRecDepth 100000 in
set_option maxHeartbeats 1000000 in
theorem it_K_no (a : Option Addr) (n cp : Nat) (i : Int) (w : World) (hi : i < 0 ∨ (n : Int) ≤ i) :
    Calls Tryz.prog 135 #[.slice a n cp, .int .i64 i] w fun e w' => e = .returned (.tuple #[.int .u8 0, .bool false]) ∧ Below w.heap.size w w' := by
  have HB := hide (Below.refl w.heap.size w)
  by_cases h0 : i < 0
  · clear hi
    go_enter Tryz.func135, Tryz.ntmps135
    go_wp2
    go_ret2
    exact ⟨rfl, unhide HB⟩
  · have h1 : (n : Int) ≤ i := by omega
    clear hi
    go_enter Tryz.func135, Tryz.ntmps135
    go_wp2
    go_ret2
    exact ⟨rfl, unhide HB⟩
end Go.Proofs.YtcpknafaocdjdaaGreatDoor

/- valid.item at uint32. -/
namespace Go.Proofs.YtcpknafaocdjdaaGreatDoor
open Go.RowKit
set_option linter.unusedVariables false

set_option maxRecDepth 100000 in
set_option maxHeartbeats 1000000 in
theorem it_U_yes (b o n cp i : Nat) (z0 : Int) (w : World) (hb : b < w.heap.size) (hi : (i : Int) < n) (h0 : w.cell? ⟨b, o + i, none⟩ = some (.int .u32 z0)) :
    Calls Tryz.prog 139 #[.slice (some ⟨b, o, none⟩) n cp, .int .i64 i] w fun e w' => e = .returned (.tuple #[.int .u32 z0, .bool true]) ∧ Below w.heap.size w w' := by
  have hne : ¬ b = w.heap.size := by omega
  have i0 : ¬ (i : Int) < 0 := by omega
  have i1 : ¬ (n : Int) ≤ i := by omega
  have hB : Below w.heap.size w w := Below.refl _ _
  have HB := hide hB; clear hB
  go_enter Tryz.func139, Tryz.ntmps139
  go_wp2
  go_ret2
  exact ⟨rfl, unhide HB⟩

set_option maxRecDepth 100000 in
set_option maxHeartbeats 1000000 in
theorem it_U_no (a : Option Addr) (n cp : Nat) (i : Int) (w : World) (hi : i < 0 ∨ (n : Int) ≤ i) :
    Calls Tryz.prog 139 #[.slice a n cp, .int .i64 i] w fun e w' => e = .returned (.tuple #[.int .u32 0, .bool false]) ∧ Below w.heap.size w w' := by
  have HB := hide (Below.refl w.heap.size w)
  by_cases h0 : i < 0
  · clear hi
    go_enter Tryz.func139, Tryz.ntmps139
    go_wp2
    go_ret2
    exact ⟨rfl, unhide HB⟩
  · have h1 : (n : Int) ≤ i := by omega
    clear hi
    go_enter Tryz.func139, Tryz.ntmps139
    go_wp2
    go_ret2
    exact ⟨rfl, unhide HB⟩
end Go.Proofs.YtcpknafaocdjdaaGreatDoor

/- valid.item and valid.typeOf. -/
namespace Go.Proofs.YtcpknafaocdjdaaGreatDoor
open Go.RowKit
namespace Gm
set_option linter.unusedVariables false
set_option linter.unusedSimpArgs false
open Ex (Lies)
theorem vitem_t {w : World} {g : Nat → Prop} {l : List Typ} {v : Value} (h : LL TypC 2 w g l v) {j : Nat} (hj : j < l.length) :
    Calls Tryz.prog 61 #[v, .int .i64 j] w fun e w' => ∃ pa pc, e = .returned (.tuple #[.agg #[.slice pa l[j].ps.length pc, .int .u8 l[j].re], .bool true]) ∧ Lies g l[j].ps.length (Byts w l[j].ps) (.slice pa l[j].ps.length pc) ∧ Below w.heap.size w w' := by
  obtain ⟨b, o, cp, rfl, _, hb, _, cs, _, ⟨vp, rfl, hp⟩, hcs⟩ := h.at hj
  have hp2 := hp
  obtain ⟨pa, pc, rfl, _⟩ := hp
  refine (it_T_yes b o l.length cp j pa l[j].ps.length pc l[j].re w hb (by omega) (hcs 0 _ rfl) (hcs 1 _ rfl)).mono ?_
  rintro e w' ⟨rfl, hbel⟩
  exact ⟨pa, pc, rfl, hp2, hbel⟩

theorem vitem_f {w : World} {g : Nat → Prop} {l : List Fnc} {v : Value} (h : LL FncC 3 w g l v) {j : Nat} (hj : j < l.length) :
    Calls Tryz.prog 60 #[v, .int .i64 j] w fun e w' => ∃ pa pl pc qa ql qc, e = .returned (.tuple #[.agg #[.int .u32 l[j].ty, .slice pa pl pc, .slice qa ql qc], .bool true]) ∧ Below w.heap.size w w' := by
  obtain ⟨b, o, cp, rfl, _, hb, _, cs, _, ⟨vp, vq, rfl, hp, hq⟩, hcs⟩ := h.at hj
  obtain ⟨pa, pc, rfl, _⟩ := hp
  obtain ⟨qa, qc, rfl, _⟩ := hq
  refine (it_F_yes b o l.length cp j l[j].ty pa _ pc qa _ qc w hb (by omega) (hcs 0 _ rfl) (hcs 1 _ rfl) (hcs 2 _ rfl)).mono ?_
  rintro e w' ⟨rfl, hbel⟩
  exact ⟨pa, _, pc, qa, _, qc, rfl, hbel⟩

set_option maxRecDepth 100000 in
set_option maxHeartbeats 1600000 in
theorem vtypeOf_out {M : Mod} {g : Nat → Prop} {v0 v1 v2 v3 v4 v5 v6 v7 : Value} {w : World} (hM : ModL w g M v0 v1 v2 v3 v4 v5 v6 v7) {f : Int} (hf : f < 0 ∨ (M.funcs.length : Int) ≤ f) : TyNo 28 (.agg #[v0, v1, v2, v3, v4, v5, v6, v7]) w f := by
  unfold TyNo
  obtain ⟨a0, c0, rfl⟩ := hM.l0.sl
  obtain ⟨a1, c1, rfl⟩ := hM.l1.sl
  have hN := fun W => it_F_no a1 M.funcs.length c1 f W hf
  have HN := hide hN; clear hN hf hM
  go_enter Tryz.func28, Tryz.ntmps28
  go_wp2_with fail
  refine (unhide HN _).mono ?_
  rintro e w1 ⟨rfl, hb1⟩
  obtain ⟨r1, r2, r3, r4⟩ := res2 hb1
  obtain ⟨z0, z1⟩ := cel2 r1
  have fz : ∀ j, w1.frozen? ⟨w.heap.size + 1, j, none⟩ = false := fun j => frozen_of_row w1 _ j _ _ r1
  have HB := hide r3; have HR := hide r1
  clear hb1 r3 r1 r4
  go_wp2
  obtain ⟨q0, q1, q2⟩ := fin2a (unhide HR) (unhide HB) (by omega) (.slice none 0 0) (.int .u8 0) (.cells #[.int .u32 0, .slice none 0 0, .slice none 0 0] 66)
  refine bodyPost_ret (v := .tuple #[.agg #[.slice none 0 0, .int .u8 0], .bool false]) (by simp [results, Tryz.results28, go_sem, q0, q1]) rfl ⟨rfl, q2⟩

set_option maxRecDepth 100000 in
set_option maxHeartbeats 1600000 in
theorem vtypeOf_big {M : Mod} {g : Nat → Prop} {v0 v1 v2 v3 v4 v5 v6 v7 : Value} {w : World} (hM : ModL w g M v0 v1 v2 v3 v4 v5 v6 v7) {j : Nat} (hj : j < M.funcs.length) (ht0 : 0 ≤ (M.funcs[j]).ty) (ht1 : (M.funcs[j]).ty ≤ 4294967295) (ht : (M.types.length : Int) ≤ (M.funcs[j]).ty) : TyNo 28 (.agg #[v0, v1, v2, v3, v4, v5, v6, v7]) w j := by
  unfold TyNo
  obtain ⟨a0, c0, rfl⟩ := hM.l0.sl
  obtain ⟨a1, c1, rfl⟩ := hM.l1.sl
  have hN : ∀ W, Below w.heap.size w W → _ := fun W hW => vitem_f (hM.l1.moved (Mv.below (g' := g) hW (fun _ _ h => h)) hW.size (fun _ _ q => FncC.moved (Mv.below (g' := g) hW (fun _ _ h => h)) q)) hj
  have hN2 := fun W => it_T_no a0 M.types.length c0 (M.funcs[j]).ty W (.inr ht)
  have HN := hide hN; have HN2 := hide hN2; clear hN hM hN2
  generalize (M.funcs[j]).ty = ty at *
  go_enter Tryz.func28, Tryz.ntmps28
  go_wp2_with fail
  refine (unhide HN _ (((Below.refl _ _).alloc (Nat.le_refl _) _).alloc (by simp) _)).mono ?_
  rintro e w1 ⟨pa, pl, pc, qa, ql, qc, rfl, hb1⟩
  obtain ⟨r1, r2, r3, r4⟩ := res2 hb1
  have m0 : w1.cell? ⟨w.heap.size, 0, none⟩ = some (.slice a0 M.types.length c0) := by
    rw [cell_of_row w1 _ 0 _ _ _ ((r4 _ (by omega)).trans (heap_alloc_new w _))]; rfl
  have HB := hide r3; have HR := hide r1
  have n1 : w.heap.size < w1.heap.size := by omega
  have n2 : ¬ w.heap.size = w1.heap.size := by omega
  clear hb1 r3 r1 r4
  go_wp2_with fail
  refine (unhide HN2 _).mono ?_
  rintro e w2 ⟨rfl, hb2⟩
  have hb3 := Below.on ((Below.refl w1.heap.size w1).alloc (Nat.le_refl _) _) hb2
  have r1 := (hb3.block _ r2).trans (unhide HR)
  have hb4 := Below.on0 (unhide HB) hb3 (unhide HB).size
  obtain ⟨z0, z1⟩ := cel2 r1
  have fz : ∀ j, w2.frozen? ⟨w.heap.size + 1, j, none⟩ = false := fun j => frozen_of_row w2 _ j _ _ r1
  have hlt2 : w.heap.size + 1 < w2.heap.size := by have := hb3.size; omega
  have HB4 := hide hb4; have HR2 := hide r1
  clear hb2 hb3 hb4 r1 HB HR
  go_wp2
  obtain ⟨q0, q1, q2⟩ := fin2 (unhide HR2) (unhide HB4) (by omega) (.slice none 0 0) (.int .u8 0)
  refine bodyPost_ret (v := .tuple #[.agg #[.slice none 0 0, .int .u8 0], .bool false]) (by simp [results, Tryz.results28, go_sem, q0, q1]) rfl ⟨rfl, q2⟩

set_option maxRecDepth 100000 in
set_option maxHeartbeats 1600000 in
theorem vtypeOf_yes {M : Mod} {g : Nat → Prop} {v0 v1 v2 v3 v4 v5 v6 v7 : Value} {w : World} (hM : ModL w g M v0 v1 v2 v3 v4 v5 v6 v7) {j : Nat} (hj : j < M.funcs.length) {k : Nat} (hk : k < M.types.length) (ht : (M.funcs[j]).ty = k) (ht1 : k ≤ 4294967295) : TyYes 28 (.agg #[v0, v1, v2, v3, v4, v5, v6, v7]) w g j M.types[k] := by
  unfold TyYes
  obtain ⟨a1, c1, rfl⟩ := hM.l1.sl
  have hN : ∀ W, Below w.heap.size w W → _ := fun W hW => vitem_f (hM.l1.moved (Mv.below (g' := g) hW (fun _ _ h => h)) hW.size (fun _ _ q => FncC.moved (Mv.below (g' := g) hW (fun _ _ h => h)) q)) hj
  obtain ⟨b, o, c0, rfl, -, hb, -, cs, -, ⟨vp, rfl, hp⟩, hcs⟩ := hM.l0.at hk
  have hp2 := hp
  obtain ⟨ta, tc, rfl, -⟩ := hp
  have hN2 : ∀ W, Below w.heap.size w W → _ := fun W hW => it_T_yes b o M.types.length c0 k ta (M.types[k]).ps.length tc (M.types[k]).re W (Nat.lt_of_lt_of_le hb hW.size) (by omega) ((hW.cell (p := ⟨b, _, none⟩) hb).trans (hcs 0 _ rfl)) ((hW.cell (p := ⟨b, _, none⟩) hb).trans (hcs 1 _ rfl))
  have HN := hide hN; have HN2 := hide hN2; have HBy := hide hp2; clear hN hN2 hcs hp2
  rw [ht] at HN
  clear ht hM
  generalize M.types[k] = t at *
  go_enter Tryz.func28, Tryz.ntmps28
  go_wp2_with fail
  refine (unhide HN _ (((Below.refl _ _).alloc (Nat.le_refl _) _).alloc (by simp) _)).mono ?_
  rintro e w1 ⟨pa, pl, pc, qa, ql, qc, rfl, hb1⟩
  obtain ⟨r1, r2, r3, r4⟩ := res2 hb1
  have m0 : w1.cell? ⟨w.heap.size, 0, none⟩ = some (.slice (some ⟨b, o, none⟩) M.types.length c0) := by
    rw [cell_of_row w1 _ 0 _ _ _ ((r4 _ (by omega)).trans (heap_alloc_new w _))]; rfl
  have HB := hide r3; have HR := hide r1
  have n1 : w.heap.size < w1.heap.size := by omega
  have n2 : ¬ w.heap.size = w1.heap.size := by omega
  clear hb1 r3 r1 r4
  go_wp2_with fail
  refine (unhide HN2 _ ((unhide HB).alloc (unhide HB).size _)).mono ?_
  rintro e w2 ⟨rfl, hb2⟩
  have hb3 := Below.on ((Below.refl w1.heap.size w1).alloc (Nat.le_refl _) _) hb2
  have r1 := (hb3.block _ r2).trans (unhide HR)
  have hb4 := Below.on0 (unhide HB) hb3 (unhide HB).size
  obtain ⟨z0, z1⟩ := cel2 r1
  have fz : ∀ j, w2.frozen? ⟨w.heap.size + 1, j, none⟩ = false := fun j => frozen_of_row w2 _ j _ _ r1
  have hlt2 : w.heap.size + 1 < w2.heap.size := by have := hb3.size; omega
  have HB4 := hide hb4; have HR2 := hide r1
  clear hb2 hb3 hb4 r1 HB HR
  go_wp2
  obtain ⟨q0, q1, q2⟩ := fin2 (unhide HR2) (unhide HB4) (by omega) (.slice ta t.ps.length tc) (.int .u8 t.re)
  refine bodyPost_ret (v := .tuple #[.agg #[.slice ta t.ps.length tc, .int .u8 t.re], .bool true]) (by simp [results, Tryz.results28, go_sem, q0, q1]) rfl ⟨_, _, rfl, unhide HBy, q2⟩

theorem vtypeOf_any {M : Mod} {g : Nat → Prop} {v0 v1 v2 v3 v4 v5 v6 v7 : Value} {w : World} (hM : ModL w g M v0 v1 v2 v3 v4 v5 v6 v7) (hwf : WfM M) (f : Int) : TyB 28 (.agg #[v0, v1, v2, v3, v4, v5, v6, v7]) w g f (ty? M f) := by
  rcases ty_cases M f hwf with ⟨h, e⟩ | ⟨j, h, rfl, h1, h2, h3, e⟩ | ⟨j, h, k, hk, rfl, h1, h2, e⟩ <;> rw [e]
  · exact vtypeOf_out hM h
  · exact vtypeOf_big hM h h1 h2 h3
  · exact vtypeOf_yes hM h hk h1 h2
end Gm
end Go.Proofs.YtcpknafaocdjdaaGreatDoor

/- Some, and each. -/
namespace Go.Proofs.YtcpknafaocdjdaaGreatDoor
open Go.RowKit
theorem any_not {α : Type} (l : List α) (q : α → Bool) : (!l.any fun i => !q i) = l.all q := by
  induction l with
  | nil => rfl
  | cons a l ih => simp only [List.any_cons, List.all_cons, Bool.not_or, Bool.not_not, ih]
end Go.Proofs.YtcpknafaocdjdaaGreatDoor

/- valid.all at uint32: whether each item is so. -/
namespace Go.Proofs.YtcpknafaocdjdaaGreatDoor
open Go.RowKit
set_option linter.unusedVariables false

set_option maxRecDepth 100000 in
set_option maxHeartbeats 1000000 in
/-- the closure: not so -/
theorem allc_U (fn : Nat) (cap : Array Value) (eg : ∀ args w, (callFunc fn args).run Tryz.prog w = .ok (.enter fn args) w) (B : Nat) (v0 : Value) (r : Bool) (W : World)
    (hB : W.cell? ⟨B, 0, none⟩ = some (.func (.func fn) #[] cap)) (hBl : B < W.heap.size)
    (hf : ∀ W', Below W.heap.size W W' → Calls Tryz.prog fn (#[v0] ++ cap) W' fun e w' => e = .returned (.bool r) ∧ Below W'.heap.size W' w') :
    Calls Tryz.prog 116 #[v0, .pointer (some ⟨B, 0, none⟩)] W fun e w' => e = .returned (.bool (!r)) ∧ Below W.heap.size W w' := by
  have hne : ¬ B = W.heap.size := by omega
  have HF := hide hf; clear hf
  go_enter Tryz.func116, Tryz.ntmps116
  go_wp2_with (simp only [eg])
  refine (unhide HF _ (Below.refl _ _)).mono ?_
  rintro e w1 ⟨rfl, hb1⟩
  have HB := hide hb1; clear hb1
  go_wp2
  go_ret
  exact ⟨rfl, unhide HB⟩

set_option maxRecDepth 100000 in
set_option maxHeartbeats 1000000 in
theorem idx_U (b o n cp B : Nat) (cv : Nat → Nat → Value) (q : Nat → Bool) (w : World) (hn : (n : Int) < 1099511627776) (hb : b < w.heap.size)
    (hc : ∀ i, i < n → ∀ j, j < 1 → w.cell? ⟨b, o + i + j, none⟩ = some (cv i j))
    (hf : ∀ i, i < n → ∀ W, Below w.heap.size w W → Calls Tryz.prog 116 #[cv i 0, .pointer (some ⟨B, 0, none⟩)] W fun e w' => e = .returned (.bool (q i)) ∧ Below W.heap.size W w') :
    Calls Tryz.prog 130 #[.slice (some ⟨b, o, none⟩) n cp, .func (.func 116) #[] #[.pointer (some ⟨B, 0, none⟩)]] w fun e w' => (∃ r : Int, e = .returned (.int .i64 r) ∧ decide (r ≥ 0) = (List.range n).any q) ∧ Below w.heap.size w w' := by
  have HC := hide hc; have HF := hide hf; have HN := hide hn
  have n0 : (0 : Int) ≤ n := by omega
  go_enter Tryz.func130, Tryz.ntmps130
  clear hc hf
  go_wp2
  go_loopw [8] (fun i wr => ∃ k : Nat, k ≤ n ∧ i = .int .i64 k ∧ (List.range k).any q = false ∧ Below w.heap.size w wr)
    (fun i _ => ((n : Int) - intOf i).toNat)
  case atStart => exact ⟨0, Nat.zero_le _, rfl, rfl, Below.refl _ _⟩
  case round =>
    obtain ⟨k, hk, rfl, hany, hbl⟩ := hrel
    by_cases hlt : k < n
    · have hlt' : (k : Int) < n := by omega
      have hc := unhide HC
      have c0 : wr.cell? ⟨b, o + k, none⟩ = some (cv k 0) := (hbl.cell (p := ⟨b, o + k, none⟩) hb).trans (hc k hlt 0 (by omega))
      have HH := hide (unhide HF k hlt wr hbl)
      have HA := hide hany; have HL := hide hbl; have HK := hide hlt
      clear hc hany hbl hk hlt
      cases hq : q k
      · have HQ := hide hq
        rw [hq] at HH; clear hq
        go_wp2_with fail
        refine (unhide HH).mono ?_
        rintro e w1 ⟨rfl, hb1⟩
        have HB := hide hb1; clear hb1
        go_wp2
        go_roundw
        case rel => exact ⟨k + 1, unhide HK, rfl, by rw [List.range_succ, List.any_append, unhide HA]; simp [unhide HQ], Below.on (unhide HL) (unhide HB)⟩
        case measure => have := unhide HK; simp [intOf]; omega
      · have HQ := hide hq
        rw [hq] at HH; clear hq
        go_wp2_with fail
        refine (unhide HH).mono ?_
        rintro e w1 ⟨rfl, hb1⟩
        have HB := hide hb1; clear hb1
        go_wp2
        go_ret
        exact ⟨⟨_, rfl, by
          have h1 : (List.range n).any q = true := List.any_eq_true.2 ⟨k, List.mem_range.2 (unhide HK), unhide HQ⟩
          rw [h1]; simp⟩, Below.on (unhide HL) (unhide HB)⟩
    · obtain rfl : k = n := by omega
      have HA := hide hany; have HL := hide hbl
      clear hany hbl hk hlt
      go_wp2
      go_ret
      exact ⟨⟨_, rfl, by rw [unhide HA]; decide⟩, unhide HL⟩

set_option maxHeartbeats 1000000 in
theorem has_U (b o n cp B : Nat) (cv : Nat → Nat → Value) (q : Nat → Bool) (w : World) (hn : (n : Int) < 1099511627776) (hb : b < w.heap.size)
    (hc : ∀ i, i < n → ∀ j, j < 1 → w.cell? ⟨b, o + i + j, none⟩ = some (cv i j))
    (hf : ∀ i, i < n → ∀ W, Below w.heap.size w W → Calls Tryz.prog 116 #[cv i 0, .pointer (some ⟨B, 0, none⟩)] W fun e w' => e = .returned (.bool (q i)) ∧ Below W.heap.size W w') :
    Calls Tryz.prog 115 #[.slice (some ⟨b, o, none⟩) n cp, .func (.func 116) #[] #[.pointer (some ⟨B, 0, none⟩)]] w fun e w' => e = .returned (.bool ((List.range n).any q)) ∧ Below w.heap.size w w' := by
  have H := hide (idx_U b o n cp B cv q w hn hb hc hf)
  clear hc hf hn hb
  generalize (List.range n).any q = a at *
  go_enter Tryz.func115, Tryz.ntmps115
  go_wp2_with fail
  refine (unhide H).mono ?_
  rintro e w1 ⟨⟨r, rfl, hr⟩, hb1⟩
  have HB := hide hb1; have HR := hide hr; clear hb1 hr
  go_wp2
  go_ret
  exact ⟨ret_bool (unhide HR), unhide HB⟩

set_option maxHeartbeats 1000000 in
theorem all_U (b o n cp fn : Nat) (cap : Array Value) (eg : ∀ args w, (callFunc fn args).run Tryz.prog w = .ok (.enter fn args) w) (cv : Nat → Nat → Value) (q : Nat → Bool) (w : World) (hn : (n : Int) < 1099511627776) (hb : b < w.heap.size)
    (hc : ∀ i, i < n → ∀ j, j < 1 → w.cell? ⟨b, o + i + j, none⟩ = some (cv i j))
    (hf : ∀ i, i < n → ∀ W, Below w.heap.size w W → Calls Tryz.prog fn (#[cv i 0] ++ cap) W fun e w' => e = .returned (.bool (q i)) ∧ Below W.heap.size W w') :
    Calls Tryz.prog 88 #[.slice (some ⟨b, o, none⟩) n cp, .func (.func fn) #[] cap] w fun e w' => e = .returned (.bool ((List.range n).all q)) ∧ Below w.heap.size w w' := by
  have h0 : Below w.heap.size w (w.alloc (.cells #[.func (.func fn) #[] cap] 166)) := (Below.refl _ _).alloc (Nat.le_refl _) _
  have H := hide (has_U b o n cp w.heap.size cv (fun i => !q i) _ hn (Nat.lt_of_lt_of_le hb h0.size) (fun i hi j hj => (h0.cell (p := ⟨b, o + i + j, none⟩) hb).trans (hc i hi j hj))
    (fun i hi W hW => allc_U fn cap eg w.heap.size (cv i 0) (q i) W ((hW.cell (p := ⟨w.heap.size, 0, none⟩) (by simp)).trans (by simp)) (Nat.lt_of_lt_of_le (by simp) hW.size) fun W' hW' => hf i hi W' (Below.on h0 (Below.on hW hW'))))
  have H0 := hide h0
  clear hc hf hn hb h0
  rw [← any_not] at *
  generalize (List.range n).any (fun i => !q i) = a at *
  go_enter Tryz.func88, Tryz.ntmps88
  go_wp2_with fail
  refine (unhide H).mono ?_
  rintro e w1 ⟨rfl, hb1⟩
  have HB := hide hb1; clear hb1
  go_wp2
  go_ret
  exact ⟨rfl, Below.on (unhide H0) (unhide HB)⟩

set_option maxHeartbeats 1000000 in
theorem all0_U (a : Option Addr) (cp fn : Nat) (cap : Array Value) (w : World) :
    Calls Tryz.prog 88 #[.slice a 0 cp, .func (.func fn) #[] cap] w fun e w' => e = .returned (.bool true) ∧ Below w.heap.size w w' := by
  have h1 : ∀ (B : Nat) (W : World), Calls Tryz.prog 130 #[.slice a 0 cp, .func (.func 116) #[] #[.pointer (some ⟨B, 0, none⟩)]] W fun e w' => e = .returned (.int .i64 (-1)) ∧ W = w' := by
    intro B W
    go_enter Tryz.func130, Tryz.ntmps130
    go_wp2
    refine wp_loop_rounds 1 ?_
    rw [rounds_succ]
    go_wp2
    go_ret
    exact ⟨rfl, rfl⟩
  have h2 : ∀ (B : Nat) (W : World), Calls Tryz.prog 115 #[.slice a 0 cp, .func (.func 116) #[] #[.pointer (some ⟨B, 0, none⟩)]] W fun e w' => e = .returned (.bool false) ∧ W = w' := by
    intro B W
    have H := hide (h1 B W); clear h1
    go_enter Tryz.func115, Tryz.ntmps115
    go_wp2_with fail
    refine (unhide H).mono ?_
    rintro e w1 ⟨rfl, rfl⟩
    go_wp2
    go_ret
    exact ⟨rfl, rfl⟩
  have H := hide h2; clear h1 h2
  go_enter Tryz.func88, Tryz.ntmps88
  go_wp2_with fail
  refine (unhide H _ _).mono ?_
  rintro e w1 ⟨rfl, rfl⟩
  go_wp2
  go_ret
  exact ⟨rfl, (Below.refl _ _).alloc (Nat.le_refl _) _⟩
end Go.Proofs.YtcpknafaocdjdaaGreatDoor

/- valid: takes, item of kinds, label, commonLabel, localSign. -/
namespace Go.Proofs.YtcpknafaocdjdaaGreatDoor
open Go.RowKit
namespace Vw
set_option linter.unusedVariables false
set_option linter.unusedSimpArgs false
open Ex (Ins Lies Lab)
open Gm (Mod Typ Byts)
set_option maxRecDepth 100000 in
theorem takes_any (pa : Option Addr) (pl pc : Nat) (w : World) :
    Calls Tryz.prog 132 #[.slice pa pl pc] w fun e w' => e = .returned (.agg #[.slice pa pl pc, .int .u8 0]) ∧ Below w.heap.size w w' := by
  have hr := heap_alloc_new w (.cells #[.slice none 0 0, .int .u8 0] 96)
  obtain ⟨q0, q1, q2⟩ := Gm.fin2 (w := w) (S := w.heap.size) hr ((Below.refl _ _).alloc (Nat.le_refl _) _) (Nat.le_refl _) (.slice pa pl pc) (.int .u8 0)
  have HB := hide q2
  clear q2 hr
  go_enter Tryz.func132, Tryz.ntmps132
  go_wp2
  refine bodyPost_ret (v := .agg #[.slice pa pl pc, .int .u8 0]) (by simp [results, Tryz.results132, go_sem, q0, q1]) rfl ⟨rfl, (Below.refl _ _).alloc (Nat.le_refl _) _⟩

def kv (o : Option Int) : Value := .tuple #[.int .u8 (o.getD 0), .bool o.isSome]
theorem at_no {α : Type} {l : List α} {i : Int} (h : i < 0 ∨ (l.length : Int) ≤ i) : at? l i = none := by
  unfold at?; split
  · rfl
  · exact List.getElem?_eq_none (by omega)
theorem at_yes {α : Type} {l : List α} {j : Nat} (h : j < l.length) : at? l (j : Int) = some l[j] := by
  unfold at?; rw [if_neg (by omega)]; simp [h]
set_option maxRecDepth 100000 in
set_option maxHeartbeats 1000000 in
theorem itq_K {w : World} {g : Nat → Prop} {zs : List Int} {a : Option Addr} {c : Nat} (hz : Lies g zs.length (Byts w zs) (.slice a zs.length c)) (i : Int) :
    Calls Tryz.prog 135 #[.slice a zs.length c, .int .i64 i] w fun e w' => e = .returned (kv (at? zs i)) ∧ w' = w := by
  by_cases h0 : i < 0
  · rw [at_no (.inl h0)]
    generalize zs.length = n at *
    go_enter Tryz.func135, Tryz.ntmps135
    go_wp2
    go_ret2
    exact ⟨rfl, rfl⟩
  · by_cases h1 : (zs.length : Int) ≤ i
    · rw [at_no (.inr h1)]
      generalize zs.length = n at *
      go_enter Tryz.func135, Tryz.ntmps135
      go_wp2
      go_ret2
      exact ⟨rfl, rfl⟩
    · obtain ⟨j, rfl⟩ : ∃ j : Nat, i = j := ⟨i.toNat, by omega⟩
      have hj : j < zs.length := by omega
      obtain ⟨a', c', e, _, _, hr⟩ := hz
      cases e
      obtain ⟨b, o, rfl, _, hp⟩ := hr (by omega)
      have hc := hp j hj
      have hx : at? zs (j : Int) = some (zs.getD j 0) := by rw [at_yes hj]; simp [List.getD, hj]
      rw [hx]
      have i0 : ¬ (j : Int) < 0 := by omega
      have hlt' : (j : Int) < zs.length := by omega
      clear hr hp hx hj
      generalize zs.getD j 0 = z at *
      generalize zs.length = n at *
      go_enter Tryz.func135, Tryz.ntmps135
      go_wp2
      go_ret2
      exact ⟨rfl, rfl⟩

/-- a row of kinds of the call's own, as bytes at a place -/
theorem own_lies {w : World} {B e n : Nat} {v : Value} {l : List Int} (h : w.ownsRow B e 1 v n (kr l)) : n = l.length ∧ Lies (fun b => B ≤ b) l.length (Byts w l) v := by
  have hl : n = l.length := by have := h.1; rw [kr_len] at this; omega
  subst hl
  refine ⟨rfl, ?_⟩
  obtain ⟨a, c, rfl, hc⟩ := slice_of h
  refine ⟨a, c, rfl, hc, fun e => ?_, fun h0 => ?_⟩
  · subst e
    rcases h.2 with ⟨e1, _⟩ | ⟨g, cap, cur, e1, _⟩
    · simp at e1; exact e1.2
    · cases e1
  · obtain ⟨g, cap, e1, _⟩ := own_some h h0
    cases e1
    refine ⟨g, 0, rfl, (h.lt g rfl).1, fun j hj => ?_⟩
    rw [Nat.zero_add]
    exact own_at h hj (by unfold kr; rw [List.getElem?_map, List.getElem?_eq_getElem hj]; simp [List.getD, hj])
theorem lbl_at (la : List Int) (n : Int) (hl : la.length ≤ 1099511627776) (h0 : -9223372036854775808 ≤ n) (h1 : n ≤ 9223372036854775807) : at? la (IntKind.i64.wrap ((la.length : Int) - 1 - n)) = lbl la n := by
  unfold lbl
  by_cases hn : n < 0
  · rw [if_pos hn]
    by_cases hw : (la.length : Int) - 1 - n ≤ 9223372036854775807
    · exact at_no (.inr (by rw [IntKind.wrap_i64 _]; omega))
    · exact at_no (.inl (by rw [IntKind.wrap_i64 _]; omega))
  · rw [if_neg hn]
    have hw : IntKind.i64.wrap ((la.length : Int) - 1 - n) = (la.length : Int) - 1 - n := by rw [IntKind.wrap_i64 _]; omega
    rw [hw]
    by_cases hlt : n < la.length
    · rw [if_pos hlt]
      obtain ⟨j, hj⟩ : ∃ j : Nat, (la.length : Int) - 1 - n = j := ⟨((la.length : Int) - 1 - n).toNat, by omega⟩
      rw [hj, at_yes (by omega)]
      have : la.length - 1 - n.toNat = j := by omega
      rw [this]; simp [List.getD, show j < la.length by omega]
    · rw [if_neg hlt]; exact at_no (.inl (by omega))

set_option maxRecDepth 100000 in
set_option maxHeartbeats 1600000 in
theorem label_any {w : World} {N : Nat} {m : M8} {vl va vt : Value} {lo : List Int} {s : St} (h : Wk w N m vl lo va vt s) (hl : s.la.length ≤ 1099511627776) (n : Int) (hn0 : -9223372036854775808 ≤ n) (hn1 : n ≤ 9223372036854775807) :
    Calls Tryz.prog 133 #[.pointer (some ⟨N, 0, none⟩), .int .i64 n] w fun e w' => e = .returned (kv (lbl s.la n)) ∧ ∃ k, w' = w.drewN k := by
  obtain ⟨e1, hli⟩ := own_lies h.la
  obtain ⟨aa, ac, rfl, -⟩ := slice_of h.la
  obtain ⟨b8, b9, b10, b11, b12, b13, b14⟩ := h.box.cells
  have hq := fun (k : Nat) i => itq_K (w := w.drewN k) (zs := s.la) hli i
  have hat := lbl_at s.la n hl hn0 hn1
  have hlt := h.lt
  unfold kv at hq
  have HQ := hide hq; have HA := hide hat
  have hl' : (s.la.length : Int) ≤ 1099511627776 := by omega
  clear h hli hq hat b8 b10 b11 b12 b13 b14 e1 hl
  obtain ⟨L, hL⟩ : ∃ L, L = s.la.length := ⟨_, rfl⟩
  rw [← hL] at b9 hl' HQ HA
  clear hL
  go_enter Tryz.func133, Tryz.ntmps133
  go_wp2_with fail
  go_quiet ((go_at_call 135; exact Calls.quiet_of_same (unhide HQ _ _)))
  go_wp2
  go_ret2
  exact ⟨by rw [← unhide HA, IntWalk.i64_left]; rfl, ⟨_, rfl⟩⟩

theorem Wk.drewn {w : World} {N : Nat} {m : M8} {vl va vt : Value} {lo : List Int} {s : St} (h : Wk w N m vl lo va vt s) (k : Nat) : Wk (w.drewN k) N m vl lo va vt s := h.below (drewn_b w k)
set_option maxRecDepth 100000 in
set_option maxHeartbeats 1600000 in
theorem commc_any {w : World} {N : Nat} {m : M8} {vl va vt : Value} {lo : List Int} {s : St} (h : Wk w N m vl lo va vt s) (hl : s.la.length ≤ 1099511627776) {P Q : Nat} {k : Int} (hP : w.cell? ⟨P, 0, none⟩ = some (.pointer (some ⟨N, 0, none⟩))) (hQ : w.cell? ⟨Q, 0, none⟩ = some (.int .u8 k)) (z : Int) (hz : 0 ≤ z ∧ z < 4294967296) :
    Calls Tryz.prog 140 #[.int .u32 z, .pointer (some ⟨P, 0, none⟩), .pointer (some ⟨Q, 0, none⟩)] w fun e w' => e = .returned (.bool (decide (lbl s.la z = some k))) ∧ Below w.heap.size w w' := by
  have hL := label_any h hl z (by omega) (by omega)
  unfold kv at hL
  have HL := hide hL
  have hz0 := hz.1
  have hz1 := hz.2
  clear h hl hL hz
  cases ho : lbl s.la z with
  | none =>
    rw [ho] at HL
    have hd : decide ((none : Option Int) = some k) = false := by simp
    rw [hd]
    clear ho hd
    go_enter Tryz.func140, Tryz.ntmps140
    go_wp2_with fail
    refine (unhide HL).mono ?_
    rintro e w1 ⟨rfl, j, rfl⟩
    clear HL
    go_wp2
    go_ret
    exact ⟨rfl, drewn_b _ _⟩
  | some x =>
    rw [ho] at HL
    have hq2 : ∀ j, (w.drewN j).cell? ⟨Q, 0, none⟩ = some (.int .u8 k) := fun j => ((drewn_b w j).cell (p := ⟨Q, 0, none⟩) (World.block_lt_of_cell? w _ hQ)).trans hQ
    have hd : decide (some x = some k) = (x == k) := by simp [BEq.beq]
    rw [hd]
    clear ho hd
    go_enter Tryz.func140, Tryz.ntmps140
    go_wp2_with fail
    refine (unhide HL).mono ?_
    rintro e w1 ⟨rfl, j, rfl⟩
    have hq3 := hq2 j
    clear HL hq2
    go_wp2
    go_ret
    exact ⟨rfl, drewn_b _ _⟩
end Vw
end Go.Proofs.YtcpknafaocdjdaaGreatDoor
