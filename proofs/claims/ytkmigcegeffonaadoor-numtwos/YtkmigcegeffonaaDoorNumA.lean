/- num's small functions: cut, withSign, width, truth, isKind, least, split: what they return; the world stands. -/
import Derived.Test.YtkmigcegeffonaaDoorBase
namespace Go.Proofs.YtkmigcegeffonaaDoor
open Go.RowKit
set_option linter.unusedVariables false

namespace Num
/-- how many values a kind of so many bits has, and half as many -/
def pw (W : Nat) : Int := if W = 32 then 4294967296 else 18446744073709551616
def hf (W : Nat) : Int := if W = 32 then 2147483648 else 9223372036854775808
/-- the number by which the program names the kind -/
def kd (W : Nat) : Int := if W = 32 then 127 else 126
/-- a value of the kind, and as one with a sign -/
def lo (W : Nat) (x : Int) : Int := x % pw W
def sg (W : Nat) (x : Int) : Int := (x + hf W) % pw W - hf W
/-- an instruction's number, by its kind and its number in I32 -/
def opc (W : Nat) (b : Int) : Int := if W = 32 then b else if b ≤ 79 then b + 11 else b + 18
def b01 (b : Bool) : Int := if b then 1 else 0

theorem pw_32 : pw 32 = 4294967296 := rfl
theorem pw_64 : pw 64 = 18446744073709551616 := rfl
theorem hf_32 : hf 32 = 2147483648 := rfl
theorem hf_64 : hf 64 = 9223372036854775808 := rfl
theorem kd_32 : kd 32 = 127 := rfl
theorem kd_64 : kd 64 = 126 := rfl
theorem opc_32 (b : Int) : opc 32 b = b := rfl
theorem opc_64 (b : Int) : opc 64 b = if b ≤ 79 then b + 11 else b + 18 := rfl
theorem lo_bd (W : Nat) (hW : W = 32 ∨ W = 64) (x : Int) : 0 ≤ lo W x ∧ lo W x < 18446744073709551616 := by
  rcases hW with rfl | rfl <;> simp only [lo, pw_32, pw_64] <;> omega
theorem lo_lt (W : Nat) (hW : W = 32 ∨ W = 64) (x : Int) : 0 ≤ lo W x ∧ lo W x < pw W := by
  rcases hW with rfl | rfl <;> simp only [lo, pw_32, pw_64] <;> omega
theorem lo_lo (W : Nat) (x : Int) : lo W (lo W x) = lo W x := by unfold lo; exact Int.emod_emod_of_dvd _ (Int.dvd_refl _)
theorem sg_lo (W : Nat) (x : Int) : sg W (lo W x) = sg W x := by unfold sg lo; rw [Int.emod_add_emod]
theorem sg_bd (W : Nat) (hW : W = 32 ∨ W = 64) (x : Int) : - hf W ≤ sg W x ∧ sg W x < hf W := by
  rcases hW with rfl | rfl <;> simp only [sg, pw_32, pw_64, hf_32, hf_64] <;> omega
theorem sg_64 (W : Nat) (hW : W = 32 ∨ W = 64) (x : Int) : -9223372036854775808 ≤ sg W x ∧ sg W x < 9223372036854775808 := by
  rcases hW with rfl | rfl <;> simp only [sg, pw_32, pw_64, hf_32, hf_64] <;> omega
theorem b01_bd (b : Bool) : 0 ≤ b01 b ∧ b01 b ≤ 1 := by cases b <;> simp [b01]
end Num
open Num

theorem sg64_eq (x : Int) : wrap64 x = sg 64 x := by unfold sg wrap64; simp only [pw_64, hf_64]

set_option maxHeartbeats 400000 in
theorem cut_any (W : Nat) (hW : W = 32 ∨ W = 64) (x : Int) (w : World) (h0 : 0 ≤ x) (h1 : x < 18446744073709551616) :
    Calls Tryd.prog 17 #[.int .u8 (kd W), .int .u64 x] w fun e w' => e = .returned (.int .u64 (lo W x)) ∧ w = w' := by
  rcases hW with rfl | rfl
  · rw [kd_32]
    go_enter Tryd.func17, Tryd.ntmps17
    go_wp2
    go_ret
    exact ⟨ret_int (by simp only [lo, pw_32]), rfl⟩
  · rw [kd_64]
    go_enter Tryd.func17, Tryd.ntmps17
    go_wp2
    go_ret
    exact ⟨ret_int (by simp only [lo, pw_64]; omega), rfl⟩
theorem cut_none (x : Int) (w : World) :
    Calls Tryd.prog 17 #[.int .u8 0, .int .u64 x] w fun e w' => e = .returned (.int .u64 x) ∧ w = w' := by
  go_enter Tryd.func17, Tryd.ntmps17
  go_wp2
  go_ret
  exact ⟨rfl, rfl⟩

set_option maxHeartbeats 400000 in
theorem withSign_any (W : Nat) (hW : W = 32 ∨ W = 64) (x : Int) (w : World) (h0 : 0 ≤ x) (h1 : x < 18446744073709551616) :
    Calls Tryd.prog 18 #[.int .u8 (kd W), .int .u64 x] w fun e w' => e = .returned (.int .i64 (sg W x)) ∧ w = w' := by
  rcases hW with rfl | rfl
  · rw [kd_32]
    go_enter Tryd.func18, Tryd.ntmps18
    go_wp2
    go_ret
    exact ⟨ret_int (by unfold sg wrap64 wrap32; simp only [pw_32, hf_32]; omega), rfl⟩
  · rw [kd_64]
    go_enter Tryd.func18, Tryd.ntmps18
    go_wp2
    go_ret
    exact ⟨ret_int (sg64_eq x), rfl⟩

theorem width_any (W : Nat) (hW : W = 32 ∨ W = 64) (w : World) :
    Calls Tryd.prog 22 #[.int .u8 (kd W)] w fun e w' => e = .returned (.int .u64 W) ∧ w = w' := by
  rcases hW with rfl | rfl
  · rw [kd_32]
    go_enter Tryd.func22, Tryd.ntmps22
    go_wp2
    go_ret
    exact ⟨rfl, rfl⟩
  · rw [kd_64]
    go_enter Tryd.func22, Tryd.ntmps22
    go_wp2
    go_ret
    exact ⟨rfl, rfl⟩

theorem truth_any (b : Bool) (w : World) :
    Calls Tryd.prog 20 #[.bool b] w fun e w' => e = .returned (.int .u64 (b01 b)) ∧ w = w' := by
  cases b
  · go_enter Tryd.func20, Tryd.ntmps20
    go_wp2
    go_ret
    exact ⟨rfl, rfl⟩
  · go_enter Tryd.func20, Tryd.ntmps20
    go_wp2
    go_ret
    exact ⟨rfl, rfl⟩

theorem isKind_any (W : Nat) (hW : W = 32 ∨ W = 64) (w : World) :
    Calls Tryd.prog 38 #[.int .u8 (kd W)] w fun e w' => e = .returned (.bool true) ∧ w = w' := by
  rcases hW with rfl | rfl
  · rw [kd_32]
    go_enter Tryd.func38, Tryd.ntmps38
    go_wp2
    go_ret
    exact ⟨rfl, rfl⟩
  · rw [kd_64]
    go_enter Tryd.func38, Tryd.ntmps38
    go_wp2
    go_ret
    exact ⟨rfl, rfl⟩
theorem isKind_no (k : Int) (h : k ≠ 127) (h2 : k ≠ 126) (w : World) :
    Calls Tryd.prog 38 #[.int .u8 k] w fun e w' => e = .returned (.bool false) ∧ w = w' := by
  have t1 : (k == 127) = false := by simp [h]
  have t2 : (k == 126) = false := by simp [h2]
  go_enter Tryd.func38, Tryd.ntmps38
  go_wp2
  go_ret
  exact ⟨rfl, rfl⟩

theorem least_any (W : Nat) (hW : W = 32 ∨ W = 64) (w : World) :
    Calls Tryd.prog 41 #[.int .u8 (kd W)] w fun e w' => e = .returned (.int .i64 (- hf W)) ∧ w = w' := by
  go_enter Tryd.func41, Tryd.ntmps41
  go_wp2_with fail
  refine (width_any W hW _).mono ?_
  rintro e w1 ⟨rfl, rfl⟩
  rcases hW with rfl | rfl
  · go_wp2
    go_ret
    exact ⟨rfl, rfl⟩
  · go_wp2
    go_ret
    exact ⟨rfl, rfl⟩

set_option maxHeartbeats 800000 in
theorem split_ok (W : Nat) (hW : W = 32 ∨ W = 64) (b op : Int) (hop : op = opc W b) (hb : (69 ≤ b ∧ b ≤ 79) ∨ (103 ≤ b ∧ b ≤ 120)) (w : World) :
    Calls Tryd.prog 19 #[.int .u8 op] w fun e w' => e = .returned (.tuple #[.int .u8 (kd W), .int .u8 b]) ∧ w = w' := by
  rcases hW with rfl | rfl
  · rw [kd_32]; rw [opc_32] at hop; subst hop
    rcases hb with ⟨h1, h2⟩ | ⟨h1, h2⟩
    · go_enter Tryd.func19, Tryd.ntmps19
      go_wp2
      go_ret2
      exact ⟨rfl, rfl⟩
    · have t : decide (op ≤ 79) = false := by simp; omega
      go_enter Tryd.func19, Tryd.ntmps19
      go_wp2
      go_ret2
      exact ⟨rfl, rfl⟩
  · rw [kd_64]; rw [opc_64] at hop
    rcases hb with ⟨h1, h2⟩ | ⟨h1, h2⟩
    · obtain rfl : op = b + 11 := by rw [hop, if_pos h2]
      clear hop
      have t1 : decide (b + 11 ≤ 79) = false := by simp; omega
      have t2 : decide (103 ≤ b + 11) = false := by simp; omega
      go_enter Tryd.func19, Tryd.ntmps19
      go_wp2
      go_ret2
      exact ⟨ret2 rfl (by congr 1), rfl⟩
    · obtain rfl : op = b + 18 := by rw [hop, if_neg (by omega)]
      clear hop
      have t1 : decide (b + 18 ≤ 79) = false := by simp; omega
      have t2 : decide (b + 18 ≤ 120) = false := by simp; omega
      have t3 : decide (b + 18 ≤ 90) = false := by simp; omega
      go_enter Tryd.func19, Tryd.ntmps19
      go_wp2
      go_ret2
      exact ⟨ret2 rfl (by congr 1), rfl⟩

set_option maxHeartbeats 800000 in
theorem split_bad (op : Int) (h : op < 69 ∨ (90 < op ∧ op < 103) ∨ 138 < op) (w : World) :
    Calls Tryd.prog 19 #[.int .u8 op] w fun e w' => e = .returned (.tuple #[.int .u8 0, .int .u8 0]) ∧ w = w' := by
  rcases h with h | ⟨h, h2⟩ | h
  · have t1 : decide (69 ≤ op) = false := by simp; omega
    have t2 : decide (103 ≤ op) = false := by simp; omega
    have t3 : decide (80 ≤ op) = false := by simp; omega
    have t4 : decide (121 ≤ op) = false := by simp; omega
    go_enter Tryd.func19, Tryd.ntmps19
    go_wp2
    go_ret2
    exact ⟨rfl, rfl⟩
  · have t1 : decide (op ≤ 79) = false := by simp; omega
    have t2 : decide (103 ≤ op) = false := by simp; omega
    have t3 : decide (op ≤ 90) = false := by simp; omega
    have t4 : decide (121 ≤ op) = false := by simp; omega
    go_enter Tryd.func19, Tryd.ntmps19
    go_wp2
    go_ret2
    exact ⟨rfl, rfl⟩
  · have t1 : decide (op ≤ 79) = false := by simp; omega
    have t2 : decide (op ≤ 120) = false := by simp; omega
    have t3 : decide (op ≤ 90) = false := by simp; omega
    have t4 : decide (op ≤ 138) = false := by simp; omega
    go_enter Tryd.func19, Tryd.ntmps19
    go_wp2
    go_ret2
    exact ⟨rfl, rfl⟩
end Go.Proofs.YtkmigcegeffonaaDoor
