/- The document's holds: which comparisons hold; which names are none. -/
import Derived.Test.YtkmigcegeffonaaDoorRefS
namespace Go.Proofs.YtkmigcegeffonaaDoor
open Go.RowKit Num
set_option linter.unusedVariables false

def HoldsIs (s : ByteArray) (b : Int) : Prop := ∀ (W : Nat) (hW : W = 32 ∨ W = 64) (X Y : Int) (w : World) (h0 : 0 ≤ X) (h1 : X < pw W) (h2 : 0 ≤ Y) (h3 : Y < pw W),
  Calls Tryd.prog 34 #[.string s, .int .u64 X, .int .u64 Y, .int .i64 W] w fun e w' => e = .returned (.tuple #[.bool (cmpB W b X Y), .bool true]) ∧ w = w'
def HoldsNot (s : ByteArray) : Prop := ∀ (W : Nat) (X Y : Int) (w : World),
  Calls Tryd.prog 34 #[.string s, .int .u64 X, .int .u64 Y, .int .i64 W] w fun e w' => e = .returned (.tuple #[.bool false, .bool false]) ∧ w = w'
theorem cmpB_eq (W : Nat) (X Y : Int) : cmpB W 70 X Y = (X == Y) := by simp [cmpB]
theorem cmpB_ne (W : Nat) (X Y : Int) : cmpB W 71 X Y = (X != Y) := by simp [cmpB]
theorem cmpB_lt_s (W : Nat) (X Y : Int) : cmpB W 72 X Y = (decide (sg W X < sg W Y)) := by simp [cmpB]
theorem cmpB_lt_u (W : Nat) (X Y : Int) : cmpB W 73 X Y = (decide (X < Y)) := by simp [cmpB]
theorem cmpB_gt_s (W : Nat) (X Y : Int) : cmpB W 74 X Y = (decide (sg W Y < sg W X)) := by simp [cmpB]
theorem cmpB_gt_u (W : Nat) (X Y : Int) : cmpB W 75 X Y = (decide (Y < X)) := by simp [cmpB]
theorem cmpB_le_s (W : Nat) (X Y : Int) : cmpB W 76 X Y = (!decide (sg W Y < sg W X)) := by simp only [cmpB]; rw [Bool.eq_iff_iff]; simp
theorem cmpB_le_u (W : Nat) (X Y : Int) : cmpB W 77 X Y = (decide (X ≤ Y)) := by simp [cmpB]
theorem cmpB_ge_s (W : Nat) (X Y : Int) : cmpB W 78 X Y = (!decide (sg W X < sg W Y)) := by simp only [cmpB]; rw [Bool.eq_iff_iff]; simp
theorem cmpB_ge_u (W : Nat) (X Y : Int) : cmpB W 79 X Y = (decide (Y ≤ X)) := by simp [cmpB]
set_option maxHeartbeats 400000 in
theorem holds_eq : HoldsIs ⟨#[101, 113]⟩ 70 := by
  intro W hW X Y w h0 h1 h2 h3
  rw [cmpB_eq]
  clear h1 h3
  go_enter Tryd.func34, Tryd.ntmps34
  go_wp2
  go_ret2
  exact ⟨by kernel_rfl, rfl⟩
set_option maxHeartbeats 400000 in
theorem holds_ne : HoldsIs ⟨#[110, 101]⟩ 71 := by
  intro W hW X Y w h0 h1 h2 h3
  rw [cmpB_ne]
  clear h1 h3
  go_enter Tryd.func34, Tryd.ntmps34
  go_wp2
  go_ret2
  exact ⟨by kernel_rfl, rfl⟩
set_option maxHeartbeats 400000 in
theorem holds_lt_s : HoldsIs ⟨#[108, 116, 95, 115]⟩ 72 := by
  intro W hW X Y w h0 h1 h2 h3
  rw [cmpB_lt_s]
  have HL := hide (fun wx => less_any W hW X Y wx h0 h1 h2 h3); clear h0 h1 h2 h3
  generalize decide (sg W X < sg W Y) = D at *
  go_enter Tryd.func34, Tryd.ntmps34
  go_wp2_with fail
  refine (unhide HL _).mono ?_
  rintro e w1 ⟨rfl, rfl⟩
  go_wp2
  go_ret2
  exact ⟨by kernel_rfl, rfl⟩
set_option maxHeartbeats 400000 in
theorem holds_lt_u : HoldsIs ⟨#[108, 116, 95, 117]⟩ 73 := by
  intro W hW X Y w h0 h1 h2 h3
  rw [cmpB_lt_u]
  clear h1 h3
  go_enter Tryd.func34, Tryd.ntmps34
  go_wp2
  go_ret2
  exact ⟨by kernel_rfl, rfl⟩
set_option maxHeartbeats 400000 in
theorem holds_gt_s : HoldsIs ⟨#[103, 116, 95, 115]⟩ 74 := by
  intro W hW X Y w h0 h1 h2 h3
  rw [cmpB_gt_s]
  have HL := hide (fun wx => less_any W hW Y X wx h2 h3 h0 h1); clear h0 h1 h2 h3
  generalize decide (sg W Y < sg W X) = D at *
  go_enter Tryd.func34, Tryd.ntmps34
  go_wp2_with fail
  refine (unhide HL _).mono ?_
  rintro e w1 ⟨rfl, rfl⟩
  go_wp2
  go_ret2
  exact ⟨by kernel_rfl, rfl⟩
set_option maxHeartbeats 400000 in
theorem holds_gt_u : HoldsIs ⟨#[103, 116, 95, 117]⟩ 75 := by
  intro W hW X Y w h0 h1 h2 h3
  rw [cmpB_gt_u]
  clear h1 h3
  go_enter Tryd.func34, Tryd.ntmps34
  go_wp2
  go_ret2
  exact ⟨by kernel_rfl, rfl⟩
set_option maxHeartbeats 400000 in
theorem holds_le_s : HoldsIs ⟨#[108, 101, 95, 115]⟩ 76 := by
  intro W hW X Y w h0 h1 h2 h3
  rw [cmpB_le_s]
  have HL := hide (fun wx => less_any W hW Y X wx h2 h3 h0 h1); clear h0 h1 h2 h3
  generalize decide (sg W Y < sg W X) = D at *
  go_enter Tryd.func34, Tryd.ntmps34
  go_wp2_with fail
  refine (unhide HL _).mono ?_
  rintro e w1 ⟨rfl, rfl⟩
  go_wp2
  go_ret2
  exact ⟨by kernel_rfl, rfl⟩
set_option maxHeartbeats 400000 in
theorem holds_le_u : HoldsIs ⟨#[108, 101, 95, 117]⟩ 77 := by
  intro W hW X Y w h0 h1 h2 h3
  rw [cmpB_le_u]
  clear h1 h3
  go_enter Tryd.func34, Tryd.ntmps34
  go_wp2
  go_ret2
  exact ⟨by kernel_rfl, rfl⟩
set_option maxHeartbeats 400000 in
theorem holds_ge_s : HoldsIs ⟨#[103, 101, 95, 115]⟩ 78 := by
  intro W hW X Y w h0 h1 h2 h3
  rw [cmpB_ge_s]
  have HL := hide (fun wx => less_any W hW X Y wx h0 h1 h2 h3); clear h0 h1 h2 h3
  generalize decide (sg W X < sg W Y) = D at *
  go_enter Tryd.func34, Tryd.ntmps34
  go_wp2_with fail
  refine (unhide HL _).mono ?_
  rintro e w1 ⟨rfl, rfl⟩
  go_wp2
  go_ret2
  exact ⟨by kernel_rfl, rfl⟩
set_option maxHeartbeats 400000 in
theorem holds_ge_u : HoldsIs ⟨#[103, 101, 95, 117]⟩ 79 := by
  intro W hW X Y w h0 h1 h2 h3
  rw [cmpB_ge_u]
  clear h1 h3
  go_enter Tryd.func34, Tryd.ntmps34
  go_wp2
  go_ret2
  exact ⟨by kernel_rfl, rfl⟩
set_option maxHeartbeats 400000 in
theorem holds_add : HoldsNot ⟨#[97, 100, 100]⟩ := by
  intro W X Y w
  go_enter Tryd.func34, Tryd.ntmps34
  go_wp2
  go_ret2
  exact ⟨by kernel_rfl, rfl⟩
set_option maxHeartbeats 400000 in
theorem holds_sub : HoldsNot ⟨#[115, 117, 98]⟩ := by
  intro W X Y w
  go_enter Tryd.func34, Tryd.ntmps34
  go_wp2
  go_ret2
  exact ⟨by kernel_rfl, rfl⟩
set_option maxHeartbeats 400000 in
theorem holds_mul : HoldsNot ⟨#[109, 117, 108]⟩ := by
  intro W X Y w
  go_enter Tryd.func34, Tryd.ntmps34
  go_wp2
  go_ret2
  exact ⟨by kernel_rfl, rfl⟩
set_option maxHeartbeats 400000 in
theorem holds_div_s : HoldsNot ⟨#[100, 105, 118, 95, 115]⟩ := by
  intro W X Y w
  go_enter Tryd.func34, Tryd.ntmps34
  go_wp2
  go_ret2
  exact ⟨by kernel_rfl, rfl⟩
set_option maxHeartbeats 400000 in
theorem holds_div_u : HoldsNot ⟨#[100, 105, 118, 95, 117]⟩ := by
  intro W X Y w
  go_enter Tryd.func34, Tryd.ntmps34
  go_wp2
  go_ret2
  exact ⟨by kernel_rfl, rfl⟩
set_option maxHeartbeats 400000 in
theorem holds_rem_s : HoldsNot ⟨#[114, 101, 109, 95, 115]⟩ := by
  intro W X Y w
  go_enter Tryd.func34, Tryd.ntmps34
  go_wp2
  go_ret2
  exact ⟨by kernel_rfl, rfl⟩
set_option maxHeartbeats 400000 in
theorem holds_rem_u : HoldsNot ⟨#[114, 101, 109, 95, 117]⟩ := by
  intro W X Y w
  go_enter Tryd.func34, Tryd.ntmps34
  go_wp2
  go_ret2
  exact ⟨by kernel_rfl, rfl⟩
set_option maxHeartbeats 400000 in
theorem holds_and : HoldsNot ⟨#[97, 110, 100]⟩ := by
  intro W X Y w
  go_enter Tryd.func34, Tryd.ntmps34
  go_wp2
  go_ret2
  exact ⟨by kernel_rfl, rfl⟩
set_option maxHeartbeats 400000 in
theorem holds_or : HoldsNot ⟨#[111, 114]⟩ := by
  intro W X Y w
  go_enter Tryd.func34, Tryd.ntmps34
  go_wp2
  go_ret2
  exact ⟨by kernel_rfl, rfl⟩
set_option maxHeartbeats 400000 in
theorem holds_xor : HoldsNot ⟨#[120, 111, 114]⟩ := by
  intro W X Y w
  go_enter Tryd.func34, Tryd.ntmps34
  go_wp2
  go_ret2
  exact ⟨by kernel_rfl, rfl⟩
set_option maxHeartbeats 400000 in
theorem holds_shl : HoldsNot ⟨#[115, 104, 108]⟩ := by
  intro W X Y w
  go_enter Tryd.func34, Tryd.ntmps34
  go_wp2
  go_ret2
  exact ⟨by kernel_rfl, rfl⟩
set_option maxHeartbeats 400000 in
theorem holds_shr_s : HoldsNot ⟨#[115, 104, 114, 95, 115]⟩ := by
  intro W X Y w
  go_enter Tryd.func34, Tryd.ntmps34
  go_wp2
  go_ret2
  exact ⟨by kernel_rfl, rfl⟩
set_option maxHeartbeats 400000 in
theorem holds_shr_u : HoldsNot ⟨#[115, 104, 114, 95, 117]⟩ := by
  intro W X Y w
  go_enter Tryd.func34, Tryd.ntmps34
  go_wp2
  go_ret2
  exact ⟨by kernel_rfl, rfl⟩
set_option maxHeartbeats 400000 in
theorem holds_rotl : HoldsNot ⟨#[114, 111, 116, 108]⟩ := by
  intro W X Y w
  go_enter Tryd.func34, Tryd.ntmps34
  go_wp2
  go_ret2
  exact ⟨by kernel_rfl, rfl⟩
set_option maxHeartbeats 400000 in
theorem holds_rotr : HoldsNot ⟨#[114, 111, 116, 114]⟩ := by
  intro W X Y w
  go_enter Tryd.func34, Tryd.ntmps34
  go_wp2
  go_ret2
  exact ⟨by kernel_rfl, rfl⟩
end Go.Proofs.YtkmigcegeffonaaDoor
