/- The document's names of instructions, part 2. -/
import Derived.Test.YtkmigcegeffonaaDoorRefA
namespace Go.Proofs.YtkmigcegeffonaaDoor
open Go.RowKit Num
set_option linter.unusedVariables false

set_option maxHeartbeats 800000 in
theorem named_103 : Named 103 ⟨#[99, 108, 122]⟩ 32 := by
  intro w
  go_enter Tryd.func25, Tryd.ntmps25
  go_wp2
  go_ret2
  exact ⟨by kernel_rfl, below3 _ _ _ _⟩
set_option maxHeartbeats 800000 in
theorem named_104 : Named 104 ⟨#[99, 116, 122]⟩ 32 := by
  intro w
  go_enter Tryd.func25, Tryd.ntmps25
  go_wp2
  go_ret2
  exact ⟨by kernel_rfl, below3 _ _ _ _⟩
set_option maxHeartbeats 800000 in
theorem named_105 : Named 105 ⟨#[112, 111, 112, 99, 110, 116]⟩ 32 := by
  intro w
  go_enter Tryd.func25, Tryd.ntmps25
  go_wp2
  go_ret2
  exact ⟨by kernel_rfl, below3 _ _ _ _⟩
set_option maxHeartbeats 800000 in
theorem named_106 : Named 106 ⟨#[97, 100, 100]⟩ 32 := by
  intro w
  go_enter Tryd.func25, Tryd.ntmps25
  go_wp2
  go_ret2
  exact ⟨by kernel_rfl, below3 _ _ _ _⟩
set_option maxHeartbeats 800000 in
theorem named_107 : Named 107 ⟨#[115, 117, 98]⟩ 32 := by
  intro w
  go_enter Tryd.func25, Tryd.ntmps25
  go_wp2
  go_ret2
  exact ⟨by kernel_rfl, below3 _ _ _ _⟩
set_option maxHeartbeats 800000 in
theorem named_108 : Named 108 ⟨#[109, 117, 108]⟩ 32 := by
  intro w
  go_enter Tryd.func25, Tryd.ntmps25
  go_wp2
  go_ret2
  exact ⟨by kernel_rfl, below3 _ _ _ _⟩
set_option maxHeartbeats 800000 in
theorem named_109 : Named 109 ⟨#[100, 105, 118, 95, 115]⟩ 32 := by
  intro w
  go_enter Tryd.func25, Tryd.ntmps25
  go_wp2
  go_ret2
  exact ⟨by kernel_rfl, below3 _ _ _ _⟩
set_option maxHeartbeats 800000 in
theorem named_110 : Named 110 ⟨#[100, 105, 118, 95, 117]⟩ 32 := by
  intro w
  go_enter Tryd.func25, Tryd.ntmps25
  go_wp2
  go_ret2
  exact ⟨by kernel_rfl, below3 _ _ _ _⟩
set_option maxHeartbeats 800000 in
theorem named_111 : Named 111 ⟨#[114, 101, 109, 95, 115]⟩ 32 := by
  intro w
  go_enter Tryd.func25, Tryd.ntmps25
  go_wp2
  go_ret2
  exact ⟨by kernel_rfl, below3 _ _ _ _⟩
set_option maxHeartbeats 800000 in
theorem named_112 : Named 112 ⟨#[114, 101, 109, 95, 117]⟩ 32 := by
  intro w
  go_enter Tryd.func25, Tryd.ntmps25
  go_wp2
  go_ret2
  exact ⟨by kernel_rfl, below3 _ _ _ _⟩
set_option maxHeartbeats 800000 in
theorem named_113 : Named 113 ⟨#[97, 110, 100]⟩ 32 := by
  intro w
  go_enter Tryd.func25, Tryd.ntmps25
  go_wp2
  go_ret2
  exact ⟨by kernel_rfl, below3 _ _ _ _⟩
set_option maxHeartbeats 800000 in
theorem named_114 : Named 114 ⟨#[111, 114]⟩ 32 := by
  intro w
  go_enter Tryd.func25, Tryd.ntmps25
  go_wp2
  go_ret2
  exact ⟨by kernel_rfl, below3 _ _ _ _⟩
set_option maxHeartbeats 800000 in
theorem named_115 : Named 115 ⟨#[120, 111, 114]⟩ 32 := by
  intro w
  go_enter Tryd.func25, Tryd.ntmps25
  go_wp2
  go_ret2
  exact ⟨by kernel_rfl, below3 _ _ _ _⟩
set_option maxHeartbeats 800000 in
theorem named_116 : Named 116 ⟨#[115, 104, 108]⟩ 32 := by
  intro w
  go_enter Tryd.func25, Tryd.ntmps25
  go_wp2
  go_ret2
  exact ⟨by kernel_rfl, below3 _ _ _ _⟩
set_option maxHeartbeats 800000 in
theorem named_117 : Named 117 ⟨#[115, 104, 114, 95, 115]⟩ 32 := by
  intro w
  go_enter Tryd.func25, Tryd.ntmps25
  go_wp2
  go_ret2
  exact ⟨by kernel_rfl, below3 _ _ _ _⟩
set_option maxHeartbeats 800000 in
theorem named_118 : Named 118 ⟨#[115, 104, 114, 95, 117]⟩ 32 := by
  intro w
  go_enter Tryd.func25, Tryd.ntmps25
  go_wp2
  go_ret2
  exact ⟨by kernel_rfl, below3 _ _ _ _⟩
set_option maxHeartbeats 800000 in
theorem named_119 : Named 119 ⟨#[114, 111, 116, 108]⟩ 32 := by
  intro w
  go_enter Tryd.func25, Tryd.ntmps25
  go_wp2
  go_ret2
  exact ⟨by kernel_rfl, below3 _ _ _ _⟩
set_option maxHeartbeats 800000 in
theorem named_120 : Named 120 ⟨#[114, 111, 116, 114]⟩ 32 := by
  intro w
  go_enter Tryd.func25, Tryd.ntmps25
  go_wp2
  go_ret2
  exact ⟨by kernel_rfl, below3 _ _ _ _⟩

set_option maxHeartbeats 800000 in
theorem named_bad (op : Int) (h0 : 0 ≤ op) (hb : op ≤ 255) (h : op < 69 ∨ (90 < op ∧ op < 103) ∨ 138 < op) (hn : op ≠ 167 ∧ op ≠ 172 ∧ op ≠ 173) : Named op ⟨#[]⟩ 0 := by
  intro w
  obtain ⟨n1, n2, n3⟩ := hn
  have t1 : (op == 167) = false := by simp [n1]
  have t2 : (op == 172) = false := by simp [n2]
  have t3 : (op == 173) = false := by simp [n3]
  rcases h with h | ⟨h, h2⟩ | h
  all_goals
    go_enter Tryd.func25, Tryd.ntmps25
    go_wp2
    go_ret2
    exact ⟨by kernel_rfl, below3 _ _ _ _⟩
end Go.Proofs.YtkmigcegeffonaaDoor
