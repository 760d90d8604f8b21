/- The document's names of instructions, part 3. -/
import Derived.Test.YtkmigcegeffonaaDoorRefA
namespace Go.Proofs.YtkmigcegeffonaaDoor
open Go.RowKit Num
set_option linter.unusedVariables false

set_option maxHeartbeats 800000 in
theorem named_121 : Named 121 ⟨#[99, 108, 122]⟩ 64 := by
  intro w
  go_enter Tryd.func25, Tryd.ntmps25
  go_wp2
  go_ret2
  exact ⟨by kernel_rfl, below3 _ _ _ _⟩
set_option maxHeartbeats 800000 in
theorem named_122 : Named 122 ⟨#[99, 116, 122]⟩ 64 := by
  intro w
  go_enter Tryd.func25, Tryd.ntmps25
  go_wp2
  go_ret2
  exact ⟨by kernel_rfl, below3 _ _ _ _⟩
set_option maxHeartbeats 800000 in
theorem named_123 : Named 123 ⟨#[112, 111, 112, 99, 110, 116]⟩ 64 := by
  intro w
  go_enter Tryd.func25, Tryd.ntmps25
  go_wp2
  go_ret2
  exact ⟨by kernel_rfl, below3 _ _ _ _⟩
set_option maxHeartbeats 800000 in
theorem named_124 : Named 124 ⟨#[97, 100, 100]⟩ 64 := by
  intro w
  go_enter Tryd.func25, Tryd.ntmps25
  go_wp2
  go_ret2
  exact ⟨by kernel_rfl, below3 _ _ _ _⟩
set_option maxHeartbeats 800000 in
theorem named_125 : Named 125 ⟨#[115, 117, 98]⟩ 64 := by
  intro w
  go_enter Tryd.func25, Tryd.ntmps25
  go_wp2
  go_ret2
  exact ⟨by kernel_rfl, below3 _ _ _ _⟩
set_option maxHeartbeats 800000 in
theorem named_126 : Named 126 ⟨#[109, 117, 108]⟩ 64 := by
  intro w
  go_enter Tryd.func25, Tryd.ntmps25
  go_wp2
  go_ret2
  exact ⟨by kernel_rfl, below3 _ _ _ _⟩
set_option maxHeartbeats 800000 in
theorem named_127 : Named 127 ⟨#[100, 105, 118, 95, 115]⟩ 64 := by
  intro w
  go_enter Tryd.func25, Tryd.ntmps25
  go_wp2
  go_ret2
  exact ⟨by kernel_rfl, below3 _ _ _ _⟩
set_option maxHeartbeats 800000 in
theorem named_128 : Named 128 ⟨#[100, 105, 118, 95, 117]⟩ 64 := by
  intro w
  go_enter Tryd.func25, Tryd.ntmps25
  go_wp2
  go_ret2
  exact ⟨by kernel_rfl, below3 _ _ _ _⟩
set_option maxHeartbeats 800000 in
theorem named_129 : Named 129 ⟨#[114, 101, 109, 95, 115]⟩ 64 := by
  intro w
  go_enter Tryd.func25, Tryd.ntmps25
  go_wp2
  go_ret2
  exact ⟨by kernel_rfl, below3 _ _ _ _⟩
set_option maxHeartbeats 800000 in
theorem named_130 : Named 130 ⟨#[114, 101, 109, 95, 117]⟩ 64 := by
  intro w
  go_enter Tryd.func25, Tryd.ntmps25
  go_wp2
  go_ret2
  exact ⟨by kernel_rfl, below3 _ _ _ _⟩
set_option maxHeartbeats 800000 in
theorem named_131 : Named 131 ⟨#[97, 110, 100]⟩ 64 := by
  intro w
  go_enter Tryd.func25, Tryd.ntmps25
  go_wp2
  go_ret2
  exact ⟨by kernel_rfl, below3 _ _ _ _⟩
set_option maxHeartbeats 800000 in
theorem named_132 : Named 132 ⟨#[111, 114]⟩ 64 := by
  intro w
  go_enter Tryd.func25, Tryd.ntmps25
  go_wp2
  go_ret2
  exact ⟨by kernel_rfl, below3 _ _ _ _⟩
set_option maxHeartbeats 800000 in
theorem named_133 : Named 133 ⟨#[120, 111, 114]⟩ 64 := by
  intro w
  go_enter Tryd.func25, Tryd.ntmps25
  go_wp2
  go_ret2
  exact ⟨by kernel_rfl, below3 _ _ _ _⟩
set_option maxHeartbeats 800000 in
theorem named_134 : Named 134 ⟨#[115, 104, 108]⟩ 64 := by
  intro w
  go_enter Tryd.func25, Tryd.ntmps25
  go_wp2
  go_ret2
  exact ⟨by kernel_rfl, below3 _ _ _ _⟩
set_option maxHeartbeats 800000 in
theorem named_135 : Named 135 ⟨#[115, 104, 114, 95, 115]⟩ 64 := by
  intro w
  go_enter Tryd.func25, Tryd.ntmps25
  go_wp2
  go_ret2
  exact ⟨by kernel_rfl, below3 _ _ _ _⟩
set_option maxHeartbeats 800000 in
theorem named_136 : Named 136 ⟨#[115, 104, 114, 95, 117]⟩ 64 := by
  intro w
  go_enter Tryd.func25, Tryd.ntmps25
  go_wp2
  go_ret2
  exact ⟨by kernel_rfl, below3 _ _ _ _⟩
set_option maxHeartbeats 800000 in
theorem named_137 : Named 137 ⟨#[114, 111, 116, 108]⟩ 64 := by
  intro w
  go_enter Tryd.func25, Tryd.ntmps25
  go_wp2
  go_ret2
  exact ⟨by kernel_rfl, below3 _ _ _ _⟩
set_option maxHeartbeats 800000 in
theorem named_138 : Named 138 ⟨#[114, 111, 116, 114]⟩ 64 := by
  intro w
  go_enter Tryd.func25, Tryd.ntmps25
  go_wp2
  go_ret2
  exact ⟨by kernel_rfl, below3 _ _ _ _⟩
end Go.Proofs.YtkmigcegeffonaaDoor
