/- The document's names of instructions, part 1. -/
import Derived.Test.YtkmigcegeffonaaDoorRefA
namespace Go.Proofs.YtkmigcegeffonaaDoor
open Go.RowKit Num
set_option linter.unusedVariables false

set_option maxHeartbeats 800000 in
theorem named_69 : Named 69 ⟨#[101, 113, 122]⟩ 32 := by
  intro w
  go_enter Tryd.func25, Tryd.ntmps25
  go_wp2
  go_ret2
  exact ⟨by kernel_rfl, below3 _ _ _ _⟩
set_option maxHeartbeats 800000 in
theorem named_80 : Named 80 ⟨#[101, 113, 122]⟩ 64 := by
  intro w
  go_enter Tryd.func25, Tryd.ntmps25
  go_wp2
  go_ret2
  exact ⟨by kernel_rfl, below3 _ _ _ _⟩
set_option maxHeartbeats 800000 in
theorem named_70 : Named 70 ⟨#[101, 113]⟩ 32 := by
  intro w
  go_enter Tryd.func25, Tryd.ntmps25
  go_wp2
  go_ret2
  exact ⟨by kernel_rfl, below3 _ _ _ _⟩
set_option maxHeartbeats 800000 in
theorem named_81 : Named 81 ⟨#[101, 113]⟩ 64 := by
  intro w
  go_enter Tryd.func25, Tryd.ntmps25
  go_wp2
  go_ret2
  exact ⟨by kernel_rfl, below3 _ _ _ _⟩
set_option maxHeartbeats 800000 in
theorem named_71 : Named 71 ⟨#[110, 101]⟩ 32 := by
  intro w
  go_enter Tryd.func25, Tryd.ntmps25
  go_wp2
  go_ret2
  exact ⟨by kernel_rfl, below3 _ _ _ _⟩
set_option maxHeartbeats 800000 in
theorem named_82 : Named 82 ⟨#[110, 101]⟩ 64 := by
  intro w
  go_enter Tryd.func25, Tryd.ntmps25
  go_wp2
  go_ret2
  exact ⟨by kernel_rfl, below3 _ _ _ _⟩
set_option maxHeartbeats 800000 in
theorem named_72 : Named 72 ⟨#[108, 116, 95, 115]⟩ 32 := by
  intro w
  go_enter Tryd.func25, Tryd.ntmps25
  go_wp2
  go_ret2
  exact ⟨by kernel_rfl, below3 _ _ _ _⟩
set_option maxHeartbeats 800000 in
theorem named_83 : Named 83 ⟨#[108, 116, 95, 115]⟩ 64 := by
  intro w
  go_enter Tryd.func25, Tryd.ntmps25
  go_wp2
  go_ret2
  exact ⟨by kernel_rfl, below3 _ _ _ _⟩
set_option maxHeartbeats 800000 in
theorem named_73 : Named 73 ⟨#[108, 116, 95, 117]⟩ 32 := by
  intro w
  go_enter Tryd.func25, Tryd.ntmps25
  go_wp2
  go_ret2
  exact ⟨by kernel_rfl, below3 _ _ _ _⟩
set_option maxHeartbeats 800000 in
theorem named_84 : Named 84 ⟨#[108, 116, 95, 117]⟩ 64 := by
  intro w
  go_enter Tryd.func25, Tryd.ntmps25
  go_wp2
  go_ret2
  exact ⟨by kernel_rfl, below3 _ _ _ _⟩
set_option maxHeartbeats 800000 in
theorem named_74 : Named 74 ⟨#[103, 116, 95, 115]⟩ 32 := by
  intro w
  go_enter Tryd.func25, Tryd.ntmps25
  go_wp2
  go_ret2
  exact ⟨by kernel_rfl, below3 _ _ _ _⟩
set_option maxHeartbeats 800000 in
theorem named_85 : Named 85 ⟨#[103, 116, 95, 115]⟩ 64 := by
  intro w
  go_enter Tryd.func25, Tryd.ntmps25
  go_wp2
  go_ret2
  exact ⟨by kernel_rfl, below3 _ _ _ _⟩
set_option maxHeartbeats 800000 in
theorem named_75 : Named 75 ⟨#[103, 116, 95, 117]⟩ 32 := by
  intro w
  go_enter Tryd.func25, Tryd.ntmps25
  go_wp2
  go_ret2
  exact ⟨by kernel_rfl, below3 _ _ _ _⟩
set_option maxHeartbeats 800000 in
theorem named_86 : Named 86 ⟨#[103, 116, 95, 117]⟩ 64 := by
  intro w
  go_enter Tryd.func25, Tryd.ntmps25
  go_wp2
  go_ret2
  exact ⟨by kernel_rfl, below3 _ _ _ _⟩
set_option maxHeartbeats 800000 in
theorem named_76 : Named 76 ⟨#[108, 101, 95, 115]⟩ 32 := by
  intro w
  go_enter Tryd.func25, Tryd.ntmps25
  go_wp2
  go_ret2
  exact ⟨by kernel_rfl, below3 _ _ _ _⟩
set_option maxHeartbeats 800000 in
theorem named_87 : Named 87 ⟨#[108, 101, 95, 115]⟩ 64 := by
  intro w
  go_enter Tryd.func25, Tryd.ntmps25
  go_wp2
  go_ret2
  exact ⟨by kernel_rfl, below3 _ _ _ _⟩
set_option maxHeartbeats 800000 in
theorem named_77 : Named 77 ⟨#[108, 101, 95, 117]⟩ 32 := by
  intro w
  go_enter Tryd.func25, Tryd.ntmps25
  go_wp2
  go_ret2
  exact ⟨by kernel_rfl, below3 _ _ _ _⟩
set_option maxHeartbeats 800000 in
theorem named_88 : Named 88 ⟨#[108, 101, 95, 117]⟩ 64 := by
  intro w
  go_enter Tryd.func25, Tryd.ntmps25
  go_wp2
  go_ret2
  exact ⟨by kernel_rfl, below3 _ _ _ _⟩
set_option maxHeartbeats 800000 in
theorem named_78 : Named 78 ⟨#[103, 101, 95, 115]⟩ 32 := by
  intro w
  go_enter Tryd.func25, Tryd.ntmps25
  go_wp2
  go_ret2
  exact ⟨by kernel_rfl, below3 _ _ _ _⟩
set_option maxHeartbeats 800000 in
theorem named_89 : Named 89 ⟨#[103, 101, 95, 115]⟩ 64 := by
  intro w
  go_enter Tryd.func25, Tryd.ntmps25
  go_wp2
  go_ret2
  exact ⟨by kernel_rfl, below3 _ _ _ _⟩
set_option maxHeartbeats 800000 in
theorem named_79 : Named 79 ⟨#[103, 101, 95, 117]⟩ 32 := by
  intro w
  go_enter Tryd.func25, Tryd.ntmps25
  go_wp2
  go_ret2
  exact ⟨by kernel_rfl, below3 _ _ _ _⟩
set_option maxHeartbeats 800000 in
theorem named_90 : Named 90 ⟨#[103, 101, 95, 117]⟩ 64 := by
  intro w
  go_enter Tryd.func25, Tryd.ntmps25
  go_wp2
  go_ret2
  exact ⟨by kernel_rfl, below3 _ _ _ _⟩
set_option maxHeartbeats 800000 in
theorem named_167 : Named 167 ⟨#[119, 114, 97, 112]⟩ 64 := by
  intro w
  go_enter Tryd.func25, Tryd.ntmps25
  go_wp2
  go_ret2
  exact ⟨by kernel_rfl, below3 _ _ _ _⟩
set_option maxHeartbeats 800000 in
theorem named_172 : Named 172 ⟨#[101, 120, 116, 101, 110, 100, 95, 115]⟩ 32 := by
  intro w
  go_enter Tryd.func25, Tryd.ntmps25
  go_wp2
  go_ret2
  exact ⟨by kernel_rfl, below3 _ _ _ _⟩
set_option maxHeartbeats 800000 in
theorem named_173 : Named 173 ⟨#[101, 120, 116, 101, 110, 100, 95, 117]⟩ 32 := by
  intro w
  go_enter Tryd.func25, Tryd.ntmps25
  go_wp2
  go_ret2
  exact ⟨by kernel_rfl, below3 _ _ _ _⟩
end Go.Proofs.YtkmigcegeffonaaDoor
