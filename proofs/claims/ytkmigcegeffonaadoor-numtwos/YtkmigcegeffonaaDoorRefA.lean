/- The document's small functions of stage 2: low, bit, negative, away, less, Alone: what they return. -/
import Derived.Test.YtkmigcegeffonaaDoorNumE
import Derived.Test.YtkmigcegeffonaaDoorOn
namespace Go.Proofs.YtkmigcegeffonaaDoor
open Go.RowKit Num
set_option linter.unusedVariables false

theorem low_any (W : Nat) (hW : W = 32 ∨ W = 64) (x : Int) (w : World) (h0 : 0 ≤ x) (h1 : x < 18446744073709551616) :
    Calls Tryd.prog 27 #[.int .u64 x, .int .i64 W] w fun e w' => e = .returned (.int .u64 (lo W x)) ∧ w = w' := by
  rcases hW with rfl | rfl
  · go_enter Tryd.func27, Tryd.ntmps27
    go_wp2
    go_ret
    exact ⟨ret_int (by simp only [lo, pw_32]), rfl⟩
  · go_enter Tryd.func27, Tryd.ntmps27
    go_wp2
    go_ret
    exact ⟨ret_int (by simp only [lo, pw_64]; omega), rfl⟩

/-- the k-th bit -/
def bt (x : Int) (k : Nat) : Bool := x / 2 ^ k % 2 == 1
set_option maxHeartbeats 400000 in
theorem bit_any (x : Int) (k : Nat) (w : World) (h0 : 0 ≤ x) (h1 : x < 18446744073709551616) (hk : k < 64) :
    Calls Tryd.prog 28 #[.int .u64 x, .int .i64 k] w fun e w' => e = .returned (.bool (bt x k)) ∧ w = w' := by
  have hd : 0 ≤ x / 2 ^ k := Int.ediv_nonneg h0 (Int.le_of_lt (Int.pow_pos (by omega)))
  go_enter Tryd.func28, Tryd.ntmps28
  go_wp2
  go_ret
  exact ⟨ret_bool (by unfold bt; rfl), rfl⟩

/-- an instruction's name and bits; has it one operand? -/
def Named (op : Int) (s : ByteArray) (W : Nat) : Prop := ∀ w, Calls Tryd.prog 25 #[.int .u8 op] w fun e w' => e = .returned (.tuple #[.string s, .int .i64 W]) ∧ Below w.heap.size w w'
def AloneIs (s : ByteArray) (b : Bool) : Prop := ∀ w, Calls Tryd.prog 26 #[.string s] w fun e w' => e = .returned (.bool b) ∧ w = w'
theorem below3 (w : World) (a b c : Obj) : Below w.heap.size w (((w.alloc a).alloc b).alloc c) :=
  (((Below.refl w.heap.size w).alloc (Nat.le_refl _) _).alloc (by simp) _).alloc (by simp; omega) _
theorem alone_eqz : AloneIs ⟨#[101, 113, 122]⟩ true := by
  intro w
  go_enter Tryd.func26, Tryd.ntmps26
  go_wp2
  go_ret
  exact ⟨rfl, rfl⟩
theorem alone_clz : AloneIs ⟨#[99, 108, 122]⟩ true := by
  intro w
  go_enter Tryd.func26, Tryd.ntmps26
  go_wp2
  go_ret
  exact ⟨rfl, rfl⟩
theorem alone_ctz : AloneIs ⟨#[99, 116, 122]⟩ true := by
  intro w
  go_enter Tryd.func26, Tryd.ntmps26
  go_wp2
  go_ret
  exact ⟨rfl, rfl⟩
theorem alone_popcnt : AloneIs ⟨#[112, 111, 112, 99, 110, 116]⟩ true := by
  intro w
  go_enter Tryd.func26, Tryd.ntmps26
  go_wp2
  go_ret
  exact ⟨rfl, rfl⟩
theorem alone_wrap : AloneIs ⟨#[119, 114, 97, 112]⟩ true := by
  intro w
  go_enter Tryd.func26, Tryd.ntmps26
  go_wp2
  go_ret
  exact ⟨rfl, rfl⟩
theorem alone_extend_s : AloneIs ⟨#[101, 120, 116, 101, 110, 100, 95, 115]⟩ true := by
  intro w
  go_enter Tryd.func26, Tryd.ntmps26
  go_wp2
  go_ret
  exact ⟨rfl, rfl⟩
theorem alone_extend_u : AloneIs ⟨#[101, 120, 116, 101, 110, 100, 95, 117]⟩ true := by
  intro w
  go_enter Tryd.func26, Tryd.ntmps26
  go_wp2
  go_ret
  exact ⟨rfl, rfl⟩
theorem alone_eq : AloneIs ⟨#[101, 113]⟩ false := by
  intro w
  go_enter Tryd.func26, Tryd.ntmps26
  go_wp2
  go_ret
  exact ⟨rfl, rfl⟩
theorem alone_ne : AloneIs ⟨#[110, 101]⟩ false := by
  intro w
  go_enter Tryd.func26, Tryd.ntmps26
  go_wp2
  go_ret
  exact ⟨rfl, rfl⟩
theorem alone_lt_s : AloneIs ⟨#[108, 116, 95, 115]⟩ false := by
  intro w
  go_enter Tryd.func26, Tryd.ntmps26
  go_wp2
  go_ret
  exact ⟨rfl, rfl⟩
theorem alone_lt_u : AloneIs ⟨#[108, 116, 95, 117]⟩ false := by
  intro w
  go_enter Tryd.func26, Tryd.ntmps26
  go_wp2
  go_ret
  exact ⟨rfl, rfl⟩
theorem alone_gt_s : AloneIs ⟨#[103, 116, 95, 115]⟩ false := by
  intro w
  go_enter Tryd.func26, Tryd.ntmps26
  go_wp2
  go_ret
  exact ⟨rfl, rfl⟩
theorem alone_gt_u : AloneIs ⟨#[103, 116, 95, 117]⟩ false := by
  intro w
  go_enter Tryd.func26, Tryd.ntmps26
  go_wp2
  go_ret
  exact ⟨rfl, rfl⟩
theorem alone_le_s : AloneIs ⟨#[108, 101, 95, 115]⟩ false := by
  intro w
  go_enter Tryd.func26, Tryd.ntmps26
  go_wp2
  go_ret
  exact ⟨rfl, rfl⟩
theorem alone_le_u : AloneIs ⟨#[108, 101, 95, 117]⟩ false := by
  intro w
  go_enter Tryd.func26, Tryd.ntmps26
  go_wp2
  go_ret
  exact ⟨rfl, rfl⟩
theorem alone_ge_s : AloneIs ⟨#[103, 101, 95, 115]⟩ false := by
  intro w
  go_enter Tryd.func26, Tryd.ntmps26
  go_wp2
  go_ret
  exact ⟨rfl, rfl⟩
theorem alone_ge_u : AloneIs ⟨#[103, 101, 95, 117]⟩ false := by
  intro w
  go_enter Tryd.func26, Tryd.ntmps26
  go_wp2
  go_ret
  exact ⟨rfl, rfl⟩
theorem alone_add : AloneIs ⟨#[97, 100, 100]⟩ false := by
  intro w
  go_enter Tryd.func26, Tryd.ntmps26
  go_wp2
  go_ret
  exact ⟨rfl, rfl⟩
theorem alone_sub : AloneIs ⟨#[115, 117, 98]⟩ false := by
  intro w
  go_enter Tryd.func26, Tryd.ntmps26
  go_wp2
  go_ret
  exact ⟨rfl, rfl⟩
theorem alone_mul : AloneIs ⟨#[109, 117, 108]⟩ false := by
  intro w
  go_enter Tryd.func26, Tryd.ntmps26
  go_wp2
  go_ret
  exact ⟨rfl, rfl⟩
theorem alone_div_s : AloneIs ⟨#[100, 105, 118, 95, 115]⟩ false := by
  intro w
  go_enter Tryd.func26, Tryd.ntmps26
  go_wp2
  go_ret
  exact ⟨rfl, rfl⟩
theorem alone_div_u : AloneIs ⟨#[100, 105, 118, 95, 117]⟩ false := by
  intro w
  go_enter Tryd.func26, Tryd.ntmps26
  go_wp2
  go_ret
  exact ⟨rfl, rfl⟩
theorem alone_rem_s : AloneIs ⟨#[114, 101, 109, 95, 115]⟩ false := by
  intro w
  go_enter Tryd.func26, Tryd.ntmps26
  go_wp2
  go_ret
  exact ⟨rfl, rfl⟩
theorem alone_rem_u : AloneIs ⟨#[114, 101, 109, 95, 117]⟩ false := by
  intro w
  go_enter Tryd.func26, Tryd.ntmps26
  go_wp2
  go_ret
  exact ⟨rfl, rfl⟩
theorem alone_and : AloneIs ⟨#[97, 110, 100]⟩ false := by
  intro w
  go_enter Tryd.func26, Tryd.ntmps26
  go_wp2
  go_ret
  exact ⟨rfl, rfl⟩
theorem alone_or : AloneIs ⟨#[111, 114]⟩ false := by
  intro w
  go_enter Tryd.func26, Tryd.ntmps26
  go_wp2
  go_ret
  exact ⟨rfl, rfl⟩
theorem alone_xor : AloneIs ⟨#[120, 111, 114]⟩ false := by
  intro w
  go_enter Tryd.func26, Tryd.ntmps26
  go_wp2
  go_ret
  exact ⟨rfl, rfl⟩
theorem alone_shl : AloneIs ⟨#[115, 104, 108]⟩ false := by
  intro w
  go_enter Tryd.func26, Tryd.ntmps26
  go_wp2
  go_ret
  exact ⟨rfl, rfl⟩
theorem alone_shr_s : AloneIs ⟨#[115, 104, 114, 95, 115]⟩ false := by
  intro w
  go_enter Tryd.func26, Tryd.ntmps26
  go_wp2
  go_ret
  exact ⟨rfl, rfl⟩
theorem alone_shr_u : AloneIs ⟨#[115, 104, 114, 95, 117]⟩ false := by
  intro w
  go_enter Tryd.func26, Tryd.ntmps26
  go_wp2
  go_ret
  exact ⟨rfl, rfl⟩
theorem alone_rotl : AloneIs ⟨#[114, 111, 116, 108]⟩ false := by
  intro w
  go_enter Tryd.func26, Tryd.ntmps26
  go_wp2
  go_ret
  exact ⟨rfl, rfl⟩
theorem alone_rotr : AloneIs ⟨#[114, 111, 116, 114]⟩ false := by
  intro w
  go_enter Tryd.func26, Tryd.ntmps26
  go_wp2
  go_ret
  exact ⟨rfl, rfl⟩
theorem alone_none : AloneIs ⟨#[]⟩ false := by
  intro w
  go_enter Tryd.func26, Tryd.ntmps26
  go_wp2
  go_ret
  exact ⟨rfl, rfl⟩
end Go.Proofs.YtkmigcegeffonaaDoor
