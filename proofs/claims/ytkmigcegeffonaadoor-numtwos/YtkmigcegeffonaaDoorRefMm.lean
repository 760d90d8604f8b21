/- Shifts and turns, bit by bit and as numbers: the same. -/
import Derived.Test.YtkmigcegeffonaaDoorRefM0
import Derived.Test.YtkmigcegeffonaaDoorNumTm
namespace Go.Proofs.YtkmigcegeffonaaDoor
open Go.RowKit Num
set_option linter.unusedVariables false
namespace Num
theorem bt_test (n k : Nat) : bt (n : Int) k = n.testBit k := by
  rw [bt_nat, Nat.testBit_eq_decide_div_mod_eq]
  rw [Bool.eq_iff_iff]; simp
theorem mod_w (a W : Nat) (h : a < W) : (a + W) % W = a := by rw [Nat.add_mod_right, Nat.mod_eq_of_lt h]
theorem shl_bits (W m x k : Nat) (hm : m < W) (hk : k < W) : (x * 2 ^ m % 2 ^ W).testBit k = (decide (m ≤ k) && x.testBit ((k + W - m) % W)) := by
  rw [Nat.testBit_mod_two_pow, Nat.mul_comm, Nat.testBit_two_pow_mul]
  by_cases h : m ≤ k
  · rw [show k + W - m = k - m + W by omega, mod_w _ _ (by omega)]
    simp [h, hk]
  · simp [h]
theorem out_bit (W x j : Nat) (hx : x < 2 ^ W) (h : W ≤ j) : x.testBit j = false :=
  Nat.testBit_lt_two_pow (Nat.lt_of_lt_of_le hx (Nat.pow_le_pow_right (by omega) h))
theorem shr_bits (W m x k : Nat) (hx : x < 2 ^ W) (hm : m < W) (hk : k < W) : (x / 2 ^ m).testBit k = (decide (k + m < W) && x.testBit ((k + m) % W)) := by
  rw [Nat.testBit_div_two_pow]
  by_cases h : k + m < W
  · rw [Nat.mod_eq_of_lt h]; simp [h]
  · rw [out_bit W x _ hx (by omega)]; simp [h]
theorem rl_bits (W m x k : Nat) (hx : x < 2 ^ W) (hm : m ≤ W) (hk : k < W) : (rl W m x).testBit k = x.testBit ((k + W - m) % W) := by
  obtain ⟨h1, h2⟩ := rl_parts W m x hm hx
  rw [h1, Nat.testBit_two_pow_mul_add _ h2]
  by_cases h : k < m
  · rw [if_pos h, Nat.testBit_div_two_pow, Nat.mod_eq_of_lt (by omega)]; congr 1; omega
  · rw [if_neg h, Nat.testBit_mod_two_pow, show k + W - m = k - m + W by omega, mod_w _ _ (by omega)]
    simp; omega
/-- a number with a sign, moved down: its upper bits are its sign's -/
theorem sar_nat (W m x : Nat) (hx : x < 2 ^ W) (hm : m < W) :
    ∃ N : Nat, (((if 2 ^ (W - 1) ≤ x then (x : Int) - 2 ^ W else x) / 2 ^ m) % 2 ^ W = (N : Int)) ∧ N < 2 ^ W ∧ ∀ k, k < W → N.testBit k = x.testBit (min (k + m) (W - 1)) := by
  by_cases h : 2 ^ (W - 1) ≤ x
  · rw [if_pos h]
    have e1 : (2 : Nat) ^ W = 2 ^ (W - m) * 2 ^ m := by rw [← Nat.pow_add]; congr 1; omega
    have hd : x / 2 ^ m < 2 ^ (W - m) := Nat.div_lt_of_lt_mul (by rw [Nat.mul_comm, ← e1]; exact hx)
    have p1 := Nat.two_pow_pos m
    have p2 := Nat.two_pow_pos (W - m)
    have hN : 2 ^ (W - m) * (2 ^ m - 1) + x / 2 ^ m < 2 ^ W := by
      rw [e1, Nat.mul_sub, Nat.mul_one]
      have : 2 ^ (W - m) ≤ 2 ^ (W - m) * 2 ^ m := Nat.le_mul_of_pos_right _ p1
      omega
    refine ⟨2 ^ (W - m) * (2 ^ m - 1) + x / 2 ^ m, ?_, hN, ?_⟩
    · have e2 : ((x : Int) - 2 ^ W) / 2 ^ m = ((x / 2 ^ m : Nat) : Int) - ((2 ^ (W - m) : Nat) : Int) := by
        have : ((x : Int) - 2 ^ W) = (x : Int) + (-((2 ^ (W - m) : Nat) : Int)) * ((2 ^ m : Nat) : Int) := by
          have : ((2 : Int) ^ W) = ((2 ^ (W - m) : Nat) : Int) * ((2 ^ m : Nat) : Int) := by
            rw [← Int.natCast_mul, ← e1]; simp
          rw [this, Int.neg_mul]; omega
        rw [this, show (2 : Int) ^ m = ((2 ^ m : Nat) : Int) by simp, Int.add_mul_ediv_right _ _ (by omega)]
        simp; omega
      have e3 : ((2 : Int) ^ W) = ((2 ^ W : Nat) : Int) := by simp
      have e4 : 2 ^ (W - m) * (2 ^ m - 1) = 2 ^ W - 2 ^ (W - m) := by rw [Nat.mul_sub, Nat.mul_one, ← e1]
      have e5 : 2 ^ (W - m) ≤ 2 ^ W := Nat.pow_le_pow_right (by omega) (by omega)
      rw [e2, e3, e4] at *
      generalize 2 ^ W = A at *
      generalize 2 ^ (W - m) = B at *
      generalize x / 2 ^ m = C at *
      have : ((C : Int) - (B : Int)) = ((A - B + C : Nat) : Int) + (A : Int) * (-1) := by omega
      rw [this, Int.add_mul_emod_self_left, Int.emod_eq_of_lt (by omega) (by omega)]
    · intro k hk
      have htop : x.testBit (W - 1) = true := by
        rw [Nat.testBit_eq_decide_div_mod_eq]
        have : x / 2 ^ (W - 1) = 1 := by
          apply Nat.div_eq_of_lt_le
          · omega
          · rw [show (1 + 1) * 2 ^ (W - 1) = 2 ^ W by rw [Nat.mul_comm, ← Nat.pow_succ]; congr 1; omega]; exact hx
        rw [this]; rfl
      rw [Nat.testBit_two_pow_mul_add _ hd]
      by_cases hk2 : k < W - m
      · rw [if_pos hk2, Nat.testBit_div_two_pow, Nat.min_eq_left (by omega), Nat.add_comm]
      · rw [if_neg hk2, Nat.testBit_two_pow_sub_one, Nat.min_eq_right (by omega), htop]; simp; omega
  · rw [if_neg h]
    have h' : x < 2 ^ (W - 1) := by omega
    have hd : x / 2 ^ m ≤ x := Nat.div_le_self _ _
    refine ⟨x / 2 ^ m, ?_, by omega, ?_⟩
    · rw [show (2 : Int) ^ m = ((2 ^ m : Nat) : Int) by simp, show (2 : Int) ^ W = ((2 ^ W : Nat) : Int) by simp, ← Int.natCast_ediv, ← Int.natCast_emod, Nat.mod_eq_of_lt (by omega)]
    · intro k hk
      rw [Nat.testBit_div_two_pow]
      by_cases hk2 : k + m ≤ W - 1
      · rw [Nat.min_eq_left hk2, Nat.add_comm]
      · rw [Nat.min_eq_right (by omega), out_bit (W - 1) x _ h' (by omega), out_bit (W - 1) x _ h' (by omega)]

theorem div_pow_lt (W m x : Nat) (hx : x < 2 ^ W) : x / 2 ^ m < 2 ^ W := Nat.lt_of_le_of_lt (Nat.div_le_self _ _) hx
theorem mv_shl (W m x : Nat) (hm : m < W) : ((mk ((List.range W).map fun k => decide (m ≤ k) && bt (x : Int) ((k + W - m) % W)) : Nat) : Int) = shV W 116 x m := by
  rw [mk_eq W _ (x * 2 ^ m % 2 ^ W) (Nat.mod_lt _ (Nat.two_pow_pos W)) (fun k hk => by rw [bt_test]; exact shl_bits W m x k hm hk)]
  simp [shV]
theorem mv_shr_u (W m x : Nat) (hx : x < 2 ^ W) (hm : m < W) : ((mk ((List.range W).map fun k => decide (k + m < W) && bt (x : Int) ((k + m) % W)) : Nat) : Int) = shV W 118 x m := by
  rw [mk_eq W _ (x / 2 ^ m) (div_pow_lt W m x hx) (fun k hk => by rw [bt_test]; exact shr_bits W m x k hx hm hk)]
  simp [shV]
theorem mv_rotl (W m x : Nat) (hx : x < 2 ^ W) (hm : m < W) : ((mk ((List.range W).map fun k => bt (x : Int) ((k + W - m) % W)) : Nat) : Int) = shV W 119 x m := by
  rw [mk_eq W _ (rl W m x) (rl_lt W m x (by omega) hx) (fun k hk => by rw [bt_test]; exact rl_bits W m x k hx (by omega) hk)]
  simp [shV, rl]
theorem mv_rotr (W m x : Nat) (hx : x < 2 ^ W) (hm : m < W) : ((mk ((List.range W).map fun k => bt (x : Int) ((k + m) % W)) : Nat) : Int) = shV W 120 x m := by
  rw [mk_eq W _ (rl W (W - m) x) (rl_lt W (W - m) x (by omega) hx) (fun k hk => by rw [bt_test, rl_bits W (W - m) x k hx (by omega) hk]; congr 2; omega)]
  simp [shV, rl, show W - (W - m) = m by omega]
theorem mv_shr_s (W m x : Nat) (hW : W = 32 ∨ W = 64) (hx : x < 2 ^ W) (hm : m < W) : ((mk ((List.range W).map fun k => bt (x : Int) (min (k + m) (W - 1))) : Nat) : Int) = shV W 117 x m := by
  obtain ⟨N, h1, h2, h3⟩ := sar_nat W m x hx hm
  rw [mk_eq W _ N h2 (fun k hk => by rw [bt_test]; exact h3 k hk)]
  have hp := pw_eq W hW
  have hs := sg_ng W hW (x : Int) (by omega) (by rw [hp]; omega)
  have hh : hf W = ((2 ^ (W - 1) : Nat) : Int) := by rcases hW with rfl | rfl <;> rfl
  have : shV W 117 x m = lo W (sg W x / 2 ^ m) := by simp [shV]
  rw [this, ← h1, hs]
  unfold lo
  rw [hp, hh]
  congr 1
  · congr 1
    by_cases h : 2 ^ (W - 1) ≤ x
    · rw [if_pos h, if_pos (by omega)]; simp
    · rw [if_neg h, if_neg (by omega)]
end Num
end Go.Proofs.YtkmigcegeffonaaDoor
