/- MemBack: what its loads tell. -/
import Derived.Test.YtcljcnaglkbjcaaGreatDoorMemM
namespace Go.Proofs.YtcljcnaglkbjcaaGreatDoor
set_option linter.unusedVariables false
namespace Mm

/-- what the three stores and the growing leave -/
def bk (A K : Nat) (v x : Int) : List Int := stZ (stZ (stZ (List.replicate 8192 0) A 8 x) (A + 100) 8 x) (A + 50) K v ++ List.replicate 8192 0

theorem bk_def (A K : Nat) (v x : Int) : bk A K v x = stZ (stZ (stZ (List.replicate 8192 0) A 8 x) (A + 100) 8 x) (A + 50) K v ++ List.replicate 8192 0 := rfl
theorem bk_len3 (A K : Nat) (v x : Int) : (stZ (stZ (stZ (List.replicate 8192 0) A 8 x) (A + 100) 8 x) (A + 50) K v).length = 8192 := by
  rw [stZ_len, stZ_len, stZ_len, List.length_replicate]
theorem bk_len2 (A : Nat) (x : Int) : (stZ (stZ (List.replicate 8192 0) A 8 x) (A + 100) 8 x).length = 8192 := by
  rw [stZ_len, stZ_len, List.length_replicate]
theorem bk_len1 (A : Nat) (x : Int) : (stZ (List.replicate 8192 0) A 8 x).length = 8192 := by rw [stZ_len, List.length_replicate]
theorem p8 : (256 : Int) ^ 8 = 18446744073709551616 := by decide
theorem bk_lo (A K : Nat) (v x : Int) (hA : A < 8000) (hK : K ≤ 8) (x0 : 0 ≤ x) (x1 : x < 18446744073709551616) : ldZ (bk A K v x) A 8 = x := by
  rw [bk, ldZ_app _ _ _ _ (by rw [bk_len3]; omega), ldZ_far _ _ _ _ _ _ (by rw [bk_len2]; omega) (by omega), ldZ_far _ _ _ _ _ _ (by rw [bk_len1]; omega) (by omega), ldZ_st _ _ _ _ (by rw [List.length_replicate]; omega), p8]
  omega
theorem bk_hi (A K : Nat) (v x : Int) (hA : A < 8000) (hK : K ≤ 8) (x0 : 0 ≤ x) (x1 : x < 18446744073709551616) : ldZ (bk A K v x) (A + 100) 8 = x := by
  rw [bk, ldZ_app _ _ _ _ (by rw [bk_len3]; omega), ldZ_far _ _ _ _ _ _ (by rw [bk_len2]; omega) (by omega), ldZ_st _ _ _ _ (by rw [bk_len1]; omega), p8]
  omega
theorem bk_mid (A K : Nat) (v x : Int) (hA : A < 8000) (hK : K ≤ 8) : ldZ (bk A K v x) (A + 50) K = v % 256 ^ K := by
  rw [bk, ldZ_app _ _ _ _ (by rw [bk_len3]; omega), ldZ_st _ _ _ _ (by rw [bk_len2]; omega)]
theorem bk_one (A K k : Nat) (v x : Int) (hA : A < 8000) (hK : K ≤ 8) (hk : k < K) : ldZ (bk A K v x) (A + 50 + k) 1 = v / 256 ^ k % 256 := by
  rw [bk, ldZ_app _ _ _ _ (by rw [bk_len3]; omega)]
  simp only [ldZ]
  rw [stZ_get _ _ _ _ _ (by rw [bk_len2]; omega), if_pos (by omega), show A + 50 + k - (A + 50) = k from by omega]
  omega
theorem bk_new (A K : Nat) (v x : Int) : ldZ (bk A K v x) 16383 1 = 0 := by
  simp only [ldZ, bk]
  rw [List.getElem?_append_right (by rw [bk_len3]; omega), List.getElem?_replicate]
  split <;> simp
theorem mod_div (v : Int) : ∀ (k K : Nat), k < K → (v % 256 ^ K) / 256 ^ k % 256 = v / 256 ^ k % 256 := by
  intro k K h
  have h1 : v % 256 ^ K = v - 256 ^ K * (v / 256 ^ K) := Int.emod_def ..
  have h2 : (256 : Int) ^ K = 256 ^ k * (256 * 256 ^ (K - k - 1)) := by
    rw [← Int.pow_succ', ← Int.pow_add]; congr 1; omega
  have hp : (256 : Int) ^ k ≠ 0 := Int.ne_of_gt (Int.pow_pos (by omega))
  rw [h1, Int.sub_eq_add_neg, ← Int.mul_neg]
  generalize -(v / 256 ^ K) = q
  rw [h2, Int.mul_assoc, Int.add_mul_ediv_left _ _ hp, Int.mul_assoc, Int.add_mul_emod_self_left]
theorem and_mask (y : Int) (i : Nat) (hi : i ≤ 63) (M P : Int) (hP : P = 2 ^ i) (hM : M = P - 1) (h0 : 0 ≤ y) (h1 : y < 18446744073709551616) : bits .and .u64 y M = y % P := by
  obtain ⟨n, rfl⟩ := Int.eq_ofNat_of_zero_le h0
  have hp : 0 < 2 ^ i := Nat.two_pow_pos i
  have hle : 2 ^ i ≤ 2 ^ 63 := Nat.pow_le_pow_right (by omega) hi
  have e2 : P = ((2 ^ i : Nat) : Int) := by rw [hP]; simp
  have e : M = ((2 ^ i - 1 : Nat) : Int) := by rw [hM, e2]; omega
  rw [e, e2, bits_and_u64_nat n (2 ^ i - 1) (by omega) (by omega), Nat.and_two_pow_sub_one_eq_mod]
  simp
end Mm
end Go.Proofs.YtcljcnaglkbjcaaGreatDoor
