/- Plain mathematics of a memory: a number's bytes written into a list of bytes, and read out of it. -/
import Derived.Laws.Bits64b
namespace Go.Proofs.YtcljcnaglkbjcaaGreatDoor
set_option linter.unusedVariables false
namespace Mm

/-- k bytes of v, the lowest first, written from f on -/
def stZ : List Int → Nat → Nat → Int → List Int
  | zs, _, 0, _ => zs
  | zs, f, k + 1, v => stZ (zs.set f (v % 256)) (f + 1) k (v / 256)
/-- the number of k bytes from f on -/
def ldZ : List Int → Nat → Nat → Int
  | _, _, 0 => 0
  | zs, f, k + 1 => zs[f]?.getD 0 + 256 * ldZ zs (f + 1) k

theorem stZ_len : ∀ (k : Nat) (zs : List Int) (f : Nat) (v : Int), (stZ zs f k v).length = zs.length
  | 0, _, _, _ => rfl
  | k + 1, zs, f, v => by rw [stZ, stZ_len k]; simp
theorem stZ_byt : ∀ (k : Nat) (zs : List Int) (f : Nat) (v : Int), (∀ z ∈ zs, 0 ≤ z ∧ z ≤ 255) → ∀ z ∈ stZ zs f k v, 0 ≤ z ∧ z ≤ 255
  | 0, _, _, _, h => h
  | k + 1, zs, f, v, h => by
    rw [stZ]
    refine stZ_byt k _ _ _ fun z hz => ?_
    rcases List.mem_or_eq_of_mem_set hz with h1 | h1
    · exact h z h1
    · omega
theorem stZ_get : ∀ (k : Nat) (zs : List Int) (f : Nat) (v : Int) (i : Nat), f + k ≤ zs.length → 
    (stZ zs f k v)[i]?.getD 0 = if f ≤ i ∧ i < f + k then v / 256 ^ (i - f) % 256 else zs[i]?.getD 0
  | 0, zs, f, v, i, h => by rw [stZ, if_neg (by omega)]
  | k + 1, zs, f, v, i, h => by
    rw [stZ, stZ_get k _ _ _ _ (by simp; omega)]
    by_cases h1 : i = f
    · subst h1
      rw [if_neg (by omega), if_pos (by omega)]
      simp [show i < zs.length by omega]
    · by_cases h2 : f + 1 ≤ i ∧ i < f + 1 + k
      · rw [if_pos h2, if_pos (by omega), Int.ediv_ediv_of_nonneg (by omega), show i - f = (i - (f + 1)) + 1 from by omega, Int.pow_succ']
      · rw [if_neg h2, if_neg (by omega)]
        rw [List.getElem?_set_ne (by omega)]
theorem ldZ_ext : ∀ (k : Nat) (zs ys : List Int) (f g : Nat), (∀ i, i < k → zs[f + i]?.getD 0 = ys[g + i]?.getD 0) → ldZ zs f k = ldZ ys g k
  | 0, _, _, _, _, _ => rfl
  | k + 1, zs, ys, f, g, h => by
    rw [ldZ, ldZ, ldZ_ext k zs ys (f + 1) (g + 1) (fun i hi => by have := h (i + 1) (by omega); rwa [show f + (i + 1) = f + 1 + i from by omega, show g + (i + 1) = g + 1 + i from by omega] at this)]
    have := h 0 (by omega)
    simp only [Nat.add_zero] at this
    rw [this]
theorem ldZ_bd : ∀ (k : Nat) (zs : List Int) (f : Nat), (∀ i : Nat, 0 ≤ zs[i]?.getD 0 ∧ zs[i]?.getD 0 ≤ 255) → 0 ≤ ldZ zs f k ∧ ldZ zs f k < 256 ^ k
  | 0, _, _, _ => by simp [ldZ]
  | k + 1, zs, f, h => by
    have h1 := ldZ_bd k zs (f + 1) h
    have h2 := h f
    rw [ldZ, Int.pow_succ]
    omega
theorem mod_split (v M : Int) (hM : 0 < M) : v % (256 * M) = v % 256 + 256 * (v / 256 % M) := by
  have h1 : v = v % 256 + 256 * (v / 256 % M) + 256 * M * (v / 256 / M) := by
    have a1 := Int.emod_add_mul_ediv v 256
    have a2 := Int.emod_add_mul_ediv (v / 256) M
    have a3 : 256 * M * (v / 256 / M) = 256 * (M * (v / 256 / M)) := Int.mul_assoc ..
    omega
  have b1 := Int.emod_nonneg (v / 256) (show M ≠ 0 by omega)
  have b2 := Int.emod_lt_of_pos (v / 256) hM
  have h2 : v % (256 * M) = (v % 256 + 256 * (v / 256 % M) + 256 * M * (v / 256 / M)) % (256 * M) := by rw [← h1]
  rw [h2, Int.add_mul_emod_self_left, Int.emod_eq_of_lt (by omega) (by omega)]
theorem ldZ_num : ∀ (k : Nat) (zs : List Int) (f : Nat) (v : Int), (∀ i, i < k → zs[f + i]?.getD 0 = v / 256 ^ i % 256) → ldZ zs f k = v % 256 ^ k
  | 0, _, _, _, _ => by simp [ldZ]
  | k + 1, zs, f, v, h => by
    have h0 := h 0 (by omega)
    simp at h0
    rw [ldZ, h0, ldZ_num k zs (f + 1) (v / 256) (fun i hi => by
      have := h (i + 1) (by omega)
      rw [show f + 1 + i = f + (i + 1) from by omega, this, Int.ediv_ediv_of_nonneg (by omega), Int.pow_succ'])]
    have hp : (256 : Int) ^ (k + 1) = 256 * 256 ^ k := Int.pow_succ' ..
    rw [hp, mod_split v _ (Int.pow_pos (by omega))]
theorem ldZ_st (zs : List Int) (f k : Nat) (v : Int) (h : f + k ≤ zs.length) : ldZ (stZ zs f k v) f k = v % 256 ^ k :=
  ldZ_num k _ f v fun i hi => by rw [stZ_get k zs f v _ h, if_pos (by omega), show f + i - f = i from by omega]
theorem ldZ_far (zs : List Int) (f k f' k' : Nat) (v : Int) (h : f + k ≤ zs.length) (hd : f' + k' ≤ f ∨ f + k ≤ f') : ldZ (stZ zs f k v) f' k' = ldZ zs f' k' :=
  ldZ_ext k' _ _ _ _ fun i hi => by rw [stZ_get k zs f v _ h, if_neg (by omega)]
theorem ldZ_app (zs ys : List Int) (f k : Nat) (h : f + k ≤ zs.length) : ldZ (zs ++ ys) f k = ldZ zs f k :=
  ldZ_ext k _ _ _ _ fun i hi => by rw [List.getElem?_append_left (by omega)]
theorem stZ_snoc : ∀ (k : Nat) (zs : List Int) (f : Nat) (v : Int), stZ zs f (k + 1) v = stZ (stZ zs f k v) (f + k) 1 (v / 256 ^ k)
  | 0, zs, f, v => by simp [stZ]
  | k + 1, zs, f, v => by
    rw [stZ, stZ_snoc k, Int.ediv_ediv_of_nonneg (by omega), show f + 1 + k = f + (k + 1) from by omega, ← Int.pow_succ']
    rfl
theorem pow2_256 (k : Nat) : (2 : Int) ^ (8 * k) = 256 ^ k := by rw [Int.pow_mul]; rfl
/-- one step of the program's reading: v<<8 | b -/
theorem or_step (v c : Int) (h0 : 0 ≤ v) (h1 : v < 72057594037927936) (c0 : 0 ≤ c) (c1 : c ≤ 255) : bits .or .u64 (v * 256) c = c + 256 * v := by
  obtain ⟨x, rfl⟩ := Int.eq_ofNat_of_zero_le h0
  obtain ⟨y, rfl⟩ := Int.eq_ofNat_of_zero_le c0
  have := bits_or_u64_nat (x * 256) y (by omega) (by omega)
  have e : (((x * 256 : Nat)) : Int) = (x : Int) * 256 := by omega
  rw [e] at this
  rw [this, show x * 256 = 2 ^ 8 * x from by omega, ← Nat.two_pow_add_eq_or_of_lt (show y < 2 ^ 8 by omega)]
  omega
end Mm
end Go.Proofs.YtcljcnaglkbjcaaGreatDoor
