/- Plain mathematics of taking numbers off bytes. Nothing of the program is imported. -/
import Derived.WalkKit
import Derived.Test.YtjhmglefejclpaaDoorMath
namespace Go.Proofs.YtjhmglefejclpaaDoor
namespace Leb

/-- How many bytes at the begin have the bit 128. -/
def lead : List Int → Nat
  | [] => 0
  | z :: r => if 128 ≤ z then lead r + 1 else 0
theorem lead_le : ∀ zs : List Int, lead zs ≤ zs.length
  | [] => by simp [lead]
  | z :: r => by have := lead_le r; unfold lead; split <;> simp <;> omega
theorem lead_ge : ∀ (zs : List Int) (i : Nat), i < lead zs → 128 ≤ zs.getD i 0
  | [], i, h => by simp [lead] at h
  | z :: r, i, h => by
    unfold lead at h
    split at h
    · cases i with
      | zero => simpa
      | succ i => have := lead_ge r i (by omega); simpa using this
    · omega
theorem lead_lt : ∀ (zs : List Int), lead zs < zs.length → zs.getD (lead zs) 0 < 128
  | [], h => by simp at h
  | z :: r, h => by
    unfold lead at h ⊢
    split at h
    · rename_i hz
      simp only [hz, if_true]
      have := lead_lt r (by simpa using h)
      simpa using this
    · rename_i hz
      simp only [hz, if_false]
      simp; omega

/-- The groups as one number, noughts above them. -/
def jn : List Int → Int
  | [] => 0
  | z :: r => z % 128 + 128 * jn r
theorem jn_bd : ∀ zs : List Int, 0 ≤ jn zs ∧ jn zs < 128 ^ zs.length
  | [] => by simp [jn]
  | z :: r => by
    have := jn_bd r
    have e : (128 : Int) ^ (r.length + 1) = 128 ^ r.length * 128 := Int.pow_succ _ _
    simp only [jn, List.length_cons]
    omega
theorem jn_snoc : ∀ (zs : List Int) (z : Int), jn (zs ++ [z]) = jn zs + z % 128 * 128 ^ zs.length
  | [], z => by simp [jn]
  | y :: r, z => by
    have := jn_snoc r z
    have e : (128 : Int) ^ (r.length + 1) = 128 ^ r.length * 128 := Int.pow_succ _ _
    simp only [jn, List.cons_append, List.length_cons, this, e, Int.mul_add]
    rw [Int.mul_comm (128 ^ r.length) 128, ← Int.mul_assoc, ← Int.mul_assoc, Int.mul_comm (z % 128) 128, Int.add_assoc]
theorem take_snoc (zs : List Int) (k : Nat) (h : k < zs.length) : zs.take (k + 1) = zs.take k ++ [zs.getD k 0] := by
  rw [List.take_succ_eq_append_getElem h]; simp [List.getD, List.getElem?_eq_getElem h]

theorem pow7 (k : Nat) : (2 : Int) ^ (7 * k) = 128 ^ k := by
  rw [Int.pow_mul]; rfl
theorem p128_le (k : Nat) (hk : k ≤ 9) : (128 : Int) ^ k ≤ 9223372036854775808 := by
  rcases (show k = 0 ∨ k = 1 ∨ k = 2 ∨ k = 3 ∨ k = 4 ∨ k = 5 ∨ k = 6 ∨ k = 7 ∨ k = 8 ∨ k = 9 from by omega) with rfl | rfl | rfl | rfl | rfl | rfl | rfl | rfl | rfl | rfl <;> decide

theorem wraps_u64 (n : Int) (h0 : 0 ≤ n) (h1 : n < 2 ^ 64) : IntKind.u64.wrap n = n := by rw [IntKind.wrap_u64]; omega
/-- one round of joinGroups -/
theorem join_step (V z : Int) (k : Nat) (hk : k ≤ 9) (h0 : 0 ≤ V) (hV : V < 128 ^ k) :
    bits .or .u64 V (z % 128 * 128 ^ k % 18446744073709551616) = (V + z % 128 * 128 ^ k) % 18446744073709551616 := by
  have h1 : bits .or .u64 V (z % 128 * 128 ^ k % 18446744073709551616) = bits .or .u64 (z % 128 * 128 ^ k % 18446744073709551616) V := by
    obtain ⟨A, hA⟩ := Int.eq_ofNat_of_zero_le h0
    obtain ⟨C, hC⟩ := Int.eq_ofNat_of_zero_le (show 0 ≤ z % 128 * 128 ^ k % 18446744073709551616 by omega)
    have hp := p128_le k hk
    have hA2 : A < 18446744073709551616 := by omega
    have hC2 : C < 18446744073709551616 := by omega
    rw [hA, hC, bits_or_u64_nat A C hA2 hC2, bits_or_u64_nat C A hC2 hA2, Nat.or_comm]
  have hp := p128_le k hk
  have hd : ∃ q : Int, (18446744073709551616 : Int) = 128 ^ k * q := by
    rcases (show k = 0 ∨ k = 1 ∨ k = 2 ∨ k = 3 ∨ k = 4 ∨ k = 5 ∨ k = 6 ∨ k = 7 ∨ k = 8 ∨ k = 9 from by omega) with rfl | rfl | rfl | rfl | rfl | rfl | rfl | rfl | rfl | rfl
    · exact ⟨18446744073709551616, rfl⟩
    · exact ⟨144115188075855872, rfl⟩
    · exact ⟨1125899906842624, rfl⟩
    · exact ⟨8796093022208, rfl⟩
    · exact ⟨68719476736, rfl⟩
    · exact ⟨536870912, rfl⟩
    · exact ⟨4194304, rfl⟩
    · exact ⟨32768, rfl⟩
    · exact ⟨256, rfl⟩
    · exact ⟨2, rfl⟩
  obtain ⟨q, hq⟩ := hd
  have hpos : (0 : Int) < 128 ^ k := Int.pow_pos (by omega)
  have e : z % 128 * 128 ^ k % 18446744073709551616 = 128 ^ k * (z % 128 % q) := by
    rw [hq, Int.mul_comm (z % 128) (128 ^ k), Int.mul_emod_mul_of_pos _ _ hpos]
  have hm : z % 128 * 128 ^ k % 18446744073709551616 % 2 ^ (7 * k) = 0 := by
    rw [pow7, e]; exact Int.mul_emod_right _ _
  have hj := bits_join .u64 64 (by decide) wraps_u64 (7 * k) (z % 128 * 128 ^ k % 18446744073709551616) V (by omega) hm (by omega) h0 (by rw [pow7]; exact hV) (by omega)
  rw [h1, hj]
  -- V is below the step: no carry over 2^64
  have hqpos : 0 < q := by
    rcases Int.lt_or_le 0 q with h | h
    · exact h
    · have : 128 ^ k * q ≤ 0 := Int.mul_nonpos_of_nonneg_of_nonpos (by omega) h
      omega
  have hr : z % 128 % q < q := Int.emod_lt_of_pos _ hqpos
  have hr0 : 0 ≤ z % 128 % q := Int.emod_nonneg _ (by omega)
  have hb : 128 ^ k * (z % 128 % q) + 128 ^ k ≤ 18446744073709551616 := by
    have : 128 ^ k * (z % 128 % q + 1) ≤ 128 ^ k * q := Int.mul_le_mul_of_nonneg_left (by omega) (by omega)
    rw [Int.mul_add, Int.mul_one, ← hq] at this; exact this
  have e2 : (V + z % 128 * 128 ^ k) % 18446744073709551616 = (V + z % 128 * 128 ^ k % 18446744073709551616) % 18446744073709551616 := by omega
  rw [e2, e]; omega

/-- The number that a last byte's seven bits are in two's complement. -/
def sg (c : Int) : Int := if 64 ≤ c then c - 128 else c
/-- How many bytes may be. -/
def mb (n : Int) : Int := (n + 6) / 7
/-- countBytes' error: 0 is none. -/
def cntE (zs : List Int) (n : Int) : Int := if n < 1 ∨ 64 < n then 1 else if (lead zs : Int) < mb n then (if lead zs < zs.length then 0 else 4) else 6
/-- countBytes' number. -/
def cntN (zs : List Int) (n : Int) : Int := if cntE zs n = 0 then (lead zs : Int) + 1 else 0
theorem cnt_arg (zs : List Int) (n : Int) (h : n < 1 ∨ 64 < n) : cntE zs n = 1 ∧ cntN zs n = 0 := by
  have e : cntE zs n = 1 := by unfold cntE; rw [if_pos h]
  exact ⟨e, by unfold cntN; rw [e]; rfl⟩
theorem cnt_end (zs : List Int) (n : Int) (h1 : 1 ≤ n) (h2 : n ≤ 64) (h : (lead zs : Int) < mb n) (hl : lead zs = zs.length) : cntE zs n = 4 ∧ cntN zs n = 0 := by
  have e : cntE zs n = 4 := by unfold cntE; rw [if_neg (by omega), if_pos h, if_neg (by omega)]
  exact ⟨e, by unfold cntN; rw [e]; rfl⟩
theorem cnt_ok (zs : List Int) (n : Int) (h1 : 1 ≤ n) (h2 : n ≤ 64) (h : (lead zs : Int) < mb n) (hl : lead zs < zs.length) : cntE zs n = 0 ∧ cntN zs n = (lead zs : Int) + 1 := by
  have e : cntE zs n = 0 := by unfold cntE; rw [if_neg (by omega), if_pos h, if_pos hl]
  exact ⟨e, by unfold cntN; rw [e]; rfl⟩
theorem cnt_mal (zs : List Int) (n : Int) (h1 : 1 ≤ n) (h2 : n ≤ 64) (h : mb n ≤ (lead zs : Int)) : cntE zs n = 6 ∧ cntN zs n = 0 := by
  have e : cntE zs n = 6 := by unfold cntE; rw [if_neg (by omega), if_neg (by omega)]
  exact ⟨e, by unfold cntN; rw [e]; rfl⟩
theorem lead_eq (zs : List Int) (k : Nat) (hk : k ≤ lead zs) (_hl : k < zs.length) (h : zs.getD k 0 < 128) : lead zs = k := by
  rcases Nat.lt_or_ge k (lead zs) with h1 | h1
  · have := lead_ge zs k h1; omega
  · omega
theorem lead_more (zs : List Int) (k : Nat) (hk : k ≤ lead zs) (hl : k < zs.length) (h : 128 ≤ zs.getD k 0) : k + 1 ≤ lead zs := by
  rcases Nat.lt_or_ge k (lead zs) with h1 | h1
  · exact h1
  · have e : k = lead zs := by omega
    have := lead_lt zs (by omega)
    rw [← e] at this; omega
/-- TakeU's error, number and size. -/
def tuE (zs : List Int) (n : Int) : Int := if cntE zs n = 0 then (if zs.getD (lead zs) 0 / 2 ^ min (n - 7 * lead zs).toNat 8 = 0 then 0 else 6) else cntE zs n
def tuV (zs : List Int) (n : Int) : Int := if tuE zs n = 0 then jn (zs.take (lead zs + 1)) % 18446744073709551616 else 0
def tuN (zs : List Int) (n : Int) : Int := if tuE zs n = 0 then (lead zs : Int) + 1 else 0
/-- TakeS's error, number and size. -/
def tsE (zs : List Int) (n : Int) : Int :=
  if cntE zs n = 0 then (if sg (zs.getD (lead zs) 0) / 2 ^ min (n - 7 * lead zs - 1).toNat 8 = 0 ∨ sg (zs.getD (lead zs) 0) / 2 ^ min (n - 7 * lead zs - 1).toNat 8 = -1 then 0 else 6) else cntE zs n
def tsV (zs : List Int) (n : Int) : Int := if tsE zs n = 0 then IntKind.i64.wrap (jn (zs.take (lead zs + 1)) - (if sg (zs.getD (lead zs) 0) < 0 then 128 ^ (lead zs + 1) else 0)) else 0
def tsN (zs : List Int) (n : Int) : Int := if tsE zs n = 0 then (lead zs : Int) + 1 else 0
/-- what stands where countBytes tells no error -/
theorem cnt_0 (zs : List Int) (n : Int) (h : cntE zs n = 0) : 1 ≤ n ∧ n ≤ 64 ∧ (lead zs : Int) < mb n ∧ lead zs < zs.length := by
  unfold cntE at h
  split at h
  · omega
  · split at h
    · split at h
      · exact ⟨by omega, by omega, by assumption, by assumption⟩
      · omega
    · omega
theorem sg_eq (c : Int) (h0 : 0 ≤ c) (h1 : c < 128) : IntKind.i8.wrap (c * 2) / 2 = sg c := by
  have : IntKind.i8.wrap (c * 2) = (c * 2 + 128) % 256 - 128 := by simp [IntKind.wrap, IntKind.bits, IntKind.signed]; split <;> omega
  rw [this]; unfold sg; split <;> omega

/-- ones above the p+1 groups -/
def msk (p : Nat) : Int := IntKind.u64.wrap (18446744073709551615 * 2 ^ min (7 * (p + 1)) 64)
theorem msk_9 : msk 9 = 0 := by decide +kernel
theorem msk_lt (p : Nat) (hp : p ≤ 8) : msk p = 18446744073709551616 - 128 ^ (p + 1) ∧ msk p % 2 ^ (7 * (p + 1)) = 0 ∧ (128 : Int) ^ (p + 1) ≤ 9223372036854775808 ∧ (0 : Int) < 128 ^ (p + 1) := by
  rcases (show p = 0 ∨ p = 1 ∨ p = 2 ∨ p = 3 ∨ p = 4 ∨ p = 5 ∨ p = 6 ∨ p = 7 ∨ p = 8 from by omega) with rfl | rfl | rfl | rfl | rfl | rfl | rfl | rfl | rfl <;> decide +kernel
theorem or_comm_u64 (x y : Int) (hx : 0 ≤ x) (hx1 : x < 18446744073709551616) (hy : 0 ≤ y) (hy1 : y < 18446744073709551616) : bits .or .u64 x y = bits .or .u64 y x := by
  obtain ⟨A, rfl⟩ := Int.eq_ofNat_of_zero_le hx
  obtain ⟨C, rfl⟩ := Int.eq_ofNat_of_zero_le hy
  rw [bits_or_u64_nat A C (by omega) (by omega), bits_or_u64_nat C A (by omega) (by omega), Nat.or_comm]
theorem neg_val (J : Int) (p : Nat) (hp : p ≤ 9) (h0 : 0 ≤ J) (h1 : J < 128 ^ (p + 1)) : IntKind.i64.wrap (bits .or .u64 (J % 18446744073709551616) (msk p)) = IntKind.i64.wrap (J - 128 ^ (p + 1)) := by
  by_cases h9 : p = 9
  · subst h9
    rw [msk_9]
    obtain ⟨A, hA⟩ := Int.eq_ofNat_of_zero_le (show 0 ≤ J % 18446744073709551616 by omega)
    have : bits .or .u64 (J % 18446744073709551616) 0 = J % 18446744073709551616 := by
      rw [hA]
      have := bits_or_u64_nat A 0 (by omega) (by omega)
      simpa using this
    rw [this, IntKind.wrap_i64, IntKind.wrap_i64]
    omega
  · obtain ⟨m1, m2, m3, m4⟩ := msk_lt p (by omega)
    have hJ : J % 18446744073709551616 = J := by omega
    rw [hJ, or_comm_u64 J (msk p) h0 (by omega) (by omega) (by omega)]
    have hj := bits_join .u64 64 (by decide) wraps_u64 (7 * (p + 1)) (msk p) J (by omega) m2 (by omega) h0 (by rw [pow7]; exact h1) (by omega)
    rw [hj, m1, IntKind.wrap_i64, IntKind.wrap_i64]
    omega
theorem pos_val (J : Int) : IntKind.i64.wrap (J % 18446744073709551616) = IntKind.i64.wrap (J - 0) := by
  rw [IntKind.wrap_i64, IntKind.wrap_i64]; omega
end Leb
end Go.Proofs.YtjhmglefejclpaaDoor
