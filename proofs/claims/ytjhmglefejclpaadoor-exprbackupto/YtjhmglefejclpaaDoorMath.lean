/- Plain mathematics of numbers as bytes: what PutU, PutS, SizeU, SizeS, TakeU, TakeS come to, over lists of integers. Nothing of the program is imported. -/
import Derived.WalkKit
namespace Go.Proofs.YtjhmglefejclpaaDoor
namespace Leb

/-- The bytes of a number without a sign; f: fuel (10 is enough for 64 bits). -/
def bU : Nat → Int → List Int
  | 0, v => [v]
  | f + 1, v => if 127 < v then (v % 128 + 128) :: bU f (v / 128) else [v]
/-- The bytes of a number with a sign. -/
def bS : Nat → Int → List Int
  | 0, v => [v % 128]
  | f + 1, v => if -64 ≤ v ∧ v < 64 then [v % 128] else (v % 128 + 128) :: bS f (v / 128)

theorem bU_fuel : ∀ (f : Nat) (v : Int), 0 ≤ v → v < 128 ^ (f + 1) → bU (f + 1) v = bU f v
  | 0, v, h0, h => by
    have : ¬ 127 < v := by omega
    simp [bU, this]
  | f + 1, v, h0, h => by
    have hd : v / 128 < 128 ^ (f + 1) := by
      have : (128 : Int) ^ (f + 2) = 128 ^ (f + 1) * 128 := Int.pow_succ _ _
      omega
    have ih := bU_fuel f (v / 128) (by omega) hd
    by_cases h1 : 127 < v
    · rw [bU, if_pos h1, ih]; simp [bU, h1]
    · simp [bU, h1]

theorem bS_fuel : ∀ (f : Nat) (v : Int), -64 * 128 ^ f ≤ v → v < 64 * 128 ^ f → bS (f + 1) v = bS f v
  | 0, v, h0, h => by
    have : -64 ≤ v ∧ v < 64 := by omega
    simp [bS, this]
  | f + 1, v, h0, h => by
    have e : (128 : Int) ^ (f + 1) = 128 ^ f * 128 := Int.pow_succ _ _
    have ih := bS_fuel f (v / 128) (by omega) (by omega)
    by_cases h1 : -64 ≤ v ∧ v < 64
    · simp [bS, h1]
    · rw [bS, if_neg h1, ih, bS, if_neg h1]

theorem bU_step (v : Int) (h : 127 < v) (hv : v < 18446744073709551616) : bU 10 v = (v % 128 + 128) :: bU 10 (v / 128) := by
  have := bU_fuel 9 (v / 128) (by omega) (by omega)
  rw [bU, if_pos h, this]
theorem bU_last (v : Int) (h : ¬ 127 < v) : bU 10 v = [v] := by simp [bU, h]
theorem bS_step (v : Int) (h : ¬ (-64 ≤ v ∧ v < 64)) (h0 : -9223372036854775808 ≤ v) (hv : v < 9223372036854775808) : bS 10 v = (v % 128 + 128) :: bS 10 (v / 128) := by
  have := bS_fuel 9 (v / 128) (by omega) (by omega)
  rw [bS, if_neg h, this]
theorem bS_last (v : Int) (h : -64 ≤ v ∧ v < 64) : bS 10 v = [v % 128] := by simp [bS, h]

theorem bU_pos : ∀ (f : Nat) (v : Int), 1 ≤ (bU f v).length
  | 0, v => by simp [bU]
  | f + 1, v => by unfold bU; split <;> simp
theorem bS_pos : ∀ (f : Nat) (v : Int), 1 ≤ (bS f v).length
  | 0, v => by simp [bS]
  | f + 1, v => by unfold bS; split <;> simp
theorem bU_len : ∀ (f : Nat) (v : Int), (bU f v).length ≤ f + 1
  | 0, v => by simp [bU]
  | f + 1, v => by have := bU_len f (v / 128); unfold bU; split <;> simp <;> omega
theorem bS_len : ∀ (f : Nat) (v : Int), (bS f v).length ≤ f + 1
  | 0, v => by simp [bS]
  | f + 1, v => by have := bS_len f (v / 128); unfold bS; split <;> simp <;> omega

theorem bU_bytes : ∀ (f : Nat) (v : Int), 0 ≤ v → v < 128 ^ (f + 1) → ∀ z ∈ bU f v, 0 ≤ z ∧ z ≤ 255
  | 0, v, h0, h => by simp [bU]; omega
  | f + 1, v, h0, h => by
    have hd : v / 128 < 128 ^ (f + 1) := by
      have : (128 : Int) ^ (f + 2) = 128 ^ (f + 1) * 128 := Int.pow_succ _ _
      omega
    have ih := bU_bytes f (v / 128) (by omega) hd
    unfold bU; split
    · intro z hz
      rcases List.mem_cons.1 hz with rfl | hz
      · omega
      · exact ih z hz
    · intro z hz; simp at hz; omega
theorem bS_bytes : ∀ (f : Nat) (v : Int), ∀ z ∈ bS f v, 0 ≤ z ∧ z ≤ 255
  | 0, v => by simp [bS]; omega
  | f + 1, v => by
    have ih := bS_bytes f (v / 128)
    unfold bS; split
    · intro z hz; simp at hz; omega
    · intro z hz
      rcases List.mem_cons.1 hz with rfl | hz
      · omega
      · exact ih z hz

/-! the operations of the program on bytes -/
theorem u8_and127 (x : Int) (h0 : 0 ≤ x) (h1 : x < 256) : bits .and .u8 x 127 = x % 128 := bits_mask .u8 8 (by decide) wraps_u8 7 (by decide) x h0 h1
theorem u8_and128 (x : Int) (h0 : 0 ≤ x) (h1 : x < 256) : bits .and .u8 x 128 = x / 128 * 128 := by
  obtain ⟨a, rfl⟩ := Int.eq_ofNat_of_zero_le h0
  have ha : a < 256 := by omega
  have : ∀ b : Fin 256, bits .and .u8 ((b.val : Nat) : Int) 128 = ((b.val : Nat) : Int) / 128 * 128 := by decide +kernel
  exact this ⟨a, ha⟩
theorem u8_or128 (x : Int) (h0 : 0 ≤ x) (h1 : x < 256) : bits .or .u8 x 128 = x % 128 + 128 := by
  obtain ⟨a, rfl⟩ := Int.eq_ofNat_of_zero_le h0
  have ha : a < 256 := by omega
  have : ∀ b : Fin 256, bits .or .u8 ((b.val : Nat) : Int) 128 = ((b.val : Nat) : Int) % 128 + 128 := by decide +kernel
  exact this ⟨a, ha⟩
end Leb
end Go.Proofs.YtjhmglefejclpaaDoor
