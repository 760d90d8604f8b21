/- Plain mathematics: bits of groups, and what the document says of the last byte's spare bits. -/
import Derived.Test.YtjhmglefejclpaaDoorMath3
namespace Go.Proofs.YtjhmglefejclpaaDoor
namespace Leb

theorem bit_small (g R : Int) (k : Nat) (hk : k < 7) : (g % 128 + 128 * R) / 2 ^ k % 2 = g % 128 / 2 ^ k % 2 := by
  rcases (show k = 0 ∨ k = 1 ∨ k = 2 ∨ k = 3 ∨ k = 4 ∨ k = 5 ∨ k = 6 from by omega) with rfl | rfl | rfl | rfl | rfl | rfl | rfl <;> simp <;> omega
theorem bt_jn : ∀ (gs : List Int) (k : Nat), (∀ g ∈ gs, 0 ≤ g ∧ g < 128) → gs.getD (k / 7) 0 / 2 ^ (k % 7) % 2 = jn gs / 2 ^ k % 2
  | [], k, _ => by simp [jn]
  | g :: r, k, h => by
    have hg := h g (by simp)
    by_cases hk : k < 7
    · have e1 : k / 7 = 0 := by omega
      have e2 : k % 7 = k := by omega
      rw [e1, e2, List.getD_cons_zero, jn, bit_small g (jn r) k hk]
      rw [show g % 128 = g from by omega]
    · obtain ⟨j, rfl⟩ : ∃ j, k = j + 7 := ⟨k - 7, by omega⟩
      have ih := bt_jn r j (fun y hy => h y (by simp [hy]))
      have e1 : (j + 7) / 7 = j / 7 + 1 := by omega
      have e2 : (j + 7) % 7 = j % 7 := by omega
      have e3 : (2 : Int) ^ (j + 7) = 128 * 2 ^ j := by rw [Int.pow_add, Int.mul_comm]; rfl
      rw [e1, e2, List.getD_cons_succ, ih, e3, ← Int.ediv_ediv_of_nonneg (by omega), jn]
      rw [show (g % 128 + 128 * jn r) / 128 = jn r from by omega]
theorem jn_map (l : List Int) : jn (l.map (· % 128)) = jn l := by
  induction l with
  | nil => rfl
  | cons z r ih => rw [List.map_cons, jn, jn, ih]; omega

/-- the groups' number, and what the sign makes of it -/
def JJ (zs : List Int) : Int := jn (zs.take (lead zs + 1))
def XX (zs : List Int) : Int := JJ zs - (if sg (zs.getD (lead zs) 0) < 0 then 128 ^ (lead zs + 1) else 0)

theorem JJ_parts (zs : List Int) (hl : lead zs < zs.length) (h0 : 0 ≤ zs.getD (lead zs) 0) :
    ∃ low, 0 ≤ low ∧ low < 128 ^ lead zs ∧ JJ zs = low + 128 ^ lead zs * zs.getD (lead zs) 0 ∧ XX zs = low + 128 ^ lead zs * sg (zs.getD (lead zs) 0) ∧ -64 ≤ sg (zs.getD (lead zs) 0) ∧ sg (zs.getD (lead zs) 0) < 64 := by
  have hc := lead_lt zs hl
  have hb := jn_bd (zs.take (lead zs))
  have hlen : (zs.take (lead zs)).length = lead zs := by simp; omega
  rw [hlen] at hb
  have hJ : JJ zs = jn (zs.take (lead zs)) + 128 ^ lead zs * zs.getD (lead zs) 0 := by
    unfold JJ
    rw [take_snoc zs _ hl, jn_snoc, hlen, Int.mul_comm, show zs.getD (lead zs) 0 % 128 = zs.getD (lead zs) 0 from by omega]
  have e : (128 : Int) ^ (lead zs + 1) = 128 ^ lead zs * 128 := Int.pow_succ _ _
  have hs : -64 ≤ sg (zs.getD (lead zs) 0) ∧ sg (zs.getD (lead zs) 0) < 64 := by unfold sg; split <;> omega
  refine ⟨_, hb.1, hb.2, hJ, ?_, hs.1, hs.2⟩
  unfold XX
  rw [hJ, e]
  by_cases h64 : 64 ≤ zs.getD (lead zs) 0
  · have es : sg (zs.getD (lead zs) 0) = zs.getD (lead zs) 0 - 128 := by unfold sg; rw [if_pos h64]
    rw [es, if_pos (by omega), Int.mul_sub]; omega
  · have es : sg (zs.getD (lead zs) 0) = zs.getD (lead zs) 0 := by unfold sg; rw [if_neg h64]
    rw [es, if_neg (by omega)]; omega

theorem div_parts (low q : Int) (L D : Nat) (h0 : 0 ≤ low) (h1 : low < 128 ^ L) : (low + 128 ^ L * q) / 2 ^ (7 * L + D) = q / 2 ^ D := by
  have hp : (0 : Int) < 128 ^ L := Int.pow_pos (by omega)
  rw [Int.pow_add, pow7, ← Int.ediv_ediv_of_nonneg (Int.le_of_lt hp), Int.add_mul_ediv_left _ _ (by omega), Int.ediv_eq_zero_of_lt h0 h1, Int.zero_add]

theorem pow_ge8 (D : Nat) (h : 8 ≤ D) : (256 : Int) ≤ 2 ^ D := by
  obtain ⟨j, rfl⟩ : ∃ j, D = 8 + j := ⟨D - 8, by omega⟩
  have hp : (0 : Int) < 2 ^ j := Int.pow_pos (by omega)
  rw [Int.pow_add]
  have : (2 : Int) ^ 8 = 256 := rfl
  rw [this]; omega
theorem big_div (q : Int) (D : Nat) (h0 : -64 ≤ q) (h1 : q < 128) (hD : 8 ≤ D) : q / 2 ^ D = if q < 0 then -1 else 0 := by
  have hp := pow_ge8 D hD
  split
  · rename_i h
    rw [Int.ediv_eq_iff_of_pos (by omega)]; omega
  · exact Int.ediv_eq_zero_of_lt (by omega) (by omega)
theorem min_div (q : Int) (D : Nat) (h0 : -64 ≤ q) (h1 : q < 128) : q / 2 ^ min D 8 = q / 2 ^ D := by
  by_cases h : D ≤ 8
  · rw [Nat.min_eq_left h]
  · rw [Nat.min_eq_right (by omega), big_div q D h0 h1 (by omega), big_div q 8 h0 h1 (Nat.le_refl _)]

theorem tuE_iff (zs : List Int) (m : Nat) (hc : cntE zs m = 0) (h0 : 0 ≤ zs.getD (lead zs) 0) : tuE zs m = if JJ zs / 2 ^ m = 0 then 0 else 6 := by
  obtain ⟨h1, h2, h3, h4⟩ := cnt_0 zs m hc
  unfold mb at h3
  obtain ⟨low, l0, l1, l2, l3, l4, l5⟩ := JJ_parts zs h4 h0
  have hc1 := lead_lt zs h4
  unfold tuE
  rw [if_pos hc, min_div _ _ (by omega) hc1, show ((m : Int) - 7 * (lead zs : Int)).toNat = m - 7 * lead zs from by omega, l2]
  have := div_parts low (zs.getD (lead zs) 0) (lead zs) (m - 7 * lead zs) l0 l1
  rw [show 7 * lead zs + (m - 7 * lead zs) = m from by omega] at this
  rw [this]
theorem tsE_iff (zs : List Int) (m : Nat) (hc : cntE zs (m + 1 : Nat) = 0) (h0 : 0 ≤ zs.getD (lead zs) 0) : tsE zs (m + 1 : Nat) = if XX zs / 2 ^ m = 0 ∨ XX zs / 2 ^ m = -1 then 0 else 6 := by
  obtain ⟨h1, h2, h3, h4⟩ := cnt_0 zs _ hc
  unfold mb at h3
  obtain ⟨low, l0, l1, l2, l3, l4, l5⟩ := JJ_parts zs h4 h0
  unfold tsE
  rw [if_pos hc, min_div _ _ (by omega) (by omega), show (((m + 1 : Nat) : Int) - 7 * (lead zs : Int) - 1).toNat = m - 7 * lead zs from by omega, l3]
  have := div_parts low (sg (zs.getD (lead zs) 0)) (lead zs) (m - 7 * lead zs) l0 l1
  rw [show 7 * lead zs + (m - 7 * lead zs) = m from by omega] at this
  rw [this]

/-- the bits of the groups are those of the number with its sign -/
theorem bit_XX (zs : List Int) (k : Nat) (hk : k < 7 * (lead zs + 1)) : JJ zs / 2 ^ k % 2 = XX zs / 2 ^ k % 2 := by
  unfold XX
  split
  · obtain ⟨j, hj⟩ : ∃ j, 7 * (lead zs + 1) = k + (j + 1) := ⟨7 * (lead zs + 1) - k - 1, by omega⟩
    have hp : (0 : Int) < 2 ^ k := Int.pow_pos (by omega)
    have e : (128 : Int) ^ (lead zs + 1) = 2 ^ k * (2 ^ j * 2) := by rw [← pow7, hj, Int.pow_add, Int.pow_succ]
    rw [e, show JJ zs - 2 ^ k * (2 ^ j * 2) = JJ zs + 2 ^ k * (-(2 ^ j * 2)) from by rw [Int.mul_neg]; omega, Int.add_mul_ediv_left _ _ (by omega)]
    omega
  · simp
theorem top_XX (zs : List Int) (hl : lead zs < zs.length) (h0 : 0 ≤ zs.getD (lead zs) 0) : XX zs / 2 ^ (7 * (lead zs + 1)) = if sg (zs.getD (lead zs) 0) < 0 then -1 else 0 := by
  obtain ⟨low, l0, l1, l2, l3, l4, l5⟩ := JJ_parts zs hl h0
  have := div_parts low (sg (zs.getD (lead zs) 0)) (lead zs) 7 l0 l1
  rw [show 7 * (lead zs + 1) = 7 * lead zs + 7 from by omega, l3, this]
  have e : (2 : Int) ^ 7 = 128 := rfl
  rw [e]; split <;> omega
theorem sign_bit (zs : List Int) (hl : lead zs < zs.length) (h0 : 0 ≤ zs.getD (lead zs) 0) : JJ zs / 2 ^ (7 * (lead zs + 1) - 1) % 2 = if sg (zs.getD (lead zs) 0) < 0 then 1 else 0 := by
  obtain ⟨low, l0, l1, l2, l3, l4, l5⟩ := JJ_parts zs hl h0
  have hc := lead_lt zs hl
  have := div_parts low (zs.getD (lead zs) 0) (lead zs) 6 l0 l1
  rw [show 7 * (lead zs + 1) - 1 = 7 * lead zs + 6 from by omega, l2, this]
  have e : (2 : Int) ^ 6 = 64 := rfl
  rw [e]; unfold sg; split <;> split <;> omega

/-- one bit more -/
theorem mod_step (J : Int) (k : Nat) : J % 2 ^ (k + 1) = J % 2 ^ k + J / 2 ^ k % 2 * 2 ^ k := by
  have hp : (0 : Int) < 2 ^ k := Int.pow_pos (by omega)
  have e : (2 : Int) ^ (k + 1) = 2 ^ k * 2 := Int.pow_succ _ _
  have hd : J / (2 ^ k * 2) = J / 2 ^ k / 2 := (Int.ediv_ediv_of_nonneg (Int.le_of_lt hp)).symm
  have h1 : J / 2 ^ k = 2 * (J / 2 ^ k / 2) + J / 2 ^ k % 2 := by omega
  have h2 := congrArg (fun x => 2 ^ k * x) h1
  simp only [Int.mul_add, ← Int.mul_assoc] at h2
  rw [e, Int.emod_def J (2 ^ k * 2), hd, Int.emod_def J (2 ^ k), Int.mul_comm (J / 2 ^ k % 2)]
  omega
theorem div_step (X : Int) (k : Nat) : X / 2 ^ k = 2 * (X / 2 ^ (k + 1)) + X / 2 ^ k % 2 := by
  have hp : (0 : Int) < 2 ^ k := Int.pow_pos (by omega)
  rw [Int.pow_succ, ← Int.ediv_ediv_of_nonneg (Int.le_of_lt hp)]; omega
end Leb
end Go.Proofs.YtjhmglefejclpaaDoor
