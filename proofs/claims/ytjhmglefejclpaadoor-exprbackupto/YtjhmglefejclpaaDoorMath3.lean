/- Plain mathematics: what was laid is taken. Nothing of the program is imported. -/
import Derived.Test.YtjhmglefejclpaaDoorMath2
namespace Go.Proofs.YtjhmglefejclpaaDoor
namespace Leb

theorem bU_form : ∀ (f : Nat) (v : Int) (r : List Int), 0 ≤ v → v < 128 ^ (f + 1) →
    ∃ k, k ≤ f ∧ (bU f v).length = k + 1 ∧ lead (bU f v ++ r) = k ∧ (bU f v ++ r).getD k 0 = v / 128 ^ k ∧ v < 128 ^ (k + 1) ∧ (k = 0 ∨ 128 ^ k ≤ v) ∧ jn (bU f v) = v
  | 0, v, r, h0, h => by
    have h1 : ¬ 128 ≤ v := by omega
    refine ⟨0, by omega, by simp [bU], by simp [bU, lead, h1], by simp [bU], h, .inl rfl, ?_⟩
    simp [bU, jn]; omega
  | f + 1, v, r, h0, h => by
    have e : (128 : Int) ^ (f + 2) = 128 ^ (f + 1) * 128 := Int.pow_succ _ _
    by_cases hb : 127 < v
    · obtain ⟨k, h1, h2, h3, h4, h5, h6, h7⟩ := bU_form f (v / 128) r (by omega) (by omega)
      have ek : (128 : Int) ^ (k + 1) = 128 ^ k * 128 := Int.pow_succ _ _
      have ek2 : (128 : Int) ^ (k + 2) = 128 ^ (k + 1) * 128 := Int.pow_succ _ _
      have hh : 128 ≤ v % 128 + 128 := by omega
      rw [bU, if_pos hb]
      have h8 : (128 : Int) ^ (k + 1) ≤ v := by
        rcases h6 with rfl | h6
        · simp; omega
        · omega
      refine ⟨k + 1, by omega, by simp [h2], ?_, ?_, by omega, .inr h8, ?_⟩
      · rw [List.cons_append, lead, if_pos hh, h3]
      · rw [List.cons_append, List.getD_cons_succ, h4, ek, Int.mul_comm, Int.ediv_ediv_of_nonneg (by omega)]
      · rw [jn, h7]; omega
    · have h1 : ¬ 128 ≤ v := by omega
      rw [bU, if_neg hb]
      refine ⟨0, by omega, by simp, by simp [lead, h1], by simp, by omega, .inl rfl, ?_⟩
      simp [jn]; omega

theorem bS_form : ∀ (f : Nat) (v : Int) (r : List Int), -64 * 128 ^ f ≤ v → v < 64 * 128 ^ f →
    ∃ k, k ≤ f ∧ (bS f v).length = k + 1 ∧ lead (bS f v ++ r) = k ∧ (bS f v ++ r).getD k 0 = v / 128 ^ k % 128 ∧ -64 * 128 ^ k ≤ v ∧ v < 64 * 128 ^ k ∧
      (k = 0 ∨ ∃ j, k = j + 1 ∧ (v < -64 * 128 ^ j ∨ 64 * 128 ^ j ≤ v)) ∧ jn (bS f v) = if v < 0 then v + 128 ^ (k + 1) else v
  | 0, v, r, h0, h => by
    have h1 : ¬ 128 ≤ v % 128 := by omega
    refine ⟨0, by omega, by simp [bS], by simp [bS, lead, h1], by simp [bS], h0, h, .inl rfl, ?_⟩
    simp [bS, jn]; split <;> omega
  | f + 1, v, r, h0, h => by
    have e : (128 : Int) ^ (f + 1) = 128 ^ f * 128 := Int.pow_succ _ _
    by_cases hb : -64 ≤ v ∧ v < 64
    · have h1 : ¬ 128 ≤ v % 128 := by omega
      rw [bS, if_pos hb]
      refine ⟨0, by omega, by simp, by simp [lead, h1], by simp, by omega, by omega, .inl rfl, ?_⟩
      simp [jn]; split <;> omega
    · obtain ⟨k, h1, h2, h3, h4, h5, h6, h7, h8⟩ := bS_form f (v / 128) r (by omega) (by omega)
      have ek : (128 : Int) ^ (k + 1) = 128 ^ k * 128 := Int.pow_succ _ _
      have ek2 : (128 : Int) ^ (k + 2) = 128 ^ (k + 1) * 128 := Int.pow_succ _ _
      have hh : 128 ≤ v % 128 + 128 := by omega
      rw [bS, if_neg hb]
      refine ⟨k + 1, by omega, by simp [h2], ?_, ?_, by omega, by omega, .inr ⟨k, rfl, ?_⟩, ?_⟩
      · rw [List.cons_append, lead, if_pos hh, h3]
      · rw [List.cons_append, List.getD_cons_succ, h4, ek, Int.mul_comm, Int.ediv_ediv_of_nonneg (by omega)]
      · rcases h7 with rfl | ⟨j, rfl, h7⟩
        · omega
        · have ej : (128 : Int) ^ (j + 1) = 128 ^ j * 128 := Int.pow_succ _ _
          omega
      · rw [jn, h8, ek2]
        by_cases hn : v < 0
        · rw [if_pos (by omega), if_pos hn]; omega
        · rw [if_neg (by omega), if_neg hn]; omega

theorem take_len (l r : List Int) (k : Nat) (h : l.length = k + 1) : (l ++ r).take (k + 1) = l := by
  rw [← h]; simp

theorem small (k : Nat) (h : k ≤ 10) : k = 0 ∨ k = 1 ∨ k = 2 ∨ k = 3 ∨ k = 4 ∨ k = 5 ∨ k = 6 ∨ k = 7 ∨ k = 8 ∨ k = 9 ∨ k = 10 := by omega

theorem back_U64 (v : Int) (r : List Int) (h0 : 0 ≤ v) (hv : v < 18446744073709551616) :
    tuE (bU 10 v ++ r) 64 = 0 ∧ tuV (bU 10 v ++ r) 64 = v ∧ tuN (bU 10 v ++ r) 64 = ((bU 10 v).length : Int) := by
  obtain ⟨k, h1, h2, h3, h4, h5, h6, h7⟩ := bU_form 10 v r h0 (by omega)
  have hE : tuE (bU 10 v ++ r) 64 = 0 := by
    have hk : k ≤ 9 := by
      rcases h6 with h6 | h6
      · omega
      · rcases small k h1 with rfl | rfl | rfl | rfl | rfl | rfl | rfl | rfl | rfl | rfl | rfl <;> omega
    have hc : cntE (bU 10 v ++ r) 64 = 0 := (cnt_ok _ 64 (by omega) (by omega) (by rw [h3]; unfold mb; omega) (by rw [h3]; simp [h2]; omega)).1
    unfold tuE
    rw [if_pos hc, h3, h4, if_pos]
    clear hc h1 h2 h3 h4 h7
    rcases small k (by omega) with rfl | rfl | rfl | rfl | rfl | rfl | rfl | rfl | rfl | rfl | rfl <;> simp <;> omega
  refine ⟨hE, ?_, ?_⟩
  · unfold tuV; rw [if_pos hE, h3, take_len _ _ k h2, h7]; omega
  · unfold tuN; rw [if_pos hE, h3, h2]; omega
theorem back_U32 (v : Int) (r : List Int) (h0 : 0 ≤ v) (hv : v < 18446744073709551616) :
    (v < 4294967296 → tuE (bU 10 v ++ r) 32 = 0 ∧ tuV (bU 10 v ++ r) 32 = v) ∧ (4294967296 ≤ v → tuE (bU 10 v ++ r) 32 = 6) := by
  obtain ⟨k, h1, h2, h3, h4, h5, h6, h7⟩ := bU_form 10 v r h0 (by omega)
  have hl : lead (bU 10 v ++ r) < (bU 10 v ++ r).length := by rw [h3]; simp [h2]; omega
  constructor
  · intro hlt
    have hk : k ≤ 4 := by
      rcases h6 with h6 | h6
      · omega
      · rcases small k h1 with rfl | rfl | rfl | rfl | rfl | rfl | rfl | rfl | rfl | rfl | rfl <;> omega
    have hc : cntE (bU 10 v ++ r) 32 = 0 := (cnt_ok _ 32 (by omega) (by omega) (by rw [h3]; unfold mb; omega) hl).1
    have hE : tuE (bU 10 v ++ r) 32 = 0 := by
      unfold tuE
      rw [if_pos hc, h3, h4, if_pos]
      clear hc h1 h2 h3 h4 h7 hl
      rcases small k (by omega) with rfl | rfl | rfl | rfl | rfl | rfl | rfl | rfl | rfl | rfl | rfl <;> simp <;> omega
    exact ⟨hE, by unfold tuV; rw [if_pos hE, h3, take_len _ _ k h2, h7]; omega⟩
  · intro hge
    by_cases hk : k ≤ 4
    · have hc : cntE (bU 10 v ++ r) 32 = 0 := (cnt_ok _ 32 (by omega) (by omega) (by rw [h3]; unfold mb; omega) hl).1
      unfold tuE
      rw [if_pos hc, h3, h4, if_neg]
      clear hc h1 h2 h3 h4 h7 hl
      rcases small k (by omega) with rfl | rfl | rfl | rfl | rfl | rfl | rfl | rfl | rfl | rfl | rfl <;> simp <;> omega
    · have hc := (cnt_mal (bU 10 v ++ r) 32 (by omega) (by omega) (by rw [h3]; unfold mb; omega)).1
      unfold tuE; rw [if_neg (by rw [hc]; decide), hc]

theorem sg_last (v : Int) (k : Nat) (h1 : -64 * 128 ^ k ≤ v) (h2 : v < 64 * 128 ^ k) : sg (v / 128 ^ k % 128) = v / 128 ^ k := by
  have hp : (0 : Int) < 128 ^ k := Int.pow_pos (by omega)
  have a : -64 ≤ v / 128 ^ k := (Int.le_ediv_iff_mul_le hp).2 h1
  have b : v / 128 ^ k < 64 := (Int.ediv_lt_iff_lt_mul hp).2 h2
  unfold sg; split <;> omega
theorem neg_iff (v : Int) (k : Nat) : v / 128 ^ k < 0 ↔ v < 0 := by
  have hp : (0 : Int) < 128 ^ k := Int.pow_pos (by omega)
  constructor
  · intro h
    rcases Int.lt_or_le v 0 with h1 | h1
    · exact h1
    · have := Int.ediv_nonneg h1 (Int.le_of_lt hp); omega
  · intro h; exact Int.ediv_neg_of_neg_of_pos h hp
theorem tsV_of (v n : Int) (r : List Int) (k : Nat) (h2 : (bS 10 v).length = k + 1) (h3 : lead (bS 10 v ++ r) = k) (h4 : (bS 10 v ++ r).getD k 0 = v / 128 ^ k % 128) (h5 : -64 * 128 ^ k ≤ v) (h6 : v < 64 * 128 ^ k)
    (h8 : jn (bS 10 v) = if v < 0 then v + 128 ^ (k + 1) else v) (hE : tsE (bS 10 v ++ r) n = 0) (hv0 : -9223372036854775808 ≤ v) (hv : v < 9223372036854775808) : tsV (bS 10 v ++ r) n = v := by
  unfold tsV
  rw [if_pos hE, h3, h4, sg_last v k h5 h6, take_len _ _ k h2, h8, IntKind.wrap_i64]
  by_cases hn : v < 0
  · rw [if_pos hn, if_pos ((neg_iff v k).2 hn)]; omega
  · rw [if_neg hn, if_neg (fun h => hn ((neg_iff v k).1 h))]; omega

theorem back_S64 (v : Int) (r : List Int) (h0 : -9223372036854775808 ≤ v) (hv : v < 9223372036854775808) :
    tsE (bS 10 v ++ r) 64 = 0 ∧ tsV (bS 10 v ++ r) 64 = v ∧ tsN (bS 10 v ++ r) 64 = ((bS 10 v).length : Int) := by
  obtain ⟨k, h1, h2, h3, h4, h5, h6, h7, h8⟩ := bS_form 10 v r (by omega) (by omega)
  have hE : tsE (bS 10 v ++ r) 64 = 0 := by
    have hk : k ≤ 9 := by
      rcases h7 with h7 | ⟨j, rfl, h7⟩
      · omega
      · rcases small j (by omega) with rfl | rfl | rfl | rfl | rfl | rfl | rfl | rfl | rfl | rfl | rfl <;> omega
    have hc : cntE (bS 10 v ++ r) 64 = 0 := (cnt_ok _ 64 (by omega) (by omega) (by rw [h3]; unfold mb; omega) (by rw [h3]; simp [h2]; omega)).1
    unfold tsE
    rw [if_pos hc, h3, h4, sg_last v k h5 h6, if_pos]
    clear hc h1 h2 h3 h4 h7 h8
    rcases small k (by omega) with rfl | rfl | rfl | rfl | rfl | rfl | rfl | rfl | rfl | rfl | rfl <;> simp <;> omega
  refine ⟨hE, tsV_of v 64 r k h2 h3 h4 h5 h6 h8 hE h0 hv, ?_⟩
  unfold tsN; rw [if_pos hE, h3, h2]; omega
theorem back_S32 (v : Int) (r : List Int) (h0 : -9223372036854775808 ≤ v) (hv : v < 9223372036854775808) :
    (-2147483648 ≤ v ∧ v < 2147483648 → tsE (bS 10 v ++ r) 32 = 0 ∧ tsV (bS 10 v ++ r) 32 = v) ∧ (¬ (-2147483648 ≤ v ∧ v < 2147483648) → tsE (bS 10 v ++ r) 32 = 6) := by
  obtain ⟨k, h1, h2, h3, h4, h5, h6, h7, h8⟩ := bS_form 10 v r (by omega) (by omega)
  have hl : lead (bS 10 v ++ r) < (bS 10 v ++ r).length := by rw [h3]; simp [h2]; omega
  constructor
  · intro hlt
    have hk : k ≤ 4 := by
      rcases h7 with h7 | ⟨j, rfl, h7⟩
      · omega
      · rcases small j (by omega) with rfl | rfl | rfl | rfl | rfl | rfl | rfl | rfl | rfl | rfl | rfl <;> omega
    have hc : cntE (bS 10 v ++ r) 32 = 0 := (cnt_ok _ 32 (by omega) (by omega) (by rw [h3]; unfold mb; omega) hl).1
    have hE : tsE (bS 10 v ++ r) 32 = 0 := by
      unfold tsE
      rw [if_pos hc, h3, h4, sg_last v k h5 h6, if_pos]
      clear hc h1 h2 h3 h4 h7 h8 hl
      rcases small k (by omega) with rfl | rfl | rfl | rfl | rfl | rfl | rfl | rfl | rfl | rfl | rfl <;> simp <;> omega
    exact ⟨hE, tsV_of v 32 r k h2 h3 h4 h5 h6 h8 hE h0 hv⟩
  · intro hge
    by_cases hk : k ≤ 4
    · have hc : cntE (bS 10 v ++ r) 32 = 0 := (cnt_ok _ 32 (by omega) (by omega) (by rw [h3]; unfold mb; omega) hl).1
      unfold tsE
      rw [if_pos hc, h3, h4, sg_last v k h5 h6, if_neg]
      clear hc h1 h2 h3 h4 h7 h8 hl
      rcases small k (by omega) with rfl | rfl | rfl | rfl | rfl | rfl | rfl | rfl | rfl | rfl | rfl <;> simp <;> omega
    · have hc := (cnt_mal (bS 10 v ++ r) 32 (by omega) (by omega) (by rw [h3]; unfold mb; omega)).1
      unfold tsE; rw [if_neg (by rw [hc]; decide), hc]
end Leb
end Go.Proofs.YtjhmglefejclpaaDoor
