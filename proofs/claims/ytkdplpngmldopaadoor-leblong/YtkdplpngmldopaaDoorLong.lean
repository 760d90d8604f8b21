/- Plain mathematics: numbers told in more bytes than they need. -/
import Derived.Test.YtkdplpngmldopaaDoorMath3
namespace Go.Proofs.YtkdplpngmldopaaDoor
namespace Leb

theorem lead_all : ∀ (l r : List Int), (∀ z ∈ l, 128 ≤ z) → lead (l ++ r) = l.length + lead r
  | [], r, _ => by simp
  | z :: l, r, h => by
    have h1 : 128 ≤ z := h z (by simp)
    have := lead_all l r (fun y hy => h y (by simp [hy]))
    rw [List.cons_append, lead, if_pos h1, this, List.length_cons]; omega
theorem jn_append : ∀ (l r : List Int), jn (l ++ r) = jn l + 128 ^ l.length * jn r
  | [], r => by simp [jn]
  | z :: l, r => by
    have := jn_append l r
    have e : (128 : Int) ^ (l.length + 1) = 128 ^ l.length * 128 := Int.pow_succ _ _
    simp only [List.cons_append, jn, List.length_cons, this, e, Int.mul_add, Int.mul_assoc]
    rw [Int.mul_left_comm]; omega
theorem jn_rep (k : Nat) : jn (List.replicate k 128) = 0 := by
  induction k with
  | zero => simp [jn]
  | succ k ih => rw [List.replicate_succ, jn, ih]; rfl

/-- the number's bytes, the last one with the bit 128 too -/
def dU (v : Int) (p : Nat) : List Int := (bU 10 v).set p (v / 128 ^ p % 128 + 128)
theorem bU_p (v : Int) (h0 : 0 ≤ v) (hv : v < 4294967296) : ∃ p, p ≤ 4 ∧ (bU 10 v).length = p + 1 ∧ (bU 10 v).getD p 0 = v / 128 ^ p ∧ 0 ≤ v / 128 ^ p ∧ v / 128 ^ p < 128 ∧
    (dU v p).length = p + 1 ∧ (∀ z ∈ dU v p, 128 ≤ z ∧ z ≤ 255) ∧ jn (dU v p) = v := by
  obtain ⟨p, h1, h2, h3, h4, h5, h6, h7⟩ := bU_form 10 v [] h0 (by omega)
  rw [List.append_nil] at h3 h4
  have hp : p ≤ 4 := by
    rcases h6 with h6 | h6
    · omega
    · rcases small p h1 with rfl | rfl | rfl | rfl | rfl | rfl | rfl | rfl | rfl | rfl | rfl <;> omega
  have hpp : (0 : Int) < 128 ^ p := Int.pow_pos (by omega)
  have ep : (128 : Int) ^ (p + 1) = 128 ^ p * 128 := Int.pow_succ _ _
  have hq0 : 0 ≤ v / 128 ^ p := Int.ediv_nonneg h0 (Int.le_of_lt hpp)
  have hq1 : v / 128 ^ p < 128 := (Int.ediv_lt_iff_lt_mul hpp).2 (by omega)
  refine ⟨p, hp, h2, h4, hq0, hq1, by simp [dU, h2], ?_, ?_⟩
  · intro z hz
    unfold dU at hz
    obtain ⟨i, hi, rfl⟩ := List.getElem_of_mem hz
    have hi2 : i < p + 1 := by simpa [h2] using hi
    rw [List.getElem_set]
    split
    · omega
    · have hg := lead_ge (bU 10 v) i (by omega)
      have hb := bU_bytes 10 v h0 (by omega) (bU 10 v)[i] (List.getElem_mem _)
      rw [List.getD, List.getElem?_eq_getElem (by omega)] at hg
      simp at hg
      omega
  · have e1 : bU 10 v = (bU 10 v).take p ++ [v / 128 ^ p] := by
      rw [← h4, ← take_snoc _ p (by omega), List.take_of_length_le (by omega)]
    have e2 : dU v p = (bU 10 v).take p ++ [v / 128 ^ p % 128 + 128] := by
      unfold dU
      rw [List.set_eq_take_append_cons_drop, if_pos (by omega), List.drop_of_length_le (by omega)]
    have e3 : jn (bU 10 v) = jn ((bU 10 v).take p ++ [v / 128 ^ p]) := congrArg jn e1
    rw [e2, jn_snoc]
    rw [h7, jn_snoc] at e3
    rw [show (v / 128 ^ p % 128 + 128) % 128 = v / 128 ^ p % 128 from by omega]
    exact e3.symm

theorem long_in (v : Int) (p K : Nat) (h0 : 0 ≤ v) (hv : v < 4294967296) (hlen : (dU v p).length = p + 1) (hby : ∀ z ∈ dU v p, 128 ≤ z ∧ z ≤ 255) (hj : jn (dU v p) = v) (hn : p + 1 + K ≤ 4) :
    tuE (dU v p ++ List.replicate K 128) 32 = 4 ∧ tuE (dU v p ++ List.replicate K 128 ++ [0]) 32 = 0 ∧ tuV (dU v p ++ List.replicate K 128 ++ [0]) 32 = v ∧ tuN (dU v p ++ List.replicate K 128 ++ [0]) 32 = ((p + 1 + K + 1 : Nat) : Int) := by
  have hall : ∀ z ∈ dU v p ++ List.replicate K 128, (128 : Int) ≤ z := by
    intro z hz
    rcases List.mem_append.1 hz with h | h
    · exact (hby z h).1
    · have := (List.mem_replicate.1 h).2; omega
  have hl : (dU v p ++ List.replicate K 128).length = p + 1 + K := by simp [hlen]
  have l1 : lead (dU v p ++ List.replicate K 128) = p + 1 + K := by
    have := lead_all (dU v p ++ List.replicate K 128) [] hall
    rw [List.append_nil, hl] at this; simpa [lead] using this
  have l2 : lead (dU v p ++ List.replicate K 128 ++ [0]) = p + 1 + K := by
    have := lead_all (dU v p ++ List.replicate K 128) [0] hall
    rw [hl] at this; simpa [lead] using this
  have hl2 : (dU v p ++ List.replicate K 128 ++ [0]).length = p + 1 + K + 1 := by rw [List.length_append, hl]; rfl
  have c1 := cnt_end (dU v p ++ List.replicate K 128) 32 (by omega) (by omega) (by rw [l1]; unfold mb; omega) (by rw [l1, hl])
  have c2 := cnt_ok (dU v p ++ List.replicate K 128 ++ [0]) 32 (by omega) (by omega) (by rw [l2]; unfold mb; omega) (by rw [l2, hl2]; omega)
  have g0 : (dU v p ++ List.replicate K 128 ++ [0]).getD (p + 1 + K) 0 = 0 := by
    rw [List.getD, List.getElem?_append_right (by omega), hl]; simp
  have e1 : tuE (dU v p ++ List.replicate K 128) 32 = 4 := by unfold tuE; rw [if_neg (by rw [c1.1]; decide), c1.1]
  have e2 : tuE (dU v p ++ List.replicate K 128 ++ [0]) 32 = 0 := by
    unfold tuE; rw [if_pos c2.1, l2, g0, if_pos (by simp)]
  refine ⟨e1, e2, ?_, ?_⟩
  · unfold tuV
    rw [if_pos e2, l2, List.take_of_length_le (by omega), jn_append, jn_append, hj, jn_rep]
    simp [jn]; omega
  · unfold tuN; rw [if_pos e2, l2]; omega
theorem long_out (v : Int) (p K : Nat) (hlen : (dU v p).length = p + 1) (hby : ∀ z ∈ dU v p, 128 ≤ z ∧ z ≤ 255) (hn : 5 ≤ p + 1 + K) :
    tuE (dU v p ++ List.replicate K 128 ++ [0]) 32 = 6 := by
  have hall : ∀ z ∈ dU v p ++ List.replicate K 128, (128 : Int) ≤ z := by
    intro z hz
    rcases List.mem_append.1 hz with h | h
    · exact (hby z h).1
    · have := (List.mem_replicate.1 h).2; omega
  have hl : (dU v p ++ List.replicate K 128).length = p + 1 + K := by simp [hlen]
  have l2 : lead (dU v p ++ List.replicate K 128 ++ [0]) = p + 1 + K := by
    have := lead_all (dU v p ++ List.replicate K 128) [0] hall
    rw [hl] at this; simpa [lead] using this
  have c := (cnt_mal (dU v p ++ List.replicate K 128 ++ [0]) 32 (by omega) (by omega) (by rw [l2]; unfold mb; omega)).1
  unfold tuE; rw [if_neg (by rw [c]; decide), c]
end Leb
end Go.Proofs.YtkdplpngmldopaaDoor
