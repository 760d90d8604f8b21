/- The document's negative, away, less, made: what they return; a number of its bits. -/
import Derived.Test.YtkmigcegeffonaaDoorRefO
import Derived.Test.YtkmigcegeffonaaDoorNumPm
namespace Go.Proofs.YtkmigcegeffonaaDoor
open Go.RowKit Num
set_option linter.unusedVariables false

namespace Num
def ngB (W : Nat) (X : Int) : Bool := decide (hf W ≤ X)
def aw (W : Nat) (X : Int) : Int := if hf W ≤ X then pw W - X else X
theorem bt_top (W : Nat) (hW : W = 32 ∨ W = 64) (X : Int) (h0 : 0 ≤ X) (h1 : X < pw W) : bt X (W - 1) = ngB W X := by
  unfold bt ngB
  rcases hW with rfl | rfl
  · simp only [pw_32, hf_32] at *
    rw [show (2 : Int) ^ (32 - 1) = 2147483648 from rfl]
    by_cases h : 2147483648 ≤ X
    · rw [show X / 2147483648 % 2 = 1 by omega]; simp [h]
    · rw [show X / 2147483648 % 2 = 0 by omega]; simp [h]
  · simp only [pw_64, hf_64] at *
    rw [show (2 : Int) ^ (64 - 1) = 9223372036854775808 from rfl]
    by_cases h : 9223372036854775808 ≤ X
    · rw [show X / 9223372036854775808 % 2 = 1 by omega]; simp [h]
    · rw [show X / 9223372036854775808 % 2 = 0 by omega]; simp [h]
theorem aw_bd (W : Nat) (hW : W = 32 ∨ W = 64) (X : Int) (h0 : 0 ≤ X) (h1 : X < pw W) : 0 ≤ aw W X ∧ aw W X ≤ hf W := by
  unfold aw
  by_cases h : hf W ≤ X
  · rw [if_pos h]; rcases hW with rfl | rfl <;> simp only [pw_32, hf_32, pw_64, hf_64] at * <;> omega
  · rw [if_neg h]; rcases hW with rfl | rfl <;> simp only [pw_32, hf_32, pw_64, hf_64] at * <;> omega
theorem aw_low (W : Nat) (hW : W = 32 ∨ W = 64) (X : Int) (h0 : 0 ≤ X) (h1 : X < pw W) (h : hf W ≤ X) : lo W (IntKind.u64.wrap (-X)) = pw W - X := by
  rw [lo_u64 W hW]
  unfold lo
  rcases hW with rfl | rfl <;> simp only [pw_32, hf_32, pw_64, hf_64] at * <;> omega
theorem sg_ng (W : Nat) (hW : W = 32 ∨ W = 64) (X : Int) (h0 : 0 ≤ X) (h1 : X < pw W) : sg W X = if hf W ≤ X then X - pw W else X := by
  unfold sg
  by_cases h : hf W ≤ X
  · rw [if_pos h]; rcases hW with rfl | rfl <;> simp only [pw_32, hf_32, pw_64, hf_64] at * <;> omega
  · rw [if_neg h]; rcases hW with rfl | rfl <;> simp only [pw_32, hf_32, pw_64, hf_64] at * <;> omega
end Num

set_option maxHeartbeats 400000 in
theorem negative_any (W : Nat) (hW : W = 32 ∨ W = 64) (X : Int) (w : World) (h0 : 0 ≤ X) (h1 : X < pw W) :
    Calls Tryd.prog 44 #[.int .u64 X, .int .i64 W] w fun e w' => e = .returned (.bool (ngB W X)) ∧ w = w' := by
  have h2 := bt_top W hW X h0 h1
  have h3 := pw_le W hW
  have hb := fun wx => bit_any X (W - 1) wx h0 (by omega) (by omega)
  rw [h2] at hb
  have HB := hide hb; clear hb h2
  rcases hW with rfl | rfl
  all_goals
    go_enter Tryd.func44, Tryd.ntmps44
    go_wp2_with fail
    refine (unhide HB _).mono ?_
    rintro e w1 ⟨rfl, rfl⟩
    go_wp2
    go_ret
    exact ⟨rfl, rfl⟩

set_option maxHeartbeats 400000 in
theorem away_any (W : Nat) (hW : W = 32 ∨ W = 64) (X : Int) (w : World) (h0 : 0 ≤ X) (h1 : X < pw W) :
    Calls Tryd.prog 43 #[.int .u64 X, .int .i64 W] w fun e w' => e = .returned (.int .u64 (aw W X)) ∧ w = w' := by
  have hn := fun wx => negative_any W hW X wx h0 h1
  have hu := u64_bd (-X)
  have hl := fun wx => low_any W hW (IntKind.u64.wrap (-X)) wx hu.1 hu.2
  by_cases h : hf W ≤ X
  · rw [show ngB W X = true by unfold ngB; simp [h]] at hn
    rw [aw_low W hW X h0 h1 h] at hl
    rw [show aw W X = pw W - X by unfold aw; rw [if_pos h]]
    have HN := hide hn; have HL := hide hl; clear hn hl
    have HH := hide h; have H1 := hide h1; clear h h1
    generalize pw W - X = A at *
    go_enter Tryd.func43, Tryd.ntmps43
    go_wp2_with fail
    refine (unhide HN _).mono ?_
    rintro e w1 ⟨rfl, rfl⟩
    go_wp2_with fail
    refine (unhide HL _).mono ?_
    rintro e w1 ⟨rfl, rfl⟩
    go_wp2
    go_ret
    exact ⟨rfl, rfl⟩
  · rw [show ngB W X = false by unfold ngB; simp only [decide_eq_false_iff_not]; exact h] at hn
    rw [show aw W X = X by unfold aw; rw [if_neg h]]
    have HN := hide hn; clear hn hl
    have HH := hide h; have H1 := hide h1; clear h h1
    go_enter Tryd.func43, Tryd.ntmps43
    go_wp2_with fail
    refine (unhide HN _).mono ?_
    rintro e w1 ⟨rfl, rfl⟩
    go_wp2
    go_ret
    exact ⟨rfl, rfl⟩

set_option maxHeartbeats 800000 in
theorem less_any (W : Nat) (hW : W = 32 ∨ W = 64) (X Y : Int) (w : World) (h0 : 0 ≤ X) (h1 : X < pw W) (h2 : 0 ≤ Y) (h3 : Y < pw W) :
    Calls Tryd.prog 42 #[.int .u64 X, .int .u64 Y, .int .i64 W] w fun e w' => e = .returned (.bool (decide (sg W X < sg W Y))) ∧ w = w' := by
  have hx := fun wx => negative_any W hW X wx h0 h1
  have hy := fun wx => negative_any W hW Y wx h2 h3
  have sx := sg_ng W hW X h0 h1
  have sy := sg_ng W hW Y h2 h3
  by_cases a : hf W ≤ X <;> by_cases b : hf W ≤ Y
  · rw [show ngB W X = true by unfold ngB; simp [a]] at hx
    rw [show ngB W Y = true by unfold ngB; simp [b]] at hy
    rw [if_pos a] at sx; rw [if_pos b] at sy
    rw [show decide (sg W X < sg W Y) = decide (X < Y) by rw [sx, sy]; rw [decide_eq_decide]; omega]
    have HX := hide hx; have HY := hide hy; clear hx hy a b sx sy h1 h3
    go_enter Tryd.func42, Tryd.ntmps42
    go_wp2_with fail
    refine (unhide HX _).mono ?_
    rintro e w1 ⟨rfl, rfl⟩
    go_wp2_with fail
    refine (unhide HY _).mono ?_
    rintro e w1 ⟨rfl, rfl⟩
    go_wp2
    go_ret
    exact ⟨rfl, rfl⟩
  · rw [show ngB W X = true by unfold ngB; simp [a]] at hx
    rw [show ngB W Y = false by unfold ngB; simp only [decide_eq_false_iff_not]; exact b] at hy
    rw [if_pos a] at sx; rw [if_neg b] at sy
    rw [show decide (sg W X < sg W Y) = true by rw [sx, sy]; rw [decide_eq_true_eq]; omega]
    have HX := hide hx; have HY := hide hy; clear hx hy a b sx sy h1 h3
    go_enter Tryd.func42, Tryd.ntmps42
    go_wp2_with fail
    refine (unhide HX _).mono ?_
    rintro e w1 ⟨rfl, rfl⟩
    go_wp2_with fail
    refine (unhide HY _).mono ?_
    rintro e w1 ⟨rfl, rfl⟩
    go_wp2_with fail
    refine (unhide HX _).mono ?_
    rintro e w1 ⟨rfl, rfl⟩
    go_wp2
    go_ret
    exact ⟨rfl, rfl⟩
  · rw [show ngB W X = false by unfold ngB; simp only [decide_eq_false_iff_not]; exact a] at hx
    rw [show ngB W Y = true by unfold ngB; simp [b]] at hy
    rw [if_neg a] at sx; rw [if_pos b] at sy
    rw [show decide (sg W X < sg W Y) = false by rw [sx, sy]; rw [decide_eq_false_iff_not]; omega]
    have HX := hide hx; have HY := hide hy; clear hx hy a b sx sy h1 h3
    go_enter Tryd.func42, Tryd.ntmps42
    go_wp2_with fail
    refine (unhide HX _).mono ?_
    rintro e w1 ⟨rfl, rfl⟩
    go_wp2_with fail
    refine (unhide HY _).mono ?_
    rintro e w1 ⟨rfl, rfl⟩
    go_wp2_with fail
    refine (unhide HX _).mono ?_
    rintro e w1 ⟨rfl, rfl⟩
    go_wp2
    go_ret
    exact ⟨rfl, rfl⟩
  · rw [show ngB W X = false by unfold ngB; simp only [decide_eq_false_iff_not]; exact a] at hx
    rw [show ngB W Y = false by unfold ngB; simp only [decide_eq_false_iff_not]; exact b] at hy
    rw [if_neg a] at sx; rw [if_neg b] at sy
    rw [show decide (sg W X < sg W Y) = decide (X < Y) by rw [sx, sy]]
    have HX := hide hx; have HY := hide hy; clear hx hy a b sx sy h1 h3
    go_enter Tryd.func42, Tryd.ntmps42
    go_wp2_with fail
    refine (unhide HX _).mono ?_
    rintro e w1 ⟨rfl, rfl⟩
    go_wp2_with fail
    refine (unhide HY _).mono ?_
    rintro e w1 ⟨rfl, rfl⟩
    go_wp2
    go_ret
    exact ⟨rfl, rfl⟩

namespace Num
/-- a number of bits, that of place 0 first -/
def mk : List Bool → Nat
  | [] => 0
  | b :: l => b.toNat + 2 * mk l
theorem mk_lt : ∀ l : List Bool, mk l < 2 ^ l.length
  | [] => by simp [mk]
  | b :: l => by
    have := mk_lt l
    simp only [mk, List.length_cons, Nat.pow_succ]
    cases b <;> simp <;> omega
theorem mk_bit : ∀ (l : List Bool) (k : Nat), (mk l).testBit k = l.getD k false
  | [], k => by simp [mk]
  | b :: l, 0 => by
    simp only [mk, Nat.testBit_zero, List.getD_cons_zero]
    cases b <;> simp <;> omega
  | b :: l, k + 1 => by
    simp only [mk, Nat.testBit_succ, List.getD_cons_succ]
    rw [← mk_bit l k]
    congr 1
    cases b <;> simp <;> omega
theorem mk_drop (l : List Bool) (k : Nat) (h : k < l.length) : mk (l.drop k) = (l.getD k false).toNat + 2 * mk (l.drop (k + 1)) := by
  rw [List.drop_eq_getElem_cons h]
  simp [mk, List.getD, h]
/-- a number is what its bits make -/
theorem mk_eq (W : Nat) (f : Nat → Bool) (N : Nat) (hN : N < 2 ^ W) (h : ∀ k, k < W → N.testBit k = f k) : mk ((List.range W).map f) = N := by
  apply Nat.eq_of_testBit_eq
  intro k
  rw [mk_bit]
  by_cases hk : k < W
  · rw [h k hk]; simp [List.getD, hk]
  · rw [Nat.testBit_lt_two_pow (Nat.lt_of_lt_of_le hN (Nat.pow_le_pow_right (by omega) (by omega)))]
    simp [List.getD, hk]
end Num

set_option maxHeartbeats 800000 in
theorem made_any (g n cap : Nat) (bs : List Bool) (w : World) (hl : bs.length = n) (hn : n ≤ 64) (hc : n ≤ cap) (hcell : ∀ j, j < n → w.cell? ⟨g, j, none⟩ = some (.bool (bs.getD j false))) :
    Calls Tryd.prog 35 #[.slice (some ⟨g, 0, none⟩) n cap] w fun e w' => e = .returned (.int .u64 (Num.mk bs : Nat)) ∧ w = w' := by
  have HC := hide hcell; clear hcell
  have HL := hide hl; clear hl
  go_enter Tryd.func35, Tryd.ntmps35
  go_wp2_with fail
  go_loop [3, 4] (fun c d => ∃ (k : Nat), c = .int .u64 ((Num.mk (bs.drop k) : Nat) : Int) ∧ d = .int .i64 ((k : Int) - 1) ∧ k ≤ n) (fun _ d => (intOf d + 1).toNat)
  case atStart => exact ⟨n, by rw [← unhide HL, List.drop_length]; rfl, rfl, Nat.le_refl _⟩
  case round =>
    obtain ⟨k, rfl, rfl, hk⟩ := hrel
    cases k with
    | zero =>
      go_wp2
      go_ret
      exact ⟨rfl, rfl⟩
    | succ k =>
      rw [show (((k + 1 : Nat) : Int) - 1) = (k : Int) by omega]
      have hd := mk_drop bs k (by rw [unhide HL]; omega)
      have hlt := mk_lt (bs.drop k)
      have hlt2 : Num.mk (bs.drop k) < 2 ^ 64 := Nat.lt_of_lt_of_le hlt (Nat.pow_le_pow_right (by omega) (by have := unhide HL; rw [List.length_drop]; omega))
      have hcl := unhide HC k (by omega)
      generalize hA : Num.mk (bs.drop (k + 1)) = A at *
      cases hb : bs.getD k false
      · rw [hb] at hd hcl
        have hm : Num.mk (bs.drop k) = 2 * A := by simpa using hd
        have HM := hide hm; have HA := hide hA
        have h64 : 2 * A < 18446744073709551616 := by omega
        clear hd hm hb hlt hlt2 hA
        go_wp2
        go_round
        case rel => exact ⟨k, by rw [unhide HM]; congr 1, by simp, by omega⟩
        case measure => simp [intOf]
      · rw [hb] at hd hcl
        have hm : Num.mk (bs.drop k) = 2 * A + 1 := by simp at hd; omega
        have HM := hide hm; have HA := hide hA
        have h64 : 2 * A + 1 < 18446744073709551616 := by omega
        clear hd hm hb hlt hlt2 hA
        go_wp2
        go_round
        case rel => exact ⟨k, by rw [unhide HM]; congr 1, by simp, by omega⟩
        case measure => simp [intOf]
end Go.Proofs.YtkmigcegeffonaaDoor
