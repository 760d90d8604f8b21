/- mandrelref02.Name: what it returns. -/
import Derived.Test.YtglehoekehiaiaaGreatDoorK18
namespace Go.Proofs.YtglehoekehiaiaaGreatDoor
open Go.RowKit
set_option linter.unusedVariables false
set_option linter.unusedSimpArgs false
set_option maxRecDepth 100000
set_option maxHeartbeats 32000000
theorem nam_69 (k : Nat) (hk : k < 11) (w : World) :
    Calls Tryz.prog 89 #[.int .u8 (69 + (k : Int))] w fun e w' => e = .returned (.tuple #[.string (str (q3.getD k [])), .int .i64 32]) ∧ Below w.heap.size w w' := by
  go_enter Tryz.func89, Tryz.ntmps89
  go_wp2
  go_ret2
  exact ⟨ret_t2 (lkp q3 _ k (by simpa using hk) rfl), below3 _ _ _ _⟩
theorem nam_80 (k : Nat) (hk : k < 11) (w : World) :
    Calls Tryz.prog 89 #[.int .u8 (80 + (k : Int))] w fun e w' => e = .returned (.tuple #[.string (str (q3.getD k [])), .int .i64 64]) ∧ Below w.heap.size w w' := by
  go_enter Tryz.func89, Tryz.ntmps89
  go_wp2
  go_ret2
  exact ⟨ret_t2 (lkp q3 _ k (by simpa using hk) rfl), below3 _ _ _ _⟩
theorem nam_103 (k : Nat) (hk : k < 3) (w : World) :
    Calls Tryz.prog 89 #[.int .u8 (103 + (k : Int))] w fun e w' => e = .returned (.tuple #[.string (str (q1.getD k [])), .int .i64 32]) ∧ Below w.heap.size w w' := by
  go_enter Tryz.func89, Tryz.ntmps89
  go_wp2
  go_ret2
  exact ⟨ret_t2 (lkp q1 _ k (by simpa using hk) rfl), below3 _ _ _ _⟩
theorem nam_106 (k : Nat) (hk : k < 15) (w : World) :
    Calls Tryz.prog 89 #[.int .u8 (106 + (k : Int))] w fun e w' => e = .returned (.tuple #[.string (str (q2.getD k [])), .int .i64 32]) ∧ Below w.heap.size w w' := by
  go_enter Tryz.func89, Tryz.ntmps89
  go_wp2
  go_ret2
  exact ⟨ret_t2 (lkp q2 _ k (by simpa using hk) rfl), below3 _ _ _ _⟩
theorem nam_121 (k : Nat) (hk : k < 3) (w : World) :
    Calls Tryz.prog 89 #[.int .u8 (121 + (k : Int))] w fun e w' => e = .returned (.tuple #[.string (str (q1.getD k [])), .int .i64 64]) ∧ Below w.heap.size w w' := by
  go_enter Tryz.func89, Tryz.ntmps89
  go_wp2
  go_ret2
  exact ⟨ret_t2 (lkp q1 _ k (by simpa using hk) rfl), below3 _ _ _ _⟩
theorem nam_124 (k : Nat) (hk : k < 15) (w : World) :
    Calls Tryz.prog 89 #[.int .u8 (124 + (k : Int))] w fun e w' => e = .returned (.tuple #[.string (str (q2.getD k [])), .int .i64 64]) ∧ Below w.heap.size w w' := by
  go_enter Tryz.func89, Tryz.ntmps89
  go_wp2
  go_ret2
  exact ⟨ret_t2 (lkp q2 _ k (by simpa using hk) rfl), below3 _ _ _ _⟩
theorem nam_167 (w : World) :
    Calls Tryz.prog 89 #[.int .u8 167] w fun e w' => e = .returned (.tuple #[.string (str [119, 114, 97, 112]), .int .i64 64]) ∧ Below w.heap.size w w' := by
  go_enter Tryz.func89, Tryz.ntmps89
  go_wp2
  go_ret2
  exact ⟨rfl, below3 _ _ _ _⟩
theorem nam_172 (w : World) :
    Calls Tryz.prog 89 #[.int .u8 172] w fun e w' => e = .returned (.tuple #[.string (str [101, 120, 116, 101, 110, 100, 95, 115]), .int .i64 32]) ∧ Below w.heap.size w w' := by
  go_enter Tryz.func89, Tryz.ntmps89
  go_wp2
  go_ret2
  exact ⟨rfl, below3 _ _ _ _⟩
theorem nam_173 (w : World) :
    Calls Tryz.prog 89 #[.int .u8 173] w fun e w' => e = .returned (.tuple #[.string (str [101, 120, 116, 101, 110, 100, 95, 117]), .int .i64 32]) ∧ Below w.heap.size w w' := by
  go_enter Tryz.func89, Tryz.ntmps89
  go_wp2
  go_ret2
  exact ⟨rfl, below3 _ _ _ _⟩
theorem nam_bad (n : Nat) (hb : n < 256) (h : n < 69 ∨ (90 < n ∧ n < 103) ∨ 138 < n) (hn : n ≠ 167 ∧ n ≠ 172 ∧ n ≠ 173) (w : World) :
    Calls Tryz.prog 89 #[.int .u8 n] w fun e w' => e = .returned (.tuple #[.string (str []), .int .i64 0]) ∧ Below w.heap.size w w' := by
  obtain ⟨n1, n2, n3⟩ := hn
  have t1 : ((n : Int) == 167) = false := by simp; omega
  have t2 : ((n : Int) == 172) = false := by simp; omega
  have t3 : ((n : Int) == 173) = false := by simp; omega
  clear n1 n2 n3
  rcases h with h | ⟨h, h2⟩ | h
  all_goals
    go_enter Tryz.func89, Tryz.ntmps89
    go_wp2
    go_ret2
    exact ⟨rfl, below3 _ _ _ _⟩
theorem nam_any (n : Nat) (hb : n < 256) (w : World) :
    Calls Tryz.prog 89 #[.int .u8 n] w fun e w' => e = .returned (.tuple #[.string (str (qn n).1), .int .i64 (qn n).2]) ∧ Below w.heap.size w w' := by
  by_cases g0 : 69 ≤ n ∧ n < 80
  · have := nam_69 (n - 69) (by omega) w
    rw [show (69 : Int) + ((n - 69 : Nat) : Int) = n by omega] at this
    rw [show qn n = (q3.getD (n - 69) [], 32) by unfold qn; rw [if_pos g0]]
    exact this
  by_cases g1 : 80 ≤ n ∧ n < 91
  · have := nam_80 (n - 80) (by omega) w
    rw [show (80 : Int) + ((n - 80 : Nat) : Int) = n by omega] at this
    rw [show qn n = (q3.getD (n - 80) [], 64) by unfold qn; rw [if_neg g0, if_pos g1]]
    exact this
  by_cases g2 : 103 ≤ n ∧ n < 106
  · have := nam_103 (n - 103) (by omega) w
    rw [show (103 : Int) + ((n - 103 : Nat) : Int) = n by omega] at this
    rw [show qn n = (q1.getD (n - 103) [], 32) by unfold qn; rw [if_neg g0, if_neg g1, if_pos g2]]
    exact this
  by_cases g3 : 106 ≤ n ∧ n < 121
  · have := nam_106 (n - 106) (by omega) w
    rw [show (106 : Int) + ((n - 106 : Nat) : Int) = n by omega] at this
    rw [show qn n = (q2.getD (n - 106) [], 32) by unfold qn; rw [if_neg g0, if_neg g1, if_neg g2, if_pos g3]]
    exact this
  by_cases g4 : 121 ≤ n ∧ n < 124
  · have := nam_121 (n - 121) (by omega) w
    rw [show (121 : Int) + ((n - 121 : Nat) : Int) = n by omega] at this
    rw [show qn n = (q1.getD (n - 121) [], 64) by unfold qn; rw [if_neg g0, if_neg g1, if_neg g2, if_neg g3, if_pos g4]]
    exact this
  by_cases g5 : 124 ≤ n ∧ n < 139
  · have := nam_124 (n - 124) (by omega) w
    rw [show (124 : Int) + ((n - 124 : Nat) : Int) = n by omega] at this
    rw [show qn n = (q2.getD (n - 124) [], 64) by unfold qn; rw [if_neg g0, if_neg g1, if_neg g2, if_neg g3, if_neg g4, if_pos g5]]
    exact this
  by_cases g6 : n = 167
  · subst g6; exact nam_167 w
  by_cases g7 : n = 172
  · subst g7; exact nam_172 w
  by_cases g8 : n = 173
  · subst g8; exact nam_173 w
  rw [show qn n = ([], 0) by unfold qn; rw [if_neg g0, if_neg g1, if_neg g2, if_neg g3, if_neg g4, if_neg g5, if_neg g6, if_neg g7, if_neg g8]]
  exact nam_bad n hb (by omega) ⟨g6, g7, g8⟩ w
end Go.Proofs.YtglehoekehiaiaaGreatDoor
