/- mandrelref04.Float: what it returns. -/
import Derived.Test.YtenbpmbaiddafaaDoorRfA
namespace Go.Proofs.YtenbpmbaiddafaaDoor
open Go.RowKit
set_option linter.unusedVariables false

def FlIs (n : Nat) (b : Bool) : Prop := ∀ w, Calls Tryd.prog 12 #[.int .u8 n] w fun e w' => e = .returned (.bool b) ∧ w = w'
set_option maxRecDepth 100000 in
set_option maxHeartbeats 1600000 in
theorem l_42 : FlIs 42 true := by
  intro w
  go_enter Tryd.func12, Tryd.ntmps12
  go_wp2
  go_ret
  first | exact ⟨rfl, rfl⟩ | exact ⟨ret_bool (decide_eq_true (by omega)), rfl⟩ | exact ⟨ret_bool (decide_eq_false (by omega)), rfl⟩ | exact ⟨ret_bool (by simp; omega), rfl⟩
set_option maxRecDepth 100000 in
set_option maxHeartbeats 1600000 in
theorem l_43 : FlIs 43 true := by
  intro w
  go_enter Tryd.func12, Tryd.ntmps12
  go_wp2
  go_ret
  first | exact ⟨rfl, rfl⟩ | exact ⟨ret_bool (decide_eq_true (by omega)), rfl⟩ | exact ⟨ret_bool (decide_eq_false (by omega)), rfl⟩ | exact ⟨ret_bool (by simp; omega), rfl⟩
set_option maxRecDepth 100000 in
set_option maxHeartbeats 1600000 in
theorem l_56 : FlIs 56 true := by
  intro w
  go_enter Tryd.func12, Tryd.ntmps12
  go_wp2
  go_ret
  first | exact ⟨rfl, rfl⟩ | exact ⟨ret_bool (decide_eq_true (by omega)), rfl⟩ | exact ⟨ret_bool (decide_eq_false (by omega)), rfl⟩ | exact ⟨ret_bool (by simp; omega), rfl⟩
set_option maxRecDepth 100000 in
set_option maxHeartbeats 1600000 in
theorem l_57 : FlIs 57 true := by
  intro w
  go_enter Tryd.func12, Tryd.ntmps12
  go_wp2
  go_ret
  first | exact ⟨rfl, rfl⟩ | exact ⟨ret_bool (decide_eq_true (by omega)), rfl⟩ | exact ⟨ret_bool (decide_eq_false (by omega)), rfl⟩ | exact ⟨ret_bool (by simp; omega), rfl⟩
set_option maxRecDepth 100000 in
set_option maxHeartbeats 1600000 in
theorem l_67 : FlIs 67 true := by
  intro w
  go_enter Tryd.func12, Tryd.ntmps12
  go_wp2
  go_ret
  first | exact ⟨rfl, rfl⟩ | exact ⟨ret_bool (decide_eq_true (by omega)), rfl⟩ | exact ⟨ret_bool (decide_eq_false (by omega)), rfl⟩ | exact ⟨ret_bool (by simp; omega), rfl⟩
set_option maxRecDepth 100000 in
set_option maxHeartbeats 1600000 in
theorem l_68 : FlIs 68 true := by
  intro w
  go_enter Tryd.func12, Tryd.ntmps12
  go_wp2
  go_ret
  first | exact ⟨rfl, rfl⟩ | exact ⟨ret_bool (decide_eq_true (by omega)), rfl⟩ | exact ⟨ret_bool (decide_eq_false (by omega)), rfl⟩ | exact ⟨ret_bool (by simp; omega), rfl⟩
set_option maxRecDepth 100000 in
set_option maxHeartbeats 1600000 in
theorem l_91 (n : Nat) (h0 : 91 ≤ (n : Int)) (h1 : (n : Int) ≤ 102) : FlIs n true := by
  intro w
  have t42 : ((n : Int) == 42) = false := by simp; omega
  have t43 : ((n : Int) == 43) = false := by simp; omega
  have t56 : ((n : Int) == 56) = false := by simp; omega
  have t57 : ((n : Int) == 57) = false := by simp; omega
  have t67 : ((n : Int) == 67) = false := by simp; omega
  have t68 : ((n : Int) == 68) = false := by simp; omega
  go_enter Tryd.func12, Tryd.ntmps12
  go_wp2
  go_ret
  first | exact ⟨rfl, rfl⟩ | exact ⟨ret_bool (decide_eq_true (by omega)), rfl⟩ | exact ⟨ret_bool (decide_eq_false (by omega)), rfl⟩ | exact ⟨ret_bool (by simp; omega), rfl⟩
set_option maxRecDepth 100000 in
set_option maxHeartbeats 1600000 in
theorem l_139 (n : Nat) (h0 : 139 ≤ (n : Int)) (h1 : (n : Int) ≤ 166) : FlIs n true := by
  intro w
  have t42 : ((n : Int) == 42) = false := by simp; omega
  have t43 : ((n : Int) == 43) = false := by simp; omega
  have t56 : ((n : Int) == 56) = false := by simp; omega
  have t57 : ((n : Int) == 57) = false := by simp; omega
  have t67 : ((n : Int) == 67) = false := by simp; omega
  have t68 : ((n : Int) == 68) = false := by simp; omega
  go_enter Tryd.func12, Tryd.ntmps12
  go_wp2
  go_ret
  first | exact ⟨rfl, rfl⟩ | exact ⟨ret_bool (decide_eq_true (by omega)), rfl⟩ | exact ⟨ret_bool (decide_eq_false (by omega)), rfl⟩ | exact ⟨ret_bool (by simp; omega), rfl⟩
set_option maxRecDepth 100000 in
set_option maxHeartbeats 1600000 in
theorem l_168 (n : Nat) (h0 : 168 ≤ (n : Int)) (h1 : (n : Int) ≤ 171) : FlIs n true := by
  intro w
  have t42 : ((n : Int) == 42) = false := by simp; omega
  have t43 : ((n : Int) == 43) = false := by simp; omega
  have t56 : ((n : Int) == 56) = false := by simp; omega
  have t57 : ((n : Int) == 57) = false := by simp; omega
  have t67 : ((n : Int) == 67) = false := by simp; omega
  have t68 : ((n : Int) == 68) = false := by simp; omega
  go_enter Tryd.func12, Tryd.ntmps12
  go_wp2
  go_ret
  first | exact ⟨rfl, rfl⟩ | exact ⟨ret_bool (decide_eq_true (by omega)), rfl⟩ | exact ⟨ret_bool (decide_eq_false (by omega)), rfl⟩ | exact ⟨ret_bool (by simp; omega), rfl⟩
set_option maxRecDepth 100000 in
set_option maxHeartbeats 1600000 in
theorem l_174 (n : Nat) (h0 : 174 ≤ (n : Int)) (h1 : (n : Int) ≤ 191) : FlIs n true := by
  intro w
  have t42 : ((n : Int) == 42) = false := by simp; omega
  have t43 : ((n : Int) == 43) = false := by simp; omega
  have t56 : ((n : Int) == 56) = false := by simp; omega
  have t57 : ((n : Int) == 57) = false := by simp; omega
  have t67 : ((n : Int) == 67) = false := by simp; omega
  have t68 : ((n : Int) == 68) = false := by simp; omega
  go_enter Tryd.func12, Tryd.ntmps12
  go_wp2
  go_ret
  first | exact ⟨rfl, rfl⟩ | exact ⟨ret_bool (decide_eq_true (by omega)), rfl⟩ | exact ⟨ret_bool (decide_eq_false (by omega)), rfl⟩ | exact ⟨ret_bool (by simp; omega), rfl⟩
set_option maxRecDepth 100000 in
set_option maxHeartbeats 1600000 in
theorem l_0 (n : Nat) (h0 : 0 ≤ (n : Int)) (h1 : (n : Int) ≤ 41) : FlIs n false := by
  intro w
  have t42 : ((n : Int) == 42) = false := by simp; omega
  have t43 : ((n : Int) == 43) = false := by simp; omega
  have t56 : ((n : Int) == 56) = false := by simp; omega
  have t57 : ((n : Int) == 57) = false := by simp; omega
  have t67 : ((n : Int) == 67) = false := by simp; omega
  have t68 : ((n : Int) == 68) = false := by simp; omega
  go_enter Tryd.func12, Tryd.ntmps12
  go_wp2
  go_ret
  first | exact ⟨rfl, rfl⟩ | exact ⟨ret_bool (decide_eq_true (by omega)), rfl⟩ | exact ⟨ret_bool (decide_eq_false (by omega)), rfl⟩ | exact ⟨ret_bool (by simp; omega), rfl⟩
set_option maxRecDepth 100000 in
set_option maxHeartbeats 1600000 in
theorem l_44 (n : Nat) (h0 : 44 ≤ (n : Int)) (h1 : (n : Int) ≤ 55) : FlIs n false := by
  intro w
  have t42 : ((n : Int) == 42) = false := by simp; omega
  have t43 : ((n : Int) == 43) = false := by simp; omega
  have t56 : ((n : Int) == 56) = false := by simp; omega
  have t57 : ((n : Int) == 57) = false := by simp; omega
  have t67 : ((n : Int) == 67) = false := by simp; omega
  have t68 : ((n : Int) == 68) = false := by simp; omega
  go_enter Tryd.func12, Tryd.ntmps12
  go_wp2
  go_ret
  first | exact ⟨rfl, rfl⟩ | exact ⟨ret_bool (decide_eq_true (by omega)), rfl⟩ | exact ⟨ret_bool (decide_eq_false (by omega)), rfl⟩ | exact ⟨ret_bool (by simp; omega), rfl⟩
set_option maxRecDepth 100000 in
set_option maxHeartbeats 1600000 in
theorem l_58 (n : Nat) (h0 : 58 ≤ (n : Int)) (h1 : (n : Int) ≤ 66) : FlIs n false := by
  intro w
  have t42 : ((n : Int) == 42) = false := by simp; omega
  have t43 : ((n : Int) == 43) = false := by simp; omega
  have t56 : ((n : Int) == 56) = false := by simp; omega
  have t57 : ((n : Int) == 57) = false := by simp; omega
  have t67 : ((n : Int) == 67) = false := by simp; omega
  have t68 : ((n : Int) == 68) = false := by simp; omega
  go_enter Tryd.func12, Tryd.ntmps12
  go_wp2
  go_ret
  first | exact ⟨rfl, rfl⟩ | exact ⟨ret_bool (decide_eq_true (by omega)), rfl⟩ | exact ⟨ret_bool (decide_eq_false (by omega)), rfl⟩ | exact ⟨ret_bool (by simp; omega), rfl⟩
set_option maxRecDepth 100000 in
set_option maxHeartbeats 1600000 in
theorem l_69 (n : Nat) (h0 : 69 ≤ (n : Int)) (h1 : (n : Int) ≤ 90) : FlIs n false := by
  intro w
  have t42 : ((n : Int) == 42) = false := by simp; omega
  have t43 : ((n : Int) == 43) = false := by simp; omega
  have t56 : ((n : Int) == 56) = false := by simp; omega
  have t57 : ((n : Int) == 57) = false := by simp; omega
  have t67 : ((n : Int) == 67) = false := by simp; omega
  have t68 : ((n : Int) == 68) = false := by simp; omega
  go_enter Tryd.func12, Tryd.ntmps12
  go_wp2
  go_ret
  first | exact ⟨rfl, rfl⟩ | exact ⟨ret_bool (decide_eq_true (by omega)), rfl⟩ | exact ⟨ret_bool (decide_eq_false (by omega)), rfl⟩ | exact ⟨ret_bool (by simp; omega), rfl⟩
set_option maxRecDepth 100000 in
set_option maxHeartbeats 1600000 in
theorem l_103 (n : Nat) (h0 : 103 ≤ (n : Int)) (h1 : (n : Int) ≤ 138) : FlIs n false := by
  intro w
  have t42 : ((n : Int) == 42) = false := by simp; omega
  have t43 : ((n : Int) == 43) = false := by simp; omega
  have t56 : ((n : Int) == 56) = false := by simp; omega
  have t57 : ((n : Int) == 57) = false := by simp; omega
  have t67 : ((n : Int) == 67) = false := by simp; omega
  have t68 : ((n : Int) == 68) = false := by simp; omega
  go_enter Tryd.func12, Tryd.ntmps12
  go_wp2
  go_ret
  first | exact ⟨rfl, rfl⟩ | exact ⟨ret_bool (decide_eq_true (by omega)), rfl⟩ | exact ⟨ret_bool (decide_eq_false (by omega)), rfl⟩ | exact ⟨ret_bool (by simp; omega), rfl⟩
set_option maxRecDepth 100000 in
set_option maxHeartbeats 1600000 in
theorem l_167 (n : Nat) (h0 : 167 ≤ (n : Int)) (h1 : (n : Int) ≤ 167) : FlIs n false := by
  intro w
  have t42 : ((n : Int) == 42) = false := by simp; omega
  have t43 : ((n : Int) == 43) = false := by simp; omega
  have t56 : ((n : Int) == 56) = false := by simp; omega
  have t57 : ((n : Int) == 57) = false := by simp; omega
  have t67 : ((n : Int) == 67) = false := by simp; omega
  have t68 : ((n : Int) == 68) = false := by simp; omega
  go_enter Tryd.func12, Tryd.ntmps12
  go_wp2
  go_ret
  first | exact ⟨rfl, rfl⟩ | exact ⟨ret_bool (decide_eq_true (by omega)), rfl⟩ | exact ⟨ret_bool (decide_eq_false (by omega)), rfl⟩ | exact ⟨ret_bool (by simp; omega), rfl⟩
set_option maxRecDepth 100000 in
set_option maxHeartbeats 1600000 in
theorem l_172 (n : Nat) (h0 : 172 ≤ (n : Int)) (h1 : (n : Int) ≤ 173) : FlIs n false := by
  intro w
  have t42 : ((n : Int) == 42) = false := by simp; omega
  have t43 : ((n : Int) == 43) = false := by simp; omega
  have t56 : ((n : Int) == 56) = false := by simp; omega
  have t57 : ((n : Int) == 57) = false := by simp; omega
  have t67 : ((n : Int) == 67) = false := by simp; omega
  have t68 : ((n : Int) == 68) = false := by simp; omega
  go_enter Tryd.func12, Tryd.ntmps12
  go_wp2
  go_ret
  first | exact ⟨rfl, rfl⟩ | exact ⟨ret_bool (decide_eq_true (by omega)), rfl⟩ | exact ⟨ret_bool (decide_eq_false (by omega)), rfl⟩ | exact ⟨ret_bool (by simp; omega), rfl⟩
set_option maxRecDepth 100000 in
set_option maxHeartbeats 1600000 in
theorem l_192 (n : Nat) (h0 : 192 ≤ (n : Int)) (h1 : (n : Int) ≤ 255) : FlIs n false := by
  intro w
  have t42 : ((n : Int) == 42) = false := by simp; omega
  have t43 : ((n : Int) == 43) = false := by simp; omega
  have t56 : ((n : Int) == 56) = false := by simp; omega
  have t57 : ((n : Int) == 57) = false := by simp; omega
  have t67 : ((n : Int) == 67) = false := by simp; omega
  have t68 : ((n : Int) == 68) = false := by simp; omega
  go_enter Tryd.func12, Tryd.ntmps12
  go_wp2
  go_ret
  first | exact ⟨rfl, rfl⟩ | exact ⟨ret_bool (decide_eq_true (by omega)), rfl⟩ | exact ⟨ret_bool (decide_eq_false (by omega)), rfl⟩ | exact ⟨ret_bool (by simp; omega), rfl⟩
set_option maxRecDepth 100000 in
theorem fl_all : (∀ n : Nat, n < 256 → ((91 ≤ n ∧ n ≤ 102) ∨ (139 ≤ n ∧ n ≤ 166) ∨ (168 ≤ n ∧ n ≤ 171) ∨ (174 ≤ n ∧ n ≤ 191)) → flt n = true) ∧ (∀ n : Nat, n < 256 → ((0 ≤ n ∧ n ≤ 41) ∨ (44 ≤ n ∧ n ≤ 55) ∨ (58 ≤ n ∧ n ≤ 66) ∨ (69 ≤ n ∧ n ≤ 90) ∨ (103 ≤ n ∧ n ≤ 138) ∨ (167 ≤ n ∧ n ≤ 167) ∨ (172 ≤ n ∧ n ≤ 173) ∨ (192 ≤ n ∧ n ≤ 255)) → flt n = false) := by decide
set_option maxRecDepth 100000 in
theorem flr_any (n : Nat) (hn : n < 256) : FlIs n (flt n) := by
  by_cases e42 : n = 42
  · subst e42; exact l_42
  by_cases e43 : n = 43
  · subst e43; exact l_43
  by_cases e56 : n = 56
  · subst e56; exact l_56
  by_cases e57 : n = 57
  · subst e57; exact l_57
  by_cases e67 : n = 67
  · subst e67; exact l_67
  by_cases e68 : n = 68
  · subst e68; exact l_68
  by_cases r91 : 91 ≤ n ∧ n ≤ 102
  · rw [fl_all.1 n hn (by omega)]
    exact l_91 n (by omega) (by omega)
  by_cases r139 : 139 ≤ n ∧ n ≤ 166
  · rw [fl_all.1 n hn (by omega)]
    exact l_139 n (by omega) (by omega)
  by_cases r168 : 168 ≤ n ∧ n ≤ 171
  · rw [fl_all.1 n hn (by omega)]
    exact l_168 n (by omega) (by omega)
  by_cases r174 : 174 ≤ n ∧ n ≤ 191
  · rw [fl_all.1 n hn (by omega)]
    exact l_174 n (by omega) (by omega)
  by_cases r0 : 0 ≤ n ∧ n ≤ 41
  · rw [fl_all.2 n hn (by omega)]
    exact l_0 n (by omega) (by omega)
  by_cases r44 : 44 ≤ n ∧ n ≤ 55
  · rw [fl_all.2 n hn (by omega)]
    exact l_44 n (by omega) (by omega)
  by_cases r58 : 58 ≤ n ∧ n ≤ 66
  · rw [fl_all.2 n hn (by omega)]
    exact l_58 n (by omega) (by omega)
  by_cases r69 : 69 ≤ n ∧ n ≤ 90
  · rw [fl_all.2 n hn (by omega)]
    exact l_69 n (by omega) (by omega)
  by_cases r103 : 103 ≤ n ∧ n ≤ 138
  · rw [fl_all.2 n hn (by omega)]
    exact l_103 n (by omega) (by omega)
  by_cases r167 : 167 ≤ n ∧ n ≤ 167
  · rw [fl_all.2 n hn (by omega)]
    exact l_167 n (by omega) (by omega)
  by_cases r172 : 172 ≤ n ∧ n ≤ 173
  · rw [fl_all.2 n hn (by omega)]
    exact l_172 n (by omega) (by omega)
  by_cases r192 : 192 ≤ n ∧ n ≤ 255
  · rw [fl_all.2 n hn (by omega)]
    exact l_192 n (by omega) (by omega)
  omega
end Go.Proofs.YtenbpmbaiddafaaDoor
