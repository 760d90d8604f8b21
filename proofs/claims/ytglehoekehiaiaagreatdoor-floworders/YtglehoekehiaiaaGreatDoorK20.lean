/- mandrelref04.Name where it knows the name by itself. -/
import Derived.Test.YtglehoekehiaiaaGreatDoorK18
namespace Go.Proofs.YtglehoekehiaiaaGreatDoor
open Go.RowKit
set_option linter.unusedVariables false
set_option linter.unusedSimpArgs false
set_option maxRecDepth 100000
set_option maxHeartbeats 32000000
theorem rn_0 (k : Nat) (hk : k < 5) (w : World) :
    Calls Tryz.prog 61 #[.int .u8 ((k : Int))] w fun e w' => e = .returned (.string (str (c1.getD k []))) ∧ Below w.heap.size w w' := by
  go_enter Tryz.func61, Tryz.ntmps61
  go_wp2
  go_ret
  exact ⟨ret_v (lkp c1 _ k (by simpa using hk) rfl), below5 _ _ _ _ _ _⟩
theorem rn_12 (k : Nat) (hk : k < 6) (w : World) :
    Calls Tryz.prog 61 #[.int .u8 (12 + (k : Int))] w fun e w' => e = .returned (.string (str (c2.getD k []))) ∧ Below w.heap.size w w' := by
  go_enter Tryz.func61, Tryz.ntmps61
  go_wp2
  go_ret
  exact ⟨ret_v (lkp c2 _ k (by simpa using hk) rfl), below5 _ _ _ _ _ _⟩
theorem rn_32 (k : Nat) (hk : k < 5) (w : World) :
    Calls Tryz.prog 61 #[.int .u8 (32 + (k : Int))] w fun e w' => e = .returned (.string (str (c3.getD k []))) ∧ Below w.heap.size w w' := by
  have t26 : ((32 + (k : Int)) == (26 : Int)) = false := by simp; omega
  have t27 : ((32 + (k : Int)) == (27 : Int)) = false := by simp; omega
  go_enter Tryz.func61, Tryz.ntmps61
  go_wp2
  go_ret
  exact ⟨ret_v (lkp c3 _ k (by simpa using hk) rfl), below5 _ _ _ _ _ _⟩
theorem rn_44 (k : Nat) (hk : k < 12) (w : World) :
    Calls Tryz.prog 61 #[.int .u8 (44 + (k : Int))] w fun e w' => e = .returned (.string (str (c4.getD k []))) ∧ Below w.heap.size w w' := by
  have t26 : ((44 + (k : Int)) == (26 : Int)) = false := by simp; omega
  have t27 : ((44 + (k : Int)) == (27 : Int)) = false := by simp; omega
  have t40 : ((44 + (k : Int)) == (40 : Int)) = false := by simp; omega
  have t41 : ((44 + (k : Int)) == (41 : Int)) = false := by simp; omega
  go_enter Tryz.func61, Tryz.ntmps61
  go_wp2
  go_ret
  exact ⟨ret_v (lkp c4 _ k (by simpa using hk) rfl), below5 _ _ _ _ _ _⟩
theorem rn_58 (k : Nat) (hk : k < 9) (w : World) :
    Calls Tryz.prog 61 #[.int .u8 (58 + (k : Int))] w fun e w' => e = .returned (.string (str (c5.getD k []))) ∧ Below w.heap.size w w' := by
  have t26 : ((58 + (k : Int)) == (26 : Int)) = false := by simp; omega
  have t27 : ((58 + (k : Int)) == (27 : Int)) = false := by simp; omega
  have t40 : ((58 + (k : Int)) == (40 : Int)) = false := by simp; omega
  have t41 : ((58 + (k : Int)) == (41 : Int)) = false := by simp; omega
  go_enter Tryz.func61, Tryz.ntmps61
  go_wp2
  go_ret
  exact ⟨ret_v (lkp c5 _ k (by simpa using hk) rfl), below5 _ _ _ _ _ _⟩
theorem rn_26 (w : World) :
    Calls Tryz.prog 61 #[.int .u8 26] w fun e w' => e = .returned (.string (str [100, 114, 111, 112])) ∧ Below w.heap.size w w' := by
  go_enter Tryz.func61, Tryz.ntmps61
  go_wp2
  go_ret
  exact ⟨rfl, below5 _ _ _ _ _ _⟩
theorem rn_27 (w : World) :
    Calls Tryz.prog 61 #[.int .u8 27] w fun e w' => e = .returned (.string (str [115, 101, 108, 101, 99, 116])) ∧ Below w.heap.size w w' := by
  go_enter Tryz.func61, Tryz.ntmps61
  go_wp2
  go_ret
  exact ⟨rfl, below5 _ _ _ _ _ _⟩
theorem rn_40 (w : World) :
    Calls Tryz.prog 61 #[.int .u8 40] w fun e w' => e = .returned (.string (str [105, 51, 50, 46, 108, 111, 97, 100])) ∧ Below w.heap.size w w' := by
  go_enter Tryz.func61, Tryz.ntmps61
  go_wp2
  go_ret
  exact ⟨rfl, below5 _ _ _ _ _ _⟩
theorem rn_41 (w : World) :
    Calls Tryz.prog 61 #[.int .u8 41] w fun e w' => e = .returned (.string (str [105, 54, 52, 46, 108, 111, 97, 100])) ∧ Below w.heap.size w w' := by
  go_enter Tryz.func61, Tryz.ntmps61
  go_wp2
  go_ret
  exact ⟨rfl, below5 _ _ _ _ _ _⟩
theorem rn_167 (w : World) :
    Calls Tryz.prog 61 #[.int .u8 167] w fun e w' => e = .returned (.string (str [105, 51, 50, 46, 119, 114, 97, 112, 95, 105, 54, 52])) ∧ Below w.heap.size w w' := by
  go_enter Tryz.func61, Tryz.ntmps61
  go_wp2
  go_ret
  exact ⟨rfl, below5 _ _ _ _ _ _⟩
theorem rn_172 (w : World) :
    Calls Tryz.prog 61 #[.int .u8 172] w fun e w' => e = .returned (.string (str [105, 54, 52, 46, 101, 120, 116, 101, 110, 100, 95, 105, 51, 50, 95, 115])) ∧ Below w.heap.size w w' := by
  go_enter Tryz.func61, Tryz.ntmps61
  go_wp2
  go_ret
  exact ⟨rfl, below5 _ _ _ _ _ _⟩
theorem rn_173 (w : World) :
    Calls Tryz.prog 61 #[.int .u8 173] w fun e w' => e = .returned (.string (str [105, 54, 52, 46, 101, 120, 116, 101, 110, 100, 95, 105, 51, 50, 95, 117])) ∧ Below w.heap.size w w' := by
  go_enter Tryz.func61, Tryz.ntmps61
  go_wp2
  go_ret
  exact ⟨rfl, below5 _ _ _ _ _ _⟩
end Go.Proofs.YtglehoekehiaiaaGreatDoor
