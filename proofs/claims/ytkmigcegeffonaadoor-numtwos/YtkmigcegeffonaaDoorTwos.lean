/- The program's Two and the document's: of every instruction, at every two operands, one answer. -/
import Derived.Test.YtkmigcegeffonaaDoorRefN1
import Derived.Test.YtkmigcegeffonaaDoorRefN2
import Derived.Test.YtkmigcegeffonaaDoorRefN3
import Derived.Test.YtkmigcegeffonaaDoorRefT1
import Derived.Test.YtkmigcegeffonaaDoorRefT2
import Derived.Test.YtkmigcegeffonaaDoorRefT3
import Derived.Test.YtkmigcegeffonaaDoorRefT4
import Derived.Test.YtkmigcegeffonaaDoorRefT5
import Derived.Test.YtkmigcegeffonaaDoorRefT6
import Derived.Test.YtkmigcegeffonaaDoorRefT7
namespace Go.Proofs.YtkmigcegeffonaaDoor
open Go.RowKit Num
set_option linter.unusedVariables false

def OK2 (op x y v t : Int) : Prop :=
  (∀ w, Calls Tryd.prog 13 #[.int .u8 op, .int .u64 x, .int .u64 y] w fun e w' => e = .returned (.tuple #[.int .u64 v, .int .i64 t, .nilIface]) ∧ w = w') ∧
  (∀ w, Calls Tryd.prog 14 #[.int .u8 op, .int .u64 x, .int .u64 y] w fun e w' => e = .returned (.tuple #[.int .u64 v, .int .i64 t, .bool true]) ∧ Below w.heap.size w w')
def NO2 (op x y : Int) : Prop :=
  (∀ w, Calls Tryd.prog 13 #[.int .u8 op, .int .u64 x, .int .u64 y] w fun e w' => e = .returned (.tuple #[.int .u64 0, .int .i64 0, errV 1]) ∧ w = w') ∧
  (∀ w, Calls Tryd.prog 14 #[.int .u8 op, .int .u64 x, .int .u64 y] w fun e w' => e = .returned (.tuple #[.int .u64 0, .int .i64 0, .bool false]) ∧ Below w.heap.size w w')

set_option maxHeartbeats 400000 in
theorem refTwo_none (op x y : Int) (hN : Named op ⟨#[]⟩ 0) (w : World) :
    Calls Tryd.prog 14 #[.int .u8 op, .int .u64 x, .int .u64 y] w fun e w' => e = .returned (.tuple #[.int .u64 0, .int .i64 0, .bool false]) ∧ Below w.heap.size w w' := by
  have HN := hide hN; clear hN
  go_enter Tryd.func14, Tryd.ntmps14
  go_wp2_with fail
  refine (unhide HN _).mono ?_
  rintro e w1 ⟨rfl, hb1⟩
  have HB := hide hb1; clear hb1
  go_wp2
  go_ret3
  exact ⟨by kernel_rfl, unhide HB⟩
set_option maxHeartbeats 400000 in
theorem refTwo_one_eqz (W : Nat) (op x y : Int) (hN : Named op ⟨#[101, 113, 122]⟩ W) (w : World) :
    Calls Tryd.prog 14 #[.int .u8 op, .int .u64 x, .int .u64 y] w fun e w' => e = .returned (.tuple #[.int .u64 0, .int .i64 0, .bool false]) ∧ Below w.heap.size w w' := by
  have HN := hide hN; have HA := hide alone_eqz; clear hN
  go_enter Tryd.func14, Tryd.ntmps14
  go_wp2_with fail
  refine (unhide HN _).mono ?_
  rintro e w1 ⟨rfl, hb1⟩
  have HB := hide hb1; clear hb1
  go_wp2_with fail
  refine (unhide HA _).mono ?_
  rintro e w2 ⟨rfl, rfl⟩
  go_wp2
  go_ret3
  exact ⟨by kernel_rfl, unhide HB⟩
set_option maxHeartbeats 400000 in
theorem refTwo_one_clz (W : Nat) (op x y : Int) (hN : Named op ⟨#[99, 108, 122]⟩ W) (w : World) :
    Calls Tryd.prog 14 #[.int .u8 op, .int .u64 x, .int .u64 y] w fun e w' => e = .returned (.tuple #[.int .u64 0, .int .i64 0, .bool false]) ∧ Below w.heap.size w w' := by
  have HN := hide hN; have HA := hide alone_clz; clear hN
  go_enter Tryd.func14, Tryd.ntmps14
  go_wp2_with fail
  refine (unhide HN _).mono ?_
  rintro e w1 ⟨rfl, hb1⟩
  have HB := hide hb1; clear hb1
  go_wp2_with fail
  refine (unhide HA _).mono ?_
  rintro e w2 ⟨rfl, rfl⟩
  go_wp2
  go_ret3
  exact ⟨by kernel_rfl, unhide HB⟩
set_option maxHeartbeats 400000 in
theorem refTwo_one_ctz (W : Nat) (op x y : Int) (hN : Named op ⟨#[99, 116, 122]⟩ W) (w : World) :
    Calls Tryd.prog 14 #[.int .u8 op, .int .u64 x, .int .u64 y] w fun e w' => e = .returned (.tuple #[.int .u64 0, .int .i64 0, .bool false]) ∧ Below w.heap.size w w' := by
  have HN := hide hN; have HA := hide alone_ctz; clear hN
  go_enter Tryd.func14, Tryd.ntmps14
  go_wp2_with fail
  refine (unhide HN _).mono ?_
  rintro e w1 ⟨rfl, hb1⟩
  have HB := hide hb1; clear hb1
  go_wp2_with fail
  refine (unhide HA _).mono ?_
  rintro e w2 ⟨rfl, rfl⟩
  go_wp2
  go_ret3
  exact ⟨by kernel_rfl, unhide HB⟩
set_option maxHeartbeats 400000 in
theorem refTwo_one_popcnt (W : Nat) (op x y : Int) (hN : Named op ⟨#[112, 111, 112, 99, 110, 116]⟩ W) (w : World) :
    Calls Tryd.prog 14 #[.int .u8 op, .int .u64 x, .int .u64 y] w fun e w' => e = .returned (.tuple #[.int .u64 0, .int .i64 0, .bool false]) ∧ Below w.heap.size w w' := by
  have HN := hide hN; have HA := hide alone_popcnt; clear hN
  go_enter Tryd.func14, Tryd.ntmps14
  go_wp2_with fail
  refine (unhide HN _).mono ?_
  rintro e w1 ⟨rfl, hb1⟩
  have HB := hide hb1; clear hb1
  go_wp2_with fail
  refine (unhide HA _).mono ?_
  rintro e w2 ⟨rfl, rfl⟩
  go_wp2
  go_ret3
  exact ⟨by kernel_rfl, unhide HB⟩
set_option maxHeartbeats 400000 in
theorem refTwo_one_wrap (W : Nat) (op x y : Int) (hN : Named op ⟨#[119, 114, 97, 112]⟩ W) (w : World) :
    Calls Tryd.prog 14 #[.int .u8 op, .int .u64 x, .int .u64 y] w fun e w' => e = .returned (.tuple #[.int .u64 0, .int .i64 0, .bool false]) ∧ Below w.heap.size w w' := by
  have HN := hide hN; have HA := hide alone_wrap; clear hN
  go_enter Tryd.func14, Tryd.ntmps14
  go_wp2_with fail
  refine (unhide HN _).mono ?_
  rintro e w1 ⟨rfl, hb1⟩
  have HB := hide hb1; clear hb1
  go_wp2_with fail
  refine (unhide HA _).mono ?_
  rintro e w2 ⟨rfl, rfl⟩
  go_wp2
  go_ret3
  exact ⟨by kernel_rfl, unhide HB⟩
set_option maxHeartbeats 400000 in
theorem refTwo_one_extend_s (W : Nat) (op x y : Int) (hN : Named op ⟨#[101, 120, 116, 101, 110, 100, 95, 115]⟩ W) (w : World) :
    Calls Tryd.prog 14 #[.int .u8 op, .int .u64 x, .int .u64 y] w fun e w' => e = .returned (.tuple #[.int .u64 0, .int .i64 0, .bool false]) ∧ Below w.heap.size w w' := by
  have HN := hide hN; have HA := hide alone_extend_s; clear hN
  go_enter Tryd.func14, Tryd.ntmps14
  go_wp2_with fail
  refine (unhide HN _).mono ?_
  rintro e w1 ⟨rfl, hb1⟩
  have HB := hide hb1; clear hb1
  go_wp2_with fail
  refine (unhide HA _).mono ?_
  rintro e w2 ⟨rfl, rfl⟩
  go_wp2
  go_ret3
  exact ⟨by kernel_rfl, unhide HB⟩
set_option maxHeartbeats 400000 in
theorem refTwo_one_extend_u (W : Nat) (op x y : Int) (hN : Named op ⟨#[101, 120, 116, 101, 110, 100, 95, 117]⟩ W) (w : World) :
    Calls Tryd.prog 14 #[.int .u8 op, .int .u64 x, .int .u64 y] w fun e w' => e = .returned (.tuple #[.int .u64 0, .int .i64 0, .bool false]) ∧ Below w.heap.size w w' := by
  have HN := hide hN; have HA := hide alone_extend_u; clear hN
  go_enter Tryd.func14, Tryd.ntmps14
  go_wp2_with fail
  refine (unhide HN _).mono ?_
  rintro e w1 ⟨rfl, hb1⟩
  have HB := hide hb1; clear hb1
  go_wp2_with fail
  refine (unhide HA _).mono ?_
  rintro e w2 ⟨rfl, rfl⟩
  go_wp2
  go_ret3
  exact ⟨by kernel_rfl, unhide HB⟩
theorem twos_a (op x y : Int) (hl : 69 ≤ op) (hh : op ≤ 90) (h0 : 0 ≤ x) (h1 : x < 18446744073709551616) (h2 : 0 ≤ y) (h3 : y < 18446744073709551616) : (∃ v t, OK2 op x y v t) ∨ NO2 op x y := by
  have h : op = 69 ∨ op = 70 ∨ op = 71 ∨ op = 72 ∨ op = 73 ∨ op = 74 ∨ op = 75 ∨ op = 76 ∨ op = 77 ∨ op = 78 ∨ op = 79 ∨ op = 80 ∨ op = 81 ∨ op = 82 ∨ op = 83 ∨ op = 84 ∨ op = 85 ∨ op = 86 ∨ op = 87 ∨ op = 88 ∨ op = 89 ∨ op = 90 := by omega
  rcases h with rfl | rfl | rfl | rfl | rfl | rfl | rfl | rfl | rfl | rfl | rfl | rfl | rfl | rfl | rfl | rfl | rfl | rfl | rfl | rfl | rfl | rfl
  · exact .inr ⟨fun w => two_one 32 (.inl rfl) 69 69 x y (by decide) (by decide) w h0 h1 h2 h3, fun w => refTwo_one_eqz 32 69 x y named_69 w⟩
  · exact .inl ⟨_, _, fun w => two_cmp 32 (.inl rfl) 70 70 x y (by decide) (by decide) w h0 h1 h2 h3, fun w => refTwo_eq_32 70 x y named_70 w h0 h1 h2 h3⟩
  · exact .inl ⟨_, _, fun w => two_cmp 32 (.inl rfl) 71 71 x y (by decide) (by decide) w h0 h1 h2 h3, fun w => refTwo_ne_32 71 x y named_71 w h0 h1 h2 h3⟩
  · exact .inl ⟨_, _, fun w => two_cmp 32 (.inl rfl) 72 72 x y (by decide) (by decide) w h0 h1 h2 h3, fun w => refTwo_lt_s_32 72 x y named_72 w h0 h1 h2 h3⟩
  · exact .inl ⟨_, _, fun w => two_cmp 32 (.inl rfl) 73 73 x y (by decide) (by decide) w h0 h1 h2 h3, fun w => refTwo_lt_u_32 73 x y named_73 w h0 h1 h2 h3⟩
  · exact .inl ⟨_, _, fun w => two_cmp 32 (.inl rfl) 74 74 x y (by decide) (by decide) w h0 h1 h2 h3, fun w => refTwo_gt_s_32 74 x y named_74 w h0 h1 h2 h3⟩
  · exact .inl ⟨_, _, fun w => two_cmp 32 (.inl rfl) 75 75 x y (by decide) (by decide) w h0 h1 h2 h3, fun w => refTwo_gt_u_32 75 x y named_75 w h0 h1 h2 h3⟩
  · exact .inl ⟨_, _, fun w => two_cmp 32 (.inl rfl) 76 76 x y (by decide) (by decide) w h0 h1 h2 h3, fun w => refTwo_le_s_32 76 x y named_76 w h0 h1 h2 h3⟩
  · exact .inl ⟨_, _, fun w => two_cmp 32 (.inl rfl) 77 77 x y (by decide) (by decide) w h0 h1 h2 h3, fun w => refTwo_le_u_32 77 x y named_77 w h0 h1 h2 h3⟩
  · exact .inl ⟨_, _, fun w => two_cmp 32 (.inl rfl) 78 78 x y (by decide) (by decide) w h0 h1 h2 h3, fun w => refTwo_ge_s_32 78 x y named_78 w h0 h1 h2 h3⟩
  · exact .inl ⟨_, _, fun w => two_cmp 32 (.inl rfl) 79 79 x y (by decide) (by decide) w h0 h1 h2 h3, fun w => refTwo_ge_u_32 79 x y named_79 w h0 h1 h2 h3⟩
  · exact .inr ⟨fun w => two_one 64 (.inr rfl) 69 80 x y (by decide) (by decide) w h0 h1 h2 h3, fun w => refTwo_one_eqz 64 80 x y named_80 w⟩
  · exact .inl ⟨_, _, fun w => two_cmp 64 (.inr rfl) 70 81 x y (by decide) (by decide) w h0 h1 h2 h3, fun w => refTwo_eq_64 81 x y named_81 w h0 h1 h2 h3⟩
  · exact .inl ⟨_, _, fun w => two_cmp 64 (.inr rfl) 71 82 x y (by decide) (by decide) w h0 h1 h2 h3, fun w => refTwo_ne_64 82 x y named_82 w h0 h1 h2 h3⟩
  · exact .inl ⟨_, _, fun w => two_cmp 64 (.inr rfl) 72 83 x y (by decide) (by decide) w h0 h1 h2 h3, fun w => refTwo_lt_s_64 83 x y named_83 w h0 h1 h2 h3⟩
  · exact .inl ⟨_, _, fun w => two_cmp 64 (.inr rfl) 73 84 x y (by decide) (by decide) w h0 h1 h2 h3, fun w => refTwo_lt_u_64 84 x y named_84 w h0 h1 h2 h3⟩
  · exact .inl ⟨_, _, fun w => two_cmp 64 (.inr rfl) 74 85 x y (by decide) (by decide) w h0 h1 h2 h3, fun w => refTwo_gt_s_64 85 x y named_85 w h0 h1 h2 h3⟩
  · exact .inl ⟨_, _, fun w => two_cmp 64 (.inr rfl) 75 86 x y (by decide) (by decide) w h0 h1 h2 h3, fun w => refTwo_gt_u_64 86 x y named_86 w h0 h1 h2 h3⟩
  · exact .inl ⟨_, _, fun w => two_cmp 64 (.inr rfl) 76 87 x y (by decide) (by decide) w h0 h1 h2 h3, fun w => refTwo_le_s_64 87 x y named_87 w h0 h1 h2 h3⟩
  · exact .inl ⟨_, _, fun w => two_cmp 64 (.inr rfl) 77 88 x y (by decide) (by decide) w h0 h1 h2 h3, fun w => refTwo_le_u_64 88 x y named_88 w h0 h1 h2 h3⟩
  · exact .inl ⟨_, _, fun w => two_cmp 64 (.inr rfl) 78 89 x y (by decide) (by decide) w h0 h1 h2 h3, fun w => refTwo_ge_s_64 89 x y named_89 w h0 h1 h2 h3⟩
  · exact .inl ⟨_, _, fun w => two_cmp 64 (.inr rfl) 79 90 x y (by decide) (by decide) w h0 h1 h2 h3, fun w => refTwo_ge_u_64 90 x y named_90 w h0 h1 h2 h3⟩
theorem twos_b (op x y : Int) (hl : 103 ≤ op) (hh : op ≤ 120) (h0 : 0 ≤ x) (h1 : x < 18446744073709551616) (h2 : 0 ≤ y) (h3 : y < 18446744073709551616) : (∃ v t, OK2 op x y v t) ∨ NO2 op x y := by
  have h : op = 103 ∨ op = 104 ∨ op = 105 ∨ op = 106 ∨ op = 107 ∨ op = 108 ∨ op = 109 ∨ op = 110 ∨ op = 111 ∨ op = 112 ∨ op = 113 ∨ op = 114 ∨ op = 115 ∨ op = 116 ∨ op = 117 ∨ op = 118 ∨ op = 119 ∨ op = 120 := by omega
  rcases h with rfl | rfl | rfl | rfl | rfl | rfl | rfl | rfl | rfl | rfl | rfl | rfl | rfl | rfl | rfl | rfl | rfl | rfl
  · exact .inr ⟨fun w => two_one 32 (.inl rfl) 103 103 x y (by decide) (by decide) w h0 h1 h2 h3, fun w => refTwo_one_clz 32 103 x y named_103 w⟩
  · exact .inr ⟨fun w => two_one 32 (.inl rfl) 104 104 x y (by decide) (by decide) w h0 h1 h2 h3, fun w => refTwo_one_ctz 32 104 x y named_104 w⟩
  · exact .inr ⟨fun w => two_one 32 (.inl rfl) 105 105 x y (by decide) (by decide) w h0 h1 h2 h3, fun w => refTwo_one_popcnt 32 105 x y named_105 w⟩
  · exact .inl ⟨_, _, fun w => two_ar 32 (.inl rfl) 106 106 x y (by decide) (by decide) w h0 h1 h2 h3, fun w => refTwo_add_32 106 x y named_106 w h0 h1 h2 h3⟩
  · exact .inl ⟨_, _, fun w => two_ar 32 (.inl rfl) 107 107 x y (by decide) (by decide) w h0 h1 h2 h3, fun w => refTwo_sub_32 107 x y named_107 w h0 h1 h2 h3⟩
  · exact .inl ⟨_, _, fun w => two_ar 32 (.inl rfl) 108 108 x y (by decide) (by decide) w h0 h1 h2 h3, fun w => refTwo_mul_32 108 x y named_108 w h0 h1 h2 h3⟩
  · exact .inl ⟨_, _, fun w => two_div 32 (.inl rfl) 109 109 x y (by decide) (by decide) w h0 h1 h2 h3, fun w => refTwo_div_s_32 109 x y named_109 w h0 h1 h2 h3⟩
  · exact .inl ⟨_, _, fun w => two_div 32 (.inl rfl) 110 110 x y (by decide) (by decide) w h0 h1 h2 h3, fun w => refTwo_div_u_32 110 x y named_110 w h0 h1 h2 h3⟩
  · exact .inl ⟨_, _, fun w => two_div 32 (.inl rfl) 111 111 x y (by decide) (by decide) w h0 h1 h2 h3, fun w => refTwo_rem_s_32 111 x y named_111 w h0 h1 h2 h3⟩
  · exact .inl ⟨_, _, fun w => two_div 32 (.inl rfl) 112 112 x y (by decide) (by decide) w h0 h1 h2 h3, fun w => refTwo_rem_u_32 112 x y named_112 w h0 h1 h2 h3⟩
  · exact .inl ⟨_, _, fun w => two_ar 32 (.inl rfl) 113 113 x y (by decide) (by decide) w h0 h1 h2 h3, fun w => refTwo_and_32 113 x y named_113 w h0 h1 h2 h3⟩
  · exact .inl ⟨_, _, fun w => two_ar 32 (.inl rfl) 114 114 x y (by decide) (by decide) w h0 h1 h2 h3, fun w => refTwo_or_32 114 x y named_114 w h0 h1 h2 h3⟩
  · exact .inl ⟨_, _, fun w => two_ar 32 (.inl rfl) 115 115 x y (by decide) (by decide) w h0 h1 h2 h3, fun w => refTwo_xor_32 115 x y named_115 w h0 h1 h2 h3⟩
  · exact .inl ⟨_, _, fun w => two_sh 32 (.inl rfl) 116 116 x y (by decide) (by decide) w h0 h1 h2 h3, fun w => refTwo_shl_32 116 x y named_116 w h0 h1 h2 h3⟩
  · exact .inl ⟨_, _, fun w => two_sh 32 (.inl rfl) 117 117 x y (by decide) (by decide) w h0 h1 h2 h3, fun w => refTwo_shr_s_32 117 x y named_117 w h0 h1 h2 h3⟩
  · exact .inl ⟨_, _, fun w => two_sh 32 (.inl rfl) 118 118 x y (by decide) (by decide) w h0 h1 h2 h3, fun w => refTwo_shr_u_32 118 x y named_118 w h0 h1 h2 h3⟩
  · exact .inl ⟨_, _, fun w => two_sh 32 (.inl rfl) 119 119 x y (by decide) (by decide) w h0 h1 h2 h3, fun w => refTwo_rotl_32 119 x y named_119 w h0 h1 h2 h3⟩
  · exact .inl ⟨_, _, fun w => two_sh 32 (.inl rfl) 120 120 x y (by decide) (by decide) w h0 h1 h2 h3, fun w => refTwo_rotr_32 120 x y named_120 w h0 h1 h2 h3⟩
theorem twos_c (op x y : Int) (hl : 121 ≤ op) (hh : op ≤ 138) (h0 : 0 ≤ x) (h1 : x < 18446744073709551616) (h2 : 0 ≤ y) (h3 : y < 18446744073709551616) : (∃ v t, OK2 op x y v t) ∨ NO2 op x y := by
  have h : op = 121 ∨ op = 122 ∨ op = 123 ∨ op = 124 ∨ op = 125 ∨ op = 126 ∨ op = 127 ∨ op = 128 ∨ op = 129 ∨ op = 130 ∨ op = 131 ∨ op = 132 ∨ op = 133 ∨ op = 134 ∨ op = 135 ∨ op = 136 ∨ op = 137 ∨ op = 138 := by omega
  rcases h with rfl | rfl | rfl | rfl | rfl | rfl | rfl | rfl | rfl | rfl | rfl | rfl | rfl | rfl | rfl | rfl | rfl | rfl
  · exact .inr ⟨fun w => two_one 64 (.inr rfl) 103 121 x y (by decide) (by decide) w h0 h1 h2 h3, fun w => refTwo_one_clz 64 121 x y named_121 w⟩
  · exact .inr ⟨fun w => two_one 64 (.inr rfl) 104 122 x y (by decide) (by decide) w h0 h1 h2 h3, fun w => refTwo_one_ctz 64 122 x y named_122 w⟩
  · exact .inr ⟨fun w => two_one 64 (.inr rfl) 105 123 x y (by decide) (by decide) w h0 h1 h2 h3, fun w => refTwo_one_popcnt 64 123 x y named_123 w⟩
  · exact .inl ⟨_, _, fun w => two_ar 64 (.inr rfl) 106 124 x y (by decide) (by decide) w h0 h1 h2 h3, fun w => refTwo_add_64 124 x y named_124 w h0 h1 h2 h3⟩
  · exact .inl ⟨_, _, fun w => two_ar 64 (.inr rfl) 107 125 x y (by decide) (by decide) w h0 h1 h2 h3, fun w => refTwo_sub_64 125 x y named_125 w h0 h1 h2 h3⟩
  · exact .inl ⟨_, _, fun w => two_ar 64 (.inr rfl) 108 126 x y (by decide) (by decide) w h0 h1 h2 h3, fun w => refTwo_mul_64 126 x y named_126 w h0 h1 h2 h3⟩
  · exact .inl ⟨_, _, fun w => two_div 64 (.inr rfl) 109 127 x y (by decide) (by decide) w h0 h1 h2 h3, fun w => refTwo_div_s_64 127 x y named_127 w h0 h1 h2 h3⟩
  · exact .inl ⟨_, _, fun w => two_div 64 (.inr rfl) 110 128 x y (by decide) (by decide) w h0 h1 h2 h3, fun w => refTwo_div_u_64 128 x y named_128 w h0 h1 h2 h3⟩
  · exact .inl ⟨_, _, fun w => two_div 64 (.inr rfl) 111 129 x y (by decide) (by decide) w h0 h1 h2 h3, fun w => refTwo_rem_s_64 129 x y named_129 w h0 h1 h2 h3⟩
  · exact .inl ⟨_, _, fun w => two_div 64 (.inr rfl) 112 130 x y (by decide) (by decide) w h0 h1 h2 h3, fun w => refTwo_rem_u_64 130 x y named_130 w h0 h1 h2 h3⟩
  · exact .inl ⟨_, _, fun w => two_ar 64 (.inr rfl) 113 131 x y (by decide) (by decide) w h0 h1 h2 h3, fun w => refTwo_and_64 131 x y named_131 w h0 h1 h2 h3⟩
  · exact .inl ⟨_, _, fun w => two_ar 64 (.inr rfl) 114 132 x y (by decide) (by decide) w h0 h1 h2 h3, fun w => refTwo_or_64 132 x y named_132 w h0 h1 h2 h3⟩
  · exact .inl ⟨_, _, fun w => two_ar 64 (.inr rfl) 115 133 x y (by decide) (by decide) w h0 h1 h2 h3, fun w => refTwo_xor_64 133 x y named_133 w h0 h1 h2 h3⟩
  · exact .inl ⟨_, _, fun w => two_sh 64 (.inr rfl) 116 134 x y (by decide) (by decide) w h0 h1 h2 h3, fun w => refTwo_shl_64 134 x y named_134 w h0 h1 h2 h3⟩
  · exact .inl ⟨_, _, fun w => two_sh 64 (.inr rfl) 117 135 x y (by decide) (by decide) w h0 h1 h2 h3, fun w => refTwo_shr_s_64 135 x y named_135 w h0 h1 h2 h3⟩
  · exact .inl ⟨_, _, fun w => two_sh 64 (.inr rfl) 118 136 x y (by decide) (by decide) w h0 h1 h2 h3, fun w => refTwo_shr_u_64 136 x y named_136 w h0 h1 h2 h3⟩
  · exact .inl ⟨_, _, fun w => two_sh 64 (.inr rfl) 119 137 x y (by decide) (by decide) w h0 h1 h2 h3, fun w => refTwo_rotl_64 137 x y named_137 w h0 h1 h2 h3⟩
  · exact .inl ⟨_, _, fun w => two_sh 64 (.inr rfl) 120 138 x y (by decide) (by decide) w h0 h1 h2 h3, fun w => refTwo_rotr_64 138 x y named_138 w h0 h1 h2 h3⟩
theorem twos_all (op x y : Int) (o0 : 0 ≤ op) (o1 : op ≤ 255) (h0 : 0 ≤ x) (h1 : x < 18446744073709551616) (h2 : 0 ≤ y) (h3 : y < 18446744073709551616) : (∃ v t, OK2 op x y v t) ∨ NO2 op x y := by
  by_cases e1 : op = 167
  · subst e1
    exact .inr ⟨fun w => two_bad 167 x y (by omega) w, fun w => refTwo_one_wrap 64 167 x y named_167 w⟩
  by_cases e2 : op = 172
  · subst e2
    exact .inr ⟨fun w => two_bad 172 x y (by omega) w, fun w => refTwo_one_extend_s 32 172 x y named_172 w⟩
  by_cases e3 : op = 173
  · subst e3
    exact .inr ⟨fun w => two_bad 173 x y (by omega) w, fun w => refTwo_one_extend_u 32 173 x y named_173 w⟩
  by_cases hb : op < 69 ∨ (90 < op ∧ op < 103) ∨ 138 < op
  · exact .inr ⟨fun w => two_bad op x y hb w, fun w => refTwo_none op x y (named_bad op o0 o1 hb ⟨e1, e2, e3⟩) w⟩
  by_cases ha : op ≤ 90
  · exact twos_a op x y (by omega) ha h0 h1 h2 h3
  by_cases hc : op ≤ 120
  · exact twos_b op x y (by omega) hc h0 h1 h2 h3
  · exact twos_c op x y (by omega) (by omega) h0 h1 h2 h3
end Go.Proofs.YtkmigcegeffonaaDoor
