/- The program's One and the document's: of every instruction, at every operand, one answer. -/
import Derived.Test.YtkmigcegeffonaaDoorRefO2
import Derived.Test.YtkmigcegeffonaaDoorRefN1
import Derived.Test.YtkmigcegeffonaaDoorRefN2
import Derived.Test.YtkmigcegeffonaaDoorRefN3
namespace Go.Proofs.YtkmigcegeffonaaDoor
open Go.RowKit Num
set_option linter.unusedVariables false

def OK1 (op x v : Int) : Prop :=
  (∀ w, Tab w → Calls Tryd.prog 9 #[.int .u8 op, .int .u64 x] w fun e w' => e = .returned (.tuple #[.int .u64 v, .nilIface]) ∧ w = w') ∧
  (∀ w, Calls Tryd.prog 10 #[.int .u8 op, .int .u64 x] w fun e w' => e = .returned (.tuple #[.int .u64 v, .bool true]) ∧ Below w.heap.size w w')
def NO1 (op x : Int) : Prop :=
  (∀ w, Calls Tryd.prog 9 #[.int .u8 op, .int .u64 x] w fun e w' => e = .returned (.tuple #[.int .u64 0, errV 1]) ∧ w = w') ∧
  (∀ w, Calls Tryd.prog 10 #[.int .u8 op, .int .u64 x] w fun e w' => e = .returned (.tuple #[.int .u64 0, .bool false]) ∧ Below w.heap.size w w')

theorem ok_eqz (W : Nat) (hW : W = 32 ∨ W = 64) (op x : Int) (hop : op = opc W 69) (hN : Named op ⟨#[101, 113, 122]⟩ W) (h0 : 0 ≤ x) (h1 : x < 18446744073709551616) : ∃ v, OK1 op x v :=
  ⟨_, fun w _ => one_eqz W hW op x hop w h0 h1, fun w => refOne_eqz W hW op x hN w h0 h1⟩
theorem ok_clz (W : Nat) (hW : W = 32 ∨ W = 64) (op x : Int) (hop : op = opc W 103) (hN : Named op ⟨#[99, 108, 122]⟩ W) (h0 : 0 ≤ x) (h1 : x < 18446744073709551616) : ∃ v, OK1 op x v :=
  ⟨_, fun w _ => one_clz W hW op x hop w h0 h1, fun w => refOne_clz W hW op x hN w h0 h1⟩
theorem ok_ctz (W : Nat) (hW : W = 32 ∨ W = 64) (op x : Int) (hop : op = opc W 104) (hN : Named op ⟨#[99, 116, 122]⟩ W) (h0 : 0 ≤ x) (h1 : x < 18446744073709551616) : ∃ v, OK1 op x v :=
  ⟨_, fun w hT => one_ctz W hW op x hop w hT h0 h1, fun w => refOne_ctz W hW op x hN w h0 h1⟩
theorem ok_popcnt (W : Nat) (hW : W = 32 ∨ W = 64) (op x : Int) (hop : op = opc W 105) (hN : Named op ⟨#[112, 111, 112, 99, 110, 116]⟩ W) (h0 : 0 ≤ x) (h1 : x < 18446744073709551616) : ∃ v, OK1 op x v :=
  ⟨_, fun w _ => one_pop W hW op x hop w h0 h1, fun w => refOne_popcnt W hW op x hN w h0 h1⟩
theorem no_two (W : Nat) (hW : W = 32 ∨ W = 64) (b op x : Int) (s : ByteArray) (hop : op = opc W b) (hb : (70 ≤ b ∧ b ≤ 79) ∨ (106 ≤ b ∧ b ≤ 120)) (hN : Named op s W) (hA : AloneIs s false) (h0 : 0 ≤ x) (h1 : x < 18446744073709551616) : NO1 op x :=
  ⟨fun w => one_two W hW b op x hop hb w h0 h1, fun w => refOne_no op x s W hN hA w⟩

theorem ones_a (op x : Int) (hl : 69 ≤ op) (hh : op ≤ 90) (h0 : 0 ≤ x) (h1 : x < 18446744073709551616) : (∃ v, OK1 op x v) ∨ NO1 op x := by
  have h : op = 69 ∨ op = 70 ∨ op = 71 ∨ op = 72 ∨ op = 73 ∨ op = 74 ∨ op = 75 ∨ op = 76 ∨ op = 77 ∨ op = 78 ∨ op = 79 ∨ op = 80 ∨ op = 81 ∨ op = 82 ∨ op = 83 ∨ op = 84 ∨ op = 85 ∨ op = 86 ∨ op = 87 ∨ op = 88 ∨ op = 89 ∨ op = 90 := by omega
  rcases h with rfl | rfl | rfl | rfl | rfl | rfl | rfl | rfl | rfl | rfl | rfl | rfl | rfl | rfl | rfl | rfl | rfl | rfl | rfl | rfl | rfl | rfl
  · exact .inl (ok_eqz 32 (.inl rfl) 69 x (by decide) named_69 h0 h1)
  · exact .inr (no_two 32 (.inl rfl) 70 70 x _ (by decide) (by decide) named_70 alone_eq h0 h1)
  · exact .inr (no_two 32 (.inl rfl) 71 71 x _ (by decide) (by decide) named_71 alone_ne h0 h1)
  · exact .inr (no_two 32 (.inl rfl) 72 72 x _ (by decide) (by decide) named_72 alone_lt_s h0 h1)
  · exact .inr (no_two 32 (.inl rfl) 73 73 x _ (by decide) (by decide) named_73 alone_lt_u h0 h1)
  · exact .inr (no_two 32 (.inl rfl) 74 74 x _ (by decide) (by decide) named_74 alone_gt_s h0 h1)
  · exact .inr (no_two 32 (.inl rfl) 75 75 x _ (by decide) (by decide) named_75 alone_gt_u h0 h1)
  · exact .inr (no_two 32 (.inl rfl) 76 76 x _ (by decide) (by decide) named_76 alone_le_s h0 h1)
  · exact .inr (no_two 32 (.inl rfl) 77 77 x _ (by decide) (by decide) named_77 alone_le_u h0 h1)
  · exact .inr (no_two 32 (.inl rfl) 78 78 x _ (by decide) (by decide) named_78 alone_ge_s h0 h1)
  · exact .inr (no_two 32 (.inl rfl) 79 79 x _ (by decide) (by decide) named_79 alone_ge_u h0 h1)
  · exact .inl (ok_eqz 64 (.inr rfl) 80 x (by decide) named_80 h0 h1)
  · exact .inr (no_two 64 (.inr rfl) 70 81 x _ (by decide) (by decide) named_81 alone_eq h0 h1)
  · exact .inr (no_two 64 (.inr rfl) 71 82 x _ (by decide) (by decide) named_82 alone_ne h0 h1)
  · exact .inr (no_two 64 (.inr rfl) 72 83 x _ (by decide) (by decide) named_83 alone_lt_s h0 h1)
  · exact .inr (no_two 64 (.inr rfl) 73 84 x _ (by decide) (by decide) named_84 alone_lt_u h0 h1)
  · exact .inr (no_two 64 (.inr rfl) 74 85 x _ (by decide) (by decide) named_85 alone_gt_s h0 h1)
  · exact .inr (no_two 64 (.inr rfl) 75 86 x _ (by decide) (by decide) named_86 alone_gt_u h0 h1)
  · exact .inr (no_two 64 (.inr rfl) 76 87 x _ (by decide) (by decide) named_87 alone_le_s h0 h1)
  · exact .inr (no_two 64 (.inr rfl) 77 88 x _ (by decide) (by decide) named_88 alone_le_u h0 h1)
  · exact .inr (no_two 64 (.inr rfl) 78 89 x _ (by decide) (by decide) named_89 alone_ge_s h0 h1)
  · exact .inr (no_two 64 (.inr rfl) 79 90 x _ (by decide) (by decide) named_90 alone_ge_u h0 h1)
theorem ones_b (op x : Int) (hl : 103 ≤ op) (hh : op ≤ 120) (h0 : 0 ≤ x) (h1 : x < 18446744073709551616) : (∃ v, OK1 op x v) ∨ NO1 op x := by
  have h : op = 103 ∨ op = 104 ∨ op = 105 ∨ op = 106 ∨ op = 107 ∨ op = 108 ∨ op = 109 ∨ op = 110 ∨ op = 111 ∨ op = 112 ∨ op = 113 ∨ op = 114 ∨ op = 115 ∨ op = 116 ∨ op = 117 ∨ op = 118 ∨ op = 119 ∨ op = 120 := by omega
  rcases h with rfl | rfl | rfl | rfl | rfl | rfl | rfl | rfl | rfl | rfl | rfl | rfl | rfl | rfl | rfl | rfl | rfl | rfl
  · exact .inl (ok_clz 32 (.inl rfl) 103 x (by decide) named_103 h0 h1)
  · exact .inl (ok_ctz 32 (.inl rfl) 104 x (by decide) named_104 h0 h1)
  · exact .inl (ok_popcnt 32 (.inl rfl) 105 x (by decide) named_105 h0 h1)
  · exact .inr (no_two 32 (.inl rfl) 106 106 x _ (by decide) (by decide) named_106 alone_add h0 h1)
  · exact .inr (no_two 32 (.inl rfl) 107 107 x _ (by decide) (by decide) named_107 alone_sub h0 h1)
  · exact .inr (no_two 32 (.inl rfl) 108 108 x _ (by decide) (by decide) named_108 alone_mul h0 h1)
  · exact .inr (no_two 32 (.inl rfl) 109 109 x _ (by decide) (by decide) named_109 alone_div_s h0 h1)
  · exact .inr (no_two 32 (.inl rfl) 110 110 x _ (by decide) (by decide) named_110 alone_div_u h0 h1)
  · exact .inr (no_two 32 (.inl rfl) 111 111 x _ (by decide) (by decide) named_111 alone_rem_s h0 h1)
  · exact .inr (no_two 32 (.inl rfl) 112 112 x _ (by decide) (by decide) named_112 alone_rem_u h0 h1)
  · exact .inr (no_two 32 (.inl rfl) 113 113 x _ (by decide) (by decide) named_113 alone_and h0 h1)
  · exact .inr (no_two 32 (.inl rfl) 114 114 x _ (by decide) (by decide) named_114 alone_or h0 h1)
  · exact .inr (no_two 32 (.inl rfl) 115 115 x _ (by decide) (by decide) named_115 alone_xor h0 h1)
  · exact .inr (no_two 32 (.inl rfl) 116 116 x _ (by decide) (by decide) named_116 alone_shl h0 h1)
  · exact .inr (no_two 32 (.inl rfl) 117 117 x _ (by decide) (by decide) named_117 alone_shr_s h0 h1)
  · exact .inr (no_two 32 (.inl rfl) 118 118 x _ (by decide) (by decide) named_118 alone_shr_u h0 h1)
  · exact .inr (no_two 32 (.inl rfl) 119 119 x _ (by decide) (by decide) named_119 alone_rotl h0 h1)
  · exact .inr (no_two 32 (.inl rfl) 120 120 x _ (by decide) (by decide) named_120 alone_rotr h0 h1)
theorem ones_c (op x : Int) (hl : 121 ≤ op) (hh : op ≤ 138) (h0 : 0 ≤ x) (h1 : x < 18446744073709551616) : (∃ v, OK1 op x v) ∨ NO1 op x := by
  have h : op = 121 ∨ op = 122 ∨ op = 123 ∨ op = 124 ∨ op = 125 ∨ op = 126 ∨ op = 127 ∨ op = 128 ∨ op = 129 ∨ op = 130 ∨ op = 131 ∨ op = 132 ∨ op = 133 ∨ op = 134 ∨ op = 135 ∨ op = 136 ∨ op = 137 ∨ op = 138 := by omega
  rcases h with rfl | rfl | rfl | rfl | rfl | rfl | rfl | rfl | rfl | rfl | rfl | rfl | rfl | rfl | rfl | rfl | rfl | rfl
  · exact .inl (ok_clz 64 (.inr rfl) 121 x (by decide) named_121 h0 h1)
  · exact .inl (ok_ctz 64 (.inr rfl) 122 x (by decide) named_122 h0 h1)
  · exact .inl (ok_popcnt 64 (.inr rfl) 123 x (by decide) named_123 h0 h1)
  · exact .inr (no_two 64 (.inr rfl) 106 124 x _ (by decide) (by decide) named_124 alone_add h0 h1)
  · exact .inr (no_two 64 (.inr rfl) 107 125 x _ (by decide) (by decide) named_125 alone_sub h0 h1)
  · exact .inr (no_two 64 (.inr rfl) 108 126 x _ (by decide) (by decide) named_126 alone_mul h0 h1)
  · exact .inr (no_two 64 (.inr rfl) 109 127 x _ (by decide) (by decide) named_127 alone_div_s h0 h1)
  · exact .inr (no_two 64 (.inr rfl) 110 128 x _ (by decide) (by decide) named_128 alone_div_u h0 h1)
  · exact .inr (no_two 64 (.inr rfl) 111 129 x _ (by decide) (by decide) named_129 alone_rem_s h0 h1)
  · exact .inr (no_two 64 (.inr rfl) 112 130 x _ (by decide) (by decide) named_130 alone_rem_u h0 h1)
  · exact .inr (no_two 64 (.inr rfl) 113 131 x _ (by decide) (by decide) named_131 alone_and h0 h1)
  · exact .inr (no_two 64 (.inr rfl) 114 132 x _ (by decide) (by decide) named_132 alone_or h0 h1)
  · exact .inr (no_two 64 (.inr rfl) 115 133 x _ (by decide) (by decide) named_133 alone_xor h0 h1)
  · exact .inr (no_two 64 (.inr rfl) 116 134 x _ (by decide) (by decide) named_134 alone_shl h0 h1)
  · exact .inr (no_two 64 (.inr rfl) 117 135 x _ (by decide) (by decide) named_135 alone_shr_s h0 h1)
  · exact .inr (no_two 64 (.inr rfl) 118 136 x _ (by decide) (by decide) named_136 alone_shr_u h0 h1)
  · exact .inr (no_two 64 (.inr rfl) 119 137 x _ (by decide) (by decide) named_137 alone_rotl h0 h1)
  · exact .inr (no_two 64 (.inr rfl) 120 138 x _ (by decide) (by decide) named_138 alone_rotr h0 h1)
theorem ones_all (op x : Int) (o0 : 0 ≤ op) (o1 : op ≤ 255) (h0 : 0 ≤ x) (h1 : x < 18446744073709551616) : (∃ v, OK1 op x v) ∨ NO1 op x := by
  by_cases e1 : op = 167
  · subst e1
    exact .inl ⟨_, fun w _ => one_low 167 x (.inl rfl) w h0 h1, fun w => refOne_wrap 167 x named_167 w h0 h1⟩
  by_cases e2 : op = 172
  · subst e2
    exact .inl ⟨_, fun w _ => one_sgn x w h0 h1, fun w => refOne_extend_s 172 x named_172 w h0 h1⟩
  by_cases e3 : op = 173
  · subst e3
    exact .inl ⟨_, fun w _ => one_low 173 x (.inr rfl) w h0 h1, fun w => refOne_extend_u 173 x named_173 w h0 h1⟩
  by_cases hb : op < 69 ∨ (90 < op ∧ op < 103) ∨ 138 < op
  · exact .inr ⟨fun w => one_bad op x hb ⟨e1, e2, e3⟩ w, fun w => refOne_no op x _ _ (named_bad op o0 o1 hb ⟨e1, e2, e3⟩) alone_none w⟩
  by_cases ha : op ≤ 90
  · exact ones_a op x (by omega) ha h0 h1
  by_cases hc : op ≤ 120
  · exact ones_b op x (by omega) hc h0 h1
  · exact ones_c op x (by omega) (by omega) h0 h1
end Go.Proofs.YtkmigcegeffonaaDoor
