/- num.One, Signed, Value; the statements' sure(). -/
import Derived.Test.YtkmigcegeffonaaDoorNumD
namespace Go.Proofs.YtkmigcegeffonaaDoor
open Go.RowKit Num
set_option linter.unusedVariables false

theorem lo_toNat (W : Nat) (hW : W = 32 ∨ W = 64) (x : Int) : ∃ n : Nat, lo W x = (n : Int) ∧ n < 2 ^ W ∧ n < 18446744073709551616 := by
  have h := lo_lt W hW x
  refine ⟨(lo W x).toNat, by omega, ?_, ?_⟩
  · rw [pw_eq W hW] at h; omega
  · have := lo_bd W hW x; omega

set_option maxHeartbeats 800000 in
theorem one_low (op x : Int) (h : op = 167 ∨ op = 173) (w : World) (h0 : 0 ≤ x) (h1 : x < 18446744073709551616) :
    Calls Tryd.prog 9 #[.int .u8 op, .int .u64 x] w fun e w' => e = .returned (.tuple #[.int .u64 (lo 32 x), .nilIface]) ∧ w = w' := by
  have hc := fun wx => cut_any 32 (.inl rfl) x wx h0 h1
  rw [kd_32] at hc
  have HC := hide hc; clear hc
  rcases h with rfl | rfl
  all_goals
    go_enter Tryd.func9, Tryd.ntmps9
    go_wp2_with fail
    refine (unhide HC _).mono ?_
    rintro e w1 ⟨rfl, rfl⟩
    go_wp2
    go_ret2
    exact ⟨by kernel_rfl, rfl⟩
set_option maxHeartbeats 800000 in
theorem one_sgn (x : Int) (w : World) (h0 : 0 ≤ x) (h1 : x < 18446744073709551616) :
    Calls Tryd.prog 9 #[.int .u8 172, .int .u64 x] w fun e w' => e = .returned (.tuple #[.int .u64 (IntKind.u64.wrap (sg 32 x)), .nilIface]) ∧ w = w' := by
  have hc := fun wx => withSign_any 32 (.inl rfl) x wx h0 h1
  rw [kd_32] at hc
  have HC := hide hc; clear hc
  go_enter Tryd.func9, Tryd.ntmps9
  go_wp2_with fail
  refine (unhide HC _).mono ?_
  rintro e w1 ⟨rfl, rfl⟩
  go_wp2
  go_ret2
  exact ⟨by kernel_rfl, rfl⟩

theorem opc_ne (W : Nat) (hW : W = 32 ∨ W = 64) (b op : Int) (hop : op = opc W b) (hb : (69 ≤ b ∧ b ≤ 79) ∨ (103 ≤ b ∧ b ≤ 120)) : (op == 167) = false ∧ (op == 173) = false ∧ (op == 172) = false := by
  rcases hW with rfl | rfl
  · rw [opc_32] at hop; subst hop; simp; omega
  · rw [opc_64] at hop
    have : op ≤ 138 := by
      rcases hb with h | h
      · rw [if_pos h.2] at hop; omega
      · rw [if_neg (by omega)] at hop; omega
    simp; omega

set_option maxHeartbeats 800000 in
theorem one_eqz (W : Nat) (hW : W = 32 ∨ W = 64) (op x : Int) (hop : op = opc W 69) (w : World) (h0 : 0 ≤ x) (h1 : x < 18446744073709551616) :
    Calls Tryd.prog 9 #[.int .u8 op, .int .u64 x] w fun e w' => e = .returned (.tuple #[.int .u64 (b01 (lo W x == 0)), .nilIface]) ∧ w = w' := by
  obtain ⟨t1, t2, t3⟩ := opc_ne W hW 69 op hop (by omega)
  have HSP := hide (split_ok W hW 69 op hop (by omega)); clear hop
  go_enter Tryd.func9, Tryd.ntmps9
  go_wp2_with fail
  refine (unhide HSP _).mono ?_
  rintro e w1 ⟨rfl, rfl⟩
  go_wp2_with fail
  refine (cut_any W hW x _ h0 h1).mono ?_
  rintro e w1 ⟨rfl, rfl⟩
  go_wp2_with fail
  refine (truth_any _ _).mono ?_
  rintro e w1 ⟨rfl, rfl⟩
  go_wp2
  go_ret2
  exact ⟨by kernel_rfl, rfl⟩

set_option maxHeartbeats 800000 in
theorem one_clz (W : Nat) (hW : W = 32 ∨ W = 64) (op x : Int) (hop : op = opc W 103) (w : World) (h0 : 0 ≤ x) (h1 : x < 18446744073709551616) :
    Calls Tryd.prog 9 #[.int .u8 op, .int .u64 x] w fun e w' => e = .returned (.tuple #[.int .u64 ((W : Int) - (bitLen (lo W x).toNat : Nat)), .nilIface]) ∧ w = w' := by
  obtain ⟨t1, t2, t3⟩ := opc_ne W hW 103 op hop (by omega)
  have HSP := hide (split_ok W hW 103 op hop (by omega)); clear hop
  obtain ⟨n, hn, hnW, hn64⟩ := lo_toNat W hW x
  have hbl : bitLen n ≤ W := by
    unfold bitLen
    split
    · omega
    · rename_i hz
      have := (Nat.log2_lt hz).2 hnW
      omega
  have hcut := fun wx => cut_any W hW x wx h0 h1
  rw [hn] at hcut ⊢
  rw [Int.toNat_natCast]
  have hlz := fun wx => lz64_any n wx hn64
  generalize bitLen n = B at *
  have HC := hide hcut; have HL := hide hlz; clear hcut hlz hn
  go_enter Tryd.func9, Tryd.ntmps9
  go_wp2_with fail
  refine (unhide HSP _).mono ?_
  rintro e w1 ⟨rfl, rfl⟩
  go_wp2_with fail
  refine (unhide HC _).mono ?_
  rintro e w1 ⟨rfl, rfl⟩
  go_wp2_with fail
  refine (unhide HL _).mono ?_
  rintro e w1 ⟨rfl, rfl⟩
  go_wp2_with fail
  refine (width_any W hW _).mono ?_
  rintro e w1 ⟨rfl, rfl⟩
  go_wp2
  go_ret2
  refine ⟨ret2 ?_ rfl, rfl⟩
  first | rfl | omega | (simp only [IntKind.wrap_u64]; omega)

set_option maxHeartbeats 800000 in
theorem one_ctz (W : Nat) (hW : W = 32 ∨ W = 64) (op x : Int) (hop : op = opc W 104) (w : World) (hT : Tab w) (h0 : 0 ≤ x) (h1 : x < 18446744073709551616) :
    Calls Tryd.prog 9 #[.int .u8 op, .int .u64 x] w fun e w' => e = .returned (.tuple #[.int .u64 (min (Lib.ctz 64 (lo W x).toNat) W : Nat), .nilIface]) ∧ w = w' := by
  obtain ⟨t1, t2, t3⟩ := opc_ne W hW 104 op hop (by omega)
  have HSP := hide (split_ok W hW 104 op hop (by omega)); clear hop
  obtain ⟨n, hn, hnW, hn64⟩ := lo_toNat W hW x
  have hct : Lib.ctz 64 n ≤ 64 := by
    by_cases hz : n = 0
    · subst hz; simp [Lib.ctz]
    · exact Nat.le_of_lt (Lib.lowest_bit 64 n hz hn64).2
  have hcut := fun wx => cut_any W hW x wx h0 h1
  rw [hn] at hcut ⊢
  rw [Int.toNat_natCast]
  have htz := tz64_any n hn64 w hT
  generalize Lib.ctz 64 n = C at *
  have HC := hide hcut; have HL := hide htz; clear hcut htz hn hT
  by_cases hCW : C ≤ W
  · rw [Nat.min_eq_left hCW]
    go_enter Tryd.func9, Tryd.ntmps9
    go_wp2_with fail
    refine (unhide HSP _).mono ?_
    rintro e w1 ⟨rfl, rfl⟩
    go_wp2_with fail
    refine (unhide HC _).mono ?_
    rintro e w1 ⟨rfl, rfl⟩
    go_wp2_with fail
    refine (unhide HL).mono ?_
    rintro e w1 ⟨rfl, rfl⟩
    go_wp2_with fail
    refine (width_any W hW _).mono ?_
    rintro e w1 ⟨rfl, rfl⟩
    go_wp2
    go_ret2
    exact ⟨ret2 rfl rfl, rfl⟩
  · rw [Nat.min_eq_right (by omega)]
    go_enter Tryd.func9, Tryd.ntmps9
    go_wp2_with fail
    refine (unhide HSP _).mono ?_
    rintro e w1 ⟨rfl, rfl⟩
    go_wp2_with fail
    refine (unhide HC _).mono ?_
    rintro e w1 ⟨rfl, rfl⟩
    go_wp2_with fail
    refine (unhide HL).mono ?_
    rintro e w1 ⟨rfl, rfl⟩
    go_wp2_with fail
    refine (width_any W hW _).mono ?_
    rintro e w1 ⟨rfl, rfl⟩
    go_wp2
    go_ret2
    exact ⟨ret2 rfl rfl, rfl⟩

set_option maxHeartbeats 800000 in
theorem one_pop (W : Nat) (hW : W = 32 ∨ W = 64) (op x : Int) (hop : op = opc W 105) (w : World) (h0 : 0 ≤ x) (h1 : x < 18446744073709551616) :
    Calls Tryd.prog 9 #[.int .u8 op, .int .u64 x] w fun e w' => e = .returned (.tuple #[.int .u64 (pcn 64 (lo W x).toNat : Nat), .nilIface]) ∧ w = w' := by
  obtain ⟨t1, t2, t3⟩ := opc_ne W hW 105 op hop (by omega)
  have HSP := hide (split_ok W hW 105 op hop (by omega)); clear hop
  obtain ⟨n, hn, hnW, hn64⟩ := lo_toNat W hW x
  have hcut := fun wx => cut_any W hW x wx h0 h1
  rw [hn] at hcut ⊢
  rw [Int.toNat_natCast]
  have hoc := fun wx => ones_any n wx hn64
  have hle := pcn_le 64 n
  generalize pcn 64 n = C at *
  have HC := hide hcut; have HL := hide hoc; clear hcut hoc hn
  go_enter Tryd.func9, Tryd.ntmps9
  go_wp2_with fail
  refine (unhide HSP _).mono ?_
  rintro e w1 ⟨rfl, rfl⟩
  go_wp2_with fail
  refine (unhide HC _).mono ?_
  rintro e w1 ⟨rfl, rfl⟩
  go_wp2_with fail
  refine (unhide HL _).mono ?_
  rintro e w1 ⟨rfl, rfl⟩
  go_wp2
  go_ret2
  refine ⟨ret2 ?_ rfl, rfl⟩
  first | rfl | omega | (simp only [IntKind.wrap_u64]; omega)

set_option maxHeartbeats 800000 in
theorem one_bad (op x : Int) (h : op < 69 ∨ (90 < op ∧ op < 103) ∨ 138 < op) (hn : op ≠ 167 ∧ op ≠ 172 ∧ op ≠ 173) (w : World) :
    Calls Tryd.prog 9 #[.int .u8 op, .int .u64 x] w fun e w' => e = .returned (.tuple #[.int .u64 0, errV 1]) ∧ w = w' := by
  obtain ⟨n1, n2, n3⟩ := hn
  have t1 : (op == 167) = false := by simp [n1]
  have t2 : (op == 172) = false := by simp [n2]
  have t3 : (op == 173) = false := by simp [n3]
  have HSP := hide (split_bad op h); clear h
  go_enter Tryd.func9, Tryd.ntmps9
  go_wp2_with fail
  refine (unhide HSP _).mono ?_
  rintro e w1 ⟨rfl, rfl⟩
  go_wp2_with fail
  refine (cut_none x _).mono ?_
  rintro e w1 ⟨rfl, rfl⟩
  go_wp2
  go_ret2
  exact ⟨by rw [errV_1]; kernel_rfl, rfl⟩
set_option maxHeartbeats 800000 in
theorem one_two (W : Nat) (hW : W = 32 ∨ W = 64) (b op x : Int) (hop : op = opc W b) (hb : (70 ≤ b ∧ b ≤ 79) ∨ (106 ≤ b ∧ b ≤ 120)) (w : World) (h0 : 0 ≤ x) (h1 : x < 18446744073709551616) :
    Calls Tryd.prog 9 #[.int .u8 op, .int .u64 x] w fun e w' => e = .returned (.tuple #[.int .u64 0, errV 1]) ∧ w = w' := by
  obtain ⟨t1, t2, t3⟩ := opc_ne W hW b op hop (by omega)
  have HSP := hide (split_ok W hW b op hop (by clear hop; omega)); clear hop
  have u1 : (b == 69) = false := by simp; omega
  have u2 : (b == 103) = false := by simp; omega
  have u3 : (b == 104) = false := by simp; omega
  have u4 : (b == 105) = false := by simp; omega
  clear hb
  go_enter Tryd.func9, Tryd.ntmps9
  go_wp2_with fail
  refine (unhide HSP _).mono ?_
  rintro e w1 ⟨rfl, rfl⟩
  go_wp2_with fail
  refine (cut_any W hW x _ h0 h1).mono ?_
  rintro e w1 ⟨rfl, rfl⟩
  go_wp2
  go_ret2
  exact ⟨by rw [errV_1]; kernel_rfl, rfl⟩

set_option maxHeartbeats 400000 in
theorem signed_any (W : Nat) (hW : W = 32 ∨ W = 64) (x : Int) (w : World) (h0 : 0 ≤ x) (h1 : x < 18446744073709551616) :
    Calls Tryd.prog 15 #[.int .u8 (kd W), .int .u64 x] w fun e w' => e = .returned (.tuple #[.int .i64 (sg W x), .nilIface]) ∧ w = w' := by
  go_enter Tryd.func15, Tryd.ntmps15
  go_wp2_with fail
  refine (isKind_any W hW _).mono ?_
  rintro e w1 ⟨rfl, rfl⟩
  go_wp2_with fail
  refine (withSign_any W hW x _ h0 h1).mono ?_
  rintro e w1 ⟨rfl, rfl⟩
  go_wp2
  go_ret2
  exact ⟨by kernel_rfl, rfl⟩
theorem signed_bad (k x : Int) (h : k ≠ 127) (h2 : k ≠ 126) (w : World) :
    Calls Tryd.prog 15 #[.int .u8 k, .int .u64 x] w fun e w' => e = .returned (.tuple #[.int .i64 0, errV 1]) ∧ w = w' := by
  go_enter Tryd.func15, Tryd.ntmps15
  go_wp2_with fail
  refine (isKind_no k h h2 _).mono ?_
  rintro e w1 ⟨rfl, rfl⟩
  go_wp2
  go_ret2
  exact ⟨by rw [errV_1]; kernel_rfl, rfl⟩
set_option maxHeartbeats 400000 in
theorem value_any (W : Nat) (hW : W = 32 ∨ W = 64) (n : Int) (w : World) :
    Calls Tryd.prog 16 #[.int .u8 (kd W), .int .i64 n] w fun e w' => e = .returned (.tuple #[.int .u64 (lo W n), .nilIface]) ∧ w = w' := by
  go_enter Tryd.func16, Tryd.ntmps16
  go_wp2_with fail
  refine (isKind_any W hW _).mono ?_
  rintro e w1 ⟨rfl, rfl⟩
  go_wp2_with fail
  refine (cut_any W hW _ _ (u64_bd _).1 (u64_bd _).2).mono ?_
  rintro e w1 ⟨rfl, rfl⟩
  rw [lo_u64 W hW]
  go_wp2
  go_ret2
  exact ⟨by kernel_rfl, rfl⟩
theorem value_bad (k n : Int) (h : k ≠ 127) (h2 : k ≠ 126) (w : World) :
    Calls Tryd.prog 16 #[.int .u8 k, .int .i64 n] w fun e w' => e = .returned (.tuple #[.int .u64 0, errV 1]) ∧ w = w' := by
  go_enter Tryd.func16, Tryd.ntmps16
  go_wp2_with fail
  refine (isKind_no k h h2 _).mono ?_
  rintro e w1 ⟨rfl, rfl⟩
  go_wp2
  go_ret2
  exact ⟨by rw [errV_1]; kernel_rfl, rfl⟩

theorem su_dv : dvV 32 109 (lo 32 2147483648) (lo 32 4294967295) = 0 ∧ dvT 32 109 (lo 32 2147483648) (lo 32 4294967295) = 3 := by decide +kernel
theorem su_bl : ((32 : Nat) : Int) - (bitLen (lo 32 1).toNat : Nat) = 31 := by decide +kernel
theorem su_sg : sg 32 4294967295 = -1 := by decide +kernel
theorem su_lo : lo 32 (-1) = 4294967295 := by decide +kernel
set_option maxHeartbeats 800000 in
theorem sure_any (w : World) : Calls Tryd.prog 12 #[] w fun e w' => e = .returned (.bool true) ∧ w = w' := by
  have h1 := fun wx => two_div 32 (.inl rfl) 109 109 2147483648 4294967295 rfl (by omega) wx (by omega) (by omega) (by omega) (by omega)
  rw [su_dv.1, su_dv.2] at h1
  have h2 := fun wx => one_clz 32 (.inl rfl) 103 1 rfl wx (by omega) (by omega)
  rw [su_bl] at h2
  have h3 := fun wx => signed_any 32 (.inl rfl) 4294967295 wx (by omega) (by omega)
  rw [su_sg, kd_32] at h3
  have h4 := fun wx => value_any 32 (.inl rfl) (-1) wx
  rw [su_lo, kd_32] at h4
  have H1 := hide h1; have H2 := hide h2; have H3 := hide h3; have H4 := hide h4
  clear h1 h2 h3 h4
  go_enter Tryd.func12, Tryd.ntmps12
  go_wp2_with fail
  refine (unhide H1 _).mono ?_
  rintro e w1 ⟨rfl, rfl⟩
  go_wp2_with fail
  refine (unhide H2 _).mono ?_
  rintro e w1 ⟨rfl, rfl⟩
  go_wp2_with fail
  refine (unhide H3 _).mono ?_
  rintro e w1 ⟨rfl, rfl⟩
  go_wp2_with fail
  refine (unhide H4 _).mono ?_
  rintro e w1 ⟨rfl, rfl⟩
  go_wp2
  go_ret
  exact ⟨rfl, rfl⟩
end Go.Proofs.YtkmigcegeffonaaDoor
