/- num.Two: what comes of an instruction of two operands, the trap, the error; the world stands. -/
import Derived.Test.YtkmigcegeffonaaDoorNumB
namespace Go.Proofs.YtkmigcegeffonaaDoor
open Go.RowKit Num
set_option linter.unusedVariables false

set_option maxHeartbeats 800000 in
theorem two_cmp (W : Nat) (hW : W = 32 ∨ W = 64) (b op x y : Int) (hop : op = opc W b) (hb : 70 ≤ b ∧ b ≤ 79) (w : World) (h0 : 0 ≤ x) (h1 : x < 18446744073709551616) (h2 : 0 ≤ y) (h3 : y < 18446744073709551616) :
    Calls Tryd.prog 13 #[.int .u8 op, .int .u64 x, .int .u64 y] w fun e w' => e = .returned (.tuple #[.int .u64 (b01 (cmpB W b (lo W x) (lo W y))), .int .i64 0, .nilIface]) ∧ w = w' := by
  have bx := lo_bd W hW x; have hby := lo_bd W hW y
  obtain ⟨hb1, hb2⟩ := hb
  have hsp := split_ok W hW b op hop (by clear hop; omega)
  clear hop
  have HSP := hide hsp; clear hsp
  go_enter Tryd.func13, Tryd.ntmps13
  go_wp2_with fail
  refine (unhide HSP _).mono ?_
  rintro e w1 ⟨rfl, rfl⟩
  go_wp2_with fail
  refine (cut_any W hW x _ h0 h1).mono ?_
  rintro e w1 ⟨rfl, rfl⟩
  go_wp2_with fail
  refine (cut_any W hW y _ h2 h3).mono ?_
  rintro e w1 ⟨rfl, rfl⟩
  go_wp2_with fail
  refine (holds_any W hW b _ _ ⟨hb1, hb2⟩ _ bx.1 bx.2 hby.1 hby.2).mono ?_
  rintro e w1 ⟨rfl, rfl⟩
  go_wp2_with fail
  refine (truth_any _ _).mono ?_
  rintro e w1 ⟨rfl, rfl⟩
  go_wp2_with fail
  go_ret3
  exact ⟨by kernel_rfl, rfl⟩

theorem sg_ne (W : Nat) (hW : W = 32 ∨ W = 64) (y : Int) (h : lo W y ≠ 0) : sg W (lo W y) ≠ 0 := by
  rw [sg_lo]
  rcases hW with rfl | rfl <;> simp only [sg, lo, pw_32, pw_64, hf_32, hf_64] at h ⊢ <;> omega

set_option maxHeartbeats 800000 in
theorem two_div (W : Nat) (hW : W = 32 ∨ W = 64) (b op x y : Int) (hop : op = opc W b) (hb : 109 ≤ b ∧ b ≤ 112) (w : World) (h0 : 0 ≤ x) (h1 : x < 18446744073709551616) (h2 : 0 ≤ y) (h3 : y < 18446744073709551616) :
    Calls Tryd.prog 13 #[.int .u8 op, .int .u64 x, .int .u64 y] w fun e w' => e = .returned (.tuple #[.int .u64 (dvV W b (lo W x) (lo W y)), .int .i64 (dvT W b (lo W x) (lo W y)), .nilIface]) ∧ w = w' := by
  have bx := lo_bd W hW x; have hby := lo_bd W hW y
  obtain ⟨hb1, hb2⟩ := hb
  have t1 : decide (b ≤ 79) = false := by simp; omega
  have hsp := split_ok W hW b op hop (by clear hop; omega)
  clear hop
  have HSP := hide hsp; clear hsp
  go_enter Tryd.func13, Tryd.ntmps13
  go_wp2_with fail
  refine (unhide HSP _).mono ?_
  rintro e w1 ⟨rfl, rfl⟩
  go_wp2_with fail
  refine (cut_any W hW x _ h0 h1).mono ?_
  rintro e w1 ⟨rfl, rfl⟩
  go_wp2_with fail
  refine (cut_any W hW y _ h2 h3).mono ?_
  rintro e w1 ⟨rfl, rfl⟩
  go_wp2_with fail
  refine (divide_any W hW b _ _ ⟨hb1, hb2⟩ _ bx.1 bx.2 hby.1 hby.2 (sg_ne W hW y)).mono ?_
  rintro e w1 ⟨rfl, rfl⟩
  go_wp2_with fail
  go_ret3
  exact ⟨by kernel_rfl, rfl⟩

set_option maxHeartbeats 800000 in
theorem two_ar (W : Nat) (hW : W = 32 ∨ W = 64) (b op x y : Int) (hop : op = opc W b) (hb : (106 ≤ b ∧ b ≤ 108) ∨ (113 ≤ b ∧ b ≤ 115)) (w : World) (h0 : 0 ≤ x) (h1 : x < 18446744073709551616) (h2 : 0 ≤ y) (h3 : y < 18446744073709551616) :
    Calls Tryd.prog 13 #[.int .u8 op, .int .u64 x, .int .u64 y] w fun e w' => e = .returned (.tuple #[.int .u64 (lo W (arV b (lo W x) (lo W y))), .int .i64 0, .nilIface]) ∧ w = w' := by
  have bx := lo_bd W hW x; have hby := lo_bd W hW y
  have t1 : decide (b ≤ 79) = false := by simp; omega
  have hsp := split_ok W hW b op hop (by clear hop; omega)
  clear hop
  have HSP := hide hsp; clear hsp
  go_enter Tryd.func13, Tryd.ntmps13
  go_wp2_with fail
  refine (unhide HSP _).mono ?_
  rintro e w1 ⟨rfl, rfl⟩
  go_wp2_with fail
  refine (cut_any W hW x _ h0 h1).mono ?_
  rintro e w1 ⟨rfl, rfl⟩
  go_wp2_with fail
  refine (cut_any W hW y _ h2 h3).mono ?_
  rintro e w1 ⟨rfl, rfl⟩
  have hrk := fun wx => reckon_any b (lo W x) (lo W y) hb wx bx.1 bx.2 hby.1 hby.2
  have hm := lo_m64 W hW (arV b (lo W x) (lo W y))
  have hbd : 0 ≤ arV b (lo W x) (lo W y) % 18446744073709551616 ∧ arV b (lo W x) (lo W y) % 18446744073709551616 < 18446744073709551616 := by omega
  generalize arV b (lo W x) (lo W y) = V at *
  generalize hQ : V % 18446744073709551616 = Q at *
  have HM := hide hm; clear hm hQ
  rcases hb with ⟨hb1, hb2⟩ | ⟨hb1, hb2⟩
  · have t2 : decide (109 ≤ b) = false := by simp; omega
    go_wp2_with fail
    refine (hrk _).mono ?_
    rintro e w1 ⟨rfl, rfl⟩
    go_wp2_with fail
    refine (cut_any W hW Q _ hbd.1 hbd.2).mono ?_
    rintro e w1 ⟨rfl, rfl⟩
    rw [unhide HM]
    go_wp2_with fail
    go_ret3
    exact ⟨by kernel_rfl, rfl⟩
  · have t2 : decide (b ≤ 112) = false := by simp; omega
    have t3 : decide (b ≤ 108) = false := by simp; omega
    go_wp2_with fail
    refine (hrk _).mono ?_
    rintro e w1 ⟨rfl, rfl⟩
    go_wp2_with fail
    refine (cut_any W hW Q _ hbd.1 hbd.2).mono ?_
    rintro e w1 ⟨rfl, rfl⟩
    rw [unhide HM]
    go_wp2_with fail
    go_ret3
    exact ⟨by kernel_rfl, rfl⟩

set_option maxHeartbeats 800000 in
theorem two_sh (W : Nat) (hW : W = 32 ∨ W = 64) (b op x y : Int) (hop : op = opc W b) (hb : 116 ≤ b ∧ b ≤ 120) (w : World) (h0 : 0 ≤ x) (h1 : x < 18446744073709551616) (h2 : 0 ≤ y) (h3 : y < 18446744073709551616) :
    Calls Tryd.prog 13 #[.int .u8 op, .int .u64 x, .int .u64 y] w fun e w' => e = .returned (.tuple #[.int .u64 (shV W b (lo W x) (lo W y % W)), .int .i64 0, .nilIface]) ∧ w = w' := by
  have bx := lo_bd W hW x; have hby := lo_bd W hW y; have bx2 := lo_lt W hW x
  obtain ⟨hb1, hb2⟩ := hb
  have t1 : decide (b ≤ 79) = false := by simp; omega
  have t2 : decide (b ≤ 112) = false := by simp; omega
  have t3 : decide (b ≤ 108) = false := by simp; omega
  have t4 : decide (b ≤ 115) = false := by simp; omega
  have hWz : ((W : Int) == 0) = false := by simp; omega
  have hn : 0 ≤ lo W y % (W : Int) ∧ lo W y % (W : Int) < W := ⟨Int.emod_nonneg _ (by omega), Int.emod_lt_of_pos _ (by omega)⟩
  have hsh := fun wx => shift_any W hW b (lo W x) (lo W y % (W : Int)) ⟨hb1, hb2⟩ wx bx.1 bx.2 hn.1 hn.2
  have hlo := lo_shW W hW b (lo W x) (lo W y % (W : Int)) bx2.1 bx2.2 hn.1 hn.2
  have hbd := shW_bd W hW b (lo W x) (lo W y % (W : Int)) bx.1 bx.2
  have HL := hide hlo; have HS := hide hsh; have HB := hide hbd; clear hlo hsh hbd bx2
  have hsp := split_ok W hW b op hop (by clear hop; omega)
  clear hop
  have HSP := hide hsp; clear hsp
  go_enter Tryd.func13, Tryd.ntmps13
  go_wp2_with fail
  refine (unhide HSP _).mono ?_
  rintro e w1 ⟨rfl, rfl⟩
  go_wp2_with fail
  refine (cut_any W hW x _ h0 h1).mono ?_
  rintro e w1 ⟨rfl, rfl⟩
  go_wp2_with fail
  refine (cut_any W hW y _ h2 h3).mono ?_
  rintro e w1 ⟨rfl, rfl⟩
  go_wp2_with fail
  refine (width_any W hW _).mono ?_
  rintro e w1 ⟨rfl, rfl⟩
  go_wp2_with fail
  refine ((unhide HS) _).mono ?_
  rintro e w1 ⟨rfl, rfl⟩
  go_wp2_with fail
  refine (cut_any W hW _ _ (unhide HB).1 (unhide HB).2).mono ?_
  rintro e w1 ⟨rfl, rfl⟩
  rw [unhide HL]
  go_wp2_with fail
  go_ret3
  exact ⟨by kernel_rfl, rfl⟩

set_option maxHeartbeats 800000 in
theorem two_bad (op x y : Int) (h : op < 69 ∨ (90 < op ∧ op < 103) ∨ 138 < op) (w : World) :
    Calls Tryd.prog 13 #[.int .u8 op, .int .u64 x, .int .u64 y] w fun e w' => e = .returned (.tuple #[.int .u64 0, .int .i64 0, errV 1]) ∧ w = w' := by
  go_enter Tryd.func13, Tryd.ntmps13
  go_wp2_with fail
  refine (split_bad op h _).mono ?_
  rintro e w1 ⟨rfl, rfl⟩
  clear h
  go_wp2_with fail
  refine (cut_none x _).mono ?_
  rintro e w1 ⟨rfl, rfl⟩
  go_wp2_with fail
  refine (cut_none y _).mono ?_
  rintro e w1 ⟨rfl, rfl⟩
  go_wp2_with fail
  go_ret3
  exact ⟨by rw [errV_1]; kernel_rfl, rfl⟩
set_option maxHeartbeats 800000 in
theorem two_one (W : Nat) (hW : W = 32 ∨ W = 64) (b op x y : Int) (hop : op = opc W b) (hb : b = 69 ∨ (103 ≤ b ∧ b ≤ 105)) (w : World) (h0 : 0 ≤ x) (h1 : x < 18446744073709551616) (h2 : 0 ≤ y) (h3 : y < 18446744073709551616) :
    Calls Tryd.prog 13 #[.int .u8 op, .int .u64 x, .int .u64 y] w fun e w' => e = .returned (.tuple #[.int .u64 0, .int .i64 0, errV 1]) ∧ w = w' := by
  have hsp := split_ok W hW b op hop (by clear hop; omega)
  clear hop
  have HSP := hide hsp; clear hsp
  go_enter Tryd.func13, Tryd.ntmps13
  go_wp2_with fail
  refine (unhide HSP _).mono ?_
  rintro e w1 ⟨rfl, rfl⟩
  go_wp2_with fail
  refine (cut_any W hW x _ h0 h1).mono ?_
  rintro e w1 ⟨rfl, rfl⟩
  go_wp2_with fail
  refine (cut_any W hW y _ h2 h3).mono ?_
  rintro e w1 ⟨rfl, rfl⟩
  rcases hb with rfl | ⟨hb1, hb2⟩
  · go_wp2_with fail
    go_ret3
    exact ⟨by rw [errV_1]; kernel_rfl, rfl⟩
  · have t1 : decide (b ≤ 79) = false := by simp; omega
    have t2 : decide (109 ≤ b) = false := by simp; omega
    have t3 : decide (106 ≤ b) = false := by simp; omega
    have t4 : decide (113 ≤ b) = false := by simp; omega
    have t5 : decide (116 ≤ b) = false := by simp; omega
    go_wp2_with fail
    go_ret3
    exact ⟨by rw [errV_1]; kernel_rfl, rfl⟩
end Go.Proofs.YtkmigcegeffonaaDoor
