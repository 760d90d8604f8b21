/- The document's Two: shifts and turns. -/
import Derived.Test.YtkmigcegeffonaaDoorRefH
import Derived.Test.YtkmigcegeffonaaDoorRefMm
import Derived.Test.YtkmigcegeffonaaDoorRefM1
import Derived.Test.YtkmigcegeffonaaDoorRefM2
import Derived.Test.YtkmigcegeffonaaDoorRefM3
import Derived.Test.YtkmigcegeffonaaDoorRefM4
import Derived.Test.YtkmigcegeffonaaDoorRefM5
namespace Go.Proofs.YtkmigcegeffonaaDoor
open Go.RowKit Num
set_option linter.unusedVariables false

set_option maxHeartbeats 1600000 in
set_option maxRecDepth 4000 in
theorem refTwo_shl_32 (op x y : Int) (hN : Named op ⟨#[115, 104, 108]⟩ 32) (w : World) (h0 : 0 ≤ x) (h1 : x < 18446744073709551616) (h2 : 0 ≤ y) (h3 : y < 18446744073709551616) :
    Calls Tryd.prog 14 #[.int .u8 op, .int .u64 x, .int .u64 y] w fun e w' => e = .returned (.tuple #[.int .u64 (shV 32 116 (lo 32 x) (lo 32 y % 32)), .int .i64 (0), .bool true]) ∧ Below w.heap.size w w' := by
  have hN2 : ∀ w, Calls Tryd.prog 25 #[.int .u8 op] w fun e w' => e = .returned (.tuple #[.string ⟨#[115, 104, 108]⟩, .int .i64 32]) ∧ Below w.heap.size w w' := fun w => hN w
  have hlx : ∀ wx, Calls Tryd.prog 27 #[.int .u64 x, .int .i64 32] wx fun e w' => e = .returned (.int .u64 (lo 32 x)) ∧ wx = w' := fun wx => low_any 32 (.inl rfl) x wx h0 h1
  have hly : ∀ wx, Calls Tryd.prog 27 #[.int .u64 y, .int .i64 32] wx fun e w' => e = .returned (.int .u64 (lo 32 y)) ∧ wx = w' := fun wx => low_any 32 (.inl rfl) y wx h2 h3
  have bx := lo_lt 32 (.inl rfl) x; have by' := lo_lt 32 (.inl rfl) y
  generalize lo 32 x = X at *
  generalize lo 32 y = Y at *
  obtain ⟨bx0, bx1⟩ := bx
  obtain ⟨by0, by1⟩ := by'
  have hh : ∀ wx, Calls Tryd.prog 34 #[.string ⟨#[115, 104, 108]⟩, .int .u64 X, .int .u64 Y, .int .i64 32] wx fun e w' => e = .returned (.tuple #[.bool false, .bool false]) ∧ wx = w' := fun wx => holds_shl 32 X Y wx
  have HH := hide hh; clear hh
  have hm : ∀ wx, Calls Tryd.prog 37 #[.string ⟨#[115, 104, 108]⟩, .int .u64 X, .int .i64 (Y % 32), .int .i64 32] wx fun e w' => e = .returned (.int .u64 (shV 32 116 X (Y % 32))) ∧ Below wx.heap.size wx w' := fun wx => by
    obtain ⟨n, hn0⟩ := Int.eq_ofNat_of_zero_le (show 0 ≤ Y % 32 by omega)
    have hn : n < 32 := by omega
    obtain ⟨xn, rfl⟩ := Int.eq_ofNat_of_zero_le bx0
    have hxn : xn < 2 ^ 32 := by rw [pw_32] at bx1; omega
    rw [hn0]
    have h := moved_shl_32 (xn : Int) n wx bx0 (by rw [pw_32] at bx1; omega) hn
    rw [show ((Num.mk ((List.range 32).map fun k => decide (n ≤ k) && bt (xn : Int) ((k + 32 - n) % 32)) : Nat) : Int) = shV 32 116 xn n from mv_shl 32 n xn hn] at h
    exact h
  generalize shV 32 116 X (Y % 32) = R at *
  have HM := hide hm; clear hm
  have HN := hide hN2; have HA := hide alone_shl; have HX := hide hlx; have HY := hide hly; clear hN hN2 hlx hly
  rw [pw_32] at bx1 by1
  go_enter Tryd.func14, Tryd.ntmps14
  go_wp2_with fail
  refine (unhide HN _).mono ?_
  rintro e w1 ⟨rfl, hb1⟩
  have HB := hide hb1; clear hb1
  go_wp2_with fail
  refine (unhide HA _).mono ?_
  rintro e w2 ⟨rfl, rfl⟩
  go_wp2_with fail
  refine (unhide HX _).mono ?_
  rintro e w2 ⟨rfl, rfl⟩
  go_wp2_with fail
  refine (unhide HY _).mono ?_
  rintro e w2 ⟨rfl, rfl⟩
  go_wp2_with fail
  refine (unhide HH _).mono ?_
  rintro e w2 ⟨rfl, rfl⟩
  go_wp2_with fail
  refine (unhide HM _).mono ?_
  rintro e w2 ⟨rfl, hb2⟩
  have HB2 := hide (Below.on (unhide HB) hb2); clear hb2
  go_wp2
  go_ret3
  exact ⟨by kernel_rfl, unhide HB2⟩

set_option maxHeartbeats 1600000 in
set_option maxRecDepth 4000 in
theorem refTwo_shl_64 (op x y : Int) (hN : Named op ⟨#[115, 104, 108]⟩ 64) (w : World) (h0 : 0 ≤ x) (h1 : x < 18446744073709551616) (h2 : 0 ≤ y) (h3 : y < 18446744073709551616) :
    Calls Tryd.prog 14 #[.int .u8 op, .int .u64 x, .int .u64 y] w fun e w' => e = .returned (.tuple #[.int .u64 (shV 64 116 (lo 64 x) (lo 64 y % 64)), .int .i64 (0), .bool true]) ∧ Below w.heap.size w w' := by
  have hN2 : ∀ w, Calls Tryd.prog 25 #[.int .u8 op] w fun e w' => e = .returned (.tuple #[.string ⟨#[115, 104, 108]⟩, .int .i64 64]) ∧ Below w.heap.size w w' := fun w => hN w
  have hlx : ∀ wx, Calls Tryd.prog 27 #[.int .u64 x, .int .i64 64] wx fun e w' => e = .returned (.int .u64 (lo 64 x)) ∧ wx = w' := fun wx => low_any 64 (.inr rfl) x wx h0 h1
  have hly : ∀ wx, Calls Tryd.prog 27 #[.int .u64 y, .int .i64 64] wx fun e w' => e = .returned (.int .u64 (lo 64 y)) ∧ wx = w' := fun wx => low_any 64 (.inr rfl) y wx h2 h3
  have bx := lo_lt 64 (.inr rfl) x; have by' := lo_lt 64 (.inr rfl) y
  generalize lo 64 x = X at *
  generalize lo 64 y = Y at *
  obtain ⟨bx0, bx1⟩ := bx
  obtain ⟨by0, by1⟩ := by'
  have hh : ∀ wx, Calls Tryd.prog 34 #[.string ⟨#[115, 104, 108]⟩, .int .u64 X, .int .u64 Y, .int .i64 64] wx fun e w' => e = .returned (.tuple #[.bool false, .bool false]) ∧ wx = w' := fun wx => holds_shl 64 X Y wx
  have HH := hide hh; clear hh
  have hm : ∀ wx, Calls Tryd.prog 37 #[.string ⟨#[115, 104, 108]⟩, .int .u64 X, .int .i64 (Y % 64), .int .i64 64] wx fun e w' => e = .returned (.int .u64 (shV 64 116 X (Y % 64))) ∧ Below wx.heap.size wx w' := fun wx => by
    obtain ⟨n, hn0⟩ := Int.eq_ofNat_of_zero_le (show 0 ≤ Y % 64 by omega)
    have hn : n < 64 := by omega
    obtain ⟨xn, rfl⟩ := Int.eq_ofNat_of_zero_le bx0
    have hxn : xn < 2 ^ 64 := by rw [pw_64] at bx1; omega
    rw [hn0]
    have h := moved_shl_64 (xn : Int) n wx bx0 (by rw [pw_64] at bx1; omega) hn
    rw [show ((Num.mk ((List.range 64).map fun k => decide (n ≤ k) && bt (xn : Int) ((k + 64 - n) % 64)) : Nat) : Int) = shV 64 116 xn n from mv_shl 64 n xn hn] at h
    exact h
  generalize shV 64 116 X (Y % 64) = R at *
  have HM := hide hm; clear hm
  have HN := hide hN2; have HA := hide alone_shl; have HX := hide hlx; have HY := hide hly; clear hN hN2 hlx hly
  rw [pw_64] at bx1 by1
  go_enter Tryd.func14, Tryd.ntmps14
  go_wp2_with fail
  refine (unhide HN _).mono ?_
  rintro e w1 ⟨rfl, hb1⟩
  have HB := hide hb1; clear hb1
  go_wp2_with fail
  refine (unhide HA _).mono ?_
  rintro e w2 ⟨rfl, rfl⟩
  go_wp2_with fail
  refine (unhide HX _).mono ?_
  rintro e w2 ⟨rfl, rfl⟩
  go_wp2_with fail
  refine (unhide HY _).mono ?_
  rintro e w2 ⟨rfl, rfl⟩
  go_wp2_with fail
  refine (unhide HH _).mono ?_
  rintro e w2 ⟨rfl, rfl⟩
  go_wp2_with fail
  refine (unhide HM _).mono ?_
  rintro e w2 ⟨rfl, hb2⟩
  have HB2 := hide (Below.on (unhide HB) hb2); clear hb2
  go_wp2
  go_ret3
  exact ⟨by kernel_rfl, unhide HB2⟩

set_option maxHeartbeats 1600000 in
set_option maxRecDepth 4000 in
theorem refTwo_shr_s_32 (op x y : Int) (hN : Named op ⟨#[115, 104, 114, 95, 115]⟩ 32) (w : World) (h0 : 0 ≤ x) (h1 : x < 18446744073709551616) (h2 : 0 ≤ y) (h3 : y < 18446744073709551616) :
    Calls Tryd.prog 14 #[.int .u8 op, .int .u64 x, .int .u64 y] w fun e w' => e = .returned (.tuple #[.int .u64 (shV 32 117 (lo 32 x) (lo 32 y % 32)), .int .i64 (0), .bool true]) ∧ Below w.heap.size w w' := by
  have hN2 : ∀ w, Calls Tryd.prog 25 #[.int .u8 op] w fun e w' => e = .returned (.tuple #[.string ⟨#[115, 104, 114, 95, 115]⟩, .int .i64 32]) ∧ Below w.heap.size w w' := fun w => hN w
  have hlx : ∀ wx, Calls Tryd.prog 27 #[.int .u64 x, .int .i64 32] wx fun e w' => e = .returned (.int .u64 (lo 32 x)) ∧ wx = w' := fun wx => low_any 32 (.inl rfl) x wx h0 h1
  have hly : ∀ wx, Calls Tryd.prog 27 #[.int .u64 y, .int .i64 32] wx fun e w' => e = .returned (.int .u64 (lo 32 y)) ∧ wx = w' := fun wx => low_any 32 (.inl rfl) y wx h2 h3
  have bx := lo_lt 32 (.inl rfl) x; have by' := lo_lt 32 (.inl rfl) y
  generalize lo 32 x = X at *
  generalize lo 32 y = Y at *
  obtain ⟨bx0, bx1⟩ := bx
  obtain ⟨by0, by1⟩ := by'
  have hh : ∀ wx, Calls Tryd.prog 34 #[.string ⟨#[115, 104, 114, 95, 115]⟩, .int .u64 X, .int .u64 Y, .int .i64 32] wx fun e w' => e = .returned (.tuple #[.bool false, .bool false]) ∧ wx = w' := fun wx => holds_shr_s 32 X Y wx
  have HH := hide hh; clear hh
  have hm : ∀ wx, Calls Tryd.prog 37 #[.string ⟨#[115, 104, 114, 95, 115]⟩, .int .u64 X, .int .i64 (Y % 32), .int .i64 32] wx fun e w' => e = .returned (.int .u64 (shV 32 117 X (Y % 32))) ∧ Below wx.heap.size wx w' := fun wx => by
    obtain ⟨n, hn0⟩ := Int.eq_ofNat_of_zero_le (show 0 ≤ Y % 32 by omega)
    have hn : n < 32 := by omega
    obtain ⟨xn, rfl⟩ := Int.eq_ofNat_of_zero_le bx0
    have hxn : xn < 2 ^ 32 := by rw [pw_32] at bx1; omega
    rw [hn0]
    have h := moved_shr_s_32 (xn : Int) n wx bx0 (by rw [pw_32] at bx1; omega) hn
    rw [show ((Num.mk ((List.range 32).map fun k => bt (xn : Int) (min (k + n) 31)) : Nat) : Int) = shV 32 117 xn n from mv_shr_s 32 n xn (.inl rfl) hxn hn] at h
    exact h
  generalize shV 32 117 X (Y % 32) = R at *
  have HM := hide hm; clear hm
  have HN := hide hN2; have HA := hide alone_shr_s; have HX := hide hlx; have HY := hide hly; clear hN hN2 hlx hly
  rw [pw_32] at bx1 by1
  go_enter Tryd.func14, Tryd.ntmps14
  go_wp2_with fail
  refine (unhide HN _).mono ?_
  rintro e w1 ⟨rfl, hb1⟩
  have HB := hide hb1; clear hb1
  go_wp2_with fail
  refine (unhide HA _).mono ?_
  rintro e w2 ⟨rfl, rfl⟩
  go_wp2_with fail
  refine (unhide HX _).mono ?_
  rintro e w2 ⟨rfl, rfl⟩
  go_wp2_with fail
  refine (unhide HY _).mono ?_
  rintro e w2 ⟨rfl, rfl⟩
  go_wp2_with fail
  refine (unhide HH _).mono ?_
  rintro e w2 ⟨rfl, rfl⟩
  go_wp2_with fail
  refine (unhide HM _).mono ?_
  rintro e w2 ⟨rfl, hb2⟩
  have HB2 := hide (Below.on (unhide HB) hb2); clear hb2
  go_wp2
  go_ret3
  exact ⟨by kernel_rfl, unhide HB2⟩

set_option maxHeartbeats 1600000 in
set_option maxRecDepth 4000 in
theorem refTwo_shr_s_64 (op x y : Int) (hN : Named op ⟨#[115, 104, 114, 95, 115]⟩ 64) (w : World) (h0 : 0 ≤ x) (h1 : x < 18446744073709551616) (h2 : 0 ≤ y) (h3 : y < 18446744073709551616) :
    Calls Tryd.prog 14 #[.int .u8 op, .int .u64 x, .int .u64 y] w fun e w' => e = .returned (.tuple #[.int .u64 (shV 64 117 (lo 64 x) (lo 64 y % 64)), .int .i64 (0), .bool true]) ∧ Below w.heap.size w w' := by
  have hN2 : ∀ w, Calls Tryd.prog 25 #[.int .u8 op] w fun e w' => e = .returned (.tuple #[.string ⟨#[115, 104, 114, 95, 115]⟩, .int .i64 64]) ∧ Below w.heap.size w w' := fun w => hN w
  have hlx : ∀ wx, Calls Tryd.prog 27 #[.int .u64 x, .int .i64 64] wx fun e w' => e = .returned (.int .u64 (lo 64 x)) ∧ wx = w' := fun wx => low_any 64 (.inr rfl) x wx h0 h1
  have hly : ∀ wx, Calls Tryd.prog 27 #[.int .u64 y, .int .i64 64] wx fun e w' => e = .returned (.int .u64 (lo 64 y)) ∧ wx = w' := fun wx => low_any 64 (.inr rfl) y wx h2 h3
  have bx := lo_lt 64 (.inr rfl) x; have by' := lo_lt 64 (.inr rfl) y
  generalize lo 64 x = X at *
  generalize lo 64 y = Y at *
  obtain ⟨bx0, bx1⟩ := bx
  obtain ⟨by0, by1⟩ := by'
  have hh : ∀ wx, Calls Tryd.prog 34 #[.string ⟨#[115, 104, 114, 95, 115]⟩, .int .u64 X, .int .u64 Y, .int .i64 64] wx fun e w' => e = .returned (.tuple #[.bool false, .bool false]) ∧ wx = w' := fun wx => holds_shr_s 64 X Y wx
  have HH := hide hh; clear hh
  have hm : ∀ wx, Calls Tryd.prog 37 #[.string ⟨#[115, 104, 114, 95, 115]⟩, .int .u64 X, .int .i64 (Y % 64), .int .i64 64] wx fun e w' => e = .returned (.int .u64 (shV 64 117 X (Y % 64))) ∧ Below wx.heap.size wx w' := fun wx => by
    obtain ⟨n, hn0⟩ := Int.eq_ofNat_of_zero_le (show 0 ≤ Y % 64 by omega)
    have hn : n < 64 := by omega
    obtain ⟨xn, rfl⟩ := Int.eq_ofNat_of_zero_le bx0
    have hxn : xn < 2 ^ 64 := by rw [pw_64] at bx1; omega
    rw [hn0]
    have h := moved_shr_s_64 (xn : Int) n wx bx0 (by rw [pw_64] at bx1; omega) hn
    rw [show ((Num.mk ((List.range 64).map fun k => bt (xn : Int) (min (k + n) 63)) : Nat) : Int) = shV 64 117 xn n from mv_shr_s 64 n xn (.inr rfl) hxn hn] at h
    exact h
  generalize shV 64 117 X (Y % 64) = R at *
  have HM := hide hm; clear hm
  have HN := hide hN2; have HA := hide alone_shr_s; have HX := hide hlx; have HY := hide hly; clear hN hN2 hlx hly
  rw [pw_64] at bx1 by1
  go_enter Tryd.func14, Tryd.ntmps14
  go_wp2_with fail
  refine (unhide HN _).mono ?_
  rintro e w1 ⟨rfl, hb1⟩
  have HB := hide hb1; clear hb1
  go_wp2_with fail
  refine (unhide HA _).mono ?_
  rintro e w2 ⟨rfl, rfl⟩
  go_wp2_with fail
  refine (unhide HX _).mono ?_
  rintro e w2 ⟨rfl, rfl⟩
  go_wp2_with fail
  refine (unhide HY _).mono ?_
  rintro e w2 ⟨rfl, rfl⟩
  go_wp2_with fail
  refine (unhide HH _).mono ?_
  rintro e w2 ⟨rfl, rfl⟩
  go_wp2_with fail
  refine (unhide HM _).mono ?_
  rintro e w2 ⟨rfl, hb2⟩
  have HB2 := hide (Below.on (unhide HB) hb2); clear hb2
  go_wp2
  go_ret3
  exact ⟨by kernel_rfl, unhide HB2⟩

set_option maxHeartbeats 1600000 in
set_option maxRecDepth 4000 in
theorem refTwo_shr_u_32 (op x y : Int) (hN : Named op ⟨#[115, 104, 114, 95, 117]⟩ 32) (w : World) (h0 : 0 ≤ x) (h1 : x < 18446744073709551616) (h2 : 0 ≤ y) (h3 : y < 18446744073709551616) :
    Calls Tryd.prog 14 #[.int .u8 op, .int .u64 x, .int .u64 y] w fun e w' => e = .returned (.tuple #[.int .u64 (shV 32 118 (lo 32 x) (lo 32 y % 32)), .int .i64 (0), .bool true]) ∧ Below w.heap.size w w' := by
  have hN2 : ∀ w, Calls Tryd.prog 25 #[.int .u8 op] w fun e w' => e = .returned (.tuple #[.string ⟨#[115, 104, 114, 95, 117]⟩, .int .i64 32]) ∧ Below w.heap.size w w' := fun w => hN w
  have hlx : ∀ wx, Calls Tryd.prog 27 #[.int .u64 x, .int .i64 32] wx fun e w' => e = .returned (.int .u64 (lo 32 x)) ∧ wx = w' := fun wx => low_any 32 (.inl rfl) x wx h0 h1
  have hly : ∀ wx, Calls Tryd.prog 27 #[.int .u64 y, .int .i64 32] wx fun e w' => e = .returned (.int .u64 (lo 32 y)) ∧ wx = w' := fun wx => low_any 32 (.inl rfl) y wx h2 h3
  have bx := lo_lt 32 (.inl rfl) x; have by' := lo_lt 32 (.inl rfl) y
  generalize lo 32 x = X at *
  generalize lo 32 y = Y at *
  obtain ⟨bx0, bx1⟩ := bx
  obtain ⟨by0, by1⟩ := by'
  have hh : ∀ wx, Calls Tryd.prog 34 #[.string ⟨#[115, 104, 114, 95, 117]⟩, .int .u64 X, .int .u64 Y, .int .i64 32] wx fun e w' => e = .returned (.tuple #[.bool false, .bool false]) ∧ wx = w' := fun wx => holds_shr_u 32 X Y wx
  have HH := hide hh; clear hh
  have hm : ∀ wx, Calls Tryd.prog 37 #[.string ⟨#[115, 104, 114, 95, 117]⟩, .int .u64 X, .int .i64 (Y % 32), .int .i64 32] wx fun e w' => e = .returned (.int .u64 (shV 32 118 X (Y % 32))) ∧ Below wx.heap.size wx w' := fun wx => by
    obtain ⟨n, hn0⟩ := Int.eq_ofNat_of_zero_le (show 0 ≤ Y % 32 by omega)
    have hn : n < 32 := by omega
    obtain ⟨xn, rfl⟩ := Int.eq_ofNat_of_zero_le bx0
    have hxn : xn < 2 ^ 32 := by rw [pw_32] at bx1; omega
    rw [hn0]
    have h := moved_shr_u_32 (xn : Int) n wx bx0 (by rw [pw_32] at bx1; omega) hn
    rw [show ((Num.mk ((List.range 32).map fun k => decide (k + n < 32) && bt (xn : Int) ((k + n) % 32)) : Nat) : Int) = shV 32 118 xn n from mv_shr_u 32 n xn hxn hn] at h
    exact h
  generalize shV 32 118 X (Y % 32) = R at *
  have HM := hide hm; clear hm
  have HN := hide hN2; have HA := hide alone_shr_u; have HX := hide hlx; have HY := hide hly; clear hN hN2 hlx hly
  rw [pw_32] at bx1 by1
  go_enter Tryd.func14, Tryd.ntmps14
  go_wp2_with fail
  refine (unhide HN _).mono ?_
  rintro e w1 ⟨rfl, hb1⟩
  have HB := hide hb1; clear hb1
  go_wp2_with fail
  refine (unhide HA _).mono ?_
  rintro e w2 ⟨rfl, rfl⟩
  go_wp2_with fail
  refine (unhide HX _).mono ?_
  rintro e w2 ⟨rfl, rfl⟩
  go_wp2_with fail
  refine (unhide HY _).mono ?_
  rintro e w2 ⟨rfl, rfl⟩
  go_wp2_with fail
  refine (unhide HH _).mono ?_
  rintro e w2 ⟨rfl, rfl⟩
  go_wp2_with fail
  refine (unhide HM _).mono ?_
  rintro e w2 ⟨rfl, hb2⟩
  have HB2 := hide (Below.on (unhide HB) hb2); clear hb2
  go_wp2
  go_ret3
  exact ⟨by kernel_rfl, unhide HB2⟩

set_option maxHeartbeats 1600000 in
set_option maxRecDepth 4000 in
theorem refTwo_shr_u_64 (op x y : Int) (hN : Named op ⟨#[115, 104, 114, 95, 117]⟩ 64) (w : World) (h0 : 0 ≤ x) (h1 : x < 18446744073709551616) (h2 : 0 ≤ y) (h3 : y < 18446744073709551616) :
    Calls Tryd.prog 14 #[.int .u8 op, .int .u64 x, .int .u64 y] w fun e w' => e = .returned (.tuple #[.int .u64 (shV 64 118 (lo 64 x) (lo 64 y % 64)), .int .i64 (0), .bool true]) ∧ Below w.heap.size w w' := by
  have hN2 : ∀ w, Calls Tryd.prog 25 #[.int .u8 op] w fun e w' => e = .returned (.tuple #[.string ⟨#[115, 104, 114, 95, 117]⟩, .int .i64 64]) ∧ Below w.heap.size w w' := fun w => hN w
  have hlx : ∀ wx, Calls Tryd.prog 27 #[.int .u64 x, .int .i64 64] wx fun e w' => e = .returned (.int .u64 (lo 64 x)) ∧ wx = w' := fun wx => low_any 64 (.inr rfl) x wx h0 h1
  have hly : ∀ wx, Calls Tryd.prog 27 #[.int .u64 y, .int .i64 64] wx fun e w' => e = .returned (.int .u64 (lo 64 y)) ∧ wx = w' := fun wx => low_any 64 (.inr rfl) y wx h2 h3
  have bx := lo_lt 64 (.inr rfl) x; have by' := lo_lt 64 (.inr rfl) y
  generalize lo 64 x = X at *
  generalize lo 64 y = Y at *
  obtain ⟨bx0, bx1⟩ := bx
  obtain ⟨by0, by1⟩ := by'
  have hh : ∀ wx, Calls Tryd.prog 34 #[.string ⟨#[115, 104, 114, 95, 117]⟩, .int .u64 X, .int .u64 Y, .int .i64 64] wx fun e w' => e = .returned (.tuple #[.bool false, .bool false]) ∧ wx = w' := fun wx => holds_shr_u 64 X Y wx
  have HH := hide hh; clear hh
  have hm : ∀ wx, Calls Tryd.prog 37 #[.string ⟨#[115, 104, 114, 95, 117]⟩, .int .u64 X, .int .i64 (Y % 64), .int .i64 64] wx fun e w' => e = .returned (.int .u64 (shV 64 118 X (Y % 64))) ∧ Below wx.heap.size wx w' := fun wx => by
    obtain ⟨n, hn0⟩ := Int.eq_ofNat_of_zero_le (show 0 ≤ Y % 64 by omega)
    have hn : n < 64 := by omega
    obtain ⟨xn, rfl⟩ := Int.eq_ofNat_of_zero_le bx0
    have hxn : xn < 2 ^ 64 := by rw [pw_64] at bx1; omega
    rw [hn0]
    have h := moved_shr_u_64 (xn : Int) n wx bx0 (by rw [pw_64] at bx1; omega) hn
    rw [show ((Num.mk ((List.range 64).map fun k => decide (k + n < 64) && bt (xn : Int) ((k + n) % 64)) : Nat) : Int) = shV 64 118 xn n from mv_shr_u 64 n xn hxn hn] at h
    exact h
  generalize shV 64 118 X (Y % 64) = R at *
  have HM := hide hm; clear hm
  have HN := hide hN2; have HA := hide alone_shr_u; have HX := hide hlx; have HY := hide hly; clear hN hN2 hlx hly
  rw [pw_64] at bx1 by1
  go_enter Tryd.func14, Tryd.ntmps14
  go_wp2_with fail
  refine (unhide HN _).mono ?_
  rintro e w1 ⟨rfl, hb1⟩
  have HB := hide hb1; clear hb1
  go_wp2_with fail
  refine (unhide HA _).mono ?_
  rintro e w2 ⟨rfl, rfl⟩
  go_wp2_with fail
  refine (unhide HX _).mono ?_
  rintro e w2 ⟨rfl, rfl⟩
  go_wp2_with fail
  refine (unhide HY _).mono ?_
  rintro e w2 ⟨rfl, rfl⟩
  go_wp2_with fail
  refine (unhide HH _).mono ?_
  rintro e w2 ⟨rfl, rfl⟩
  go_wp2_with fail
  refine (unhide HM _).mono ?_
  rintro e w2 ⟨rfl, hb2⟩
  have HB2 := hide (Below.on (unhide HB) hb2); clear hb2
  go_wp2
  go_ret3
  exact ⟨by kernel_rfl, unhide HB2⟩

set_option maxHeartbeats 1600000 in
set_option maxRecDepth 4000 in
theorem refTwo_rotl_32 (op x y : Int) (hN : Named op ⟨#[114, 111, 116, 108]⟩ 32) (w : World) (h0 : 0 ≤ x) (h1 : x < 18446744073709551616) (h2 : 0 ≤ y) (h3 : y < 18446744073709551616) :
    Calls Tryd.prog 14 #[.int .u8 op, .int .u64 x, .int .u64 y] w fun e w' => e = .returned (.tuple #[.int .u64 (shV 32 119 (lo 32 x) (lo 32 y % 32)), .int .i64 (0), .bool true]) ∧ Below w.heap.size w w' := by
  have hN2 : ∀ w, Calls Tryd.prog 25 #[.int .u8 op] w fun e w' => e = .returned (.tuple #[.string ⟨#[114, 111, 116, 108]⟩, .int .i64 32]) ∧ Below w.heap.size w w' := fun w => hN w
  have hlx : ∀ wx, Calls Tryd.prog 27 #[.int .u64 x, .int .i64 32] wx fun e w' => e = .returned (.int .u64 (lo 32 x)) ∧ wx = w' := fun wx => low_any 32 (.inl rfl) x wx h0 h1
  have hly : ∀ wx, Calls Tryd.prog 27 #[.int .u64 y, .int .i64 32] wx fun e w' => e = .returned (.int .u64 (lo 32 y)) ∧ wx = w' := fun wx => low_any 32 (.inl rfl) y wx h2 h3
  have bx := lo_lt 32 (.inl rfl) x; have by' := lo_lt 32 (.inl rfl) y
  generalize lo 32 x = X at *
  generalize lo 32 y = Y at *
  obtain ⟨bx0, bx1⟩ := bx
  obtain ⟨by0, by1⟩ := by'
  have hh : ∀ wx, Calls Tryd.prog 34 #[.string ⟨#[114, 111, 116, 108]⟩, .int .u64 X, .int .u64 Y, .int .i64 32] wx fun e w' => e = .returned (.tuple #[.bool false, .bool false]) ∧ wx = w' := fun wx => holds_rotl 32 X Y wx
  have HH := hide hh; clear hh
  have hm : ∀ wx, Calls Tryd.prog 37 #[.string ⟨#[114, 111, 116, 108]⟩, .int .u64 X, .int .i64 (Y % 32), .int .i64 32] wx fun e w' => e = .returned (.int .u64 (shV 32 119 X (Y % 32))) ∧ Below wx.heap.size wx w' := fun wx => by
    obtain ⟨n, hn0⟩ := Int.eq_ofNat_of_zero_le (show 0 ≤ Y % 32 by omega)
    have hn : n < 32 := by omega
    obtain ⟨xn, rfl⟩ := Int.eq_ofNat_of_zero_le bx0
    have hxn : xn < 2 ^ 32 := by rw [pw_32] at bx1; omega
    rw [hn0]
    have h := moved_rotl_32 (xn : Int) n wx bx0 (by rw [pw_32] at bx1; omega) hn
    rw [show ((Num.mk ((List.range 32).map fun k => bt (xn : Int) ((k + 32 - n) % 32)) : Nat) : Int) = shV 32 119 xn n from mv_rotl 32 n xn hxn hn] at h
    exact h
  generalize shV 32 119 X (Y % 32) = R at *
  have HM := hide hm; clear hm
  have HN := hide hN2; have HA := hide alone_rotl; have HX := hide hlx; have HY := hide hly; clear hN hN2 hlx hly
  rw [pw_32] at bx1 by1
  go_enter Tryd.func14, Tryd.ntmps14
  go_wp2_with fail
  refine (unhide HN _).mono ?_
  rintro e w1 ⟨rfl, hb1⟩
  have HB := hide hb1; clear hb1
  go_wp2_with fail
  refine (unhide HA _).mono ?_
  rintro e w2 ⟨rfl, rfl⟩
  go_wp2_with fail
  refine (unhide HX _).mono ?_
  rintro e w2 ⟨rfl, rfl⟩
  go_wp2_with fail
  refine (unhide HY _).mono ?_
  rintro e w2 ⟨rfl, rfl⟩
  go_wp2_with fail
  refine (unhide HH _).mono ?_
  rintro e w2 ⟨rfl, rfl⟩
  go_wp2_with fail
  refine (unhide HM _).mono ?_
  rintro e w2 ⟨rfl, hb2⟩
  have HB2 := hide (Below.on (unhide HB) hb2); clear hb2
  go_wp2
  go_ret3
  exact ⟨by kernel_rfl, unhide HB2⟩

set_option maxHeartbeats 1600000 in
set_option maxRecDepth 4000 in
theorem refTwo_rotl_64 (op x y : Int) (hN : Named op ⟨#[114, 111, 116, 108]⟩ 64) (w : World) (h0 : 0 ≤ x) (h1 : x < 18446744073709551616) (h2 : 0 ≤ y) (h3 : y < 18446744073709551616) :
    Calls Tryd.prog 14 #[.int .u8 op, .int .u64 x, .int .u64 y] w fun e w' => e = .returned (.tuple #[.int .u64 (shV 64 119 (lo 64 x) (lo 64 y % 64)), .int .i64 (0), .bool true]) ∧ Below w.heap.size w w' := by
  have hN2 : ∀ w, Calls Tryd.prog 25 #[.int .u8 op] w fun e w' => e = .returned (.tuple #[.string ⟨#[114, 111, 116, 108]⟩, .int .i64 64]) ∧ Below w.heap.size w w' := fun w => hN w
  have hlx : ∀ wx, Calls Tryd.prog 27 #[.int .u64 x, .int .i64 64] wx fun e w' => e = .returned (.int .u64 (lo 64 x)) ∧ wx = w' := fun wx => low_any 64 (.inr rfl) x wx h0 h1
  have hly : ∀ wx, Calls Tryd.prog 27 #[.int .u64 y, .int .i64 64] wx fun e w' => e = .returned (.int .u64 (lo 64 y)) ∧ wx = w' := fun wx => low_any 64 (.inr rfl) y wx h2 h3
  have bx := lo_lt 64 (.inr rfl) x; have by' := lo_lt 64 (.inr rfl) y
  generalize lo 64 x = X at *
  generalize lo 64 y = Y at *
  obtain ⟨bx0, bx1⟩ := bx
  obtain ⟨by0, by1⟩ := by'
  have hh : ∀ wx, Calls Tryd.prog 34 #[.string ⟨#[114, 111, 116, 108]⟩, .int .u64 X, .int .u64 Y, .int .i64 64] wx fun e w' => e = .returned (.tuple #[.bool false, .bool false]) ∧ wx = w' := fun wx => holds_rotl 64 X Y wx
  have HH := hide hh; clear hh
  have hm : ∀ wx, Calls Tryd.prog 37 #[.string ⟨#[114, 111, 116, 108]⟩, .int .u64 X, .int .i64 (Y % 64), .int .i64 64] wx fun e w' => e = .returned (.int .u64 (shV 64 119 X (Y % 64))) ∧ Below wx.heap.size wx w' := fun wx => by
    obtain ⟨n, hn0⟩ := Int.eq_ofNat_of_zero_le (show 0 ≤ Y % 64 by omega)
    have hn : n < 64 := by omega
    obtain ⟨xn, rfl⟩ := Int.eq_ofNat_of_zero_le bx0
    have hxn : xn < 2 ^ 64 := by rw [pw_64] at bx1; omega
    rw [hn0]
    have h := moved_rotl_64 (xn : Int) n wx bx0 (by rw [pw_64] at bx1; omega) hn
    rw [show ((Num.mk ((List.range 64).map fun k => bt (xn : Int) ((k + 64 - n) % 64)) : Nat) : Int) = shV 64 119 xn n from mv_rotl 64 n xn hxn hn] at h
    exact h
  generalize shV 64 119 X (Y % 64) = R at *
  have HM := hide hm; clear hm
  have HN := hide hN2; have HA := hide alone_rotl; have HX := hide hlx; have HY := hide hly; clear hN hN2 hlx hly
  rw [pw_64] at bx1 by1
  go_enter Tryd.func14, Tryd.ntmps14
  go_wp2_with fail
  refine (unhide HN _).mono ?_
  rintro e w1 ⟨rfl, hb1⟩
  have HB := hide hb1; clear hb1
  go_wp2_with fail
  refine (unhide HA _).mono ?_
  rintro e w2 ⟨rfl, rfl⟩
  go_wp2_with fail
  refine (unhide HX _).mono ?_
  rintro e w2 ⟨rfl, rfl⟩
  go_wp2_with fail
  refine (unhide HY _).mono ?_
  rintro e w2 ⟨rfl, rfl⟩
  go_wp2_with fail
  refine (unhide HH _).mono ?_
  rintro e w2 ⟨rfl, rfl⟩
  go_wp2_with fail
  refine (unhide HM _).mono ?_
  rintro e w2 ⟨rfl, hb2⟩
  have HB2 := hide (Below.on (unhide HB) hb2); clear hb2
  go_wp2
  go_ret3
  exact ⟨by kernel_rfl, unhide HB2⟩

set_option maxHeartbeats 1600000 in
set_option maxRecDepth 4000 in
theorem refTwo_rotr_32 (op x y : Int) (hN : Named op ⟨#[114, 111, 116, 114]⟩ 32) (w : World) (h0 : 0 ≤ x) (h1 : x < 18446744073709551616) (h2 : 0 ≤ y) (h3 : y < 18446744073709551616) :
    Calls Tryd.prog 14 #[.int .u8 op, .int .u64 x, .int .u64 y] w fun e w' => e = .returned (.tuple #[.int .u64 (shV 32 120 (lo 32 x) (lo 32 y % 32)), .int .i64 (0), .bool true]) ∧ Below w.heap.size w w' := by
  have hN2 : ∀ w, Calls Tryd.prog 25 #[.int .u8 op] w fun e w' => e = .returned (.tuple #[.string ⟨#[114, 111, 116, 114]⟩, .int .i64 32]) ∧ Below w.heap.size w w' := fun w => hN w
  have hlx : ∀ wx, Calls Tryd.prog 27 #[.int .u64 x, .int .i64 32] wx fun e w' => e = .returned (.int .u64 (lo 32 x)) ∧ wx = w' := fun wx => low_any 32 (.inl rfl) x wx h0 h1
  have hly : ∀ wx, Calls Tryd.prog 27 #[.int .u64 y, .int .i64 32] wx fun e w' => e = .returned (.int .u64 (lo 32 y)) ∧ wx = w' := fun wx => low_any 32 (.inl rfl) y wx h2 h3
  have bx := lo_lt 32 (.inl rfl) x; have by' := lo_lt 32 (.inl rfl) y
  generalize lo 32 x = X at *
  generalize lo 32 y = Y at *
  obtain ⟨bx0, bx1⟩ := bx
  obtain ⟨by0, by1⟩ := by'
  have hh : ∀ wx, Calls Tryd.prog 34 #[.string ⟨#[114, 111, 116, 114]⟩, .int .u64 X, .int .u64 Y, .int .i64 32] wx fun e w' => e = .returned (.tuple #[.bool false, .bool false]) ∧ wx = w' := fun wx => holds_rotr 32 X Y wx
  have HH := hide hh; clear hh
  have hm : ∀ wx, Calls Tryd.prog 37 #[.string ⟨#[114, 111, 116, 114]⟩, .int .u64 X, .int .i64 (Y % 32), .int .i64 32] wx fun e w' => e = .returned (.int .u64 (shV 32 120 X (Y % 32))) ∧ Below wx.heap.size wx w' := fun wx => by
    obtain ⟨n, hn0⟩ := Int.eq_ofNat_of_zero_le (show 0 ≤ Y % 32 by omega)
    have hn : n < 32 := by omega
    obtain ⟨xn, rfl⟩ := Int.eq_ofNat_of_zero_le bx0
    have hxn : xn < 2 ^ 32 := by rw [pw_32] at bx1; omega
    rw [hn0]
    have h := moved_rotr_32 (xn : Int) n wx bx0 (by rw [pw_32] at bx1; omega) hn
    rw [show ((Num.mk ((List.range 32).map fun k => bt (xn : Int) ((k + n) % 32)) : Nat) : Int) = shV 32 120 xn n from mv_rotr 32 n xn hxn hn] at h
    exact h
  generalize shV 32 120 X (Y % 32) = R at *
  have HM := hide hm; clear hm
  have HN := hide hN2; have HA := hide alone_rotr; have HX := hide hlx; have HY := hide hly; clear hN hN2 hlx hly
  rw [pw_32] at bx1 by1
  go_enter Tryd.func14, Tryd.ntmps14
  go_wp2_with fail
  refine (unhide HN _).mono ?_
  rintro e w1 ⟨rfl, hb1⟩
  have HB := hide hb1; clear hb1
  go_wp2_with fail
  refine (unhide HA _).mono ?_
  rintro e w2 ⟨rfl, rfl⟩
  go_wp2_with fail
  refine (unhide HX _).mono ?_
  rintro e w2 ⟨rfl, rfl⟩
  go_wp2_with fail
  refine (unhide HY _).mono ?_
  rintro e w2 ⟨rfl, rfl⟩
  go_wp2_with fail
  refine (unhide HH _).mono ?_
  rintro e w2 ⟨rfl, rfl⟩
  go_wp2_with fail
  refine (unhide HM _).mono ?_
  rintro e w2 ⟨rfl, hb2⟩
  have HB2 := hide (Below.on (unhide HB) hb2); clear hb2
  go_wp2
  go_ret3
  exact ⟨by kernel_rfl, unhide HB2⟩

set_option maxHeartbeats 1600000 in
set_option maxRecDepth 4000 in
theorem refTwo_rotr_64 (op x y : Int) (hN : Named op ⟨#[114, 111, 116, 114]⟩ 64) (w : World) (h0 : 0 ≤ x) (h1 : x < 18446744073709551616) (h2 : 0 ≤ y) (h3 : y < 18446744073709551616) :
    Calls Tryd.prog 14 #[.int .u8 op, .int .u64 x, .int .u64 y] w fun e w' => e = .returned (.tuple #[.int .u64 (shV 64 120 (lo 64 x) (lo 64 y % 64)), .int .i64 (0), .bool true]) ∧ Below w.heap.size w w' := by
  have hN2 : ∀ w, Calls Tryd.prog 25 #[.int .u8 op] w fun e w' => e = .returned (.tuple #[.string ⟨#[114, 111, 116, 114]⟩, .int .i64 64]) ∧ Below w.heap.size w w' := fun w => hN w
  have hlx : ∀ wx, Calls Tryd.prog 27 #[.int .u64 x, .int .i64 64] wx fun e w' => e = .returned (.int .u64 (lo 64 x)) ∧ wx = w' := fun wx => low_any 64 (.inr rfl) x wx h0 h1
  have hly : ∀ wx, Calls Tryd.prog 27 #[.int .u64 y, .int .i64 64] wx fun e w' => e = .returned (.int .u64 (lo 64 y)) ∧ wx = w' := fun wx => low_any 64 (.inr rfl) y wx h2 h3
  have bx := lo_lt 64 (.inr rfl) x; have by' := lo_lt 64 (.inr rfl) y
  generalize lo 64 x = X at *
  generalize lo 64 y = Y at *
  obtain ⟨bx0, bx1⟩ := bx
  obtain ⟨by0, by1⟩ := by'
  have hh : ∀ wx, Calls Tryd.prog 34 #[.string ⟨#[114, 111, 116, 114]⟩, .int .u64 X, .int .u64 Y, .int .i64 64] wx fun e w' => e = .returned (.tuple #[.bool false, .bool false]) ∧ wx = w' := fun wx => holds_rotr 64 X Y wx
  have HH := hide hh; clear hh
  have hm : ∀ wx, Calls Tryd.prog 37 #[.string ⟨#[114, 111, 116, 114]⟩, .int .u64 X, .int .i64 (Y % 64), .int .i64 64] wx fun e w' => e = .returned (.int .u64 (shV 64 120 X (Y % 64))) ∧ Below wx.heap.size wx w' := fun wx => by
    obtain ⟨n, hn0⟩ := Int.eq_ofNat_of_zero_le (show 0 ≤ Y % 64 by omega)
    have hn : n < 64 := by omega
    obtain ⟨xn, rfl⟩ := Int.eq_ofNat_of_zero_le bx0
    have hxn : xn < 2 ^ 64 := by rw [pw_64] at bx1; omega
    rw [hn0]
    have h := moved_rotr_64 (xn : Int) n wx bx0 (by rw [pw_64] at bx1; omega) hn
    rw [show ((Num.mk ((List.range 64).map fun k => bt (xn : Int) ((k + n) % 64)) : Nat) : Int) = shV 64 120 xn n from mv_rotr 64 n xn hxn hn] at h
    exact h
  generalize shV 64 120 X (Y % 64) = R at *
  have HM := hide hm; clear hm
  have HN := hide hN2; have HA := hide alone_rotr; have HX := hide hlx; have HY := hide hly; clear hN hN2 hlx hly
  rw [pw_64] at bx1 by1
  go_enter Tryd.func14, Tryd.ntmps14
  go_wp2_with fail
  refine (unhide HN _).mono ?_
  rintro e w1 ⟨rfl, hb1⟩
  have HB := hide hb1; clear hb1
  go_wp2_with fail
  refine (unhide HA _).mono ?_
  rintro e w2 ⟨rfl, rfl⟩
  go_wp2_with fail
  refine (unhide HX _).mono ?_
  rintro e w2 ⟨rfl, rfl⟩
  go_wp2_with fail
  refine (unhide HY _).mono ?_
  rintro e w2 ⟨rfl, rfl⟩
  go_wp2_with fail
  refine (unhide HH _).mono ?_
  rintro e w2 ⟨rfl, rfl⟩
  go_wp2_with fail
  refine (unhide HM _).mono ?_
  rintro e w2 ⟨rfl, hb2⟩
  have HB2 := hide (Below.on (unhide HB) hb2); clear hb2
  go_wp2
  go_ret3
  exact ⟨by kernel_rfl, unhide HB2⟩

end Go.Proofs.YtkmigcegeffonaaDoor
