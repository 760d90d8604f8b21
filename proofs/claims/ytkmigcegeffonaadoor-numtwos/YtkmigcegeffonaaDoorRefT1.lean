/- The document's Two: comparisons, part 1. -/
import Derived.Test.YtkmigcegeffonaaDoorRefH
namespace Go.Proofs.YtkmigcegeffonaaDoor
open Go.RowKit Num
set_option linter.unusedVariables false

set_option maxHeartbeats 1600000 in
set_option maxRecDepth 4000 in
theorem refTwo_eq_32 (op x y : Int) (hN : Named op ⟨#[101, 113]⟩ 32) (w : World) (h0 : 0 ≤ x) (h1 : x < 18446744073709551616) (h2 : 0 ≤ y) (h3 : y < 18446744073709551616) :
    Calls Tryd.prog 14 #[.int .u8 op, .int .u64 x, .int .u64 y] w fun e w' => e = .returned (.tuple #[.int .u64 (b01 (cmpB 32 70 (lo 32 x) (lo 32 y))), .int .i64 (0), .bool true]) ∧ Below w.heap.size w w' := by
  have hN2 : ∀ w, Calls Tryd.prog 25 #[.int .u8 op] w fun e w' => e = .returned (.tuple #[.string ⟨#[101, 113]⟩, .int .i64 32]) ∧ Below w.heap.size w w' := fun w => hN w
  have hlx : ∀ wx, Calls Tryd.prog 27 #[.int .u64 x, .int .i64 32] wx fun e w' => e = .returned (.int .u64 (lo 32 x)) ∧ wx = w' := fun wx => low_any 32 (.inl rfl) x wx h0 h1
  have hly : ∀ wx, Calls Tryd.prog 27 #[.int .u64 y, .int .i64 32] wx fun e w' => e = .returned (.int .u64 (lo 32 y)) ∧ wx = w' := fun wx => low_any 32 (.inl rfl) y wx h2 h3
  have bx := lo_lt 32 (.inl rfl) x; have by' := lo_lt 32 (.inl rfl) y
  generalize lo 32 x = X at *
  generalize lo 32 y = Y at *
  obtain ⟨bx0, bx1⟩ := bx
  obtain ⟨by0, by1⟩ := by'
  have hh : ∀ wx, Calls Tryd.prog 34 #[.string ⟨#[101, 113]⟩, .int .u64 X, .int .u64 Y, .int .i64 32] wx fun e w' => e = .returned (.tuple #[.bool (cmpB 32 70 X Y), .bool true]) ∧ wx = w' := fun wx => holds_eq 32 (.inl rfl) X Y wx bx0 bx1 by0 by1
  generalize cmpB 32 70 X Y = D at *
  have HH := hide hh; clear hh
  have HN := hide hN2; have HA := hide alone_eq; have HX := hide hlx; have HY := hide hly; clear hN hN2 hlx hly
  rw [pw_32] at bx1 by1
  go_enter Tryd.func14, Tryd.ntmps14
  go_wp2_with fail
  refine (unhide HN _).mono ?_
  rintro e w1 ⟨rfl, hb1⟩
  have HB := hide hb1; clear hb1
  go_wp2_with fail
  refine (unhide HA _).mono ?_
  rintro e w2 ⟨rfl, rfl⟩
  go_wp2_with fail
  refine (unhide HX _).mono ?_
  rintro e w2 ⟨rfl, rfl⟩
  go_wp2_with fail
  refine (unhide HY _).mono ?_
  rintro e w2 ⟨rfl, rfl⟩
  go_wp2_with fail
  refine (unhide HH _).mono ?_
  rintro e w2 ⟨rfl, rfl⟩
  cases D
  · go_wp2
    go_ret3
    exact ⟨by kernel_rfl, unhide HB⟩
  · go_wp2
    go_ret3
    exact ⟨by kernel_rfl, unhide HB⟩

set_option maxHeartbeats 1600000 in
set_option maxRecDepth 4000 in
theorem refTwo_eq_64 (op x y : Int) (hN : Named op ⟨#[101, 113]⟩ 64) (w : World) (h0 : 0 ≤ x) (h1 : x < 18446744073709551616) (h2 : 0 ≤ y) (h3 : y < 18446744073709551616) :
    Calls Tryd.prog 14 #[.int .u8 op, .int .u64 x, .int .u64 y] w fun e w' => e = .returned (.tuple #[.int .u64 (b01 (cmpB 64 70 (lo 64 x) (lo 64 y))), .int .i64 (0), .bool true]) ∧ Below w.heap.size w w' := by
  have hN2 : ∀ w, Calls Tryd.prog 25 #[.int .u8 op] w fun e w' => e = .returned (.tuple #[.string ⟨#[101, 113]⟩, .int .i64 64]) ∧ Below w.heap.size w w' := fun w => hN w
  have hlx : ∀ wx, Calls Tryd.prog 27 #[.int .u64 x, .int .i64 64] wx fun e w' => e = .returned (.int .u64 (lo 64 x)) ∧ wx = w' := fun wx => low_any 64 (.inr rfl) x wx h0 h1
  have hly : ∀ wx, Calls Tryd.prog 27 #[.int .u64 y, .int .i64 64] wx fun e w' => e = .returned (.int .u64 (lo 64 y)) ∧ wx = w' := fun wx => low_any 64 (.inr rfl) y wx h2 h3
  have bx := lo_lt 64 (.inr rfl) x; have by' := lo_lt 64 (.inr rfl) y
  generalize lo 64 x = X at *
  generalize lo 64 y = Y at *
  obtain ⟨bx0, bx1⟩ := bx
  obtain ⟨by0, by1⟩ := by'
  have hh : ∀ wx, Calls Tryd.prog 34 #[.string ⟨#[101, 113]⟩, .int .u64 X, .int .u64 Y, .int .i64 64] wx fun e w' => e = .returned (.tuple #[.bool (cmpB 64 70 X Y), .bool true]) ∧ wx = w' := fun wx => holds_eq 64 (.inr rfl) X Y wx bx0 bx1 by0 by1
  generalize cmpB 64 70 X Y = D at *
  have HH := hide hh; clear hh
  have HN := hide hN2; have HA := hide alone_eq; have HX := hide hlx; have HY := hide hly; clear hN hN2 hlx hly
  rw [pw_64] at bx1 by1
  go_enter Tryd.func14, Tryd.ntmps14
  go_wp2_with fail
  refine (unhide HN _).mono ?_
  rintro e w1 ⟨rfl, hb1⟩
  have HB := hide hb1; clear hb1
  go_wp2_with fail
  refine (unhide HA _).mono ?_
  rintro e w2 ⟨rfl, rfl⟩
  go_wp2_with fail
  refine (unhide HX _).mono ?_
  rintro e w2 ⟨rfl, rfl⟩
  go_wp2_with fail
  refine (unhide HY _).mono ?_
  rintro e w2 ⟨rfl, rfl⟩
  go_wp2_with fail
  refine (unhide HH _).mono ?_
  rintro e w2 ⟨rfl, rfl⟩
  cases D
  · go_wp2
    go_ret3
    exact ⟨by kernel_rfl, unhide HB⟩
  · go_wp2
    go_ret3
    exact ⟨by kernel_rfl, unhide HB⟩

set_option maxHeartbeats 1600000 in
set_option maxRecDepth 4000 in
theorem refTwo_ne_32 (op x y : Int) (hN : Named op ⟨#[110, 101]⟩ 32) (w : World) (h0 : 0 ≤ x) (h1 : x < 18446744073709551616) (h2 : 0 ≤ y) (h3 : y < 18446744073709551616) :
    Calls Tryd.prog 14 #[.int .u8 op, .int .u64 x, .int .u64 y] w fun e w' => e = .returned (.tuple #[.int .u64 (b01 (cmpB 32 71 (lo 32 x) (lo 32 y))), .int .i64 (0), .bool true]) ∧ Below w.heap.size w w' := by
  have hN2 : ∀ w, Calls Tryd.prog 25 #[.int .u8 op] w fun e w' => e = .returned (.tuple #[.string ⟨#[110, 101]⟩, .int .i64 32]) ∧ Below w.heap.size w w' := fun w => hN w
  have hlx : ∀ wx, Calls Tryd.prog 27 #[.int .u64 x, .int .i64 32] wx fun e w' => e = .returned (.int .u64 (lo 32 x)) ∧ wx = w' := fun wx => low_any 32 (.inl rfl) x wx h0 h1
  have hly : ∀ wx, Calls Tryd.prog 27 #[.int .u64 y, .int .i64 32] wx fun e w' => e = .returned (.int .u64 (lo 32 y)) ∧ wx = w' := fun wx => low_any 32 (.inl rfl) y wx h2 h3
  have bx := lo_lt 32 (.inl rfl) x; have by' := lo_lt 32 (.inl rfl) y
  generalize lo 32 x = X at *
  generalize lo 32 y = Y at *
  obtain ⟨bx0, bx1⟩ := bx
  obtain ⟨by0, by1⟩ := by'
  have hh : ∀ wx, Calls Tryd.prog 34 #[.string ⟨#[110, 101]⟩, .int .u64 X, .int .u64 Y, .int .i64 32] wx fun e w' => e = .returned (.tuple #[.bool (cmpB 32 71 X Y), .bool true]) ∧ wx = w' := fun wx => holds_ne 32 (.inl rfl) X Y wx bx0 bx1 by0 by1
  generalize cmpB 32 71 X Y = D at *
  have HH := hide hh; clear hh
  have HN := hide hN2; have HA := hide alone_ne; have HX := hide hlx; have HY := hide hly; clear hN hN2 hlx hly
  rw [pw_32] at bx1 by1
  go_enter Tryd.func14, Tryd.ntmps14
  go_wp2_with fail
  refine (unhide HN _).mono ?_
  rintro e w1 ⟨rfl, hb1⟩
  have HB := hide hb1; clear hb1
  go_wp2_with fail
  refine (unhide HA _).mono ?_
  rintro e w2 ⟨rfl, rfl⟩
  go_wp2_with fail
  refine (unhide HX _).mono ?_
  rintro e w2 ⟨rfl, rfl⟩
  go_wp2_with fail
  refine (unhide HY _).mono ?_
  rintro e w2 ⟨rfl, rfl⟩
  go_wp2_with fail
  refine (unhide HH _).mono ?_
  rintro e w2 ⟨rfl, rfl⟩
  cases D
  · go_wp2
    go_ret3
    exact ⟨by kernel_rfl, unhide HB⟩
  · go_wp2
    go_ret3
    exact ⟨by kernel_rfl, unhide HB⟩

set_option maxHeartbeats 1600000 in
set_option maxRecDepth 4000 in
theorem refTwo_ne_64 (op x y : Int) (hN : Named op ⟨#[110, 101]⟩ 64) (w : World) (h0 : 0 ≤ x) (h1 : x < 18446744073709551616) (h2 : 0 ≤ y) (h3 : y < 18446744073709551616) :
    Calls Tryd.prog 14 #[.int .u8 op, .int .u64 x, .int .u64 y] w fun e w' => e = .returned (.tuple #[.int .u64 (b01 (cmpB 64 71 (lo 64 x) (lo 64 y))), .int .i64 (0), .bool true]) ∧ Below w.heap.size w w' := by
  have hN2 : ∀ w, Calls Tryd.prog 25 #[.int .u8 op] w fun e w' => e = .returned (.tuple #[.string ⟨#[110, 101]⟩, .int .i64 64]) ∧ Below w.heap.size w w' := fun w => hN w
  have hlx : ∀ wx, Calls Tryd.prog 27 #[.int .u64 x, .int .i64 64] wx fun e w' => e = .returned (.int .u64 (lo 64 x)) ∧ wx = w' := fun wx => low_any 64 (.inr rfl) x wx h0 h1
  have hly : ∀ wx, Calls Tryd.prog 27 #[.int .u64 y, .int .i64 64] wx fun e w' => e = .returned (.int .u64 (lo 64 y)) ∧ wx = w' := fun wx => low_any 64 (.inr rfl) y wx h2 h3
  have bx := lo_lt 64 (.inr rfl) x; have by' := lo_lt 64 (.inr rfl) y
  generalize lo 64 x = X at *
  generalize lo 64 y = Y at *
  obtain ⟨bx0, bx1⟩ := bx
  obtain ⟨by0, by1⟩ := by'
  have hh : ∀ wx, Calls Tryd.prog 34 #[.string ⟨#[110, 101]⟩, .int .u64 X, .int .u64 Y, .int .i64 64] wx fun e w' => e = .returned (.tuple #[.bool (cmpB 64 71 X Y), .bool true]) ∧ wx = w' := fun wx => holds_ne 64 (.inr rfl) X Y wx bx0 bx1 by0 by1
  generalize cmpB 64 71 X Y = D at *
  have HH := hide hh; clear hh
  have HN := hide hN2; have HA := hide alone_ne; have HX := hide hlx; have HY := hide hly; clear hN hN2 hlx hly
  rw [pw_64] at bx1 by1
  go_enter Tryd.func14, Tryd.ntmps14
  go_wp2_with fail
  refine (unhide HN _).mono ?_
  rintro e w1 ⟨rfl, hb1⟩
  have HB := hide hb1; clear hb1
  go_wp2_with fail
  refine (unhide HA _).mono ?_
  rintro e w2 ⟨rfl, rfl⟩
  go_wp2_with fail
  refine (unhide HX _).mono ?_
  rintro e w2 ⟨rfl, rfl⟩
  go_wp2_with fail
  refine (unhide HY _).mono ?_
  rintro e w2 ⟨rfl, rfl⟩
  go_wp2_with fail
  refine (unhide HH _).mono ?_
  rintro e w2 ⟨rfl, rfl⟩
  cases D
  · go_wp2
    go_ret3
    exact ⟨by kernel_rfl, unhide HB⟩
  · go_wp2
    go_ret3
    exact ⟨by kernel_rfl, unhide HB⟩

set_option maxHeartbeats 1600000 in
set_option maxRecDepth 4000 in
theorem refTwo_lt_s_32 (op x y : Int) (hN : Named op ⟨#[108, 116, 95, 115]⟩ 32) (w : World) (h0 : 0 ≤ x) (h1 : x < 18446744073709551616) (h2 : 0 ≤ y) (h3 : y < 18446744073709551616) :
    Calls Tryd.prog 14 #[.int .u8 op, .int .u64 x, .int .u64 y] w fun e w' => e = .returned (.tuple #[.int .u64 (b01 (cmpB 32 72 (lo 32 x) (lo 32 y))), .int .i64 (0), .bool true]) ∧ Below w.heap.size w w' := by
  have hN2 : ∀ w, Calls Tryd.prog 25 #[.int .u8 op] w fun e w' => e = .returned (.tuple #[.string ⟨#[108, 116, 95, 115]⟩, .int .i64 32]) ∧ Below w.heap.size w w' := fun w => hN w
  have hlx : ∀ wx, Calls Tryd.prog 27 #[.int .u64 x, .int .i64 32] wx fun e w' => e = .returned (.int .u64 (lo 32 x)) ∧ wx = w' := fun wx => low_any 32 (.inl rfl) x wx h0 h1
  have hly : ∀ wx, Calls Tryd.prog 27 #[.int .u64 y, .int .i64 32] wx fun e w' => e = .returned (.int .u64 (lo 32 y)) ∧ wx = w' := fun wx => low_any 32 (.inl rfl) y wx h2 h3
  have bx := lo_lt 32 (.inl rfl) x; have by' := lo_lt 32 (.inl rfl) y
  generalize lo 32 x = X at *
  generalize lo 32 y = Y at *
  obtain ⟨bx0, bx1⟩ := bx
  obtain ⟨by0, by1⟩ := by'
  have hh : ∀ wx, Calls Tryd.prog 34 #[.string ⟨#[108, 116, 95, 115]⟩, .int .u64 X, .int .u64 Y, .int .i64 32] wx fun e w' => e = .returned (.tuple #[.bool (cmpB 32 72 X Y), .bool true]) ∧ wx = w' := fun wx => holds_lt_s 32 (.inl rfl) X Y wx bx0 bx1 by0 by1
  generalize cmpB 32 72 X Y = D at *
  have HH := hide hh; clear hh
  have HN := hide hN2; have HA := hide alone_lt_s; have HX := hide hlx; have HY := hide hly; clear hN hN2 hlx hly
  rw [pw_32] at bx1 by1
  go_enter Tryd.func14, Tryd.ntmps14
  go_wp2_with fail
  refine (unhide HN _).mono ?_
  rintro e w1 ⟨rfl, hb1⟩
  have HB := hide hb1; clear hb1
  go_wp2_with fail
  refine (unhide HA _).mono ?_
  rintro e w2 ⟨rfl, rfl⟩
  go_wp2_with fail
  refine (unhide HX _).mono ?_
  rintro e w2 ⟨rfl, rfl⟩
  go_wp2_with fail
  refine (unhide HY _).mono ?_
  rintro e w2 ⟨rfl, rfl⟩
  go_wp2_with fail
  refine (unhide HH _).mono ?_
  rintro e w2 ⟨rfl, rfl⟩
  cases D
  · go_wp2
    go_ret3
    exact ⟨by kernel_rfl, unhide HB⟩
  · go_wp2
    go_ret3
    exact ⟨by kernel_rfl, unhide HB⟩

set_option maxHeartbeats 1600000 in
set_option maxRecDepth 4000 in
theorem refTwo_lt_s_64 (op x y : Int) (hN : Named op ⟨#[108, 116, 95, 115]⟩ 64) (w : World) (h0 : 0 ≤ x) (h1 : x < 18446744073709551616) (h2 : 0 ≤ y) (h3 : y < 18446744073709551616) :
    Calls Tryd.prog 14 #[.int .u8 op, .int .u64 x, .int .u64 y] w fun e w' => e = .returned (.tuple #[.int .u64 (b01 (cmpB 64 72 (lo 64 x) (lo 64 y))), .int .i64 (0), .bool true]) ∧ Below w.heap.size w w' := by
  have hN2 : ∀ w, Calls Tryd.prog 25 #[.int .u8 op] w fun e w' => e = .returned (.tuple #[.string ⟨#[108, 116, 95, 115]⟩, .int .i64 64]) ∧ Below w.heap.size w w' := fun w => hN w
  have hlx : ∀ wx, Calls Tryd.prog 27 #[.int .u64 x, .int .i64 64] wx fun e w' => e = .returned (.int .u64 (lo 64 x)) ∧ wx = w' := fun wx => low_any 64 (.inr rfl) x wx h0 h1
  have hly : ∀ wx, Calls Tryd.prog 27 #[.int .u64 y, .int .i64 64] wx fun e w' => e = .returned (.int .u64 (lo 64 y)) ∧ wx = w' := fun wx => low_any 64 (.inr rfl) y wx h2 h3
  have bx := lo_lt 64 (.inr rfl) x; have by' := lo_lt 64 (.inr rfl) y
  generalize lo 64 x = X at *
  generalize lo 64 y = Y at *
  obtain ⟨bx0, bx1⟩ := bx
  obtain ⟨by0, by1⟩ := by'
  have hh : ∀ wx, Calls Tryd.prog 34 #[.string ⟨#[108, 116, 95, 115]⟩, .int .u64 X, .int .u64 Y, .int .i64 64] wx fun e w' => e = .returned (.tuple #[.bool (cmpB 64 72 X Y), .bool true]) ∧ wx = w' := fun wx => holds_lt_s 64 (.inr rfl) X Y wx bx0 bx1 by0 by1
  generalize cmpB 64 72 X Y = D at *
  have HH := hide hh; clear hh
  have HN := hide hN2; have HA := hide alone_lt_s; have HX := hide hlx; have HY := hide hly; clear hN hN2 hlx hly
  rw [pw_64] at bx1 by1
  go_enter Tryd.func14, Tryd.ntmps14
  go_wp2_with fail
  refine (unhide HN _).mono ?_
  rintro e w1 ⟨rfl, hb1⟩
  have HB := hide hb1; clear hb1
  go_wp2_with fail
  refine (unhide HA _).mono ?_
  rintro e w2 ⟨rfl, rfl⟩
  go_wp2_with fail
  refine (unhide HX _).mono ?_
  rintro e w2 ⟨rfl, rfl⟩
  go_wp2_with fail
  refine (unhide HY _).mono ?_
  rintro e w2 ⟨rfl, rfl⟩
  go_wp2_with fail
  refine (unhide HH _).mono ?_
  rintro e w2 ⟨rfl, rfl⟩
  cases D
  · go_wp2
    go_ret3
    exact ⟨by kernel_rfl, unhide HB⟩
  · go_wp2
    go_ret3
    exact ⟨by kernel_rfl, unhide HB⟩

set_option maxHeartbeats 1600000 in
set_option maxRecDepth 4000 in
theorem refTwo_lt_u_32 (op x y : Int) (hN : Named op ⟨#[108, 116, 95, 117]⟩ 32) (w : World) (h0 : 0 ≤ x) (h1 : x < 18446744073709551616) (h2 : 0 ≤ y) (h3 : y < 18446744073709551616) :
    Calls Tryd.prog 14 #[.int .u8 op, .int .u64 x, .int .u64 y] w fun e w' => e = .returned (.tuple #[.int .u64 (b01 (cmpB 32 73 (lo 32 x) (lo 32 y))), .int .i64 (0), .bool true]) ∧ Below w.heap.size w w' := by
  have hN2 : ∀ w, Calls Tryd.prog 25 #[.int .u8 op] w fun e w' => e = .returned (.tuple #[.string ⟨#[108, 116, 95, 117]⟩, .int .i64 32]) ∧ Below w.heap.size w w' := fun w => hN w
  have hlx : ∀ wx, Calls Tryd.prog 27 #[.int .u64 x, .int .i64 32] wx fun e w' => e = .returned (.int .u64 (lo 32 x)) ∧ wx = w' := fun wx => low_any 32 (.inl rfl) x wx h0 h1
  have hly : ∀ wx, Calls Tryd.prog 27 #[.int .u64 y, .int .i64 32] wx fun e w' => e = .returned (.int .u64 (lo 32 y)) ∧ wx = w' := fun wx => low_any 32 (.inl rfl) y wx h2 h3
  have bx := lo_lt 32 (.inl rfl) x; have by' := lo_lt 32 (.inl rfl) y
  generalize lo 32 x = X at *
  generalize lo 32 y = Y at *
  obtain ⟨bx0, bx1⟩ := bx
  obtain ⟨by0, by1⟩ := by'
  have hh : ∀ wx, Calls Tryd.prog 34 #[.string ⟨#[108, 116, 95, 117]⟩, .int .u64 X, .int .u64 Y, .int .i64 32] wx fun e w' => e = .returned (.tuple #[.bool (cmpB 32 73 X Y), .bool true]) ∧ wx = w' := fun wx => holds_lt_u 32 (.inl rfl) X Y wx bx0 bx1 by0 by1
  generalize cmpB 32 73 X Y = D at *
  have HH := hide hh; clear hh
  have HN := hide hN2; have HA := hide alone_lt_u; have HX := hide hlx; have HY := hide hly; clear hN hN2 hlx hly
  rw [pw_32] at bx1 by1
  go_enter Tryd.func14, Tryd.ntmps14
  go_wp2_with fail
  refine (unhide HN _).mono ?_
  rintro e w1 ⟨rfl, hb1⟩
  have HB := hide hb1; clear hb1
  go_wp2_with fail
  refine (unhide HA _).mono ?_
  rintro e w2 ⟨rfl, rfl⟩
  go_wp2_with fail
  refine (unhide HX _).mono ?_
  rintro e w2 ⟨rfl, rfl⟩
  go_wp2_with fail
  refine (unhide HY _).mono ?_
  rintro e w2 ⟨rfl, rfl⟩
  go_wp2_with fail
  refine (unhide HH _).mono ?_
  rintro e w2 ⟨rfl, rfl⟩
  cases D
  · go_wp2
    go_ret3
    exact ⟨by kernel_rfl, unhide HB⟩
  · go_wp2
    go_ret3
    exact ⟨by kernel_rfl, unhide HB⟩

set_option maxHeartbeats 1600000 in
set_option maxRecDepth 4000 in
theorem refTwo_lt_u_64 (op x y : Int) (hN : Named op ⟨#[108, 116, 95, 117]⟩ 64) (w : World) (h0 : 0 ≤ x) (h1 : x < 18446744073709551616) (h2 : 0 ≤ y) (h3 : y < 18446744073709551616) :
    Calls Tryd.prog 14 #[.int .u8 op, .int .u64 x, .int .u64 y] w fun e w' => e = .returned (.tuple #[.int .u64 (b01 (cmpB 64 73 (lo 64 x) (lo 64 y))), .int .i64 (0), .bool true]) ∧ Below w.heap.size w w' := by
  have hN2 : ∀ w, Calls Tryd.prog 25 #[.int .u8 op] w fun e w' => e = .returned (.tuple #[.string ⟨#[108, 116, 95, 117]⟩, .int .i64 64]) ∧ Below w.heap.size w w' := fun w => hN w
  have hlx : ∀ wx, Calls Tryd.prog 27 #[.int .u64 x, .int .i64 64] wx fun e w' => e = .returned (.int .u64 (lo 64 x)) ∧ wx = w' := fun wx => low_any 64 (.inr rfl) x wx h0 h1
  have hly : ∀ wx, Calls Tryd.prog 27 #[.int .u64 y, .int .i64 64] wx fun e w' => e = .returned (.int .u64 (lo 64 y)) ∧ wx = w' := fun wx => low_any 64 (.inr rfl) y wx h2 h3
  have bx := lo_lt 64 (.inr rfl) x; have by' := lo_lt 64 (.inr rfl) y
  generalize lo 64 x = X at *
  generalize lo 64 y = Y at *
  obtain ⟨bx0, bx1⟩ := bx
  obtain ⟨by0, by1⟩ := by'
  have hh : ∀ wx, Calls Tryd.prog 34 #[.string ⟨#[108, 116, 95, 117]⟩, .int .u64 X, .int .u64 Y, .int .i64 64] wx fun e w' => e = .returned (.tuple #[.bool (cmpB 64 73 X Y), .bool true]) ∧ wx = w' := fun wx => holds_lt_u 64 (.inr rfl) X Y wx bx0 bx1 by0 by1
  generalize cmpB 64 73 X Y = D at *
  have HH := hide hh; clear hh
  have HN := hide hN2; have HA := hide alone_lt_u; have HX := hide hlx; have HY := hide hly; clear hN hN2 hlx hly
  rw [pw_64] at bx1 by1
  go_enter Tryd.func14, Tryd.ntmps14
  go_wp2_with fail
  refine (unhide HN _).mono ?_
  rintro e w1 ⟨rfl, hb1⟩
  have HB := hide hb1; clear hb1
  go_wp2_with fail
  refine (unhide HA _).mono ?_
  rintro e w2 ⟨rfl, rfl⟩
  go_wp2_with fail
  refine (unhide HX _).mono ?_
  rintro e w2 ⟨rfl, rfl⟩
  go_wp2_with fail
  refine (unhide HY _).mono ?_
  rintro e w2 ⟨rfl, rfl⟩
  go_wp2_with fail
  refine (unhide HH _).mono ?_
  rintro e w2 ⟨rfl, rfl⟩
  cases D
  · go_wp2
    go_ret3
    exact ⟨by kernel_rfl, unhide HB⟩
  · go_wp2
    go_ret3
    exact ⟨by kernel_rfl, unhide HB⟩

set_option maxHeartbeats 1600000 in
set_option maxRecDepth 4000 in
theorem refTwo_gt_s_32 (op x y : Int) (hN : Named op ⟨#[103, 116, 95, 115]⟩ 32) (w : World) (h0 : 0 ≤ x) (h1 : x < 18446744073709551616) (h2 : 0 ≤ y) (h3 : y < 18446744073709551616) :
    Calls Tryd.prog 14 #[.int .u8 op, .int .u64 x, .int .u64 y] w fun e w' => e = .returned (.tuple #[.int .u64 (b01 (cmpB 32 74 (lo 32 x) (lo 32 y))), .int .i64 (0), .bool true]) ∧ Below w.heap.size w w' := by
  have hN2 : ∀ w, Calls Tryd.prog 25 #[.int .u8 op] w fun e w' => e = .returned (.tuple #[.string ⟨#[103, 116, 95, 115]⟩, .int .i64 32]) ∧ Below w.heap.size w w' := fun w => hN w
  have hlx : ∀ wx, Calls Tryd.prog 27 #[.int .u64 x, .int .i64 32] wx fun e w' => e = .returned (.int .u64 (lo 32 x)) ∧ wx = w' := fun wx => low_any 32 (.inl rfl) x wx h0 h1
  have hly : ∀ wx, Calls Tryd.prog 27 #[.int .u64 y, .int .i64 32] wx fun e w' => e = .returned (.int .u64 (lo 32 y)) ∧ wx = w' := fun wx => low_any 32 (.inl rfl) y wx h2 h3
  have bx := lo_lt 32 (.inl rfl) x; have by' := lo_lt 32 (.inl rfl) y
  generalize lo 32 x = X at *
  generalize lo 32 y = Y at *
  obtain ⟨bx0, bx1⟩ := bx
  obtain ⟨by0, by1⟩ := by'
  have hh : ∀ wx, Calls Tryd.prog 34 #[.string ⟨#[103, 116, 95, 115]⟩, .int .u64 X, .int .u64 Y, .int .i64 32] wx fun e w' => e = .returned (.tuple #[.bool (cmpB 32 74 X Y), .bool true]) ∧ wx = w' := fun wx => holds_gt_s 32 (.inl rfl) X Y wx bx0 bx1 by0 by1
  generalize cmpB 32 74 X Y = D at *
  have HH := hide hh; clear hh
  have HN := hide hN2; have HA := hide alone_gt_s; have HX := hide hlx; have HY := hide hly; clear hN hN2 hlx hly
  rw [pw_32] at bx1 by1
  go_enter Tryd.func14, Tryd.ntmps14
  go_wp2_with fail
  refine (unhide HN _).mono ?_
  rintro e w1 ⟨rfl, hb1⟩
  have HB := hide hb1; clear hb1
  go_wp2_with fail
  refine (unhide HA _).mono ?_
  rintro e w2 ⟨rfl, rfl⟩
  go_wp2_with fail
  refine (unhide HX _).mono ?_
  rintro e w2 ⟨rfl, rfl⟩
  go_wp2_with fail
  refine (unhide HY _).mono ?_
  rintro e w2 ⟨rfl, rfl⟩
  go_wp2_with fail
  refine (unhide HH _).mono ?_
  rintro e w2 ⟨rfl, rfl⟩
  cases D
  · go_wp2
    go_ret3
    exact ⟨by kernel_rfl, unhide HB⟩
  · go_wp2
    go_ret3
    exact ⟨by kernel_rfl, unhide HB⟩

set_option maxHeartbeats 1600000 in
set_option maxRecDepth 4000 in
theorem refTwo_gt_s_64 (op x y : Int) (hN : Named op ⟨#[103, 116, 95, 115]⟩ 64) (w : World) (h0 : 0 ≤ x) (h1 : x < 18446744073709551616) (h2 : 0 ≤ y) (h3 : y < 18446744073709551616) :
    Calls Tryd.prog 14 #[.int .u8 op, .int .u64 x, .int .u64 y] w fun e w' => e = .returned (.tuple #[.int .u64 (b01 (cmpB 64 74 (lo 64 x) (lo 64 y))), .int .i64 (0), .bool true]) ∧ Below w.heap.size w w' := by
  have hN2 : ∀ w, Calls Tryd.prog 25 #[.int .u8 op] w fun e w' => e = .returned (.tuple #[.string ⟨#[103, 116, 95, 115]⟩, .int .i64 64]) ∧ Below w.heap.size w w' := fun w => hN w
  have hlx : ∀ wx, Calls Tryd.prog 27 #[.int .u64 x, .int .i64 64] wx fun e w' => e = .returned (.int .u64 (lo 64 x)) ∧ wx = w' := fun wx => low_any 64 (.inr rfl) x wx h0 h1
  have hly : ∀ wx, Calls Tryd.prog 27 #[.int .u64 y, .int .i64 64] wx fun e w' => e = .returned (.int .u64 (lo 64 y)) ∧ wx = w' := fun wx => low_any 64 (.inr rfl) y wx h2 h3
  have bx := lo_lt 64 (.inr rfl) x; have by' := lo_lt 64 (.inr rfl) y
  generalize lo 64 x = X at *
  generalize lo 64 y = Y at *
  obtain ⟨bx0, bx1⟩ := bx
  obtain ⟨by0, by1⟩ := by'
  have hh : ∀ wx, Calls Tryd.prog 34 #[.string ⟨#[103, 116, 95, 115]⟩, .int .u64 X, .int .u64 Y, .int .i64 64] wx fun e w' => e = .returned (.tuple #[.bool (cmpB 64 74 X Y), .bool true]) ∧ wx = w' := fun wx => holds_gt_s 64 (.inr rfl) X Y wx bx0 bx1 by0 by1
  generalize cmpB 64 74 X Y = D at *
  have HH := hide hh; clear hh
  have HN := hide hN2; have HA := hide alone_gt_s; have HX := hide hlx; have HY := hide hly; clear hN hN2 hlx hly
  rw [pw_64] at bx1 by1
  go_enter Tryd.func14, Tryd.ntmps14
  go_wp2_with fail
  refine (unhide HN _).mono ?_
  rintro e w1 ⟨rfl, hb1⟩
  have HB := hide hb1; clear hb1
  go_wp2_with fail
  refine (unhide HA _).mono ?_
  rintro e w2 ⟨rfl, rfl⟩
  go_wp2_with fail
  refine (unhide HX _).mono ?_
  rintro e w2 ⟨rfl, rfl⟩
  go_wp2_with fail
  refine (unhide HY _).mono ?_
  rintro e w2 ⟨rfl, rfl⟩
  go_wp2_with fail
  refine (unhide HH _).mono ?_
  rintro e w2 ⟨rfl, rfl⟩
  cases D
  · go_wp2
    go_ret3
    exact ⟨by kernel_rfl, unhide HB⟩
  · go_wp2
    go_ret3
    exact ⟨by kernel_rfl, unhide HB⟩

end Go.Proofs.YtkmigcegeffonaaDoor
