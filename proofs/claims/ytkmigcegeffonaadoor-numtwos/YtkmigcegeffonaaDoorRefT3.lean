/- The document's Two: sums, products, quotients. -/
import Derived.Test.YtkmigcegeffonaaDoorRefH
import Derived.Test.YtkmigcegeffonaaDoorRefD
namespace Go.Proofs.YtkmigcegeffonaaDoor
open Go.RowKit Num
set_option linter.unusedVariables false

set_option maxHeartbeats 1600000 in
set_option maxRecDepth 4000 in
theorem refTwo_add_32 (op x y : Int) (hN : Named op ⟨#[97, 100, 100]⟩ 32) (w : World) (h0 : 0 ≤ x) (h1 : x < 18446744073709551616) (h2 : 0 ≤ y) (h3 : y < 18446744073709551616) :
    Calls Tryd.prog 14 #[.int .u8 op, .int .u64 x, .int .u64 y] w fun e w' => e = .returned (.tuple #[.int .u64 (lo 32 (arV 106 (lo 32 x) (lo 32 y))), .int .i64 (0), .bool true]) ∧ Below w.heap.size w w' := by
  have hN2 : ∀ w, Calls Tryd.prog 25 #[.int .u8 op] w fun e w' => e = .returned (.tuple #[.string ⟨#[97, 100, 100]⟩, .int .i64 32]) ∧ Below w.heap.size w w' := fun w => hN w
  have hlx : ∀ wx, Calls Tryd.prog 27 #[.int .u64 x, .int .i64 32] wx fun e w' => e = .returned (.int .u64 (lo 32 x)) ∧ wx = w' := fun wx => low_any 32 (.inl rfl) x wx h0 h1
  have hly : ∀ wx, Calls Tryd.prog 27 #[.int .u64 y, .int .i64 32] wx fun e w' => e = .returned (.int .u64 (lo 32 y)) ∧ wx = w' := fun wx => low_any 32 (.inl rfl) y wx h2 h3
  have bx := lo_lt 32 (.inl rfl) x; have by' := lo_lt 32 (.inl rfl) y
  generalize lo 32 x = X at *
  generalize lo 32 y = Y at *
  obtain ⟨bx0, bx1⟩ := bx
  obtain ⟨by0, by1⟩ := by'
  have hh : ∀ wx, Calls Tryd.prog 34 #[.string ⟨#[97, 100, 100]⟩, .int .u64 X, .int .u64 Y, .int .i64 32] wx fun e w' => e = .returned (.tuple #[.bool false, .bool false]) ∧ wx = w' := fun wx => holds_add 32 X Y wx
  have HH := hide hh; clear hh
  have hu := u64_bd (X + Y)
  have hl : ∀ wx, Calls Tryd.prog 27 #[.int .u64 (IntKind.u64.wrap (X + Y)), .int .i64 32] wx fun e w' => e = .returned (.int .u64 (lo 32 (arV 106 X Y))) ∧ wx = w' := fun wx => by
    have h := low_any 32 (.inl rfl) (IntKind.u64.wrap (X + Y)) wx hu.1 hu.2
    rw [lo_u64 32 (.inl rfl)] at h
    rw [show arV 106 X Y = X + Y by simp [arV]]
    exact h
  generalize lo 32 (arV 106 X Y) = R at *
  have HL := hide hl; clear hl hu
  have HN := hide hN2; have HA := hide alone_add; have HX := hide hlx; have HY := hide hly; clear hN hN2 hlx hly
  clear bx1 by1
  go_enter Tryd.func14, Tryd.ntmps14
  go_wp2_with fail
  refine (unhide HN _).mono ?_
  rintro e w1 ⟨rfl, hb1⟩
  have HB := hide hb1; clear hb1
  go_wp2_with fail
  refine (unhide HA _).mono ?_
  rintro e w2 ⟨rfl, rfl⟩
  go_wp2_with fail
  refine (unhide HX _).mono ?_
  rintro e w2 ⟨rfl, rfl⟩
  go_wp2_with fail
  refine (unhide HY _).mono ?_
  rintro e w2 ⟨rfl, rfl⟩
  go_wp2_with fail
  refine (unhide HH _).mono ?_
  rintro e w2 ⟨rfl, rfl⟩
  go_wp2_with fail
  refine (unhide HL _).mono ?_
  rintro e w2 ⟨rfl, rfl⟩
  go_wp2
  go_ret3
  exact ⟨by kernel_rfl, unhide HB⟩

set_option maxHeartbeats 1600000 in
set_option maxRecDepth 4000 in
theorem refTwo_add_64 (op x y : Int) (hN : Named op ⟨#[97, 100, 100]⟩ 64) (w : World) (h0 : 0 ≤ x) (h1 : x < 18446744073709551616) (h2 : 0 ≤ y) (h3 : y < 18446744073709551616) :
    Calls Tryd.prog 14 #[.int .u8 op, .int .u64 x, .int .u64 y] w fun e w' => e = .returned (.tuple #[.int .u64 (lo 64 (arV 106 (lo 64 x) (lo 64 y))), .int .i64 (0), .bool true]) ∧ Below w.heap.size w w' := by
  have hN2 : ∀ w, Calls Tryd.prog 25 #[.int .u8 op] w fun e w' => e = .returned (.tuple #[.string ⟨#[97, 100, 100]⟩, .int .i64 64]) ∧ Below w.heap.size w w' := fun w => hN w
  have hlx : ∀ wx, Calls Tryd.prog 27 #[.int .u64 x, .int .i64 64] wx fun e w' => e = .returned (.int .u64 (lo 64 x)) ∧ wx = w' := fun wx => low_any 64 (.inr rfl) x wx h0 h1
  have hly : ∀ wx, Calls Tryd.prog 27 #[.int .u64 y, .int .i64 64] wx fun e w' => e = .returned (.int .u64 (lo 64 y)) ∧ wx = w' := fun wx => low_any 64 (.inr rfl) y wx h2 h3
  have bx := lo_lt 64 (.inr rfl) x; have by' := lo_lt 64 (.inr rfl) y
  generalize lo 64 x = X at *
  generalize lo 64 y = Y at *
  obtain ⟨bx0, bx1⟩ := bx
  obtain ⟨by0, by1⟩ := by'
  have hh : ∀ wx, Calls Tryd.prog 34 #[.string ⟨#[97, 100, 100]⟩, .int .u64 X, .int .u64 Y, .int .i64 64] wx fun e w' => e = .returned (.tuple #[.bool false, .bool false]) ∧ wx = w' := fun wx => holds_add 64 X Y wx
  have HH := hide hh; clear hh
  have hu := u64_bd (X + Y)
  have hl : ∀ wx, Calls Tryd.prog 27 #[.int .u64 (IntKind.u64.wrap (X + Y)), .int .i64 64] wx fun e w' => e = .returned (.int .u64 (lo 64 (arV 106 X Y))) ∧ wx = w' := fun wx => by
    have h := low_any 64 (.inr rfl) (IntKind.u64.wrap (X + Y)) wx hu.1 hu.2
    rw [lo_u64 64 (.inr rfl)] at h
    rw [show arV 106 X Y = X + Y by simp [arV]]
    exact h
  generalize lo 64 (arV 106 X Y) = R at *
  have HL := hide hl; clear hl hu
  have HN := hide hN2; have HA := hide alone_add; have HX := hide hlx; have HY := hide hly; clear hN hN2 hlx hly
  clear bx1 by1
  go_enter Tryd.func14, Tryd.ntmps14
  go_wp2_with fail
  refine (unhide HN _).mono ?_
  rintro e w1 ⟨rfl, hb1⟩
  have HB := hide hb1; clear hb1
  go_wp2_with fail
  refine (unhide HA _).mono ?_
  rintro e w2 ⟨rfl, rfl⟩
  go_wp2_with fail
  refine (unhide HX _).mono ?_
  rintro e w2 ⟨rfl, rfl⟩
  go_wp2_with fail
  refine (unhide HY _).mono ?_
  rintro e w2 ⟨rfl, rfl⟩
  go_wp2_with fail
  refine (unhide HH _).mono ?_
  rintro e w2 ⟨rfl, rfl⟩
  go_wp2_with fail
  refine (unhide HL _).mono ?_
  rintro e w2 ⟨rfl, rfl⟩
  go_wp2
  go_ret3
  exact ⟨by kernel_rfl, unhide HB⟩

set_option maxHeartbeats 1600000 in
set_option maxRecDepth 4000 in
theorem refTwo_sub_32 (op x y : Int) (hN : Named op ⟨#[115, 117, 98]⟩ 32) (w : World) (h0 : 0 ≤ x) (h1 : x < 18446744073709551616) (h2 : 0 ≤ y) (h3 : y < 18446744073709551616) :
    Calls Tryd.prog 14 #[.int .u8 op, .int .u64 x, .int .u64 y] w fun e w' => e = .returned (.tuple #[.int .u64 (lo 32 (arV 107 (lo 32 x) (lo 32 y))), .int .i64 (0), .bool true]) ∧ Below w.heap.size w w' := by
  have hN2 : ∀ w, Calls Tryd.prog 25 #[.int .u8 op] w fun e w' => e = .returned (.tuple #[.string ⟨#[115, 117, 98]⟩, .int .i64 32]) ∧ Below w.heap.size w w' := fun w => hN w
  have hlx : ∀ wx, Calls Tryd.prog 27 #[.int .u64 x, .int .i64 32] wx fun e w' => e = .returned (.int .u64 (lo 32 x)) ∧ wx = w' := fun wx => low_any 32 (.inl rfl) x wx h0 h1
  have hly : ∀ wx, Calls Tryd.prog 27 #[.int .u64 y, .int .i64 32] wx fun e w' => e = .returned (.int .u64 (lo 32 y)) ∧ wx = w' := fun wx => low_any 32 (.inl rfl) y wx h2 h3
  have bx := lo_lt 32 (.inl rfl) x; have by' := lo_lt 32 (.inl rfl) y
  generalize lo 32 x = X at *
  generalize lo 32 y = Y at *
  obtain ⟨bx0, bx1⟩ := bx
  obtain ⟨by0, by1⟩ := by'
  have hh : ∀ wx, Calls Tryd.prog 34 #[.string ⟨#[115, 117, 98]⟩, .int .u64 X, .int .u64 Y, .int .i64 32] wx fun e w' => e = .returned (.tuple #[.bool false, .bool false]) ∧ wx = w' := fun wx => holds_sub 32 X Y wx
  have HH := hide hh; clear hh
  have hu := u64_bd (X - Y)
  have hl : ∀ wx, Calls Tryd.prog 27 #[.int .u64 (IntKind.u64.wrap (X - Y)), .int .i64 32] wx fun e w' => e = .returned (.int .u64 (lo 32 (arV 107 X Y))) ∧ wx = w' := fun wx => by
    have h := low_any 32 (.inl rfl) (IntKind.u64.wrap (X - Y)) wx hu.1 hu.2
    rw [lo_u64 32 (.inl rfl)] at h
    rw [show arV 107 X Y = X - Y by simp [arV]]
    exact h
  generalize lo 32 (arV 107 X Y) = R at *
  have HL := hide hl; clear hl hu
  have HN := hide hN2; have HA := hide alone_sub; have HX := hide hlx; have HY := hide hly; clear hN hN2 hlx hly
  clear bx1 by1
  go_enter Tryd.func14, Tryd.ntmps14
  go_wp2_with fail
  refine (unhide HN _).mono ?_
  rintro e w1 ⟨rfl, hb1⟩
  have HB := hide hb1; clear hb1
  go_wp2_with fail
  refine (unhide HA _).mono ?_
  rintro e w2 ⟨rfl, rfl⟩
  go_wp2_with fail
  refine (unhide HX _).mono ?_
  rintro e w2 ⟨rfl, rfl⟩
  go_wp2_with fail
  refine (unhide HY _).mono ?_
  rintro e w2 ⟨rfl, rfl⟩
  go_wp2_with fail
  refine (unhide HH _).mono ?_
  rintro e w2 ⟨rfl, rfl⟩
  go_wp2_with fail
  refine (unhide HL _).mono ?_
  rintro e w2 ⟨rfl, rfl⟩
  go_wp2
  go_ret3
  exact ⟨by kernel_rfl, unhide HB⟩

set_option maxHeartbeats 1600000 in
set_option maxRecDepth 4000 in
theorem refTwo_sub_64 (op x y : Int) (hN : Named op ⟨#[115, 117, 98]⟩ 64) (w : World) (h0 : 0 ≤ x) (h1 : x < 18446744073709551616) (h2 : 0 ≤ y) (h3 : y < 18446744073709551616) :
    Calls Tryd.prog 14 #[.int .u8 op, .int .u64 x, .int .u64 y] w fun e w' => e = .returned (.tuple #[.int .u64 (lo 64 (arV 107 (lo 64 x) (lo 64 y))), .int .i64 (0), .bool true]) ∧ Below w.heap.size w w' := by
  have hN2 : ∀ w, Calls Tryd.prog 25 #[.int .u8 op] w fun e w' => e = .returned (.tuple #[.string ⟨#[115, 117, 98]⟩, .int .i64 64]) ∧ Below w.heap.size w w' := fun w => hN w
  have hlx : ∀ wx, Calls Tryd.prog 27 #[.int .u64 x, .int .i64 64] wx fun e w' => e = .returned (.int .u64 (lo 64 x)) ∧ wx = w' := fun wx => low_any 64 (.inr rfl) x wx h0 h1
  have hly : ∀ wx, Calls Tryd.prog 27 #[.int .u64 y, .int .i64 64] wx fun e w' => e = .returned (.int .u64 (lo 64 y)) ∧ wx = w' := fun wx => low_any 64 (.inr rfl) y wx h2 h3
  have bx := lo_lt 64 (.inr rfl) x; have by' := lo_lt 64 (.inr rfl) y
  generalize lo 64 x = X at *
  generalize lo 64 y = Y at *
  obtain ⟨bx0, bx1⟩ := bx
  obtain ⟨by0, by1⟩ := by'
  have hh : ∀ wx, Calls Tryd.prog 34 #[.string ⟨#[115, 117, 98]⟩, .int .u64 X, .int .u64 Y, .int .i64 64] wx fun e w' => e = .returned (.tuple #[.bool false, .bool false]) ∧ wx = w' := fun wx => holds_sub 64 X Y wx
  have HH := hide hh; clear hh
  have hu := u64_bd (X - Y)
  have hl : ∀ wx, Calls Tryd.prog 27 #[.int .u64 (IntKind.u64.wrap (X - Y)), .int .i64 64] wx fun e w' => e = .returned (.int .u64 (lo 64 (arV 107 X Y))) ∧ wx = w' := fun wx => by
    have h := low_any 64 (.inr rfl) (IntKind.u64.wrap (X - Y)) wx hu.1 hu.2
    rw [lo_u64 64 (.inr rfl)] at h
    rw [show arV 107 X Y = X - Y by simp [arV]]
    exact h
  generalize lo 64 (arV 107 X Y) = R at *
  have HL := hide hl; clear hl hu
  have HN := hide hN2; have HA := hide alone_sub; have HX := hide hlx; have HY := hide hly; clear hN hN2 hlx hly
  clear bx1 by1
  go_enter Tryd.func14, Tryd.ntmps14
  go_wp2_with fail
  refine (unhide HN _).mono ?_
  rintro e w1 ⟨rfl, hb1⟩
  have HB := hide hb1; clear hb1
  go_wp2_with fail
  refine (unhide HA _).mono ?_
  rintro e w2 ⟨rfl, rfl⟩
  go_wp2_with fail
  refine (unhide HX _).mono ?_
  rintro e w2 ⟨rfl, rfl⟩
  go_wp2_with fail
  refine (unhide HY _).mono ?_
  rintro e w2 ⟨rfl, rfl⟩
  go_wp2_with fail
  refine (unhide HH _).mono ?_
  rintro e w2 ⟨rfl, rfl⟩
  go_wp2_with fail
  refine (unhide HL _).mono ?_
  rintro e w2 ⟨rfl, rfl⟩
  go_wp2
  go_ret3
  exact ⟨by kernel_rfl, unhide HB⟩

set_option maxHeartbeats 1600000 in
set_option maxRecDepth 4000 in
theorem refTwo_mul_32 (op x y : Int) (hN : Named op ⟨#[109, 117, 108]⟩ 32) (w : World) (h0 : 0 ≤ x) (h1 : x < 18446744073709551616) (h2 : 0 ≤ y) (h3 : y < 18446744073709551616) :
    Calls Tryd.prog 14 #[.int .u8 op, .int .u64 x, .int .u64 y] w fun e w' => e = .returned (.tuple #[.int .u64 (lo 32 (arV 108 (lo 32 x) (lo 32 y))), .int .i64 (0), .bool true]) ∧ Below w.heap.size w w' := by
  have hN2 : ∀ w, Calls Tryd.prog 25 #[.int .u8 op] w fun e w' => e = .returned (.tuple #[.string ⟨#[109, 117, 108]⟩, .int .i64 32]) ∧ Below w.heap.size w w' := fun w => hN w
  have hlx : ∀ wx, Calls Tryd.prog 27 #[.int .u64 x, .int .i64 32] wx fun e w' => e = .returned (.int .u64 (lo 32 x)) ∧ wx = w' := fun wx => low_any 32 (.inl rfl) x wx h0 h1
  have hly : ∀ wx, Calls Tryd.prog 27 #[.int .u64 y, .int .i64 32] wx fun e w' => e = .returned (.int .u64 (lo 32 y)) ∧ wx = w' := fun wx => low_any 32 (.inl rfl) y wx h2 h3
  have bx := lo_lt 32 (.inl rfl) x; have by' := lo_lt 32 (.inl rfl) y
  generalize lo 32 x = X at *
  generalize lo 32 y = Y at *
  obtain ⟨bx0, bx1⟩ := bx
  obtain ⟨by0, by1⟩ := by'
  have hh : ∀ wx, Calls Tryd.prog 34 #[.string ⟨#[109, 117, 108]⟩, .int .u64 X, .int .u64 Y, .int .i64 32] wx fun e w' => e = .returned (.tuple #[.bool false, .bool false]) ∧ wx = w' := fun wx => holds_mul 32 X Y wx
  have HH := hide hh; clear hh
  have hu := u64_bd (X * Y)
  have hl : ∀ wx, Calls Tryd.prog 27 #[.int .u64 (IntKind.u64.wrap (X * Y)), .int .i64 32] wx fun e w' => e = .returned (.int .u64 (lo 32 (arV 108 X Y))) ∧ wx = w' := fun wx => by
    have h := low_any 32 (.inl rfl) (IntKind.u64.wrap (X * Y)) wx hu.1 hu.2
    rw [lo_u64 32 (.inl rfl)] at h
    rw [show arV 108 X Y = X * Y by simp [arV]]
    exact h
  generalize lo 32 (arV 108 X Y) = R at *
  have HL := hide hl; clear hl hu
  have HN := hide hN2; have HA := hide alone_mul; have HX := hide hlx; have HY := hide hly; clear hN hN2 hlx hly
  clear bx1 by1
  go_enter Tryd.func14, Tryd.ntmps14
  go_wp2_with fail
  refine (unhide HN _).mono ?_
  rintro e w1 ⟨rfl, hb1⟩
  have HB := hide hb1; clear hb1
  go_wp2_with fail
  refine (unhide HA _).mono ?_
  rintro e w2 ⟨rfl, rfl⟩
  go_wp2_with fail
  refine (unhide HX _).mono ?_
  rintro e w2 ⟨rfl, rfl⟩
  go_wp2_with fail
  refine (unhide HY _).mono ?_
  rintro e w2 ⟨rfl, rfl⟩
  go_wp2_with fail
  refine (unhide HH _).mono ?_
  rintro e w2 ⟨rfl, rfl⟩
  go_wp2_with fail
  refine (unhide HL _).mono ?_
  rintro e w2 ⟨rfl, rfl⟩
  go_wp2
  go_ret3
  exact ⟨by kernel_rfl, unhide HB⟩

set_option maxHeartbeats 1600000 in
set_option maxRecDepth 4000 in
theorem refTwo_mul_64 (op x y : Int) (hN : Named op ⟨#[109, 117, 108]⟩ 64) (w : World) (h0 : 0 ≤ x) (h1 : x < 18446744073709551616) (h2 : 0 ≤ y) (h3 : y < 18446744073709551616) :
    Calls Tryd.prog 14 #[.int .u8 op, .int .u64 x, .int .u64 y] w fun e w' => e = .returned (.tuple #[.int .u64 (lo 64 (arV 108 (lo 64 x) (lo 64 y))), .int .i64 (0), .bool true]) ∧ Below w.heap.size w w' := by
  have hN2 : ∀ w, Calls Tryd.prog 25 #[.int .u8 op] w fun e w' => e = .returned (.tuple #[.string ⟨#[109, 117, 108]⟩, .int .i64 64]) ∧ Below w.heap.size w w' := fun w => hN w
  have hlx : ∀ wx, Calls Tryd.prog 27 #[.int .u64 x, .int .i64 64] wx fun e w' => e = .returned (.int .u64 (lo 64 x)) ∧ wx = w' := fun wx => low_any 64 (.inr rfl) x wx h0 h1
  have hly : ∀ wx, Calls Tryd.prog 27 #[.int .u64 y, .int .i64 64] wx fun e w' => e = .returned (.int .u64 (lo 64 y)) ∧ wx = w' := fun wx => low_any 64 (.inr rfl) y wx h2 h3
  have bx := lo_lt 64 (.inr rfl) x; have by' := lo_lt 64 (.inr rfl) y
  generalize lo 64 x = X at *
  generalize lo 64 y = Y at *
  obtain ⟨bx0, bx1⟩ := bx
  obtain ⟨by0, by1⟩ := by'
  have hh : ∀ wx, Calls Tryd.prog 34 #[.string ⟨#[109, 117, 108]⟩, .int .u64 X, .int .u64 Y, .int .i64 64] wx fun e w' => e = .returned (.tuple #[.bool false, .bool false]) ∧ wx = w' := fun wx => holds_mul 64 X Y wx
  have HH := hide hh; clear hh
  have hu := u64_bd (X * Y)
  have hl : ∀ wx, Calls Tryd.prog 27 #[.int .u64 (IntKind.u64.wrap (X * Y)), .int .i64 64] wx fun e w' => e = .returned (.int .u64 (lo 64 (arV 108 X Y))) ∧ wx = w' := fun wx => by
    have h := low_any 64 (.inr rfl) (IntKind.u64.wrap (X * Y)) wx hu.1 hu.2
    rw [lo_u64 64 (.inr rfl)] at h
    rw [show arV 108 X Y = X * Y by simp [arV]]
    exact h
  generalize lo 64 (arV 108 X Y) = R at *
  have HL := hide hl; clear hl hu
  have HN := hide hN2; have HA := hide alone_mul; have HX := hide hlx; have HY := hide hly; clear hN hN2 hlx hly
  clear bx1 by1
  go_enter Tryd.func14, Tryd.ntmps14
  go_wp2_with fail
  refine (unhide HN _).mono ?_
  rintro e w1 ⟨rfl, hb1⟩
  have HB := hide hb1; clear hb1
  go_wp2_with fail
  refine (unhide HA _).mono ?_
  rintro e w2 ⟨rfl, rfl⟩
  go_wp2_with fail
  refine (unhide HX _).mono ?_
  rintro e w2 ⟨rfl, rfl⟩
  go_wp2_with fail
  refine (unhide HY _).mono ?_
  rintro e w2 ⟨rfl, rfl⟩
  go_wp2_with fail
  refine (unhide HH _).mono ?_
  rintro e w2 ⟨rfl, rfl⟩
  go_wp2_with fail
  refine (unhide HL _).mono ?_
  rintro e w2 ⟨rfl, rfl⟩
  go_wp2
  go_ret3
  exact ⟨by kernel_rfl, unhide HB⟩

set_option maxHeartbeats 1600000 in
set_option maxRecDepth 4000 in
theorem refTwo_div_s_32 (op x y : Int) (hN : Named op ⟨#[100, 105, 118, 95, 115]⟩ 32) (w : World) (h0 : 0 ≤ x) (h1 : x < 18446744073709551616) (h2 : 0 ≤ y) (h3 : y < 18446744073709551616) :
    Calls Tryd.prog 14 #[.int .u8 op, .int .u64 x, .int .u64 y] w fun e w' => e = .returned (.tuple #[.int .u64 (dvV 32 109 (lo 32 x) (lo 32 y)), .int .i64 (dvT 32 109 (lo 32 x) (lo 32 y)), .bool true]) ∧ Below w.heap.size w w' := by
  have hN2 : ∀ w, Calls Tryd.prog 25 #[.int .u8 op] w fun e w' => e = .returned (.tuple #[.string ⟨#[100, 105, 118, 95, 115]⟩, .int .i64 32]) ∧ Below w.heap.size w w' := fun w => hN w
  have hlx : ∀ wx, Calls Tryd.prog 27 #[.int .u64 x, .int .i64 32] wx fun e w' => e = .returned (.int .u64 (lo 32 x)) ∧ wx = w' := fun wx => low_any 32 (.inl rfl) x wx h0 h1
  have hly : ∀ wx, Calls Tryd.prog 27 #[.int .u64 y, .int .i64 32] wx fun e w' => e = .returned (.int .u64 (lo 32 y)) ∧ wx = w' := fun wx => low_any 32 (.inl rfl) y wx h2 h3
  have bx := lo_lt 32 (.inl rfl) x; have by' := lo_lt 32 (.inl rfl) y
  generalize lo 32 x = X at *
  generalize lo 32 y = Y at *
  obtain ⟨bx0, bx1⟩ := bx
  obtain ⟨by0, by1⟩ := by'
  have hh : ∀ wx, Calls Tryd.prog 34 #[.string ⟨#[100, 105, 118, 95, 115]⟩, .int .u64 X, .int .u64 Y, .int .i64 32] wx fun e w' => e = .returned (.tuple #[.bool false, .bool false]) ∧ wx = w' := fun wx => holds_div_s 32 X Y wx
  have HH := hide hh; clear hh
  have hd : ∀ wx, Calls Tryd.prog 36 #[.string ⟨#[100, 105, 118, 95, 115]⟩, .int .u64 X, .int .u64 Y, .int .i64 32] wx fun e w' => e = .returned (.tuple #[.int .u64 (dvV 32 109 X Y), .int .i64 (dvT 32 109 X Y)]) ∧ wx = w' := fun wx => div_s_is 32 (.inl rfl) X Y wx bx0 bx1 by0 by1
  generalize dvV 32 109 X Y = V at *
  generalize dvT 32 109 X Y = T at *
  have HD := hide hd; clear hd
  have HN := hide hN2; have HA := hide alone_div_s; have HX := hide hlx; have HY := hide hly; clear hN hN2 hlx hly
  rw [pw_32] at bx1 by1
  go_enter Tryd.func14, Tryd.ntmps14
  go_wp2_with fail
  refine (unhide HN _).mono ?_
  rintro e w1 ⟨rfl, hb1⟩
  have HB := hide hb1; clear hb1
  go_wp2_with fail
  refine (unhide HA _).mono ?_
  rintro e w2 ⟨rfl, rfl⟩
  go_wp2_with fail
  refine (unhide HX _).mono ?_
  rintro e w2 ⟨rfl, rfl⟩
  go_wp2_with fail
  refine (unhide HY _).mono ?_
  rintro e w2 ⟨rfl, rfl⟩
  go_wp2_with fail
  refine (unhide HH _).mono ?_
  rintro e w2 ⟨rfl, rfl⟩
  go_wp2_with fail
  refine (unhide HD _).mono ?_
  rintro e w2 ⟨rfl, rfl⟩
  go_wp2
  go_ret3
  exact ⟨by kernel_rfl, unhide HB⟩

set_option maxHeartbeats 1600000 in
set_option maxRecDepth 4000 in
theorem refTwo_div_s_64 (op x y : Int) (hN : Named op ⟨#[100, 105, 118, 95, 115]⟩ 64) (w : World) (h0 : 0 ≤ x) (h1 : x < 18446744073709551616) (h2 : 0 ≤ y) (h3 : y < 18446744073709551616) :
    Calls Tryd.prog 14 #[.int .u8 op, .int .u64 x, .int .u64 y] w fun e w' => e = .returned (.tuple #[.int .u64 (dvV 64 109 (lo 64 x) (lo 64 y)), .int .i64 (dvT 64 109 (lo 64 x) (lo 64 y)), .bool true]) ∧ Below w.heap.size w w' := by
  have hN2 : ∀ w, Calls Tryd.prog 25 #[.int .u8 op] w fun e w' => e = .returned (.tuple #[.string ⟨#[100, 105, 118, 95, 115]⟩, .int .i64 64]) ∧ Below w.heap.size w w' := fun w => hN w
  have hlx : ∀ wx, Calls Tryd.prog 27 #[.int .u64 x, .int .i64 64] wx fun e w' => e = .returned (.int .u64 (lo 64 x)) ∧ wx = w' := fun wx => low_any 64 (.inr rfl) x wx h0 h1
  have hly : ∀ wx, Calls Tryd.prog 27 #[.int .u64 y, .int .i64 64] wx fun e w' => e = .returned (.int .u64 (lo 64 y)) ∧ wx = w' := fun wx => low_any 64 (.inr rfl) y wx h2 h3
  have bx := lo_lt 64 (.inr rfl) x; have by' := lo_lt 64 (.inr rfl) y
  generalize lo 64 x = X at *
  generalize lo 64 y = Y at *
  obtain ⟨bx0, bx1⟩ := bx
  obtain ⟨by0, by1⟩ := by'
  have hh : ∀ wx, Calls Tryd.prog 34 #[.string ⟨#[100, 105, 118, 95, 115]⟩, .int .u64 X, .int .u64 Y, .int .i64 64] wx fun e w' => e = .returned (.tuple #[.bool false, .bool false]) ∧ wx = w' := fun wx => holds_div_s 64 X Y wx
  have HH := hide hh; clear hh
  have hd : ∀ wx, Calls Tryd.prog 36 #[.string ⟨#[100, 105, 118, 95, 115]⟩, .int .u64 X, .int .u64 Y, .int .i64 64] wx fun e w' => e = .returned (.tuple #[.int .u64 (dvV 64 109 X Y), .int .i64 (dvT 64 109 X Y)]) ∧ wx = w' := fun wx => div_s_is 64 (.inr rfl) X Y wx bx0 bx1 by0 by1
  generalize dvV 64 109 X Y = V at *
  generalize dvT 64 109 X Y = T at *
  have HD := hide hd; clear hd
  have HN := hide hN2; have HA := hide alone_div_s; have HX := hide hlx; have HY := hide hly; clear hN hN2 hlx hly
  rw [pw_64] at bx1 by1
  go_enter Tryd.func14, Tryd.ntmps14
  go_wp2_with fail
  refine (unhide HN _).mono ?_
  rintro e w1 ⟨rfl, hb1⟩
  have HB := hide hb1; clear hb1
  go_wp2_with fail
  refine (unhide HA _).mono ?_
  rintro e w2 ⟨rfl, rfl⟩
  go_wp2_with fail
  refine (unhide HX _).mono ?_
  rintro e w2 ⟨rfl, rfl⟩
  go_wp2_with fail
  refine (unhide HY _).mono ?_
  rintro e w2 ⟨rfl, rfl⟩
  go_wp2_with fail
  refine (unhide HH _).mono ?_
  rintro e w2 ⟨rfl, rfl⟩
  go_wp2_with fail
  refine (unhide HD _).mono ?_
  rintro e w2 ⟨rfl, rfl⟩
  go_wp2
  go_ret3
  exact ⟨by kernel_rfl, unhide HB⟩

set_option maxHeartbeats 1600000 in
set_option maxRecDepth 4000 in
theorem refTwo_div_u_32 (op x y : Int) (hN : Named op ⟨#[100, 105, 118, 95, 117]⟩ 32) (w : World) (h0 : 0 ≤ x) (h1 : x < 18446744073709551616) (h2 : 0 ≤ y) (h3 : y < 18446744073709551616) :
    Calls Tryd.prog 14 #[.int .u8 op, .int .u64 x, .int .u64 y] w fun e w' => e = .returned (.tuple #[.int .u64 (dvV 32 110 (lo 32 x) (lo 32 y)), .int .i64 (dvT 32 110 (lo 32 x) (lo 32 y)), .bool true]) ∧ Below w.heap.size w w' := by
  have hN2 : ∀ w, Calls Tryd.prog 25 #[.int .u8 op] w fun e w' => e = .returned (.tuple #[.string ⟨#[100, 105, 118, 95, 117]⟩, .int .i64 32]) ∧ Below w.heap.size w w' := fun w => hN w
  have hlx : ∀ wx, Calls Tryd.prog 27 #[.int .u64 x, .int .i64 32] wx fun e w' => e = .returned (.int .u64 (lo 32 x)) ∧ wx = w' := fun wx => low_any 32 (.inl rfl) x wx h0 h1
  have hly : ∀ wx, Calls Tryd.prog 27 #[.int .u64 y, .int .i64 32] wx fun e w' => e = .returned (.int .u64 (lo 32 y)) ∧ wx = w' := fun wx => low_any 32 (.inl rfl) y wx h2 h3
  have bx := lo_lt 32 (.inl rfl) x; have by' := lo_lt 32 (.inl rfl) y
  generalize lo 32 x = X at *
  generalize lo 32 y = Y at *
  obtain ⟨bx0, bx1⟩ := bx
  obtain ⟨by0, by1⟩ := by'
  have hh : ∀ wx, Calls Tryd.prog 34 #[.string ⟨#[100, 105, 118, 95, 117]⟩, .int .u64 X, .int .u64 Y, .int .i64 32] wx fun e w' => e = .returned (.tuple #[.bool false, .bool false]) ∧ wx = w' := fun wx => holds_div_u 32 X Y wx
  have HH := hide hh; clear hh
  have hd : ∀ wx, Calls Tryd.prog 36 #[.string ⟨#[100, 105, 118, 95, 117]⟩, .int .u64 X, .int .u64 Y, .int .i64 32] wx fun e w' => e = .returned (.tuple #[.int .u64 (dvV 32 110 X Y), .int .i64 (dvT 32 110 X Y)]) ∧ wx = w' := fun wx => div_u_is 32 (.inl rfl) X Y wx bx0 bx1 by0 by1
  generalize dvV 32 110 X Y = V at *
  generalize dvT 32 110 X Y = T at *
  have HD := hide hd; clear hd
  have HN := hide hN2; have HA := hide alone_div_u; have HX := hide hlx; have HY := hide hly; clear hN hN2 hlx hly
  rw [pw_32] at bx1 by1
  go_enter Tryd.func14, Tryd.ntmps14
  go_wp2_with fail
  refine (unhide HN _).mono ?_
  rintro e w1 ⟨rfl, hb1⟩
  have HB := hide hb1; clear hb1
  go_wp2_with fail
  refine (unhide HA _).mono ?_
  rintro e w2 ⟨rfl, rfl⟩
  go_wp2_with fail
  refine (unhide HX _).mono ?_
  rintro e w2 ⟨rfl, rfl⟩
  go_wp2_with fail
  refine (unhide HY _).mono ?_
  rintro e w2 ⟨rfl, rfl⟩
  go_wp2_with fail
  refine (unhide HH _).mono ?_
  rintro e w2 ⟨rfl, rfl⟩
  go_wp2_with fail
  refine (unhide HD _).mono ?_
  rintro e w2 ⟨rfl, rfl⟩
  go_wp2
  go_ret3
  exact ⟨by kernel_rfl, unhide HB⟩

set_option maxHeartbeats 1600000 in
set_option maxRecDepth 4000 in
theorem refTwo_div_u_64 (op x y : Int) (hN : Named op ⟨#[100, 105, 118, 95, 117]⟩ 64) (w : World) (h0 : 0 ≤ x) (h1 : x < 18446744073709551616) (h2 : 0 ≤ y) (h3 : y < 18446744073709551616) :
    Calls Tryd.prog 14 #[.int .u8 op, .int .u64 x, .int .u64 y] w fun e w' => e = .returned (.tuple #[.int .u64 (dvV 64 110 (lo 64 x) (lo 64 y)), .int .i64 (dvT 64 110 (lo 64 x) (lo 64 y)), .bool true]) ∧ Below w.heap.size w w' := by
  have hN2 : ∀ w, Calls Tryd.prog 25 #[.int .u8 op] w fun e w' => e = .returned (.tuple #[.string ⟨#[100, 105, 118, 95, 117]⟩, .int .i64 64]) ∧ Below w.heap.size w w' := fun w => hN w
  have hlx : ∀ wx, Calls Tryd.prog 27 #[.int .u64 x, .int .i64 64] wx fun e w' => e = .returned (.int .u64 (lo 64 x)) ∧ wx = w' := fun wx => low_any 64 (.inr rfl) x wx h0 h1
  have hly : ∀ wx, Calls Tryd.prog 27 #[.int .u64 y, .int .i64 64] wx fun e w' => e = .returned (.int .u64 (lo 64 y)) ∧ wx = w' := fun wx => low_any 64 (.inr rfl) y wx h2 h3
  have bx := lo_lt 64 (.inr rfl) x; have by' := lo_lt 64 (.inr rfl) y
  generalize lo 64 x = X at *
  generalize lo 64 y = Y at *
  obtain ⟨bx0, bx1⟩ := bx
  obtain ⟨by0, by1⟩ := by'
  have hh : ∀ wx, Calls Tryd.prog 34 #[.string ⟨#[100, 105, 118, 95, 117]⟩, .int .u64 X, .int .u64 Y, .int .i64 64] wx fun e w' => e = .returned (.tuple #[.bool false, .bool false]) ∧ wx = w' := fun wx => holds_div_u 64 X Y wx
  have HH := hide hh; clear hh
  have hd : ∀ wx, Calls Tryd.prog 36 #[.string ⟨#[100, 105, 118, 95, 117]⟩, .int .u64 X, .int .u64 Y, .int .i64 64] wx fun e w' => e = .returned (.tuple #[.int .u64 (dvV 64 110 X Y), .int .i64 (dvT 64 110 X Y)]) ∧ wx = w' := fun wx => div_u_is 64 (.inr rfl) X Y wx bx0 bx1 by0 by1
  generalize dvV 64 110 X Y = V at *
  generalize dvT 64 110 X Y = T at *
  have HD := hide hd; clear hd
  have HN := hide hN2; have HA := hide alone_div_u; have HX := hide hlx; have HY := hide hly; clear hN hN2 hlx hly
  rw [pw_64] at bx1 by1
  go_enter Tryd.func14, Tryd.ntmps14
  go_wp2_with fail
  refine (unhide HN _).mono ?_
  rintro e w1 ⟨rfl, hb1⟩
  have HB := hide hb1; clear hb1
  go_wp2_with fail
  refine (unhide HA _).mono ?_
  rintro e w2 ⟨rfl, rfl⟩
  go_wp2_with fail
  refine (unhide HX _).mono ?_
  rintro e w2 ⟨rfl, rfl⟩
  go_wp2_with fail
  refine (unhide HY _).mono ?_
  rintro e w2 ⟨rfl, rfl⟩
  go_wp2_with fail
  refine (unhide HH _).mono ?_
  rintro e w2 ⟨rfl, rfl⟩
  go_wp2_with fail
  refine (unhide HD _).mono ?_
  rintro e w2 ⟨rfl, rfl⟩
  go_wp2
  go_ret3
  exact ⟨by kernel_rfl, unhide HB⟩

set_option maxHeartbeats 1600000 in
set_option maxRecDepth 4000 in
theorem refTwo_rem_s_32 (op x y : Int) (hN : Named op ⟨#[114, 101, 109, 95, 115]⟩ 32) (w : World) (h0 : 0 ≤ x) (h1 : x < 18446744073709551616) (h2 : 0 ≤ y) (h3 : y < 18446744073709551616) :
    Calls Tryd.prog 14 #[.int .u8 op, .int .u64 x, .int .u64 y] w fun e w' => e = .returned (.tuple #[.int .u64 (dvV 32 111 (lo 32 x) (lo 32 y)), .int .i64 (dvT 32 111 (lo 32 x) (lo 32 y)), .bool true]) ∧ Below w.heap.size w w' := by
  have hN2 : ∀ w, Calls Tryd.prog 25 #[.int .u8 op] w fun e w' => e = .returned (.tuple #[.string ⟨#[114, 101, 109, 95, 115]⟩, .int .i64 32]) ∧ Below w.heap.size w w' := fun w => hN w
  have hlx : ∀ wx, Calls Tryd.prog 27 #[.int .u64 x, .int .i64 32] wx fun e w' => e = .returned (.int .u64 (lo 32 x)) ∧ wx = w' := fun wx => low_any 32 (.inl rfl) x wx h0 h1
  have hly : ∀ wx, Calls Tryd.prog 27 #[.int .u64 y, .int .i64 32] wx fun e w' => e = .returned (.int .u64 (lo 32 y)) ∧ wx = w' := fun wx => low_any 32 (.inl rfl) y wx h2 h3
  have bx := lo_lt 32 (.inl rfl) x; have by' := lo_lt 32 (.inl rfl) y
  generalize lo 32 x = X at *
  generalize lo 32 y = Y at *
  obtain ⟨bx0, bx1⟩ := bx
  obtain ⟨by0, by1⟩ := by'
  have hh : ∀ wx, Calls Tryd.prog 34 #[.string ⟨#[114, 101, 109, 95, 115]⟩, .int .u64 X, .int .u64 Y, .int .i64 32] wx fun e w' => e = .returned (.tuple #[.bool false, .bool false]) ∧ wx = w' := fun wx => holds_rem_s 32 X Y wx
  have HH := hide hh; clear hh
  have hd : ∀ wx, Calls Tryd.prog 36 #[.string ⟨#[114, 101, 109, 95, 115]⟩, .int .u64 X, .int .u64 Y, .int .i64 32] wx fun e w' => e = .returned (.tuple #[.int .u64 (dvV 32 111 X Y), .int .i64 (dvT 32 111 X Y)]) ∧ wx = w' := fun wx => rem_s_is 32 (.inl rfl) X Y wx bx0 bx1 by0 by1
  generalize dvV 32 111 X Y = V at *
  generalize dvT 32 111 X Y = T at *
  have HD := hide hd; clear hd
  have HN := hide hN2; have HA := hide alone_rem_s; have HX := hide hlx; have HY := hide hly; clear hN hN2 hlx hly
  rw [pw_32] at bx1 by1
  go_enter Tryd.func14, Tryd.ntmps14
  go_wp2_with fail
  refine (unhide HN _).mono ?_
  rintro e w1 ⟨rfl, hb1⟩
  have HB := hide hb1; clear hb1
  go_wp2_with fail
  refine (unhide HA _).mono ?_
  rintro e w2 ⟨rfl, rfl⟩
  go_wp2_with fail
  refine (unhide HX _).mono ?_
  rintro e w2 ⟨rfl, rfl⟩
  go_wp2_with fail
  refine (unhide HY _).mono ?_
  rintro e w2 ⟨rfl, rfl⟩
  go_wp2_with fail
  refine (unhide HH _).mono ?_
  rintro e w2 ⟨rfl, rfl⟩
  go_wp2_with fail
  refine (unhide HD _).mono ?_
  rintro e w2 ⟨rfl, rfl⟩
  go_wp2
  go_ret3
  exact ⟨by kernel_rfl, unhide HB⟩

set_option maxHeartbeats 1600000 in
set_option maxRecDepth 4000 in
theorem refTwo_rem_s_64 (op x y : Int) (hN : Named op ⟨#[114, 101, 109, 95, 115]⟩ 64) (w : World) (h0 : 0 ≤ x) (h1 : x < 18446744073709551616) (h2 : 0 ≤ y) (h3 : y < 18446744073709551616) :
    Calls Tryd.prog 14 #[.int .u8 op, .int .u64 x, .int .u64 y] w fun e w' => e = .returned (.tuple #[.int .u64 (dvV 64 111 (lo 64 x) (lo 64 y)), .int .i64 (dvT 64 111 (lo 64 x) (lo 64 y)), .bool true]) ∧ Below w.heap.size w w' := by
  have hN2 : ∀ w, Calls Tryd.prog 25 #[.int .u8 op] w fun e w' => e = .returned (.tuple #[.string ⟨#[114, 101, 109, 95, 115]⟩, .int .i64 64]) ∧ Below w.heap.size w w' := fun w => hN w
  have hlx : ∀ wx, Calls Tryd.prog 27 #[.int .u64 x, .int .i64 64] wx fun e w' => e = .returned (.int .u64 (lo 64 x)) ∧ wx = w' := fun wx => low_any 64 (.inr rfl) x wx h0 h1
  have hly : ∀ wx, Calls Tryd.prog 27 #[.int .u64 y, .int .i64 64] wx fun e w' => e = .returned (.int .u64 (lo 64 y)) ∧ wx = w' := fun wx => low_any 64 (.inr rfl) y wx h2 h3
  have bx := lo_lt 64 (.inr rfl) x; have by' := lo_lt 64 (.inr rfl) y
  generalize lo 64 x = X at *
  generalize lo 64 y = Y at *
  obtain ⟨bx0, bx1⟩ := bx
  obtain ⟨by0, by1⟩ := by'
  have hh : ∀ wx, Calls Tryd.prog 34 #[.string ⟨#[114, 101, 109, 95, 115]⟩, .int .u64 X, .int .u64 Y, .int .i64 64] wx fun e w' => e = .returned (.tuple #[.bool false, .bool false]) ∧ wx = w' := fun wx => holds_rem_s 64 X Y wx
  have HH := hide hh; clear hh
  have hd : ∀ wx, Calls Tryd.prog 36 #[.string ⟨#[114, 101, 109, 95, 115]⟩, .int .u64 X, .int .u64 Y, .int .i64 64] wx fun e w' => e = .returned (.tuple #[.int .u64 (dvV 64 111 X Y), .int .i64 (dvT 64 111 X Y)]) ∧ wx = w' := fun wx => rem_s_is 64 (.inr rfl) X Y wx bx0 bx1 by0 by1
  generalize dvV 64 111 X Y = V at *
  generalize dvT 64 111 X Y = T at *
  have HD := hide hd; clear hd
  have HN := hide hN2; have HA := hide alone_rem_s; have HX := hide hlx; have HY := hide hly; clear hN hN2 hlx hly
  rw [pw_64] at bx1 by1
  go_enter Tryd.func14, Tryd.ntmps14
  go_wp2_with fail
  refine (unhide HN _).mono ?_
  rintro e w1 ⟨rfl, hb1⟩
  have HB := hide hb1; clear hb1
  go_wp2_with fail
  refine (unhide HA _).mono ?_
  rintro e w2 ⟨rfl, rfl⟩
  go_wp2_with fail
  refine (unhide HX _).mono ?_
  rintro e w2 ⟨rfl, rfl⟩
  go_wp2_with fail
  refine (unhide HY _).mono ?_
  rintro e w2 ⟨rfl, rfl⟩
  go_wp2_with fail
  refine (unhide HH _).mono ?_
  rintro e w2 ⟨rfl, rfl⟩
  go_wp2_with fail
  refine (unhide HD _).mono ?_
  rintro e w2 ⟨rfl, rfl⟩
  go_wp2
  go_ret3
  exact ⟨by kernel_rfl, unhide HB⟩

set_option maxHeartbeats 1600000 in
set_option maxRecDepth 4000 in
theorem refTwo_rem_u_32 (op x y : Int) (hN : Named op ⟨#[114, 101, 109, 95, 117]⟩ 32) (w : World) (h0 : 0 ≤ x) (h1 : x < 18446744073709551616) (h2 : 0 ≤ y) (h3 : y < 18446744073709551616) :
    Calls Tryd.prog 14 #[.int .u8 op, .int .u64 x, .int .u64 y] w fun e w' => e = .returned (.tuple #[.int .u64 (dvV 32 112 (lo 32 x) (lo 32 y)), .int .i64 (dvT 32 112 (lo 32 x) (lo 32 y)), .bool true]) ∧ Below w.heap.size w w' := by
  have hN2 : ∀ w, Calls Tryd.prog 25 #[.int .u8 op] w fun e w' => e = .returned (.tuple #[.string ⟨#[114, 101, 109, 95, 117]⟩, .int .i64 32]) ∧ Below w.heap.size w w' := fun w => hN w
  have hlx : ∀ wx, Calls Tryd.prog 27 #[.int .u64 x, .int .i64 32] wx fun e w' => e = .returned (.int .u64 (lo 32 x)) ∧ wx = w' := fun wx => low_any 32 (.inl rfl) x wx h0 h1
  have hly : ∀ wx, Calls Tryd.prog 27 #[.int .u64 y, .int .i64 32] wx fun e w' => e = .returned (.int .u64 (lo 32 y)) ∧ wx = w' := fun wx => low_any 32 (.inl rfl) y wx h2 h3
  have bx := lo_lt 32 (.inl rfl) x; have by' := lo_lt 32 (.inl rfl) y
  generalize lo 32 x = X at *
  generalize lo 32 y = Y at *
  obtain ⟨bx0, bx1⟩ := bx
  obtain ⟨by0, by1⟩ := by'
  have hh : ∀ wx, Calls Tryd.prog 34 #[.string ⟨#[114, 101, 109, 95, 117]⟩, .int .u64 X, .int .u64 Y, .int .i64 32] wx fun e w' => e = .returned (.tuple #[.bool false, .bool false]) ∧ wx = w' := fun wx => holds_rem_u 32 X Y wx
  have HH := hide hh; clear hh
  have hd : ∀ wx, Calls Tryd.prog 36 #[.string ⟨#[114, 101, 109, 95, 117]⟩, .int .u64 X, .int .u64 Y, .int .i64 32] wx fun e w' => e = .returned (.tuple #[.int .u64 (dvV 32 112 X Y), .int .i64 (dvT 32 112 X Y)]) ∧ wx = w' := fun wx => rem_u_is 32 (.inl rfl) X Y wx bx0 bx1 by0 by1
  generalize dvV 32 112 X Y = V at *
  generalize dvT 32 112 X Y = T at *
  have HD := hide hd; clear hd
  have HN := hide hN2; have HA := hide alone_rem_u; have HX := hide hlx; have HY := hide hly; clear hN hN2 hlx hly
  rw [pw_32] at bx1 by1
  go_enter Tryd.func14, Tryd.ntmps14
  go_wp2_with fail
  refine (unhide HN _).mono ?_
  rintro e w1 ⟨rfl, hb1⟩
  have HB := hide hb1; clear hb1
  go_wp2_with fail
  refine (unhide HA _).mono ?_
  rintro e w2 ⟨rfl, rfl⟩
  go_wp2_with fail
  refine (unhide HX _).mono ?_
  rintro e w2 ⟨rfl, rfl⟩
  go_wp2_with fail
  refine (unhide HY _).mono ?_
  rintro e w2 ⟨rfl, rfl⟩
  go_wp2_with fail
  refine (unhide HH _).mono ?_
  rintro e w2 ⟨rfl, rfl⟩
  go_wp2_with fail
  refine (unhide HD _).mono ?_
  rintro e w2 ⟨rfl, rfl⟩
  go_wp2
  go_ret3
  exact ⟨by kernel_rfl, unhide HB⟩

set_option maxHeartbeats 1600000 in
set_option maxRecDepth 4000 in
theorem refTwo_rem_u_64 (op x y : Int) (hN : Named op ⟨#[114, 101, 109, 95, 117]⟩ 64) (w : World) (h0 : 0 ≤ x) (h1 : x < 18446744073709551616) (h2 : 0 ≤ y) (h3 : y < 18446744073709551616) :
    Calls Tryd.prog 14 #[.int .u8 op, .int .u64 x, .int .u64 y] w fun e w' => e = .returned (.tuple #[.int .u64 (dvV 64 112 (lo 64 x) (lo 64 y)), .int .i64 (dvT 64 112 (lo 64 x) (lo 64 y)), .bool true]) ∧ Below w.heap.size w w' := by
  have hN2 : ∀ w, Calls Tryd.prog 25 #[.int .u8 op] w fun e w' => e = .returned (.tuple #[.string ⟨#[114, 101, 109, 95, 117]⟩, .int .i64 64]) ∧ Below w.heap.size w w' := fun w => hN w
  have hlx : ∀ wx, Calls Tryd.prog 27 #[.int .u64 x, .int .i64 64] wx fun e w' => e = .returned (.int .u64 (lo 64 x)) ∧ wx = w' := fun wx => low_any 64 (.inr rfl) x wx h0 h1
  have hly : ∀ wx, Calls Tryd.prog 27 #[.int .u64 y, .int .i64 64] wx fun e w' => e = .returned (.int .u64 (lo 64 y)) ∧ wx = w' := fun wx => low_any 64 (.inr rfl) y wx h2 h3
  have bx := lo_lt 64 (.inr rfl) x; have by' := lo_lt 64 (.inr rfl) y
  generalize lo 64 x = X at *
  generalize lo 64 y = Y at *
  obtain ⟨bx0, bx1⟩ := bx
  obtain ⟨by0, by1⟩ := by'
  have hh : ∀ wx, Calls Tryd.prog 34 #[.string ⟨#[114, 101, 109, 95, 117]⟩, .int .u64 X, .int .u64 Y, .int .i64 64] wx fun e w' => e = .returned (.tuple #[.bool false, .bool false]) ∧ wx = w' := fun wx => holds_rem_u 64 X Y wx
  have HH := hide hh; clear hh
  have hd : ∀ wx, Calls Tryd.prog 36 #[.string ⟨#[114, 101, 109, 95, 117]⟩, .int .u64 X, .int .u64 Y, .int .i64 64] wx fun e w' => e = .returned (.tuple #[.int .u64 (dvV 64 112 X Y), .int .i64 (dvT 64 112 X Y)]) ∧ wx = w' := fun wx => rem_u_is 64 (.inr rfl) X Y wx bx0 bx1 by0 by1
  generalize dvV 64 112 X Y = V at *
  generalize dvT 64 112 X Y = T at *
  have HD := hide hd; clear hd
  have HN := hide hN2; have HA := hide alone_rem_u; have HX := hide hlx; have HY := hide hly; clear hN hN2 hlx hly
  rw [pw_64] at bx1 by1
  go_enter Tryd.func14, Tryd.ntmps14
  go_wp2_with fail
  refine (unhide HN _).mono ?_
  rintro e w1 ⟨rfl, hb1⟩
  have HB := hide hb1; clear hb1
  go_wp2_with fail
  refine (unhide HA _).mono ?_
  rintro e w2 ⟨rfl, rfl⟩
  go_wp2_with fail
  refine (unhide HX _).mono ?_
  rintro e w2 ⟨rfl, rfl⟩
  go_wp2_with fail
  refine (unhide HY _).mono ?_
  rintro e w2 ⟨rfl, rfl⟩
  go_wp2_with fail
  refine (unhide HH _).mono ?_
  rintro e w2 ⟨rfl, rfl⟩
  go_wp2_with fail
  refine (unhide HD _).mono ?_
  rintro e w2 ⟨rfl, rfl⟩
  go_wp2
  go_ret3
  exact ⟨by kernel_rfl, unhide HB⟩

end Go.Proofs.YtkmigcegeffonaaDoor
