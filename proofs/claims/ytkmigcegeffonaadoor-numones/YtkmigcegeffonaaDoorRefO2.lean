/- The document's One, further: wrap, extend_u, extend_s. -/
import Derived.Test.YtkmigcegeffonaaDoorRefO
namespace Go.Proofs.YtkmigcegeffonaaDoor
open Go.RowKit Num
set_option linter.unusedVariables false

set_option maxHeartbeats 1600000 in
theorem refOne_wrap (op x : Int) (hN : Named op ⟨#[119, 114, 97, 112]⟩ 64) (w : World) (h0 : 0 ≤ x) (h1 : x < 18446744073709551616) :
    Calls Tryd.prog 10 #[.int .u8 op, .int .u64 x] w fun e w' => e = .returned (.tuple #[.int .u64 (lo 32 x), .bool true]) ∧ Below w.heap.size w w' := by
  have HN := hide hN; have HA := hide alone_wrap; clear hN
  have hlow := fun wx => low_any 64 (.inr rfl) x wx h0 h1
  rw [show lo 64 x = x by unfold lo; rw [pw_64]; omega] at hlow
  have hlow2 := fun wx => low_any 32 (.inl rfl) x wx h0 h1
  have HL := hide hlow; have HL2 := hide hlow2; clear hlow hlow2
  go_enter Tryd.func10, Tryd.ntmps10
  go_wp2_with fail
  refine (unhide HN _).mono ?_
  rintro e w1 ⟨rfl, hb1⟩
  have HB := hide hb1; clear hb1
  go_wp2_with fail
  refine (unhide HA _).mono ?_
  rintro e w2 ⟨rfl, rfl⟩
  go_wp2_with fail
  refine (unhide HL _).mono ?_
  rintro e w2 ⟨rfl, rfl⟩
  go_wp2_with fail
  refine (unhide HL2 _).mono ?_
  rintro e w2 ⟨rfl, rfl⟩
  go_wp2
  go_ret2
  exact ⟨by kernel_rfl, unhide HB⟩

set_option maxHeartbeats 1600000 in
theorem refOne_extend_u (op x : Int) (hN : Named op ⟨#[101, 120, 116, 101, 110, 100, 95, 117]⟩ 32) (w : World) (h0 : 0 ≤ x) (h1 : x < 18446744073709551616) :
    Calls Tryd.prog 10 #[.int .u8 op, .int .u64 x] w fun e w' => e = .returned (.tuple #[.int .u64 (lo 32 x), .bool true]) ∧ Below w.heap.size w w' := by
  have HN := hide hN; have HA := hide alone_extend_u; clear hN
  have hlow := fun wx => low_any 32 (.inl rfl) x wx h0 h1
  have HL := hide hlow; clear hlow
  go_enter Tryd.func10, Tryd.ntmps10
  go_wp2_with fail
  refine (unhide HN _).mono ?_
  rintro e w1 ⟨rfl, hb1⟩
  have HB := hide hb1; clear hb1
  go_wp2_with fail
  refine (unhide HA _).mono ?_
  rintro e w2 ⟨rfl, rfl⟩
  go_wp2_with fail
  refine (unhide HL _).mono ?_
  rintro e w2 ⟨rfl, rfl⟩
  go_wp2
  go_ret2
  exact ⟨by kernel_rfl, unhide HB⟩

theorem exts_eq (x : Int) : (bt (lo 32 x) 31 = true ∧ IntKind.u64.wrap (sg 32 x) = IntKind.u64.wrap (lo 32 x + 18446744069414584320)) ∨ (bt (lo 32 x) 31 = false ∧ IntKind.u64.wrap (sg 32 x) = lo 32 x) := by
  simp only [IntKind.wrap_u64]
  unfold bt lo sg
  simp only [pw_32, hf_32]
  rcases Int.emod_two_eq (x % 4294967296 / 2 ^ 31) with h | h
  · refine .inr ⟨by rw [h]; rfl, by omega⟩
  · refine .inl ⟨by rw [h]; rfl, by omega⟩

set_option maxHeartbeats 1600000 in
theorem refOne_extend_s (op x : Int) (hN : Named op ⟨#[101, 120, 116, 101, 110, 100, 95, 115]⟩ 32) (w : World) (h0 : 0 ≤ x) (h1 : x < 18446744073709551616) :
    Calls Tryd.prog 10 #[.int .u8 op, .int .u64 x] w fun e w' => e = .returned (.tuple #[.int .u64 (IntKind.u64.wrap (sg 32 x)), .bool true]) ∧ Below w.heap.size w w' := by
  have HN := hide hN; have HA := hide alone_extend_s; clear hN
  have hbd := lo_bd 32 (.inl rfl) x
  have hlow := fun wx => low_any 32 (.inl rfl) x wx h0 h1
  have hbit := fun wx => bit_any (lo 32 x) 31 wx hbd.1 hbd.2 (by omega)
  have hx := exts_eq x
  generalize IntKind.u64.wrap (sg 32 x) = S at *
  generalize lo 32 x = X at *
  have HL := hide hlow; have HT := hide hbit; clear hlow hbit
  rcases hx with ⟨t1, rfl⟩ | ⟨t1, rfl⟩
  all_goals
    go_enter Tryd.func10, Tryd.ntmps10
    go_wp2_with fail
    refine (unhide HN _).mono ?_
    rintro e w1 ⟨rfl, hb1⟩
    have HB := hide hb1; clear hb1
    go_wp2_with fail
    refine (unhide HA _).mono ?_
    rintro e w2 ⟨rfl, rfl⟩
    go_wp2_with fail
    refine (unhide HL _).mono ?_
    rintro e w2 ⟨rfl, rfl⟩
    go_wp2_with fail
    refine (unhide HT _).mono ?_
    rintro e w2 ⟨rfl, rfl⟩
    rw [t1]
    go_wp2
    go_ret2
    exact ⟨by kernel_rfl, unhide HB⟩
end Go.Proofs.YtkmigcegeffonaaDoor
