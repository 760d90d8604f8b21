/- ops.Op: what it returns. -/
import Derived.Test.YtenbpmbaiddafaaDoorOpB
namespace Go.Proofs.YtenbpmbaiddafaaDoor
open Go.RowKit
set_option linter.unusedVariables false

theorem str_toList (a : List UInt8) : (str a).toList = a := by rw [ByteArray.toList_eq]; rfl
theorem str_beq {a b : List UInt8} (h : a = b) : ((str a).toList == (str b).toList) = true := by rw [h]; simp
theorem str_bne {a b : List UInt8} (h : ¬ a = b) : ((str a).toList == (str b).toList) = false := by
  rw [str_toList, str_toList, beq_eq_false_iff_ne]; exact h
theorem str_ie {a : List UInt8} (h : ¬ a = []) : (str a).toList.isEmpty = false := by
  rw [str_toList]; cases a with
  | nil => exact absurd rfl h
  | cons x a => rfl
theorem str_nil : (str []) = ⟨#[]⟩ := rfl

set_option maxRecDepth 100000 in
set_option maxHeartbeats 800000 in
theorem op_none (w : World) :
    Calls Tryd.prog 7 #[.string (str [])] w fun e w' => e = .returned (.tuple #[.int .u8 0, errV 1]) ∧ w = w' := by
  rw [str_nil]
  go_enter Tryd.func7, Tryd.ntmps7
  go_wp2
  go_ret2
  exact ⟨by rw [errV_1]; rfl, rfl⟩

set_option maxRecDepth 100000 in
set_option maxHeartbeats 1600000 in
theorem op_yes (l : List UInt8) (n : Nat) (hl : l ≠ []) (hn : n < 256) (he : nm n = l) (hf : ∀ j, j < n → nm j ≠ l) (w : World) (hT : Nms w) :
    Calls Tryd.prog 7 #[.string (str l)] w fun e w' => e = .returned (.tuple #[.int .u8 n, errV 0]) ∧ w = w' := by
  have h0 : (str l).toList.isEmpty = false := str_ie hl
  have hN := fun (k : Nat) (hk : k < 256) => name_any k hk w hT
  have HN := hide hN; have HF := hide hf; have HE := hide he; have HL := hide hn
  clear hl he hf hN hT hn
  go_enter Tryd.func7, Tryd.ntmps7
  go_wp2_with fail
  go_loop [8] (fun i => ∃ j : Nat, j ≤ n ∧ i = .int .i64 j) (fun i => (256 - intOf i).toNat)
  case atStart => exact ⟨0, by omega, rfl⟩
  case round =>
    obtain ⟨j, hj, rfl⟩ := hrel
    have hn := unhide HL
    by_cases hlt : j < n
    · have t : ((str (nm j)).toList == (str l).toList) = false := str_bne (unhide HF j hlt)
      have hc := unhide HN j (by omega)
      have HC := hide hc
      generalize nm j = s at *
      have hj2 : (j : Int) < 256 := by omega
      clear hc hj hn
      go_wp2_with fail
      refine (unhide HC).mono ?_
      rintro e w1 ⟨rfl, rfl⟩
      go_wp2
      go_round
      case rel => exact ⟨j + 1, by omega, by go_num⟩
      case measure => simp [intOf]; omega
    · obtain rfl : j = n := by omega
      have t : ((str (nm j)).toList == (str l).toList) = true := str_beq (unhide HE)
      have hc := unhide HN j (by omega)
      have HC := hide hc
      have HEE := HE
      clear HE HF
      generalize nm j = s at *
      have hj2 : (j : Int) < 256 := by omega
      clear hc hj hn hlt
      go_wp2_with fail
      refine (unhide HC).mono ?_
      rintro e w1 ⟨rfl, rfl⟩
      go_wp2
      go_ret2
      exact ⟨by rw [errV_0]; rfl, rfl⟩

set_option maxRecDepth 100000 in
set_option maxHeartbeats 1600000 in
theorem op_no (l : List UInt8) (hl : l ≠ []) (hf : ∀ j, j < 256 → nm j ≠ l) (w : World) (hT : Nms w) :
    Calls Tryd.prog 7 #[.string (str l)] w fun e w' => e = .returned (.tuple #[.int .u8 0, errV 1]) ∧ w = w' := by
  have h0 : (str l).toList.isEmpty = false := str_ie hl
  have hN := fun (k : Nat) (hk : k < 256) => name_any k hk w hT
  have HN := hide hN; have HF := hide hf
  clear hl hf hN hT
  go_enter Tryd.func7, Tryd.ntmps7
  go_wp2_with fail
  go_loop [8] (fun i => ∃ j : Nat, (j : Int) ≤ 256 ∧ i = .int .i64 j) (fun i => (256 - intOf i).toNat)
  case atStart => exact ⟨0, by omega, rfl⟩
  case round =>
    obtain ⟨j, hj, rfl⟩ := hrel
    by_cases hlt : (j : Int) < 256
    · have t : ((str (nm j)).toList == (str l).toList) = false := str_bne (unhide HF j (by omega))
      have hc := unhide HN j (by omega)
      have HC := hide hc
      generalize nm j = s at *
      clear hc hj
      go_wp2_with fail
      refine (unhide HC).mono ?_
      rintro e w1 ⟨rfl, rfl⟩
      go_wp2
      go_round
      case rel => exact ⟨j + 1, by omega, by go_num⟩
      case measure => simp [intOf]; omega
    · obtain rfl : j = 256 := by omega
      clear hj hlt
      go_wp2
      go_ret2
      exact ⟨by rw [errV_1]; rfl, rfl⟩
end Go.Proofs.YtenbpmbaiddafaaDoor
