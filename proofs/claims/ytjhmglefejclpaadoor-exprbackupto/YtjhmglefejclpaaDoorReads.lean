/- countBytes, mostBytes, bitsLeft, signedGroup, joinGroups: what they return; they read alone, the world stands. -/
import Derived.Test.YtjhmglefejclpaaDoorCopy
import Derived.Test.YtjhmglefejclpaaDoorMath2
namespace Go.Proofs.YtjhmglefejclpaaDoor
open Go.RowKit

set_option maxHeartbeats 400000 in
theorem most_any (n : Int) (w : World) (h0 : 1 ≤ n) (h1 : n ≤ 64) :
    Calls Tryd.prog 96 #[.int .i64 n] w fun e w' => e = .returned (.int .i64 ((n + 6) / 7)) ∧ w = w' := by
  go_enter Tryd.func96, Tryd.ntmps96
  go_wp2
  go_ret
  exact ⟨ret_int (by omega), rfl⟩

set_option maxHeartbeats 400000 in
theorem left_any (n b : Int) (w : World) (h0 : 0 ≤ n) (h1 : n ≤ 1000) (h2 : 0 ≤ b) (h3 : b ≤ 1000) :
    Calls Tryd.prog 91 #[.int .i64 n, .int .i64 b] w fun e w' => e = .returned (.int .i64 (b - 7 * (n - 1))) ∧ w = w' := by
  go_enter Tryd.func91, Tryd.ntmps91
  go_wp2
  go_ret
  exact ⟨ret_int (by omega), rfl⟩

set_option maxHeartbeats 400000 in
theorem signed_any (c : Int) (w : World) (h0 : 0 ≤ c) (h1 : c < 128) :
    Calls Tryd.prog 90 #[.int .u8 c] w fun e w' => e = .returned (.int .i8 (Leb.sg c)) ∧ w = w' := by
  go_enter Tryd.func90, Tryd.ntmps90
  go_wp2
  go_ret
  exact ⟨ret_int (Leb.sg_eq c h0 h1), rfl⟩

set_option maxHeartbeats 400000 in
theorem count_arg (a : Option Addr) (len cap : Nat) (zs : List Int) (n : Int) (w : World) (h : n < 1 ∨ 64 < n) :
    Calls Tryd.prog 89 #[.slice a len cap, .int .i64 n] w fun e w' => e = .returned (.tuple #[.int .i64 (Leb.cntN zs n), errV (Leb.cntE zs n)]) ∧ w = w' := by
  have hc := Leb.cnt_arg zs n h
  have H := hide hc; clear hc
  rcases h with h | h
  · go_enter Tryd.func89, Tryd.ntmps89
    go_wp2
    go_ret2
    exact ⟨ret2 (by rw [(unhide H).2]) (by rw [(unhide H).1, errV_1]; rfl), rfl⟩
  · have h' : ¬ n < 1 := by omega
    go_enter Tryd.func89, Tryd.ntmps89
    go_wp2
    go_ret2
    exact ⟨ret2 (by rw [(unhide H).2]) (by rw [(unhide H).1, errV_1]; rfl), rfl⟩

set_option maxHeartbeats 400000 in
theorem count_in (a : Option Addr) (len cap : Nat) (zs : List Int) (n : Int) (w : World) (hrow : Row w a len zs) (h1 : 1 ≤ n) (h2 : n ≤ 64) (hreach : len ≤ 9223372036854775807) :
    Calls Tryd.prog 89 #[.slice a len cap, .int .i64 n] w fun e w' => e = .returned (.tuple #[.int .i64 (Leb.cntN zs n), errV (Leb.cntE zs n)]) ∧ w = w' := by
  have HR := hide hrow; clear hrow
  have hM : 1 ≤ (n + 6) / 7 ∧ (n + 6) / 7 ≤ 10 := by omega
  go_enter Tryd.func89, Tryd.ntmps89
  go_wp2_with fail
  refine (most_any n _ h1 h2).mono ?_
  rintro e w1 ⟨rfl, rfl⟩
  generalize hm : (n + 6) / 7 = M at *
  have HM := hide (show Leb.mb n = M from hm); clear hm
  go_wp2_with fail
  go_loop [16] (fun c => ∃ (k : Nat), c = .int .i64 k ∧ (k : Int) ≤ M ∧ k ≤ Leb.lead zs) (fun c => (M - intOf c).toNat)
  case atStart => exact ⟨0, rfl, by omega, by omega⟩
  case round =>
    obtain ⟨k, rfl, hkM, hkl⟩ := hrel
    have hle := Leb.lead_le zs
    have hzl := (unhide HR).1
    by_cases hlt : (k : Int) < M
    · by_cases hend : k = len
      · have hfin := Leb.cnt_end zs n h1 h2 (by rw [unhide HM]; omega) (by omega)
        have HF := hide hfin; clear hfin hkl hle hzl
        subst hend
        go_wp2
        go_ret2
        exact ⟨ret2 (by rw [(unhide HF).2]) (by rw [(unhide HF).1, errV_4]; rfl), rfl⟩
      · have hkn : k < len := by omega
        obtain ⟨b, off, rfl, hb, hc⟩ := (unhide HR).2.2 (by omega)
        have hck := hc k hkn
        have hby := (unhide HR).2.1 (zs.getD k 0) (by rw [List.getD, List.getElem?_eq_getElem (by omega)]; simp)
        have hne : ((k : Int) == (len : Int)) = false := by simp; omega
        have HL := hide hkl; have HLe := hide hle; have HZ := hide hzl
        clear hc hkl hle hzl
        generalize hz : zs.getD k 0 = z at *
        have HZd := hide hz; clear hz
        have hand := Leb.u8_and128 z hby.1 (by omega)
        by_cases h128 : 128 ≤ z
        · have h1z : z / 128 * 128 = 128 := by omega
          rw [h1z] at hand; clear h1z
          have hmore := Leb.lead_more zs k (unhide HL) (by have := unhide HZ; omega) (by rw [unhide HZd]; exact h128)
          have HMo := hide hmore; clear hmore
          go_wp2
          go_round
          case rel => exact ⟨k + 1, by go_num, by omega, unhide HMo⟩
          case measure => simp [intOf]; omega
        · have h1z : z / 128 * 128 = 0 := by omega
          rw [h1z] at hand; clear h1z
          have heq := Leb.lead_eq zs k (unhide HL) (by have := unhide HZ; omega) (by rw [unhide HZd]; omega)
          have hfin := Leb.cnt_ok zs n h1 h2 (by rw [unhide HM]; omega) (by have := unhide HZ; omega)
          rw [heq] at hfin
          have HF := hide hfin; clear hfin heq
          go_wp2
          go_ret2
          exact ⟨ret2 (by rw [(unhide HF).2]) (by rw [(unhide HF).1, errV_0]; rfl), rfl⟩
    · have hfin := Leb.cnt_mal zs n h1 h2 (by rw [unhide HM]; omega)
      have HF := hide hfin; clear hfin hkl hle hzl
      go_wp2
      go_ret2
      exact ⟨ret2 (by rw [(unhide HF).2]) (by rw [(unhide HF).1, errV_6]; rfl), rfl⟩

theorem count_any (a : Option Addr) (len cap : Nat) (zs : List Int) (n : Int) (w : World) (hrow : Row w a len zs) (hreach : len ≤ 9223372036854775807) :
    Calls Tryd.prog 89 #[.slice a len cap, .int .i64 n] w fun e w' => e = .returned (.tuple #[.int .i64 (Leb.cntN zs n), errV (Leb.cntE zs n)]) ∧ w = w' := by
  by_cases h : n < 1 ∨ 64 < n
  · exact count_arg a len cap zs n w h
  · exact count_in a len cap zs n w hrow (by omega) (by omega) hreach
end Go.Proofs.YtjhmglefejclpaaDoor
