/- TakeU: the number at the begin of bytes, or the error. -/
import Derived.Test.YtjhmglefejclpaaDoorJoin
import Derived.Deep.QuietTactic
import Derived.BigQuiet
namespace Go.Proofs.YtjhmglefejclpaaDoor
open Go.RowKit
set_option linter.unusedVariables false


theorem left_q (n b : Int) (w : World) (h0 : 0 ≤ n) (h1 : n ≤ 1000) (h2 : 0 ≤ b) (h3 : b ≤ 1000) :
    Calls Tryd.prog 91 #[.int .i64 n, .int .i64 b] w fun e w' => e = .returned (.int .i64 (b - 7 * (n - 1))) ∧ w' = w :=
  (left_any n b w h0 h1 h2 h3).mono fun _ _ ⟨h, h'⟩ => ⟨h, h'.symm⟩
theorem left_p (p D : Nat) (b : Int) (w : World) (h1 : p ≤ 100) (h2 : 0 ≤ b) (h3 : b ≤ 1000) (hD : Hid (b = 7 * p + D)) :
    Calls Tryd.prog 91 #[.int .i64 ((p : Int) + 1), .int .i64 b] w fun e w' => e = .returned (.int .i64 D) ∧ w' = w :=
  (left_any _ b w (by omega) (by omega) h2 h3).mono fun _ _ ⟨h, h'⟩ => ⟨by rw [h]; exact ret_int (by have := hD.out; omega), h'.symm⟩

theorem Row.take {w : World} {a : Option Addr} {len : Nat} {zs : List Int} (h : Row w a len zs) (n : Nat) (hn : n ≤ len) : Row w a n (zs.take n) := by
  refine ⟨by have := h.1; simp; omega, fun z hz => h.2.1 z (List.mem_of_mem_take hz), fun hp => ?_⟩
  obtain ⟨b, off, rfl, hb, hc⟩ := h.2.2 (by omega)
  refine ⟨b, off, rfl, hb, fun i hi => ?_⟩
  rw [hc i (by omega)]
  simp [List.getD, hi]

set_option maxHeartbeats 400000 in
theorem takeU_cnt (a : Option Addr) (len cap : Nat) (zs : List Int) (n k : Int) (w : World) (hrow : Row w a len zs) (hreach : len ≤ 9223372036854775807) (hk : Leb.cntE zs n = k) (hk0 : k ≠ 0) :
    Calls Tryd.prog 93 #[.slice a len cap, .int .i64 n] w fun e w' => e = .returned (.tuple #[.int .u64 0, .int .i64 0, errV k]) ∧ w = w' := by
  have hN : Leb.cntN zs n = 0 := by unfold Leb.cntN; rw [if_neg (by rw [hk]; exact hk0)]
  have hv : errV k = .iface 64 (.int .i64 k) := by simp [errV, hk0]
  have HR := hide hrow; have HK := hide hk; have HN := hide hN; have HV := hide hv; clear hrow hk hN hv
  go_enter Tryd.func93, Tryd.ntmps93
  go_wp2_with fail
  refine (count_any a len cap zs n _ (unhide HR) hreach).mono ?_
  rintro e w1 ⟨rfl, rfl⟩
  rw [unhide HK, unhide HN, unhide HV]
  go_wp2
  go_ret3
  exact ⟨ret3 rfl rfl (by rw [unhide HV]; rfl), rfl⟩

set_option maxHeartbeats 400000 in
theorem takeU_in (a : Option Addr) (len cap : Nat) (zs : List Int) (n : Int) (w : World) (hrow : Row w a len zs) (hcap : len ≤ cap) (hreach : len ≤ 9223372036854775807) (hk : Leb.cntE zs n = 0) (h1 : 1 ≤ n) (h2 : n ≤ 64)
    (p : Nat) (hp : Leb.lead zs = p) (hpl : p < len) (hpm : (p : Int) < Leb.mb n) (c : Int) (hc : zs.getD p 0 = c) (D : Nat) (hD : n = 7 * p + D) (hz : c / 2 ^ min D 8 = 0) :
    Calls Tryd.prog 93 #[.slice a len cap, .int .i64 n] w fun e w' => e = .returned (.tuple #[.int .u64 (Leb.jn (zs.take (p + 1)) % 18446744073709551616), .int .i64 ((p : Int) + 1), .nilIface]) ∧ ∃ m, w' = w.drewN m := by
  have hN : Leb.cntN zs n = (p : Int) + 1 := by unfold Leb.cntN; rw [if_pos hk, hp]
  obtain ⟨b, off, rfl, hb, hcell⟩ := hrow.2.2 (by omega)
  have hcp := hcell p hpl
  rw [hc] at hcp
  have hp10 : p ≤ 9 := by unfold Leb.mb at hpm; omega
  have HR := hide hrow; have HK := hide hk; have HN := hide hN; have HD : Hid (n = 7 * p + D) := hD; clear hrow hk hN hcell hp hc hD
  clear hpm
  have hwp : IntKind.i64.wrap (p : Int) = p := by rw [IntKind.wrap_i64]; omega
  go_enter Tryd.func93, Tryd.ntmps93
  go_wp2_with fail
  refine (count_any _ len cap zs n _ (unhide HR) hreach).mono ?_
  rintro e w1 ⟨rfl, rfl⟩
  rw [unhide HK, unhide HN, errV_0]
  go_wp2_with fail
  go_quiet ((go_at_call 91; exact Calls.quiet_of_same (left_p p D _ _ (by omega) (by omega) (by omega) HD)))
  go_wp2_with fail
  refine (join_any _ (p + 1) _ (zs.take (p + 1)) _ (((unhide HR).below (Nat.le_refl _) (below_drewN (Below.refl _ _) _)).take (p + 1) (by omega)) (by omega)).mono ?_
  rintro e w1 ⟨rfl, rfl⟩
  go_wp2
  go_ret3
  exact ⟨rfl, _, rfl⟩

set_option maxHeartbeats 400000 in
theorem takeU_mal (a : Option Addr) (len cap : Nat) (zs : List Int) (n : Int) (w : World) (hrow : Row w a len zs) (hcap : len ≤ cap) (hreach : len ≤ 9223372036854775807) (hk : Leb.cntE zs n = 0) (h1 : 1 ≤ n) (h2 : n ≤ 64)
    (p : Nat) (hp : Leb.lead zs = p) (hpl : p < len) (hpm : (p : Int) < Leb.mb n) (c : Int) (hc : zs.getD p 0 = c) (D : Nat) (hD : n = 7 * p + D) (hz : (c / 2 ^ min D 8 == 0) = false) :
    Calls Tryd.prog 93 #[.slice a len cap, .int .i64 n] w fun e w' => e = .returned (.tuple #[.int .u64 0, .int .i64 0, errV 6]) ∧ ∃ m, w' = w.drewN m := by
  have hN : Leb.cntN zs n = (p : Int) + 1 := by unfold Leb.cntN; rw [if_pos hk, hp]
  obtain ⟨b, off, rfl, hb, hcell⟩ := hrow.2.2 (by omega)
  have hcp := hcell p hpl
  rw [hc] at hcp
  have hp10 : p ≤ 9 := by unfold Leb.mb at hpm; omega
  have hz2 : (c / 2 ^ min D 8 != 0) = true := by rw [bne, hz]; rfl
  have HR := hide hrow; have HK := hide hk; have HN := hide hN; have HD : Hid (n = 7 * p + D) := hD; clear hrow hk hN hcell hp hc hD hz
  clear hpm
  have hwp : IntKind.i64.wrap (p : Int) = p := by rw [IntKind.wrap_i64]; omega
  go_enter Tryd.func93, Tryd.ntmps93
  go_wp2_with fail
  refine (count_any _ len cap zs n _ (unhide HR) hreach).mono ?_
  rintro e w1 ⟨rfl, rfl⟩
  rw [unhide HK, unhide HN, errV_0]
  go_wp2_with fail
  go_quiet ((go_at_call 91; exact Calls.quiet_of_same (left_p p D _ _ (by omega) (by omega) (by omega) HD)))
  go_wp2
  go_ret3
  exact ⟨ret3 rfl rfl (by rw [errV_6]; rfl), _, rfl⟩

theorem takeU_any (a : Option Addr) (len cap : Nat) (zs : List Int) (n : Int) (w : World) (hrow : Row w a len zs) (hcap : len ≤ cap) (hreach : len ≤ 9223372036854775807) :
    Calls Tryd.prog 93 #[.slice a len cap, .int .i64 n] w fun e w' => e = .returned (.tuple #[.int .u64 (Leb.tuV zs n), .int .i64 (Leb.tuN zs n), errV (Leb.tuE zs n)]) ∧ ∃ m, w' = w.drewN m := by
  by_cases hk : Leb.cntE zs n = 0
  · obtain ⟨h1, h2, h3, h4⟩ := Leb.cnt_0 zs n hk
    have hl := hrow.1
    have hm := h3
    unfold Leb.mb at hm
    by_cases hz : zs.getD (Leb.lead zs) 0 / 2 ^ min (n - 7 * Leb.lead zs).toNat 8 = 0
    · have e : Leb.tuE zs n = 0 := by unfold Leb.tuE; rw [if_pos hk, if_pos hz]
      unfold Leb.tuV Leb.tuN
      rw [e, if_pos rfl, if_pos rfl, errV_0]
      exact takeU_in a len cap zs n w hrow hcap hreach hk h1 h2 _ rfl (by omega) h3 _ rfl (n - 7 * Leb.lead zs).toNat (by omega) hz
    · have e : Leb.tuE zs n = 6 := by unfold Leb.tuE; rw [if_pos hk, if_neg hz]
      unfold Leb.tuV Leb.tuN
      rw [e, if_neg (by decide), if_neg (by decide)]
      exact takeU_mal a len cap zs n w hrow hcap hreach hk h1 h2 _ rfl (by omega) h3 _ rfl (n - 7 * Leb.lead zs).toNat (by omega) (beq_eq_false_iff_ne.2 hz)
  · have e : Leb.tuE zs n = Leb.cntE zs n := by unfold Leb.tuE; rw [if_neg hk]
    unfold Leb.tuV Leb.tuN
    rw [e, if_neg hk, if_neg hk]
    exact (takeU_cnt a len cap zs n _ w hrow hreach rfl hk).mono fun _ _ ⟨h, h'⟩ => ⟨h, 0, h'.symm⟩
end Go.Proofs.YtjhmglefejclpaaDoor
