/- TakeS: the number with a sign at the begin of bytes, or the error. -/
import Derived.Test.YtjhmglefejclpaaDoorTakeU
namespace Go.Proofs.YtjhmglefejclpaaDoor
open Go.RowKit
set_option linter.unusedVariables false

theorem wrap64_eq (x : Int) : wrap64 x = IntKind.i64.wrap x := by rw [IntKind.wrap_i64]; unfold wrap64; rfl

set_option maxHeartbeats 400000 in
theorem takeS_cnt (a : Option Addr) (len cap : Nat) (zs : List Int) (n k : Int) (w : World) (hrow : Row w a len zs) (hreach : len ≤ 9223372036854775807) (hk : Leb.cntE zs n = k) (hk0 : k ≠ 0) :
    Calls Tryd.prog 80 #[.slice a len cap, .int .i64 n] w fun e w' => e = .returned (.tuple #[.int .i64 0, .int .i64 0, errV k]) ∧ w = w' := by
  have hN : Leb.cntN zs n = 0 := by unfold Leb.cntN; rw [if_neg (by rw [hk]; exact hk0)]
  have hv : errV k = .iface 64 (.int .i64 k) := by simp [errV, hk0]
  have HR := hide hrow; have HK := hide hk; have HN := hide hN; have HV := hide hv; clear hrow hk hN hv
  go_enter Tryd.func80, Tryd.ntmps80
  go_wp2_with fail
  refine (count_any a len cap zs n _ (unhide HR) hreach).mono ?_
  rintro e w1 ⟨rfl, rfl⟩
  rw [unhide HK, unhide HN, unhide HV]
  go_wp2
  go_ret3
  exact ⟨ret3 rfl rfl (by rw [unhide HV]; rfl), rfl⟩

theorem left_s (p D : Nat) (b : Int) (w : World) (h1 : p ≤ 100) (h2 : 0 ≤ b) (h3 : b ≤ 1000) (hD : Hid (b = 7 * p + (D + 1 : Nat))) :
    Calls Tryd.prog 91 #[.int .i64 ((p : Int) + 1), .int .i64 b] w fun e w' => e = .returned (.int .i64 ((D : Int) + 1)) ∧ w = w' :=
  (left_any _ b w (by omega) (by omega) h2 h3).mono fun _ _ ⟨h, h'⟩ => ⟨by rw [h]; exact ret_int (by have := hD.out; omega), h'⟩

set_option maxHeartbeats 400000 in
theorem takeS_mal (a : Option Addr) (len cap : Nat) (zs : List Int) (n : Int) (w : World) (hrow : Row w a len zs) (hcap : len ≤ cap) (hreach : len ≤ 9223372036854775807) (hk : Leb.cntE zs n = 0) (h1 : 1 ≤ n) (h2 : n ≤ 64)
    (p : Nat) (hp : Leb.lead zs = p) (hpl : p < len) (hpm : (p : Int) < Leb.mb n) (c : Int) (hc : zs.getD p 0 = c) (hc0 : 0 ≤ c) (hc1 : c < 128) (D : Nat) (hD : n = 7 * p + (D + 1 : Nat)) (hD63 : D ≤ 63)
    (q : Int) (hq : Leb.sg c / 2 ^ min D 8 = q) (hq0 : (q != 0) = true) (hq1 : (q != -1) = true) :
    Calls Tryd.prog 80 #[.slice a len cap, .int .i64 n] w fun e w' => e = .returned (.tuple #[.int .i64 0, .int .i64 0, errV 6]) ∧ w = w' := by
  have hN : Leb.cntN zs n = (p : Int) + 1 := by unfold Leb.cntN; rw [if_pos hk, hp]
  obtain ⟨b, off, rfl, hb, hcell⟩ := hrow.2.2 (by omega)
  have hcp := hcell p hpl
  rw [hc] at hcp
  have hp10 : p ≤ 9 := by unfold Leb.mb at hpm; omega
  generalize hs : Leb.sg c = s at *
  have HR := hide hrow; have HK := hide hk; have HN := hide hN; have HD : Hid (n = 7 * p + (D + 1 : Nat)) := hD; have HS := hide hs; clear hrow hk hN hcell hp hc hD hs
  clear hpm
  go_enter Tryd.func80, Tryd.ntmps80
  go_wp2_with fail
  refine (count_any _ len cap zs n _ (unhide HR) hreach).mono ?_
  rintro e w1 ⟨rfl, rfl⟩
  rw [unhide HK, unhide HN, errV_0]
  go_wp2_with fail
  refine (signed_any c _ hc0 hc1).mono ?_
  rintro e w1 ⟨rfl, rfl⟩
  rw [unhide HS]
  go_wp2_with fail
  refine (left_s p D _ _ (by omega) (by omega) (by omega) HD).mono ?_
  rintro e w1 ⟨rfl, rfl⟩
  go_wp2_with fail
  go_ret3
  exact ⟨ret3 rfl rfl (by rw [errV_6]; rfl), rfl⟩

set_option maxHeartbeats 400000 in
theorem takeS_neg (a : Option Addr) (len cap : Nat) (zs : List Int) (n : Int) (w : World) (hrow : Row w a len zs) (hcap : len ≤ cap) (hreach : len ≤ 9223372036854775807) (hk : Leb.cntE zs n = 0) (h1 : 1 ≤ n) (h2 : n ≤ 64)
    (p : Nat) (hp : Leb.lead zs = p) (hpl : p < len) (hpm : (p : Int) < Leb.mb n) (c : Int) (hc : zs.getD p 0 = c) (hc0 : 0 ≤ c) (hc1 : c < 128) (D : Nat) (hD : n = 7 * p + (D + 1 : Nat)) (hD63 : D ≤ 63)
    (hq : Leb.sg c / 2 ^ min D 8 = -1) (hneg : Leb.sg c < 0) :
    Calls Tryd.prog 80 #[.slice a len cap, .int .i64 n] w fun e w' => e = .returned (.tuple #[.int .i64 (IntKind.i64.wrap (Leb.jn (zs.take (p + 1)) - 128 ^ (p + 1))), .int .i64 ((p : Int) + 1), errV 0]) ∧ w = w' := by
  have hN : Leb.cntN zs n = (p : Int) + 1 := by unfold Leb.cntN; rw [if_pos hk, hp]
  obtain ⟨b, off, rfl, hb, hcell⟩ := hrow.2.2 (by omega)
  have hcp := hcell p hpl
  rw [hc] at hcp
  have hp10 : p ≤ 9 := by unfold Leb.mb at hpm; omega
  have hlt : (zs.take (p + 1)).length = p + 1 := by have := hrow.1; simp; omega
  have hJ := Leb.jn_bd (zs.take (p + 1))
  rw [hlt] at hJ
  have HJ := hide hJ; clear hJ hlt
  generalize hs : Leb.sg c = s at *
  have HR := hide hrow; have HK := hide hk; have HN := hide hN; have HD : Hid (n = 7 * p + (D + 1 : Nat)) := hD; have HS := hide hs; clear hrow hk hN hcell hp hc hD hs
  clear hpm
  have hsh : Op.shift .shl .u64 18446744073709551615 .i64 (7 * ((p : Int) + 1)) = pure (.int .u64 (Leb.msk p)) := by
    rw [shift_shl_any _ _ _ _ (by omega)]; unfold Leb.msk; rw [show (7 * ((p : Int) + 1)).toNat = 7 * (p + 1) from by omega]; rfl
  go_enter Tryd.func80, Tryd.ntmps80
  go_wp2_with fail
  refine (count_any _ len cap zs n _ (unhide HR) hreach).mono ?_
  rintro e w1 ⟨rfl, rfl⟩
  rw [unhide HK, unhide HN, errV_0]
  go_wp2_with fail
  refine (signed_any c _ hc0 hc1).mono ?_
  rintro e w1 ⟨rfl, rfl⟩
  rw [unhide HS]
  go_wp2_with fail
  refine (left_s p D _ _ (by omega) (by omega) (by omega) HD).mono ?_
  rintro e w1 ⟨rfl, rfl⟩
  go_wp2_with fail
  refine (join_any _ (p + 1) _ (zs.take (p + 1)) _ ((unhide HR).take (p + 1) (by omega)) (by omega)).mono ?_
  rintro e w1 ⟨rfl, rfl⟩
  generalize hJe : Leb.jn (zs.take (p + 1)) = J at *
  have HE := hide hJe; clear hJe
  go_wp2_with fail
  go_ret3
  exact ⟨ret3 (by rw [wrap64_eq, unhide HE]; exact Leb.neg_val J p hp10 (unhide HJ).1 (unhide HJ).2) rfl (by rw [errV_0]; rfl), rfl⟩
set_option maxHeartbeats 400000 in
theorem takeS_pos (a : Option Addr) (len cap : Nat) (zs : List Int) (n : Int) (w : World) (hrow : Row w a len zs) (hcap : len ≤ cap) (hreach : len ≤ 9223372036854775807) (hk : Leb.cntE zs n = 0) (h1 : 1 ≤ n) (h2 : n ≤ 64)
    (p : Nat) (hp : Leb.lead zs = p) (hpl : p < len) (hpm : (p : Int) < Leb.mb n) (c : Int) (hc : zs.getD p 0 = c) (hc0 : 0 ≤ c) (hc1 : c < 128) (D : Nat) (hD : n = 7 * p + (D + 1 : Nat)) (hD63 : D ≤ 63)
    (hq : Leb.sg c / 2 ^ min D 8 = 0) (hneg : ¬ Leb.sg c < 0) :
    Calls Tryd.prog 80 #[.slice a len cap, .int .i64 n] w fun e w' => e = .returned (.tuple #[.int .i64 (IntKind.i64.wrap (Leb.jn (zs.take (p + 1)) - 0)), .int .i64 ((p : Int) + 1), errV 0]) ∧ w = w' := by
  have hN : Leb.cntN zs n = (p : Int) + 1 := by unfold Leb.cntN; rw [if_pos hk, hp]
  obtain ⟨b, off, rfl, hb, hcell⟩ := hrow.2.2 (by omega)
  have hcp := hcell p hpl
  rw [hc] at hcp
  have hp10 : p ≤ 9 := by unfold Leb.mb at hpm; omega
  have hlt : (zs.take (p + 1)).length = p + 1 := by have := hrow.1; simp; omega
  have hJ := Leb.jn_bd (zs.take (p + 1))
  rw [hlt] at hJ
  have HJ := hide hJ; clear hJ hlt
  generalize hs : Leb.sg c = s at *
  have HR := hide hrow; have HK := hide hk; have HN := hide hN; have HD : Hid (n = 7 * p + (D + 1 : Nat)) := hD; have HS := hide hs; clear hrow hk hN hcell hp hc hD hs
  clear hpm
  go_enter Tryd.func80, Tryd.ntmps80
  go_wp2_with fail
  refine (count_any _ len cap zs n _ (unhide HR) hreach).mono ?_
  rintro e w1 ⟨rfl, rfl⟩
  rw [unhide HK, unhide HN, errV_0]
  go_wp2_with fail
  refine (signed_any c _ hc0 hc1).mono ?_
  rintro e w1 ⟨rfl, rfl⟩
  rw [unhide HS]
  go_wp2_with fail
  refine (left_s p D _ _ (by omega) (by omega) (by omega) HD).mono ?_
  rintro e w1 ⟨rfl, rfl⟩
  go_wp2_with fail
  refine (join_any _ (p + 1) _ (zs.take (p + 1)) _ ((unhide HR).take (p + 1) (by omega)) (by omega)).mono ?_
  rintro e w1 ⟨rfl, rfl⟩
  generalize hJe : Leb.jn (zs.take (p + 1)) = J at *
  have HE := hide hJe; clear hJe
  go_wp2_with fail
  go_ret3
  exact ⟨ret3 (by rw [wrap64_eq, unhide HE]; exact Leb.pos_val J) rfl (by rw [errV_0]; rfl), rfl⟩

theorem takeS_any (a : Option Addr) (len cap : Nat) (zs : List Int) (n : Int) (w : World) (hrow : Row w a len zs) (hcap : len ≤ cap) (hreach : len ≤ 9223372036854775807) :
    Calls Tryd.prog 80 #[.slice a len cap, .int .i64 n] w fun e w' => e = .returned (.tuple #[.int .i64 (Leb.tsV zs n), .int .i64 (Leb.tsN zs n), errV (Leb.tsE zs n)]) ∧ w = w' := by
  by_cases hk : Leb.cntE zs n = 0
  · obtain ⟨h1, h2, h3, h4⟩ := Leb.cnt_0 zs n hk
    have hl := hrow.1
    have hm := h3
    unfold Leb.mb at hm
    have hc1 := Leb.lead_lt zs h4
    have hc0 := (hrow.2.1 (zs.getD (Leb.lead zs) 0) (by rw [List.getD, List.getElem?_eq_getElem h4]; simp)).1
    have hDe : n = 7 * (Leb.lead zs : Int) + ((n - 7 * (Leb.lead zs : Int) - 1).toNat + 1 : Nat) := by omega
    by_cases hz : Leb.sg (zs.getD (Leb.lead zs) 0) / 2 ^ min (n - 7 * Leb.lead zs - 1).toNat 8 = 0 ∨ Leb.sg (zs.getD (Leb.lead zs) 0) / 2 ^ min (n - 7 * Leb.lead zs - 1).toNat 8 = -1
    · have e : Leb.tsE zs n = 0 := by unfold Leb.tsE; rw [if_pos hk, if_pos hz]
      unfold Leb.tsV Leb.tsN
      rw [e, if_pos rfl, if_pos rfl]
      have hpow : (0 : Int) < 2 ^ min (n - 7 * Leb.lead zs - 1).toNat 8 := Int.pow_pos (by omega)
      by_cases hneg : Leb.sg (zs.getD (Leb.lead zs) 0) < 0
      · rw [if_pos hneg]
        have hq : Leb.sg (zs.getD (Leb.lead zs) 0) / 2 ^ min (n - 7 * Leb.lead zs - 1).toNat 8 = -1 := by
          rcases hz with hz | hz
          · have := Int.ediv_neg_of_neg_of_pos hneg hpow
            omega
          · exact hz
        exact takeS_neg a len cap zs n w hrow hcap hreach hk h1 h2 _ rfl (by omega) h3 _ rfl hc0 hc1 _ hDe (by omega) hq hneg
      · rw [if_neg hneg]
        have hq : Leb.sg (zs.getD (Leb.lead zs) 0) / 2 ^ min (n - 7 * Leb.lead zs - 1).toNat 8 = 0 := by
          rcases hz with hz | hz
          · exact hz
          · have := Int.ediv_nonneg (show 0 ≤ Leb.sg (zs.getD (Leb.lead zs) 0) by omega) (Int.le_of_lt hpow)
            omega
        exact takeS_pos a len cap zs n w hrow hcap hreach hk h1 h2 _ rfl (by omega) h3 _ rfl hc0 hc1 _ hDe (by omega) hq hneg
    · have e : Leb.tsE zs n = 6 := by unfold Leb.tsE; rw [if_pos hk, if_neg hz]
      unfold Leb.tsV Leb.tsN
      rw [e, if_neg (by decide), if_neg (by decide)]
      exact takeS_mal a len cap zs n w hrow hcap hreach hk h1 h2 _ rfl (by omega) h3 _ rfl hc0 hc1 _ hDe (by omega) _ rfl (bne_iff_ne.2 fun h => hz (.inl h)) (bne_iff_ne.2 fun h => hz (.inr h))
  · have e : Leb.tsE zs n = Leb.cntE zs n := by unfold Leb.tsE; rw [if_neg hk]
    unfold Leb.tsV Leb.tsN
    rw [e, if_neg hk, if_neg hk]
    exact takeS_cnt a len cap zs n _ w hrow hreach rfl hk
end Go.Proofs.YtjhmglefejclpaaDoor
