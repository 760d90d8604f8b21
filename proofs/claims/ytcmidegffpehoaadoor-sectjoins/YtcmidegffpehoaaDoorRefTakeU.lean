/- The document's own TakeU. -/
import Derived.Test.YtcmidegffpehoaaDoorRefTake
namespace Go.Proofs.YtcmidegffpehoaaDoor
set_option maxRecDepth 100000
open Go.RowKit
set_option linter.unusedVariables false

theorem pw_step (k : Nat) : IntKind.u64.wrap (2 * (2 ^ k % 18446744073709551616)) = 2 ^ (k + 1) % 18446744073709551616 := by
  rw [IntKind.wrap_u64, Int.pow_succ]; omega
theorem v_step1 (J : Int) (k : Nat) (h : J / 2 ^ k % 2 = 1) : IntKind.u64.wrap (J % 2 ^ k % 18446744073709551616 + 2 ^ k % 18446744073709551616) = J % 2 ^ (k + 1) % 18446744073709551616 := by
  rw [IntKind.wrap_u64, Leb.mod_step J k, h]; omega
theorem v_step0 (J : Int) (k : Nat) (h : ¬ J / 2 ^ k % 2 = 1) : J % 2 ^ (k + 1) = J % 2 ^ k := by
  rw [Leb.mod_step J k, show J / 2 ^ k % 2 = 0 from by omega]; omega
theorem pow_mono (a b : Nat) (h : a ≤ b) : (2 : Int) ^ a ≤ 2 ^ b := by
  obtain ⟨j, rfl⟩ : ∃ j, b = a + j := ⟨b - a, by omega⟩
  have hp : (0 : Int) < 2 ^ a := Int.pow_pos (by omega)
  have hq : (0 : Int) < 2 ^ j := Int.pow_pos (by omega)
  rw [Int.pow_add]
  have : (2 : Int) ^ a * 1 ≤ 2 ^ a * 2 ^ j := Int.mul_le_mul_of_nonneg_left (by omega) (by omega)
  omega

theorem start_lt (J : Int) (m : Nat) : J % 2 ^ 0 < 2 ^ m := by
  have : (0 : Int) < 2 ^ m := Int.pow_pos (by omega)
  simp; omega
theorem tu_out (J : Int) (k m : Nat) (h0 : 0 ≤ J) (hb : J / 2 ^ k % 2 = 1) (hm : m ≤ k) : ¬ J / 2 ^ m = 0 := by
  intro h
  have h1 : J < 2 ^ m := by
    have hp : (0 : Int) < 2 ^ m := Int.pow_pos (by omega)
    rcases Int.lt_or_le J (2 ^ m) with h1 | h1
    · exact h1
    · have := (Int.le_ediv_iff_mul_le hp (a := 1) (b := J)).2 (by omega); omega
  have h2 := pow_mono m k hm
  rw [Int.ediv_eq_zero_of_lt h0 (by omega)] at hb
  omega
theorem low_step (J : Int) (k m : Nat) (hm : k < m) : J % 2 ^ (k + 1) < 2 ^ m := by
  have hp : (0 : Int) < 2 ^ (k + 1) := Int.pow_pos (by omega)
  have := Int.emod_lt_of_pos J hp
  have := pow_mono (k + 1) m hm
  omega

set_option maxHeartbeats 400000 in
theorem refTakeU_err (a : Option Addr) (len cap : Nat) (zs : List Int) (n : Int) (w : World) (hrow : Row w a len zs) (hreach : len ≤ 9223372036854775807) (k : Int) (hk : Leb.cntE zs n = k) (hk0 : k ≠ 0) :
    Calls Tryd.prog 21 #[.slice a len cap, .int .i64 n] w fun e w' => e = .returned (.tuple #[.int .u64 0, .int .i64 0, .int .i64 k]) ∧ Below w.heap.size w w' := by
  have HR := hide hrow; have HK := hide hk; clear hrow hk
  have hb : (k != 0) = true := bne_iff_ne.2 hk0
  have HK0 := hide hk0; clear hk0
  go_enter Tryd.func21, Tryd.ntmps21
  go_wp2_with fail
  refine (group_any a len cap zs n _ (unhide HR) hreach).mono ?_
  rintro e w1 ⟨hb1, h | h⟩
  · rw [h.2, unhide HK]
    have HB1 := hide hb1; clear hb1 h
    go_wp2
    go_ret3
    exact ⟨rfl, unhide HB1⟩
  · exact absurd (h.1.symm.trans (unhide HK)).symm (unhide HK0)

set_option maxHeartbeats 1000000 in
theorem refTakeU_in (a : Option Addr) (len cap : Nat) (zs : List Int) (m : Nat) (w : World) (hrow : Row w a len zs) (hreach : len ≤ 9223372036854775807) (hk : Leb.cntE zs m = 0) :
    Calls Tryd.prog 21 #[.slice a len cap, .int .i64 m] w fun e w' => e = .returned (.tuple #[.int .u64 (Leb.tuV zs m), .int .i64 (Leb.tuN zs m), .int .i64 (Leb.tuE zs m)]) ∧ Below w.heap.size w w' := by
  obtain ⟨h1, h2, h3, h4⟩ := Leb.cnt_0 zs m hk
  have hc0 := (hrow.2.1 (zs.getD (Leb.lead zs) 0) (by rw [List.getD, List.getElem?_eq_getElem h4]; simp)).1
  have hE := Leb.tuE_iff zs m hk hc0
  have hL : Leb.lead zs ≤ 9 := by unfold Leb.mb at h3; omega
  have hm64 : m ≤ 64 := by omega
  have HR := hide hrow; have HK := hide hk; have HE := hide hE; clear hrow hk hE h3 h4 hc0
  go_enter Tryd.func21, Tryd.ntmps21
  go_wp2_with fail
  refine (group_any a len cap zs m _ (unhide HR) hreach).mono ?_
  rintro e w1 ⟨hb1, h | ⟨_, g, gc, rfl, hgrow⟩⟩
  · exact absurd (unhide HK) h.1
  · have hgs := gs_mod (zs.take (Leb.lead zs + 1))
    have hjn : Leb.jn ((zs.take (Leb.lead zs + 1)).map (· % 128)) = Leb.JJ zs := Leb.jn_map _
    have hJb := Leb.jn_bd ((zs.take (Leb.lead zs + 1)).map (· % 128))
    have hglen := hgrow.1
    generalize (zs.take (Leb.lead zs + 1)).map (· % 128) = gs at *
    rw [hjn, hglen] at hJb
    have hV : Leb.tuV zs m = if Leb.tuE zs m = 0 then Leb.JJ zs % 18446744073709551616 else 0 := rfl
    have hNn : Leb.tuN zs m = if Leb.tuE zs m = 0 then (Leb.lead zs : Int) + 1 else 0 := rfl
    generalize Leb.lead zs = L at *
    generalize hJ : Leb.JJ zs = J at *
    have HV := hide hV; have HN := hide hNn; have HJN := hide hjn; have HJB := hide hJb; have HGs := hide hgs; have HGr := hide hgrow; have HB1 := hide hb1; have HGl := hide hglen
    clear hV hNn hjn hJb hgs hgrow hb1 hglen hJ
    go_wp2_with fail
    go_loop [9, 10, 11] (fun v p c => ∃ (k : Nat), c = .int .i64 k ∧ k ≤ 7 * (L + 1) ∧ v = .int .u64 (J % 2 ^ k % 18446744073709551616) ∧ p = .int .u64 (2 ^ k % 18446744073709551616) ∧ J % 2 ^ k < 2 ^ m) (fun _ _ c => 7 * (L + 1) - (intOf c).toNat)
    case atStart => exact ⟨0, rfl, by omega, by simp, rfl, start_lt J m⟩
    case round =>
      obtain ⟨k, rfl, hk7, rfl, rfl, hlow⟩ := hrel
      have HLow := hide hlow; clear hlow
      by_cases hlt : k < 7 * (L + 1)
      · by_cases hbit : J / 2 ^ k % 2 = 1
        · have hbt : bt gs k = true := by unfold bt; rw [unhide HJN]; exact decide_eq_true hbit
          have HBT := hide hbt; have hv := v_step1 J k hbit; have hp := pw_step k
          have HV1 := hide hv; have HP1 := hide hp; have HBit := hide hbit; clear hbt hv hp hbit
          have hvb : 0 ≤ J % 2 ^ k % 18446744073709551616 ∧ J % 2 ^ k % 18446744073709551616 < 18446744073709551616 := by omega
          have hpb : 0 ≤ (2 : Int) ^ k % 18446744073709551616 ∧ (2 : Int) ^ k % 18446744073709551616 < 18446744073709551616 := by omega
          generalize J % 2 ^ k % 18446744073709551616 = V at *
          generalize (2 : Int) ^ k % 18446744073709551616 = P at *
          by_cases hkm : m ≤ k
          · go_wp2_with (go_at_call 31; refine (bit_any _ _ gc gs k _ (unhide HGr) (unhide HGs) (by omega) (by omega)).mono ?_; rintro e w9 ⟨rfl, rfl⟩; rw [unhide HBT])
            go_ret3
            have hno := tu_out J k m (unhide HJB).1 (unhide HBit) hkm
            have h6 : Leb.tuE zs m = 6 := by rw [unhide HE, if_neg hno]
            refine ⟨?_, unhide HB1⟩
            rw [unhide HV, unhide HN, h6]; rfl
          · go_wp2_with (go_at_call 31; refine (bit_any _ _ gc gs k _ (unhide HGr) (unhide HGs) (by omega) (by omega)).mono ?_; rintro e w9 ⟨rfl, rfl⟩; rw [unhide HBT])
            go_round
            case rel => exact ⟨k + 1, by go_num, by omega, by rw [unhide HV1], by rw [unhide HP1], low_step J k m (by omega)⟩
            case measure => simp [intOf]; omega
        · have hbt : bt gs k = false := by unfold bt; rw [unhide HJN]; exact decide_eq_false hbit
          have HBT := hide hbt; have hv := v_step0 J k hbit; have hp := pw_step k
          have HV1 := hide hv; have HP1 := hide hp; clear hbt hv hp hbit
          have hpb : 0 ≤ (2 : Int) ^ k % 18446744073709551616 ∧ (2 : Int) ^ k % 18446744073709551616 < 18446744073709551616 := by omega
          generalize hVe : J % 2 ^ k % 18446744073709551616 = V at *
          have HVe := hide hVe; clear hVe
          generalize (2 : Int) ^ k % 18446744073709551616 = P at *
          go_wp2_with (go_at_call 31; refine (bit_any _ _ gc gs k _ (unhide HGr) (unhide HGs) (by omega) (by omega)).mono ?_; rintro e w9 ⟨rfl, rfl⟩; rw [unhide HBT])
          go_round
          case rel => exact ⟨k + 1, by go_num, by omega, by rw [unhide HV1, unhide HVe], by rw [unhide HP1], by rw [unhide HV1]; exact unhide HLow⟩
          case measure => simp [intOf]; omega
      · have hk8 : k = 7 * (L + 1) := by omega
        subst hk8
        have hmod : J % 2 ^ (7 * (L + 1)) = J := by
          have := unhide HJB
          rw [Leb.pow7]; exact Int.emod_eq_of_lt this.1 this.2
        have h0 : J / 2 ^ m = 0 := Int.ediv_eq_zero_of_lt (unhide HJB).1 (by have := unhide HLow; rw [hmod] at this; exact this)
        have hE0 : Leb.tuE zs m = 0 := by rw [unhide HE, if_pos h0]
        have HM := hide hmod; have HE0 := hide hE0; clear hmod h0 hE0
        go_wp2
        go_ret3
        refine ⟨?_, unhide HB1⟩
        rw [unhide HV, unhide HN, unhide HE0, if_pos rfl, if_pos rfl]
        exact ret3 (by rw [unhide HM]) rfl rfl

theorem refTakeU_any (a : Option Addr) (len cap : Nat) (zs : List Int) (n : Int) (w : World) (hrow : Row w a len zs) (hreach : len ≤ 9223372036854775807) :
    Calls Tryd.prog 21 #[.slice a len cap, .int .i64 n] w fun e w' => e = .returned (.tuple #[.int .u64 (Leb.tuV zs n), .int .i64 (Leb.tuN zs n), .int .i64 (Leb.tuE zs n)]) ∧ Below w.heap.size w w' := by
  by_cases hk : Leb.cntE zs n = 0
  · obtain ⟨m, rfl⟩ : ∃ m : Nat, n = m := ⟨n.toNat, by have := (Leb.cnt_0 zs n hk).1; omega⟩
    exact refTakeU_in a len cap zs m w hrow hreach hk
  · have e : Leb.tuE zs n = Leb.cntE zs n := by unfold Leb.tuE; rw [if_neg hk]
    unfold Leb.tuV Leb.tuN
    rw [e, if_neg hk, if_neg hk]
    exact refTakeU_err a len cap zs n w hrow hreach _ rfl hk
end Go.Proofs.YtcmidegffpehoaaDoor
