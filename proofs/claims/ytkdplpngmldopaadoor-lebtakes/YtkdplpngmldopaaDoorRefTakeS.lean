/- The document's own TakeS. -/
import Derived.Test.YtkdplpngmldopaaDoorRefTakeU
namespace Go.Proofs.YtkdplpngmldopaaDoor
open Go.RowKit
set_option linter.unusedVariables false

set_option maxHeartbeats 400000 in
theorem refTakeS_err (a : Option Addr) (len cap : Nat) (zs : List Int) (n : Int) (w : World) (hrow : Row w a len zs) (hreach : len ≤ 9223372036854775807) (k : Int) (hk : Leb.cntE zs n = k) (hk0 : k ≠ 0) :
    Calls Tryd.prog 8 #[.slice a len cap, .int .i64 n] w fun e w' => e = .returned (.tuple #[.int .i64 0, .int .i64 0, .int .i64 k]) ∧ Below w.heap.size w w' := by
  have HR := hide hrow; have HK := hide hk; clear hrow hk
  have hb : (k != 0) = true := bne_iff_ne.2 hk0
  have HK0 := hide hk0; clear hk0
  go_enter Tryd.func8, Tryd.ntmps8
  go_wp2_with fail
  refine (group_any a len cap zs n _ (unhide HR) hreach).mono ?_
  rintro e w1 ⟨hb1, h | h⟩
  · rw [h.2, unhide HK]
    have HB1 := hide hb1; clear hb1 h
    go_wp2
    go_ret3
    exact ⟨rfl, unhide HB1⟩
  · exact absurd (h.1.symm.trans (unhide HK)).symm (unhide HK0)

/-- the number of the bits from the 63rd down to the k-th -/
def top (X : Int) (k : Nat) : Int := X / 2 ^ k % 2 ^ (64 - k)
theorem top_64 (X : Int) : top X 64 = 0 := by unfold top; simp
theorem top_0 (X : Int) : top X 0 = X % 18446744073709551616 := by unfold top; simp
theorem mod_two (q r : Int) (j : Nat) (hr : 0 ≤ r ∧ r < 2) : (2 * q + r) % (2 ^ j * 2) = 2 * (q % 2 ^ j) + r := by
  have hp : (0 : Int) < 2 ^ j := Int.pow_pos (by omega)
  have h1 : q = 2 ^ j * (q / 2 ^ j) + q % 2 ^ j := (Int.mul_ediv_add_emod q (2 ^ j)).symm
  have h2 : 0 ≤ q % 2 ^ j := Int.emod_nonneg _ (by omega)
  have h3 : q % 2 ^ j < 2 ^ j := Int.emod_lt_of_pos _ hp
  have h4 : 2 * q + r = (2 * (q % 2 ^ j) + r) + 2 ^ j * 2 * (q / 2 ^ j) := by
    have := congrArg (fun x => 2 * x) h1
    simp only [Int.mul_add] at this
    rw [show 2 ^ j * 2 * (q / 2 ^ j) = 2 * (2 ^ j * (q / 2 ^ j)) from by rw [Int.mul_comm (2 ^ j) 2, Int.mul_assoc]]
    omega
  rw [h4, Int.add_mul_emod_self_left, Int.emod_eq_of_lt (by omega) (by omega)]
theorem top_step (X : Int) (k : Nat) (h : k < 64) : top X k = 2 * top X (k + 1) + X / 2 ^ k % 2 := by
  unfold top
  obtain ⟨j, hj⟩ : ∃ j, 64 - k = j + 1 := ⟨63 - k, by omega⟩
  have e : 64 - (k + 1) = j := by omega
  have hd := Leb.div_step X k
  have hr : 0 ≤ X / 2 ^ k % 2 ∧ X / 2 ^ k % 2 < 2 := by omega
  rw [hj, e]
  generalize X / 2 ^ (k + 1) = q at *
  generalize X / 2 ^ k % 2 = r at *
  rw [hd, Int.pow_succ]
  exact mod_two q r j hr
theorem wrap64_0 : wrap64 0 = 0 := by unfold wrap64; omega
theorem wrap_step (a b : Int) : wrap64 (wrap64 (2 * wrap64 a) + b) = wrap64 (2 * a + b) := by unfold wrap64; omega
theorem wrap_step0 (a : Int) : wrap64 (2 * wrap64 a) = wrap64 (2 * a) := by unfold wrap64; omega
/-- what the document's two loops tell apart -/
theorem same_bits (X s : Int) (m : Nat) : ∀ N, m ≤ N → X / 2 ^ N = -s → (∀ i, m ≤ i → i < N → X / 2 ^ i % 2 = s) → X / 2 ^ m = -s := by
  intro N
  induction N with
  | zero =>
    intro h1 h2 _
    have e : m = 0 := Nat.le_zero.1 h1
    rw [e]; exact h2
  | succ N ih =>
    intro h1 h2 h3
    by_cases h : m ≤ N
    · refine ih h ?_ (fun i hi hj => h3 i hi (by omega))
      have a := Leb.div_step X N
      have b := h3 N h (by omega)
      rw [a, h2, b]; omega
    · obtain rfl : m = N + 1 := by omega
      exact h2
theorem high_const (X s : Int) (m : Nat) (h : X / 2 ^ m = -s) (hs : s = 0 ∨ s = 1) : ∀ d, X / 2 ^ (m + d) = -s := by
  intro d
  induction d with
  | zero => exact h
  | succ d ih =>
    have a := Leb.div_step X (m + d)
    rw [ih] at a
    rw [show m + (d + 1) = m + d + 1 from by omega]
    rcases hs with rfl | rfl <;> omega
theorem high_bits (X s : Int) (m i : Nat) (h : X / 2 ^ m = -s) (hs : s = 0 ∨ s = 1) (hi : m ≤ i) : X / 2 ^ i % 2 = s := by
  have h1 := high_const X s m h hs (i - m)
  rw [show m + (i - m) = i from by omega] at h1
  rw [h1]
  rcases hs with rfl | rfl <;> omega

theorem wrap_top0 (X : Int) : wrap64 (top X 0) = IntKind.i64.wrap X := by rw [top_0, IntKind.wrap_i64]; unfold wrap64; omega

theorem not_same (X s : Int) (m k N : Nat) (h : X / 2 ^ N = -s) (hm : m ≤ k) (hk : k < N) (hne : ¬ X / 2 ^ k % 2 = s) : ¬ (X / 2 ^ m = 0 ∨ X / 2 ^ m = -1) := by
  rintro (h0 | h0)
  · have a := high_const X 0 m (by rw [h0]; rfl) (.inl rfl) (N - m)
    rw [show m + (N - m) = N from by omega, h] at a
    have b := high_bits X 0 m k (by rw [h0]; rfl) (.inl rfl) hm
    omega
  · have a := high_const X 1 m h0 (.inr rfl) (N - m)
    rw [show m + (N - m) = N from by omega, h] at a
    have b := high_bits X 1 m k h0 (.inr rfl) hm
    omega
theorem all_same (X s : Int) (m k N : Nat) (h : X / 2 ^ N = -s) (hs : s = 0 ∨ s = 1) (hm : m ≤ k) (hk : k ≤ N ∨ k = m) (hkN : N ≤ k) (hall : ∀ i, m ≤ i → i < k → X / 2 ^ i % 2 = s) : X / 2 ^ m = 0 ∨ X / 2 ^ m = -1 := by
  have e : X / 2 ^ m = -s := by
    by_cases hmN : m ≤ N
    · exact same_bits X s m N hmN h (fun i h1 h2 => hall i h1 (by omega))
    · have := high_const X s N h hs (m - N)
      rwa [show N + (m - N) = m from by omega] at this
  rcases hs with rfl | rfl
  · exact .inl (by rw [e]; rfl)
  · exact .inr e

set_option maxHeartbeats 2000000 in
theorem refTakeS_in (a : Option Addr) (len cap : Nat) (zs : List Int) (m : Nat) (w : World) (hrow : Row w a len zs) (hreach : len ≤ 9223372036854775807) (hk : Leb.cntE zs (m + 1 : Nat) = 0) :
    Calls Tryd.prog 8 #[.slice a len cap, .int .i64 (m + 1 : Nat)] w fun e w' => e = .returned (.tuple #[.int .i64 (Leb.tsV zs (m + 1 : Nat)), .int .i64 (Leb.tsN zs (m + 1 : Nat)), .int .i64 (Leb.tsE zs (m + 1 : Nat))]) ∧ Below w.heap.size w w' := by
  obtain ⟨h1, h2, h3, h4⟩ := Leb.cnt_0 zs _ hk
  have hc0 := (hrow.2.1 (zs.getD (Leb.lead zs) 0) (by rw [List.getD, List.getElem?_eq_getElem h4]; simp)).1
  have hE := Leb.tsE_iff zs m hk hc0
  have hTop := Leb.top_XX zs h4 hc0
  have hSign := Leb.sign_bit zs h4 hc0
  have hBX := Leb.bit_XX zs
  have hL : Leb.lead zs ≤ 9 := by unfold Leb.mb at h3; omega
  have hm63 : m ≤ 63 := by omega
  have HR := hide hrow; have HK := hide hk; have HE := hide hE; clear hrow hk hE h3 h4 hc0 h1 h2
  go_enter Tryd.func8, Tryd.ntmps8
  go_wp2_with fail
  refine (group_any a len cap zs _ _ (unhide HR) hreach).mono ?_
  rintro e w1 ⟨hb1, h | ⟨_, g, gc, rfl, hgrow⟩⟩
  · exact absurd (unhide HK) h.1
  · have hgs := gs_mod (zs.take (Leb.lead zs + 1))
    have hjn : Leb.jn ((zs.take (Leb.lead zs + 1)).map (· % 128)) = Leb.JJ zs := Leb.jn_map _
    generalize (zs.take (Leb.lead zs + 1)).map (· % 128) = gs at *
    have hV : Leb.tsV zs (m + 1 : Nat) = if Leb.tsE zs (m + 1 : Nat) = 0 then IntKind.i64.wrap (Leb.XX zs) else 0 := rfl
    have hNn : Leb.tsN zs (m + 1 : Nat) = if Leb.tsE zs (m + 1 : Nat) = 0 then (Leb.lead zs : Int) + 1 else 0 := rfl
    obtain ⟨bl, hbl⟩ : ∃ bl : Bool, bl = decide (Leb.sg (zs.getD (Leb.lead zs) 0) < 0) := ⟨_, rfl⟩
    obtain ⟨s, hs⟩ : ∃ s : Int, s = if bl = true then 1 else 0 := ⟨_, rfl⟩
    have hs01 : s = 0 ∨ s = 1 := by rw [hs]; split <;> simp
    have hblt : bl = true ↔ s = 1 := by rw [hs]; cases bl <;> simp
    have hTop2 : Leb.XX zs / 2 ^ (7 * (Leb.lead zs + 1)) = -s := by
      rw [hTop, hs, hbl]
      generalize Leb.sg (zs.getD (Leb.lead zs) 0) = q
      by_cases hn : q < 0
      · rw [if_pos hn, if_pos (decide_eq_true hn)]
      · rw [if_neg hn, if_neg (by rw [decide_eq_false hn]; decide)]; rfl
    have hSign2 : bt gs (7 * (Leb.lead zs + 1) - 1) = bl := by
      unfold bt
      rw [hjn, hSign, hbl]
      generalize Leb.sg (zs.getD (Leb.lead zs) 0) = q
      by_cases hn : q < 0
      · rw [if_pos hn, decide_eq_true hn]; rfl
      · rw [if_neg hn, decide_eq_false hn]; rfl
    have hbits : ∀ i, i < 7 * (Leb.lead zs + 1) → (bt gs i = true ↔ Leb.XX zs / 2 ^ i % 2 = 1) := by
      intro i hi
      unfold bt
      rw [hjn, ← hBX i hi]; simp
    clear hTop hSign hBX hbl hs
    generalize Leb.lead zs = L at *
    generalize Leb.XX zs = X at *
    have HV := hide hV; have HN := hide hNn; have HGs := hide hgs; have HGr := hide hgrow; have HB1 := hide hb1; have HTop := hide hTop2; have HSign := hide hSign2; have HBits := hide hbits; have HS01 := hide hs01; have HBl := hide hblt
    clear hV hNn hjn hgs hgrow hb1 hTop2 hSign2 hbits hs01 hblt
    go_wp2_with fail
    rw [show (7 * ((L : Int) + 1) - 1) = ((7 * (L + 1) - 1 : Nat) : Int) from by omega]
    refine (bit_any _ _ gc gs _ _ (unhide HGr) (unhide HGs) (by omega) (by omega)).mono ?_
    rintro e w9 ⟨rfl, rfl⟩
    rw [unhide HSign]
    go_wp2_with fail
    go_loop [11] (fun c => ∃ (k : Nat), c = .int .i64 k ∧ m ≤ k ∧ (k ≤ 7 * (L + 1) ∨ k = m) ∧ ∀ i, m ≤ i → i < k → X / 2 ^ i % 2 = s) (fun c => 7 * (L + 1) - (intOf c).toNat)
    case atStart => exact ⟨m, rfl, Nat.le_refl _, .inr rfl, fun i h1 h2 => by omega⟩
    case round =>
      obtain ⟨k, rfl, hmk, hk7, hall⟩ := hrel
      have HAll := hide hall; clear hall
      by_cases hlt : k < 7 * (L + 1)
      · have hbi := unhide HBits k hlt
        have hr : X / 2 ^ k % 2 = 0 ∨ X / 2 ^ k % 2 = 1 := by omega
        by_cases hsame : X / 2 ^ k % 2 = s
        · have hbt : bt gs k = bl := by
            have h1 := unhide HBl
            cases hb : bt gs k <;> cases hc : bl <;> simp [hb, hc] at hbi h1 ⊢ <;> (rcases unhide HS01 with h | h <;> omega)
          have HBT := hide hbt; have HSame := hide hsame; clear hbi hr hbt hsame
          go_wp2_with (go_at_call 17; refine (bit_any _ _ gc gs k _ (unhide HGr) (unhide HGs) (by omega) (by omega)).mono ?_; rintro e w9 ⟨rfl, rfl⟩; rw [unhide HBT])
          go_round
          case rel =>
            refine ⟨k + 1, by go_num, by omega, .inl (by omega), fun i h1 h2 => ?_⟩
            by_cases hik : i = k
            · rw [hik]; exact unhide HSame
            · exact unhide HAll i h1 (by omega)
          case measure => simp [intOf]; omega
        · have hbt : bt gs k = !bl := by
            have h1 := unhide HBl
            cases hb : bt gs k <;> cases hc : bl <;> simp [hb, hc] at hbi h1 ⊢ <;> (rcases unhide HS01 with h | h <;> omega)
          have h6 : Leb.tsE zs (m + 1 : Nat) = 6 := by rw [unhide HE, if_neg (not_same X s m k _ (unhide HTop) hmk hlt hsame)]
          have HBT := hide hbt; have H6 := hide h6; clear hbi hr hbt hsame h6
          have hnb : (!bl != bl) = true := by cases bl <;> rfl
          go_wp2_with (go_at_call 17; refine (bit_any _ _ gc gs k _ (unhide HGr) (unhide HGs) (by omega) (by omega)).mono ?_; rintro e w9 ⟨rfl, rfl⟩; rw [unhide HBT])
          go_ret3
          refine ⟨?_, unhide HB1⟩
          rw [unhide HV, unhide HN, unhide H6]; rfl
      · have h0 : Leb.tsE zs (m + 1 : Nat) = 0 := by rw [unhide HE, if_pos (all_same X s m k _ (unhide HTop) (unhide HS01) hmk hk7 (by omega) (unhide HAll))]
        have H0 := hide h0; clear h0 HAll
        go_wp2_with fail
        go_loop [12, 13] (fun v c => ∃ (k : Nat) (c' : Int), c = .int .i64 c' ∧ c' = (k : Int) - 1 ∧ k ≤ 64 ∧ v = .int .i64 (wrap64 (top X k))) (fun _ c => (intOf c + 1).toNat)
        case atStart => exact ⟨64, 63, rfl, by omega, Nat.le_refl _, by rw [top_64, wrap64_0]⟩
        case round =>
          obtain ⟨k2, c', rfl, hc', hk64, rfl⟩ := hrel
          rcases Nat.eq_zero_or_pos k2 with hz | hpos
          · subst hz
            obtain rfl : c' = -1 := by omega
            clear hc' hk64
            have hw := wrap_top0 X
            generalize wrap64 (top X 0) = T at *
            have HW := hide hw; clear hw
            go_wp2
            go_ret3
            refine ⟨?_, unhide HB1⟩
            rw [show ((m : Int) + 1) = ((m + 1 : Nat) : Int) from by omega, unhide HV, unhide HN, unhide H0, if_pos rfl, if_pos rfl, ← unhide HW]; rfl
          · obtain ⟨j, rfl⟩ : ∃ j, k2 = j + 1 := ⟨k2 - 1, by omega⟩
            obtain rfl : c' = (j : Int) := by omega
            clear hc'
            have hst := top_step X j (by omega)
            have w1s := wrap_step (top X (j + 1)) 1
            have w0s := wrap_step0 (top X (j + 1))
            have hTb : -9223372036854775808 ≤ wrap64 (top X (j + 1)) ∧ wrap64 (top X (j + 1)) ≤ 9223372036854775807 := by unfold wrap64; omega
            rcases (show (j < 7 * (L + 1) ∧ X / 2 ^ j % 2 = 1) ∨ (j < 7 * (L + 1) ∧ X / 2 ^ j % 2 = 0) ∨ (7 * (L + 1) ≤ j ∧ X / 2 ^ j % 2 = 1) ∨ (7 * (L + 1) ≤ j ∧ X / 2 ^ j % 2 = 0) from by omega) with ⟨hj, hb⟩ | ⟨hj, hb⟩ | ⟨hj, hb⟩ | ⟨hj, hb⟩
            · have hbt : bt gs j = true := (unhide HBits j hj).2 hb
              rw [hb] at hst
              rw [← hst] at w1s
              have HBT := hide hbt; have HW1 := hide w1s; clear hbt w1s w0s hst hb
              generalize wrap64 (top X (j + 1)) = T at *
              have hji : decide (7 * ((L : Int) + 1) ≤ (j : Int)) = false := by simp; omega
              go_wp2_with (go_at_call 17; refine (bit_any _ _ gc gs j _ (unhide HGr) (unhide HGs) (by omega) (by omega)).mono ?_; rintro e w9 ⟨rfl, rfl⟩; rw [unhide HBT])
              go_round
              case rel => exact ⟨j, _, rfl, rfl, by omega, by rw [unhide HW1]⟩
              case measure => simp [intOf] <;> omega
            · have hbt : bt gs j = false := by
                have := unhide HBits j hj
                rcases Bool.eq_false_or_eq_true (bt gs j) with h | h
                · have := this.1 h; omega
                · exact h
              rw [hb, Int.add_zero] at hst
              rw [← hst] at w0s
              have HBT := hide hbt; have HW1 := hide w0s; clear hbt w1s w0s hst hb
              generalize wrap64 (top X (j + 1)) = T at *
              have hji : decide (7 * ((L : Int) + 1) ≤ (j : Int)) = false := by simp; omega
              go_wp2_with (go_at_call 17; refine (bit_any _ _ gc gs j _ (unhide HGr) (unhide HGs) (by omega) (by omega)).mono ?_; rintro e w9 ⟨rfl, rfl⟩; rw [unhide HBT])
              go_round
              case rel => exact ⟨j, _, rfl, rfl, by omega, by rw [unhide HW1]⟩
              case measure => simp [intOf] <;> omega
            · have hbl : bl = true := by
                have := high_bits X s _ j (unhide HTop) (unhide HS01) hj
                exact (unhide HBl).2 (by omega)
              rw [hb] at hst
              rw [← hst] at w1s
              have HW1 := hide w1s; clear w1s w0s hst hb
              generalize wrap64 (top X (j + 1)) = T at *
              have hji : decide ((j : Int) < 7 * ((L : Int) + 1)) = false := by simp; omega
              go_wp2
              go_round
              case rel => exact ⟨j, rfl, by omega, unhide HW1⟩
              case measure => simp [intOf] <;> omega
            · have hbl : bl = false := by
                have := high_bits X s _ j (unhide HTop) (unhide HS01) hj
                cases h : bl
                · rfl
                · have := (unhide HBl).1 h; omega
              rw [hb, Int.add_zero] at hst
              rw [← hst] at w0s
              have HW1 := hide w0s; clear w1s w0s hst hb
              generalize wrap64 (top X (j + 1)) = T at *
              have hji : decide ((j : Int) < 7 * ((L : Int) + 1)) = false := by simp; omega
              go_wp2
              go_round
              case rel => exact ⟨j, rfl, by omega, unhide HW1⟩
              case measure => simp [intOf] <;> omega

theorem refTakeS_any (a : Option Addr) (len cap : Nat) (zs : List Int) (n : Int) (w : World) (hrow : Row w a len zs) (hreach : len ≤ 9223372036854775807) :
    Calls Tryd.prog 8 #[.slice a len cap, .int .i64 n] w fun e w' => e = .returned (.tuple #[.int .i64 (Leb.tsV zs n), .int .i64 (Leb.tsN zs n), .int .i64 (Leb.tsE zs n)]) ∧ Below w.heap.size w w' := by
  by_cases hk : Leb.cntE zs n = 0
  · obtain ⟨m, rfl⟩ : ∃ m : Nat, n = (m + 1 : Nat) := ⟨n.toNat - 1, by have := (Leb.cnt_0 zs n hk).1; omega⟩
    exact refTakeS_in a len cap zs m w hrow hreach hk
  · have e : Leb.tsE zs n = Leb.cntE zs n := by unfold Leb.tsE; rw [if_neg hk]
    unfold Leb.tsV Leb.tsN
    rw [e, if_neg hk, if_neg hk]
    exact refTakeS_err a len cap zs n w hrow hreach _ rfl hk
end Go.Proofs.YtkdplpngmldopaaDoor
