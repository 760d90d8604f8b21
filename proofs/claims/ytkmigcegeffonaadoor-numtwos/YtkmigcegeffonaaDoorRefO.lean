/- The document's One: bit by bit. -/
import Derived.Test.YtkmigcegeffonaaDoorRefA
import Derived.Test.YtkmigcegeffonaaDoorNumTm
namespace Go.Proofs.YtkmigcegeffonaaDoor
open Go.RowKit Num
set_option linter.unusedVariables false

theorem bt_nat (n k : Nat) : bt (n : Int) k = (n / 2 ^ k % 2 == 1) := by
  unfold bt
  have e : (n : Int) / 2 ^ k % 2 = ((n / 2 ^ k % 2 : Nat) : Int) := by simp
  rw [e]
  rw [Bool.eq_iff_iff]; simp; omega
theorem bl_yes (n m : Nat) (h : n < 2 ^ (m + 1)) (hb : n / 2 ^ m % 2 = 1) : bitLen n = m + 1 := by
  have hp := Nat.two_pow_pos m
  have h1 : 2 ^ m ≤ n := by
    rcases Nat.lt_or_ge n (2 ^ m) with h2 | h2
    · rw [Nat.div_eq_of_lt h2] at hb; omega
    · exact h2
  unfold bitLen
  rw [if_neg (by omega), (Nat.log2_eq_iff (by omega)).2 ⟨h1, h⟩]
theorem bl_no (n m : Nat) (h : n < 2 ^ (m + 1)) (hb : ¬ n / 2 ^ m % 2 = 1) : n < 2 ^ m := by
  have hp := Nat.two_pow_pos m
  have h1 : n / 2 ^ m < 2 := Nat.div_lt_of_lt_mul (by rw [Nat.pow_succ] at h; exact h)
  have h2 : n / 2 ^ m = 0 := by
    generalize n / 2 ^ m = q at *
    omega
  exact (Nat.div_eq_zero_iff_lt hp).1 h2
theorem ctzFrom_eq : ∀ (k f x : Nat), k < f → x % 2 ^ k = 0 → x / 2 ^ k % 2 = 1 → Lib.ctzFrom f x = k
  | 0, f + 1, x, _, _, h => by simp at h; simp [Lib.ctzFrom, h]
  | k + 1, f + 1, x, hf, h0, h1 => by
    have h2 : x % 2 = 0 := by
      have := Nat.mod_mod_of_dvd x (show 2 ∣ 2 ^ (k + 1) from ⟨2 ^ k, by rw [Nat.pow_succ, Nat.mul_comm]⟩)
      rw [h0] at this; omega
    have h3 : x / 2 % 2 ^ k = 0 := by
      have : x % (2 * 2 ^ k) / 2 = x / 2 % 2 ^ k := Nat.mod_mul_right_div_self ..
      rw [show 2 * 2 ^ k = 2 ^ (k + 1) by rw [Nat.pow_succ, Nat.mul_comm], h0] at this; omega
    have h4 : x / 2 / 2 ^ k = x / 2 ^ (k + 1) := by rw [Nat.div_div_eq_div_mul, show 2 * 2 ^ k = 2 ^ (k + 1) by rw [Nat.pow_succ, Nat.mul_comm]]
    simp only [Lib.ctzFrom]
    rw [if_neg (by omega), ctzFrom_eq k f (x / 2) (by omega) h3 (by rw [h4]; exact h1)]; omega
theorem ctz_eq (n k : Nat) (hk : k < 64) (h0 : n % 2 ^ k = 0) (h1 : n / 2 ^ k % 2 = 1) : Lib.ctz 64 n = k := by
  unfold Lib.ctz
  have : n ≠ 0 := by intro h; subst h; simp at h1
  rw [if_neg this, ctzFrom_eq k 64 n hk h0 h1]
theorem mod_next (n k : Nat) (h0 : n % 2 ^ k = 0) (h1 : ¬ n / 2 ^ k % 2 = 1) : n % 2 ^ (k + 1) = 0 := by
  have := Nat.mod_mul (x := n) (a := 2 ^ k) (b := 2)
  rw [← Nat.pow_succ] at this
  rw [this, h0, show n / 2 ^ k % 2 = 0 by omega]; simp
theorem pcn_next (n k : Nat) : pcn (k + 1) n = pcn k n + n / 2 ^ k % 2 := by
  rw [pcn_add k 1 n, pcn_mod]; simp [pcn]

set_option maxHeartbeats 800000 in
theorem refOne_no (op x : Int) (s : ByteArray) (W : Nat) (hN : Named op s W) (hA : AloneIs s false) (w : World) :
    Calls Tryd.prog 10 #[.int .u8 op, .int .u64 x] w fun e w' => e = .returned (.tuple #[.int .u64 0, .bool false]) ∧ Below w.heap.size w w' := by
  have HN := hide hN; have HA := hide hA; clear hN hA
  go_enter Tryd.func10, Tryd.ntmps10
  go_wp2_with fail
  refine (unhide HN _).mono ?_
  rintro e w1 ⟨rfl, hb1⟩
  have HB := hide hb1; clear hb1
  go_wp2_with fail
  refine (unhide HA _).mono ?_
  rintro e w2 ⟨rfl, rfl⟩
  go_wp2
  go_ret2
  exact ⟨by kernel_rfl, unhide HB⟩

set_option maxHeartbeats 1600000 in
theorem refOne_eqz (W : Nat) (hW : W = 32 ∨ W = 64) (op x : Int) (hN : Named op ⟨#[101, 113, 122]⟩ W) (w : World) (h0 : 0 ≤ x) (h1 : x < 18446744073709551616) :
    Calls Tryd.prog 10 #[.int .u8 op, .int .u64 x] w fun e w' => e = .returned (.tuple #[.int .u64 (b01 (lo W x == 0)), .bool true]) ∧ Below w.heap.size w w' := by
  have HN := hide hN; have HA := hide alone_eqz; clear hN
  have hlow := fun wx => low_any W hW x wx h0 h1
  have hbd := lo_bd W hW x
  generalize lo W x = X at *
  have HL := hide hlow; clear hlow
  by_cases hz : X = 0
  · have tz : (X == 0) = true := by simp [hz]
    rw [show b01 (X == 0) = 1 by rw [tz]; rfl]
    have HZ := hide hz; clear hz
    go_enter Tryd.func10, Tryd.ntmps10
    go_wp2_with fail
    refine (unhide HN _).mono ?_
    rintro e w1 ⟨rfl, hb1⟩
    have HB := hide hb1; clear hb1
    go_wp2_with fail
    refine (unhide HA _).mono ?_
    rintro e w2 ⟨rfl, rfl⟩
    go_wp2_with fail
    refine (unhide HL _).mono ?_
    rintro e w2 ⟨rfl, rfl⟩
    go_wp2
    go_ret2
    exact ⟨by kernel_rfl, unhide HB⟩
  · have tz : (X == 0) = false := by simp [hz]
    rw [show b01 (X == 0) = 0 by rw [tz]; rfl]
    go_enter Tryd.func10, Tryd.ntmps10
    go_wp2_with fail
    refine (unhide HN _).mono ?_
    rintro e w1 ⟨rfl, hb1⟩
    have HB := hide hb1; clear hb1
    go_wp2_with fail
    refine (unhide HA _).mono ?_
    rintro e w2 ⟨rfl, rfl⟩
    go_wp2_with fail
    refine (unhide HL _).mono ?_
    rintro e w2 ⟨rfl, rfl⟩
    go_wp2
    go_ret2
    exact ⟨by kernel_rfl, unhide HB⟩

set_option maxHeartbeats 1600000 in
theorem refOne_clz (W : Nat) (hW : W = 32 ∨ W = 64) (op x : Int) (hN : Named op ⟨#[99, 108, 122]⟩ W) (w : World) (h0 : 0 ≤ x) (h1 : x < 18446744073709551616) :
    Calls Tryd.prog 10 #[.int .u8 op, .int .u64 x] w fun e w' => e = .returned (.tuple #[.int .u64 ((W : Int) - (bitLen (lo W x).toNat : Nat)), .bool true]) ∧ Below w.heap.size w w' := by
  have HN := hide hN; have HA := hide alone_clz; clear hN
  have hlow := fun wx => low_any W hW x wx h0 h1
  have hbd := lo_bd W hW x
  obtain ⟨n, hn, hnW, hn64⟩ := lo_toNat W hW x
  rw [hn] at hlow ⊢
  rw [Int.toNat_natCast]
  have hbit := fun k hk wx => bit_any (n : Int) k wx (by omega) (by omega) hk
  have HT := hide hbit; clear hbit hn hbd
  have HL := hide hlow; clear hlow
  go_enter Tryd.func10, Tryd.ntmps10
  go_wp2_with fail
  refine (unhide HN _).mono ?_
  rintro e w1 ⟨rfl, hb1⟩
  have HB := hide hb1; clear hb1
  go_wp2_with fail
  refine (unhide HA _).mono ?_
  rintro e w2 ⟨rfl, rfl⟩
  go_wp2_with fail
  refine (unhide HL _).mono ?_
  rintro e w2 ⟨rfl, rfl⟩
  go_wp2_with fail
  go_loop [8, 9] (fun c d => ∃ (m : Nat), c = .int .u64 ((W : Int) - m) ∧ d = .int .i64 ((m : Int) - 1) ∧ m ≤ W ∧ n < 2 ^ m) (fun _ d => (intOf d + 1).toNat)
  case atStart => exact ⟨W, by simp, rfl, Nat.le_refl _, hnW⟩
  case round =>
    obtain ⟨m, rfl, rfl, hm, hlt⟩ := hrel
    cases m with
    | zero =>
      have hn0 : n = 0 := by simp at hlt; omega
      subst hn0
      go_wp2
      go_ret2
      exact ⟨by rw [show bitLen 0 = 0 from rfl]; kernel_rfl, unhide HB⟩
    | succ m =>
      rw [show (((m + 1 : Nat) : Int) - 1) = (m : Int) by omega]
      have HLt := hide hlt; clear hlt
      by_cases hb : n / 2 ^ m % 2 = 1
      · have e1 : bt (n : Int) m = true := by rw [bt_nat, hb]; rfl
        have e2 := bl_yes n m (unhide HLt) hb
        have HE := hide e2; have HBt := hide hb; clear e2 hb
        go_wp2_with fail
        refine (unhide HT m (by omega) _).mono ?_
        rintro e w3 ⟨rfl, rfl⟩
        rw [e1]
        go_wp2
        go_ret2
        exact ⟨by rw [unhide HE]; kernel_rfl, unhide HB⟩
      · have e1 : bt (n : Int) m = false := by rw [bt_nat]; simp; omega
        have e2 := bl_no n m (unhide HLt) hb
        have HE := hide e2; have HBt := hide hb; clear e2 hb
        go_wp2_with fail
        refine (unhide HT m (by omega) _).mono ?_
        rintro e w3 ⟨rfl, rfl⟩
        rw [e1]
        go_wp2_with fail
        exact ⟨⟨m, by congr 1; omega, rfl, by omega, unhide HE⟩, by simp only [intOf]; omega⟩

set_option maxHeartbeats 1600000 in
theorem refOne_ctz (W : Nat) (hW : W = 32 ∨ W = 64) (op x : Int) (hN : Named op ⟨#[99, 116, 122]⟩ W) (w : World) (h0 : 0 ≤ x) (h1 : x < 18446744073709551616) :
    Calls Tryd.prog 10 #[.int .u8 op, .int .u64 x] w fun e w' => e = .returned (.tuple #[.int .u64 ((min (Lib.ctz 64 (lo W x).toNat) W : Nat)), .bool true]) ∧ Below w.heap.size w w' := by
  have HN := hide hN; have HA := hide alone_ctz; clear hN
  have hlow := fun wx => low_any W hW x wx h0 h1
  have hbd := lo_bd W hW x
  obtain ⟨n, hn, hnW, hn64⟩ := lo_toNat W hW x
  rw [hn] at hlow ⊢
  rw [Int.toNat_natCast]
  have hbit := fun k hk wx => bit_any (n : Int) k wx (by omega) (by omega) hk
  have HT := hide hbit; clear hbit hn hbd
  have HL := hide hlow; clear hlow
  go_enter Tryd.func10, Tryd.ntmps10
  go_wp2_with fail
  refine (unhide HN _).mono ?_
  rintro e w1 ⟨rfl, hb1⟩
  have HB := hide hb1; clear hb1
  go_wp2_with fail
  refine (unhide HA _).mono ?_
  rintro e w2 ⟨rfl, rfl⟩
  go_wp2_with fail
  refine (unhide HL _).mono ?_
  rintro e w2 ⟨rfl, rfl⟩
  go_wp2_with fail
  go_loop [8, 10] (fun c d => ∃ (k : Nat), c = .int .u64 (k : Int) ∧ d = .int .i64 (k : Int) ∧ k ≤ W ∧ n % 2 ^ k = 0) (fun _ d => W - (intOf d).toNat)
  case atStart => exact ⟨0, rfl, rfl, by omega, by simp [Nat.mod_one]⟩
  case round =>
    obtain ⟨k, rfl, rfl, hk, hmod⟩ := hrel
    by_cases hkW : k = W
    · subst hkW
      have hn0 : n = 0 := by rw [Nat.mod_eq_of_lt hnW] at hmod; exact hmod
      subst hn0
      clear hmod
      have hmin : min (Lib.ctz 64 0) k = k := by rw [show Lib.ctz 64 0 = 64 from rfl, Nat.min_eq_right (by omega)]
      have HM := hide hmin; clear hmin
      go_wp2
      go_ret2
      exact ⟨by rw [unhide HM]; kernel_rfl, unhide HB⟩
    · have HM := hide hmod; clear hmod
      by_cases hb : n / 2 ^ k % 2 = 1
      · have e1 : bt (n : Int) k = true := by rw [bt_nat, hb]; rfl
        have e2 := ctz_eq n k (by omega) (unhide HM) hb
        have e2 : min (Lib.ctz 64 n) W = k := by rw [e2, Nat.min_eq_left hk]
        have HE := hide e2; have HBt := hide hb; clear e2 hb
        go_wp2_with fail
        refine (unhide HT k (by omega) _).mono ?_
        rintro e w3 ⟨rfl, rfl⟩
        rw [e1]
        go_wp2
        go_ret2
        exact ⟨by rw [unhide HE]; kernel_rfl, unhide HB⟩
      · have e1 : bt (n : Int) k = false := by rw [bt_nat]; simp; omega
        have e2 := mod_next n k (unhide HM) hb
        have HE := hide e2; have HBt := hide hb; clear e2 hb
        go_wp2_with fail
        refine (unhide HT k (by omega) _).mono ?_
        rintro e w3 ⟨rfl, rfl⟩
        rw [e1]
        go_wp2_with fail
        exact ⟨⟨k + 1, by congr 1, by congr 1, by omega, unhide HE⟩, by simp only [intOf]; omega⟩

set_option maxHeartbeats 1600000 in
theorem refOne_popcnt (W : Nat) (hW : W = 32 ∨ W = 64) (op x : Int) (hN : Named op ⟨#[112, 111, 112, 99, 110, 116]⟩ W) (w : World) (h0 : 0 ≤ x) (h1 : x < 18446744073709551616) :
    Calls Tryd.prog 10 #[.int .u8 op, .int .u64 x] w fun e w' => e = .returned (.tuple #[.int .u64 ((pcn 64 (lo W x).toNat : Nat)), .bool true]) ∧ Below w.heap.size w w' := by
  have HN := hide hN; have HA := hide alone_popcnt; clear hN
  have hlow := fun wx => low_any W hW x wx h0 h1
  have hbd := lo_bd W hW x
  obtain ⟨n, hn, hnW, hn64⟩ := lo_toNat W hW x
  rw [hn] at hlow ⊢
  rw [Int.toNat_natCast]
  have hbit := fun k hk wx => bit_any (n : Int) k wx (by omega) (by omega) hk
  have HT := hide hbit; clear hbit hn hbd
  rw [pcn_w W n (by omega) hnW]
  have HL := hide hlow; clear hlow
  go_enter Tryd.func10, Tryd.ntmps10
  go_wp2_with fail
  refine (unhide HN _).mono ?_
  rintro e w1 ⟨rfl, hb1⟩
  have HB := hide hb1; clear hb1
  go_wp2_with fail
  refine (unhide HA _).mono ?_
  rintro e w2 ⟨rfl, rfl⟩
  go_wp2_with fail
  refine (unhide HL _).mono ?_
  rintro e w2 ⟨rfl, rfl⟩
  go_wp2_with fail
  go_loop [8, 11] (fun c d => ∃ (k : Nat), c = .int .u64 ((pcn k n : Nat) : Int) ∧ d = .int .i64 (k : Int) ∧ k ≤ W) (fun _ d => W - (intOf d).toNat)
  case atStart => exact ⟨0, rfl, rfl, by omega⟩
  case round =>
    obtain ⟨k, rfl, rfl, hk⟩ := hrel
    by_cases hkW : k = W
    · subst hkW
      go_wp2
      go_ret2
      exact ⟨by kernel_rfl, unhide HB⟩
    · have e2 := pcn_next n k
      have hle := pcn_le k n
      by_cases hb : n / 2 ^ k % 2 = 1
      · have e1 : bt (n : Int) k = true := by rw [bt_nat, hb]; rfl
        rw [hb] at e2
        have HE := hide e2; have HBt := hide hb; clear e2 hb
        go_wp2_with fail
        refine (unhide HT k (by omega) _).mono ?_
        rintro e w3 ⟨rfl, rfl⟩
        rw [e1]
        go_wp2_with fail
        exact ⟨⟨k + 1, by rw [unhide HE]; rfl, by congr 1, by omega⟩, by simp only [intOf]; omega⟩
      · have e1 : bt (n : Int) k = false := by rw [bt_nat]; simp; omega
        rw [show n / 2 ^ k % 2 = 0 by omega] at e2
        have HE := hide e2; have HBt := hide hb; clear e2 hb
        go_wp2_with fail
        refine (unhide HT k (by omega) _).mono ?_
        rintro e w3 ⟨rfl, rfl⟩
        rw [e1]
        go_wp2_with fail
        exact ⟨⟨k + 1, by rw [unhide HE]; rfl, by congr 1, by omega⟩, by simp only [intOf]; omega⟩

end Go.Proofs.YtkmigcegeffonaaDoor
