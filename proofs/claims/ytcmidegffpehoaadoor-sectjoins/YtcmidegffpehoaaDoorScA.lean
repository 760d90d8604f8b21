/- Rows cut off ahead, and read; numbers of 32 bits; the eight bytes of unicode/utf8.word. -/
import Derived.Test.YtcmidegffpehoaaDoorScM
import Derived.Lib.EndianBits
import Derived.Deep.Draws
import Derived.BigQuiet
import Derived.Deep.QuietTactic
namespace Go.Proofs.YtcmidegffpehoaaDoor
open Go.RowKit
namespace Sc
set_option linter.unusedVariables false

theorem row_drop {w : World} {b o len : Nat} {zs : List Int} (h : Row w (some ⟨b, o, none⟩) len zs) (p : Nat) (hp : p < len) : Row w (some ⟨b, o + p, none⟩) (len - p) (zs.drop p) := by
  obtain ⟨b', o', e, hlt, hc⟩ := h.2.2 (by omega)
  simp only [Option.some.injEq, Addr.mk.injEq] at e
  obtain ⟨rfl, rfl, _⟩ := e
  refine ⟨by rw [List.length_drop, h.1], fun z hz => h.2.1 z (List.mem_of_mem_drop hz), fun _ => ⟨b, o + p, rfl, hlt, fun i hi => ?_⟩⟩
  rw [show o + p + i = o + (p + i) by omega, hc (p + i) (by omega)]
  simp [List.getD]
theorem row_none (w : World) (a : Option Addr) : Row w a 0 [] := ⟨rfl, by simp, fun h => by omega⟩
theorem row_from {w : World} {a : Option Addr} {len : Nat} {zs : List Int} (h : Row w a len zs) (p : Nat) (hp : p ≤ len) : Row w (Option.map (fun x => x.add p) a) (len - p) (zs.drop p) := by
  by_cases h1 : p < len
  · obtain ⟨b, o, rfl, hlt, hc⟩ := h.2.2 (by omega)
    have := row_drop h p h1
    by_cases h0 : p = 0
    · subst h0; simpa [Addr.add] using this
    · simpa [Addr.add, h0] using this
  · have e : len - p = 0 := by omega
    rw [e, List.drop_eq_nil_of_le (by rw [h.1]; omega)]
    exact row_none w _
theorem row_full {w : World} {a : Option Addr} {len : Nat} {zs : List Int} (h : Row w a len zs) (p : Nat) (hp : len ≤ p) : Row w a (len - p) (zs.drop p) := by
  have e : len - p = 0 := by omega
  rw [e, List.drop_eq_nil_of_le (by rw [h.1]; omega)]
  exact row_none w _
theorem row_byte {w : World} {a : Option Addr} {len : Nat} {zs : List Int} (h : Row w a len zs) {p : Nat} (hp : p < len) : ∃ b o, a = some ⟨b, o, none⟩ ∧ b < w.heap.size ∧ w.cell? ⟨b, o + p, none⟩ = some (.int .u8 (zs.getD p 0)) := by
  obtain ⟨b, o, e, hb, hc⟩ := h.2.2 (by omega)
  exact ⟨b, o, e, hb, hc p hp⟩
theorem row_at {w : World} {b o len : Nat} {zs : List Int} (h : Row w (some ⟨b, o, none⟩) len zs) {p : Nat} (hp : p < len) : w.cell? ⟨b, o + p, none⟩ = some (.int .u8 (zs.getD p 0)) ∧ b < w.heap.size ∧ 0 ≤ zs.getD p 0 ∧ zs.getD p 0 ≤ 255 := by
  obtain ⟨b', o', e, hlt, hc⟩ := h.2.2 (by omega)
  simp only [Option.some.injEq, Addr.mk.injEq] at e
  obtain ⟨rfl, rfl, _⟩ := e
  have hz := h.2.1 (zs.getD p 0) (by have := h.1; rw [List.getD, List.getElem?_eq_getElem (by omega)]; simp)
  exact ⟨hc p hp, hlt, hz⟩
theorem lead_bd {qs : List Int} (h : ∀ z ∈ qs, 0 ≤ z ∧ z ≤ 255) : 0 ≤ qs.getD (Leb.lead qs) 0 := by
  by_cases hl : Leb.lead qs < qs.length
  · rw [List.getD, List.getElem?_eq_getElem hl]
    exact (h _ (List.getElem_mem hl)).1
  · simp [List.getD, List.getElem?_eq_none (by omega : qs.length ≤ Leb.lead qs)]
theorem tuE_cnt {qs : List Int} {n : Int} (h : Leb.tuE qs n = 0) : Leb.cntE qs n = 0 := by
  unfold Leb.tuE at h
  by_cases hh : Leb.cntE qs n = 0
  · exact hh
  · rw [if_neg hh] at h; exact h
theorem tuV_32 {qs : List Int} (hq : ∀ z ∈ qs, 0 ≤ z ∧ z ≤ 255) (h : Leb.tuE qs 32 = 0) : 0 ≤ Leb.tuV qs 32 ∧ Leb.tuV qs 32 < 4294967296 := by
  have h1 := Leb.tuE_iff qs 32 (tuE_cnt h) (lead_bd hq)
  rw [show Leb.tuE qs ((32 : Nat) : Int) = 0 from h] at h1
  have hj := Leb.jn_bd (qs.take (Leb.lead qs + 1))
  have h2 : Leb.JJ qs / 2 ^ 32 = 0 := by
    by_cases e : Leb.JJ qs / 2 ^ 32 = 0
    · exact e
    · rw [if_neg e] at h1; exact absurd h1 (by decide)
  unfold Leb.tuV
  rw [if_pos h]
  unfold Leb.JJ at h2
  have : (2 : Int) ^ 32 = 4294967296 := by decide
  rw [this] at h2
  omega
theorem tuE_nil (n : Int) (h1 : 1 ≤ n) (h2 : n ≤ 64) : Leb.tuE [] n = 4 := by
  have := (Leb.cnt_end [] n h1 h2 (by simp [Leb.lead, Leb.mb]; omega) rfl).1
  unfold Leb.tuE; rw [if_neg (by omega), this]
theorem tuV_no {qs : List Int} {n : Int} (h : ¬ Leb.tuE qs n = 0) : Leb.tuV qs n = 0 ∧ Leb.tuN qs n = 0 := by unfold Leb.tuV Leb.tuN; rw [if_neg h, if_neg h]; exact ⟨rfl, rfl⟩
theorem tu_bd (qs : List Int) (n : Int) (h : Leb.tuE qs n = 0) : 1 ≤ (Leb.tuN qs n).toNat ∧ (Leb.tuN qs n).toNat ≤ qs.length ∧ Leb.tuN qs n = ((Leb.tuN qs n).toNat : Int) := by
  have hc : Leb.cntE qs n = 0 := tuE_cnt h
  have h2 := Leb.cnt_0 qs n hc
  unfold Leb.tuN
  rw [if_pos h]
  omega
/-- an error of a number of 32 bits: 4 or 6 -/
theorem tuE_kinds (qs : List Int) : Leb.tuE qs 32 = 0 ∨ Leb.tuE qs 32 = 4 ∨ Leb.tuE qs 32 = 6 := by
  unfold Leb.tuE Leb.cntE
  repeat' split
  all_goals first | omega | simp_all

theorem mask_bit (A k : Nat) (h : A &&& 9259542123273814144 = 0) (hk : Nat.testBit 9259542123273814144 k = true) : A / 2 ^ k % 2 = 0 := by
  have h1 : (A &&& 9259542123273814144).testBit k = false := by rw [h]; simp
  rw [Nat.testBit_and, hk, Bool.and_true, Nat.testBit_eq_decide_div_mod_eq] at h1
  have := of_decide_eq_false h1
  omega
/-- eight bytes, the least first, as one number -/
def wd (t : List Int) : Nat := (t.getD 0 0).toNat + (t.getD 1 0).toNat * 256 + (t.getD 2 0).toNat * 65536 + (t.getD 3 0).toNat * 16777216 + (t.getD 4 0).toNat * 4294967296 + (t.getD 5 0).toNat * 1099511627776 + (t.getD 6 0).toNat * 281474976710656 + (t.getD 7 0).toNat * 72057594037927936
theorem wd_lt {t : List Int} (hz : ∀ z ∈ t, 0 ≤ z ∧ z ≤ 255) : wd t < 18446744073709551616 := by
  have h : ∀ i, (t.getD i 0).toNat ≤ 255 := fun i => by
    by_cases hi : i < t.length
    · have := hz (t.getD i 0) (by rw [List.getD, List.getElem?_eq_getElem hi]; simp)
      omega
    · simp [List.getD, List.getElem?_eq_none (by omega : t.length ≤ i)]
  have h0 := h 0; have h1 := h 1; have h2 := h 2; have h3 := h 3; have h4 := h 4; have h5 := h 5; have h6 := h 6; have h7 := h 7
  unfold wd
  omega
theorem hb0 (x H : Nat) (hx : x ≤ 255) (h : (x * 1 + H * 256) / 2 ^ 7 % 2 = 0) : x < 128 := by
  rw [show (2 : Nat) ^ 7 = 128 from by decide] at h; omega
theorem hb1 (L x H : Nat) (hL : L < 256) (hx : x ≤ 255) (h : (L + x * 256 + H * 65536) / 2 ^ 15 % 2 = 0) : x < 128 := by
  rw [show (2 : Nat) ^ 15 = 32768 from by decide] at h; omega
theorem hb2 (L x H : Nat) (hL : L < 65536) (hx : x ≤ 255) (h : (L + x * 65536 + H * 16777216) / 2 ^ 23 % 2 = 0) : x < 128 := by
  rw [show (2 : Nat) ^ 23 = 8388608 from by decide] at h; omega
theorem hb3 (L x H : Nat) (hL : L < 16777216) (hx : x ≤ 255) (h : (L + x * 16777216 + H * 4294967296) / 2 ^ 31 % 2 = 0) : x < 128 := by
  rw [show (2 : Nat) ^ 31 = 2147483648 from by decide] at h; omega
theorem hb4 (L x H : Nat) (hL : L < 4294967296) (hx : x ≤ 255) (h : (L + x * 4294967296 + H * 1099511627776) / 2 ^ 39 % 2 = 0) : x < 128 := by
  rw [show (2 : Nat) ^ 39 = 549755813888 from by decide] at h; omega
theorem hb5 (L x H : Nat) (hL : L < 1099511627776) (hx : x ≤ 255) (h : (L + x * 1099511627776 + H * 281474976710656) / 2 ^ 47 % 2 = 0) : x < 128 := by
  rw [show (2 : Nat) ^ 47 = 140737488355328 from by decide] at h; omega
theorem hb6 (L x H : Nat) (hL : L < 281474976710656) (hx : x ≤ 255) (h : (L + x * 281474976710656 + H * 72057594037927936) / 2 ^ 55 % 2 = 0) : x < 128 := by
  rw [show (2 : Nat) ^ 55 = 36028797018963968 from by decide] at h; omega
theorem hb7 (L x H : Nat) (hL : L < 72057594037927936) (hx : x ≤ 255) (h : (L + x * 72057594037927936 + H * 18446744073709551616) / 2 ^ 63 % 2 = 0) : x < 128 := by
  rw [show (2 : Nat) ^ 63 = 9223372036854775808 from by decide] at h; omega
theorem wd_eight {t : List Int} (hz : ∀ z ∈ t, 0 ≤ z ∧ z ≤ 255) (hm : wd t &&& 9259542123273814144 = 0) : t.getD 0 0 < 128 ∧ t.getD 1 0 < 128 ∧ t.getD 2 0 < 128 ∧ t.getD 3 0 < 128 ∧ t.getD 4 0 < 128 ∧ t.getD 5 0 < 128 ∧ t.getD 6 0 < 128 ∧ t.getD 7 0 < 128 := by
  have h : ∀ i, 0 ≤ t.getD i 0 ∧ (t.getD i 0).toNat ≤ 255 := fun i => by
    by_cases hi : i < t.length
    · have := hz (t.getD i 0) (by rw [List.getD, List.getElem?_eq_getElem hi]; simp)
      omega
    · simp [List.getD, List.getElem?_eq_none (by omega : t.length ≤ i)]
  have h0 := h 0; have h1 := h 1; have h2 := h 2; have h3 := h 3; have h4 := h 4; have h5 := h 5; have h6 := h 6; have h7 := h 7
  have b0 := mask_bit (wd t) 7 hm (by decide); have b1 := mask_bit (wd t) 15 hm (by decide); have b2 := mask_bit (wd t) 23 hm (by decide); have b3 := mask_bit (wd t) 31 hm (by decide)
  have b4 := mask_bit (wd t) 39 hm (by decide); have b5 := mask_bit (wd t) 47 hm (by decide); have b6 := mask_bit (wd t) 55 hm (by decide); have b7 := mask_bit (wd t) 63 hm (by decide)
  clear hm h hz
  unfold wd at *
  generalize t.getD 0 0 = z0 at *; generalize t.getD 1 0 = z1 at *; generalize t.getD 2 0 = z2 at *; generalize t.getD 3 0 = z3 at *
  generalize t.getD 4 0 = z4 at *; generalize t.getD 5 0 = z5 at *; generalize t.getD 6 0 = z6 at *; generalize t.getD 7 0 = z7 at *
  refine ⟨?_, ?_, ?_, ?_, ?_, ?_, ?_, ?_⟩
  · have := hb0 z0.toNat (z1.toNat * 1 + z2.toNat * 256 + z3.toNat * 65536 + z4.toNat * 16777216 + z5.toNat * 4294967296 + z6.toNat * 1099511627776 + z7.toNat * 281474976710656) (by omega) (by rw [← b0]; congr 2; omega)
    omega
  · have := hb1 (z0.toNat * 1) z1.toNat (z2.toNat * 1 + z3.toNat * 256 + z4.toNat * 65536 + z5.toNat * 16777216 + z6.toNat * 4294967296 + z7.toNat * 1099511627776) (by omega) (by omega) (by rw [← b1]; congr 2; omega)
    omega
  · have := hb2 (z0.toNat * 1 + z1.toNat * 256) z2.toNat (z3.toNat * 1 + z4.toNat * 256 + z5.toNat * 65536 + z6.toNat * 16777216 + z7.toNat * 4294967296) (by omega) (by omega) (by rw [← b2]; congr 2; omega)
    omega
  · have := hb3 (z0.toNat * 1 + z1.toNat * 256 + z2.toNat * 65536) z3.toNat (z4.toNat * 1 + z5.toNat * 256 + z6.toNat * 65536 + z7.toNat * 16777216) (by omega) (by omega) (by rw [← b3]; congr 2; omega)
    omega
  · have := hb4 (z0.toNat * 1 + z1.toNat * 256 + z2.toNat * 65536 + z3.toNat * 16777216) z4.toNat (z5.toNat * 1 + z6.toNat * 256 + z7.toNat * 65536) (by omega) (by omega) (by rw [← b4]; congr 2; omega)
    omega
  · have := hb5 (z0.toNat * 1 + z1.toNat * 256 + z2.toNat * 65536 + z3.toNat * 16777216 + z4.toNat * 4294967296) z5.toNat (z6.toNat * 1 + z7.toNat * 256) (by omega) (by omega) (by rw [← b5]; congr 2; omega)
    omega
  · have := hb6 (z0.toNat * 1 + z1.toNat * 256 + z2.toNat * 65536 + z3.toNat * 16777216 + z4.toNat * 4294967296 + z5.toNat * 1099511627776) z6.toNat (z7.toNat * 1) (by omega) (by omega) (by rw [← b6]; congr 2; omega)
    omega
  · have := hb7 (z0.toNat * 1 + z1.toNat * 256 + z2.toNat * 65536 + z3.toNat * 16777216 + z4.toNat * 4294967296 + z5.toNat * 1099511627776 + z6.toNat * 281474976710656) z7.toNat (0) (by omega) (by omega) (by rw [← b7]; congr 2; omega)
    omega
theorem wd_asc {t : List Int} (hz : ∀ z ∈ t, 0 ≤ z ∧ z ≤ 255) (hm : wd t &&& 9259542123273814144 = 0) : ∀ i, i < 8 → t.getD i 0 < 128 := by
  obtain ⟨h0, h1, h2, h3, h4, h5, h6, h7⟩ := wd_eight hz hm
  intro i hi
  obtain rfl | rfl | rfl | rfl | rfl | rfl | rfl | rfl : i = 0 ∨ i = 1 ∨ i = 2 ∨ i = 3 ∨ i = 4 ∨ i = 5 ∨ i = 6 ∨ i = 7 := by omega
  all_goals assumption

set_option maxHeartbeats 8000000 in
set_option maxRecDepth 100000 in
theorem word_any {b o n cap : Nat} {t : List Int} {w : World} (h : Row w (some ⟨b, o, none⟩) n t) (hn : 8 ≤ n) :
    Calls Tryd.prog 38 #[.slice (some ⟨b, o, none⟩) n cap] w fun e w' => e = .returned (.int .u64 (wd t)) ∧ ∃ q, w' = w.drewN q := by
  obtain ⟨c0, hb, l0, g0⟩ := row_at h (show 0 < n by omega); obtain ⟨c1, _, l1, g1⟩ := row_at h (show 1 < n by omega); obtain ⟨c2, _, l2, g2⟩ := row_at h (show 2 < n by omega); obtain ⟨c3, _, l3, g3⟩ := row_at h (show 3 < n by omega)
  obtain ⟨c4, _, l4, g4⟩ := row_at h (show 4 < n by omega); obtain ⟨c5, _, l5, g5⟩ := row_at h (show 5 < n by omega); obtain ⟨c6, _, l6, g6⟩ := row_at h (show 6 < n by omega); obtain ⟨c7, _, l7, g7⟩ := row_at h (show 7 < n by omega)
  rw [Nat.add_zero] at c0
  unfold wd
  generalize t.getD 0 0 = z0 at *; generalize t.getD 1 0 = z1 at *; generalize t.getD 2 0 = z2 at *; generalize t.getD 3 0 = z3 at *
  generalize t.getD 4 0 = z4 at *; generalize t.getD 5 0 = z5 at *; generalize t.getD 6 0 = z6 at *; generalize t.getD 7 0 = z7 at *
  have q1 : (1 : Int) < (n : Int) := by omega
  have q2 : (2 : Int) < (n : Int) := by omega
  have q3 : (3 : Int) < (n : Int) := by omega
  have q4 : (4 : Int) < (n : Int) := by omega
  have q5 : (5 : Int) < (n : Int) := by omega
  have q6 : (6 : Int) < (n : Int) := by omega
  have q7 : (7 : Int) < (n : Int) := by omega
  have p0 : 0 < n := by omega
  have p1 : 1 < n := by omega
  have p2 : 2 < n := by omega
  have p3 : 3 < n := by omega
  have p4 : 4 < n := by omega
  have p5 : 5 < n := by omega
  have p6 : 6 < n := by omega
  have p7 : 7 < n := by omega
  clear h
  go_enter Tryd.func38, Tryd.ntmps38
  go_wp2
  go_quiet (fail)
  go_wp2
  go_ret
  refine ⟨?_, _, rfl⟩
  simp (disch := omega) only [u64_or8, u64_or16, u64_or24, u64_or32, u64_or40, u64_or48, u64_or56]
  refine ret_int ?_
  omega
end Sc
end Go.Proofs.YtcmidegffpehoaaDoor
