/- math/bits' Len64, LeadingZeros64, TrailingZeros64, OnesCount64, as this program holds them: what they return; the world stands. -/
import Derived.Test.YtkmigcegeffonaaDoorNumC
import Derived.Test.YtkmigcegeffonaaDoorNumM
import Derived.Laws.MathBits
import Derived.Laws.Bits128
import Derived.Lib.TrailingZeros
namespace Go.Proofs.YtkmigcegeffonaaDoor
open Go.RowKit Num
set_option linter.unusedVariables false

theorem len_close (n m j : Nat) (b : Nat) (hj : j ≤ 56) (hm : m = n / 2 ^ j) (hb : m < 256) (h0 : j = 0 ∨ m ≠ 0) (hbl : b = bitLen m) : wrap64 ((j : Int) + wrap64 (b : Int)) = ((bitLen n : Nat) : Int) := by
  have h8 := bitLen_le8 m hb
  have e : bitLen n = j + bitLen m := by
    rcases h0 with rfl | h
    · simp at hm; subst hm; simp
    · rw [hm] at h ⊢; exact bitLen_shift n j h
  rw [e]; subst hbl; unfold wrap64; omega

set_option maxRecDepth 100000 in
set_option maxHeartbeats 400000 in
theorem len64_0 (x : Int) (w : World) (h0 : (0 : Int) ≤ x) (h1 : x < 256) :
    Calls Tryd.prog 39 #[.int .u64 x] w fun e w' => e = .returned (.int .i64 (bitLen x.toNat : Nat)) ∧ w = w' := by
  have hidx : (x).toNat = x.toNat / 2 ^ 0 := by omega
  have HI := hide hidx; clear hidx
  go_enter Tryd.func39, Tryd.ntmps39
  go_wp2
  go_ret
  refine ⟨ret_int ?_, rfl⟩
  rw [len8tab_get]
  have hm := unhide HI
  refine Eq.trans ?_ (len_close x.toNat x.toNat 0 (bitLen x.toNat) (by omega) (by simp) (by omega) (.inl rfl) rfl)
  simp

set_option maxRecDepth 100000 in
set_option maxHeartbeats 400000 in
theorem len64_1 (x : Int) (w : World) (h0 : (256 : Int) ≤ x) (h1 : x < 65536) :
    Calls Tryd.prog 39 #[.int .u64 x] w fun e w' => e = .returned (.int .i64 (bitLen x.toNat : Nat)) ∧ w = w' := by
  have hidx : (x / 256).toNat = x.toNat / 2 ^ 8 := by omega
  have HI := hide hidx; clear hidx
  go_enter Tryd.func39, Tryd.ntmps39
  go_wp2
  go_ret
  refine ⟨ret_int ?_, rfl⟩
  rw [len8tab_get]
  have hm := unhide HI
  exact len_close x.toNat _ 8 _ (by omega) hm (by omega) (.inr (by omega)) rfl

set_option maxRecDepth 100000 in
set_option maxHeartbeats 400000 in
theorem len64_2 (x : Int) (w : World) (h0 : (65536 : Int) ≤ x) (h1 : x < 16777216) :
    Calls Tryd.prog 39 #[.int .u64 x] w fun e w' => e = .returned (.int .i64 (bitLen x.toNat : Nat)) ∧ w = w' := by
  have hidx : (x / 65536).toNat = x.toNat / 2 ^ 16 := by omega
  have HI := hide hidx; clear hidx
  go_enter Tryd.func39, Tryd.ntmps39
  go_wp2
  go_ret
  refine ⟨ret_int ?_, rfl⟩
  rw [len8tab_get]
  have hm := unhide HI
  exact len_close x.toNat _ 16 _ (by omega) hm (by omega) (.inr (by omega)) rfl

set_option maxRecDepth 100000 in
set_option maxHeartbeats 400000 in
theorem len64_3 (x : Int) (w : World) (h0 : (16777216 : Int) ≤ x) (h1 : x < 4294967296) :
    Calls Tryd.prog 39 #[.int .u64 x] w fun e w' => e = .returned (.int .i64 (bitLen x.toNat : Nat)) ∧ w = w' := by
  have hidx : (x / 65536 / 256).toNat = x.toNat / 2 ^ 24 := by omega
  have HI := hide hidx; clear hidx
  go_enter Tryd.func39, Tryd.ntmps39
  go_wp2
  go_ret
  refine ⟨ret_int ?_, rfl⟩
  rw [len8tab_get]
  have hm := unhide HI
  exact len_close x.toNat _ 24 _ (by omega) hm (by omega) (.inr (by omega)) rfl

set_option maxRecDepth 100000 in
set_option maxHeartbeats 400000 in
theorem len64_4 (x : Int) (w : World) (h0 : (4294967296 : Int) ≤ x) (h1 : x < 1099511627776) :
    Calls Tryd.prog 39 #[.int .u64 x] w fun e w' => e = .returned (.int .i64 (bitLen x.toNat : Nat)) ∧ w = w' := by
  have hidx : (x / 4294967296).toNat = x.toNat / 2 ^ 32 := by omega
  have HI := hide hidx; clear hidx
  go_enter Tryd.func39, Tryd.ntmps39
  go_wp2
  go_ret
  refine ⟨ret_int ?_, rfl⟩
  rw [len8tab_get]
  have hm := unhide HI
  exact len_close x.toNat _ 32 _ (by omega) hm (by omega) (.inr (by omega)) rfl

set_option maxRecDepth 100000 in
set_option maxHeartbeats 400000 in
theorem len64_5 (x : Int) (w : World) (h0 : (1099511627776 : Int) ≤ x) (h1 : x < 281474976710656) :
    Calls Tryd.prog 39 #[.int .u64 x] w fun e w' => e = .returned (.int .i64 (bitLen x.toNat : Nat)) ∧ w = w' := by
  have hidx : (x / 4294967296 / 256).toNat = x.toNat / 2 ^ 40 := by omega
  have HI := hide hidx; clear hidx
  go_enter Tryd.func39, Tryd.ntmps39
  go_wp2
  go_ret
  refine ⟨ret_int ?_, rfl⟩
  rw [len8tab_get]
  have hm := unhide HI
  exact len_close x.toNat _ 40 _ (by omega) hm (by omega) (.inr (by omega)) rfl

set_option maxRecDepth 100000 in
set_option maxHeartbeats 400000 in
theorem len64_6 (x : Int) (w : World) (h0 : (281474976710656 : Int) ≤ x) (h1 : x < 72057594037927936) :
    Calls Tryd.prog 39 #[.int .u64 x] w fun e w' => e = .returned (.int .i64 (bitLen x.toNat : Nat)) ∧ w = w' := by
  have hidx : (x / 4294967296 / 65536).toNat = x.toNat / 2 ^ 48 := by omega
  have HI := hide hidx; clear hidx
  go_enter Tryd.func39, Tryd.ntmps39
  go_wp2
  go_ret
  refine ⟨ret_int ?_, rfl⟩
  rw [len8tab_get]
  have hm := unhide HI
  exact len_close x.toNat _ 48 _ (by omega) hm (by omega) (.inr (by omega)) rfl

set_option maxRecDepth 100000 in
set_option maxHeartbeats 400000 in
theorem len64_7 (x : Int) (w : World) (h0 : (72057594037927936 : Int) ≤ x) (h1 : x < 18446744073709551616) :
    Calls Tryd.prog 39 #[.int .u64 x] w fun e w' => e = .returned (.int .i64 (bitLen x.toNat : Nat)) ∧ w = w' := by
  have hidx : (x / 4294967296 / 65536 / 256).toNat = x.toNat / 2 ^ 56 := by omega
  have HI := hide hidx; clear hidx
  go_enter Tryd.func39, Tryd.ntmps39
  go_wp2
  go_ret
  refine ⟨ret_int ?_, rfl⟩
  rw [len8tab_get]
  have hm := unhide HI
  exact len_close x.toNat _ 56 _ (by omega) hm (by omega) (.inr (by omega)) rfl

theorem len64_any (n : Nat) (w : World) (h : n < 18446744073709551616) :
    Calls Tryd.prog 39 #[.int .u64 (n : Int)] w fun e w' => e = .returned (.int .i64 (bitLen n : Nat)) ∧ w = w' := by
  by_cases h0 : n < 256
  · exact len64_0 (n : Int) w (by omega) (by omega)
  by_cases h1 : n < 65536
  · exact len64_1 (n : Int) w (by omega) (by omega)
  by_cases h2 : n < 16777216
  · exact len64_2 (n : Int) w (by omega) (by omega)
  by_cases h3 : n < 4294967296
  · exact len64_3 (n : Int) w (by omega) (by omega)
  by_cases h4 : n < 1099511627776
  · exact len64_4 (n : Int) w (by omega) (by omega)
  by_cases h5 : n < 281474976710656
  · exact len64_5 (n : Int) w (by omega) (by omega)
  by_cases h6 : n < 72057594037927936
  · exact len64_6 (n : Int) w (by omega) (by omega)
  exact len64_7 (n : Int) w (by omega) (by omega)
theorem bitLen_64 (n : Nat) (h : n < 18446744073709551616) : bitLen n ≤ 64 := by
  unfold bitLen
  split
  · omega
  · rename_i h0
    have := (Nat.log2_lt h0).2 (show n < 2 ^ 64 from h)
    omega
theorem lz64_any (n : Nat) (w : World) (h : n < 18446744073709551616) :
    Calls Tryd.prog 21 #[.int .u64 (n : Int)] w fun e w' => e = .returned (.int .i64 (64 - (bitLen n : Int))) ∧ w = w' := by
  have hb := bitLen_64 n h
  have hl := fun wx => len64_any n wx h
  generalize bitLen n = B at *
  have HL := hide hl; clear hl
  go_enter Tryd.func21, Tryd.ntmps21
  go_wp2_with fail
  refine (unhide HL _).mono ?_
  rintro e w1 ⟨rfl, rfl⟩
  go_wp2
  go_ret
  exact ⟨ret_int (by first | rfl | omega | (unfold wrap64; omega)), rfl⟩

/-- the library's table in its variable -/
def Tab (w : World) : Prop := ∀ j, j < 64 → w.cell? ⟨0, j, none⟩ = some (.int .u8 (Lib.deBruijn64tab.getD j 0))
theorem Tab.below {w w' : World} (h : Tab w) (hb : Below w.heap.size w w') : Tab w' := fun j hj => by
  have h1 := h j hj
  have hlt : 0 < w.heap.size := block_lt_of_cell h1
  exact (hb.cell (p := ⟨0, j, none⟩) hlt).trans h1

theorem tz_key (x a : Nat) (hx : x < 18446744073709551616) (hx0 : x ≠ 0) (hlow : x &&& (18446744073709551616 - x) = a) :
    IntKind.u64.wrap (bits BinOp.and IntKind.u64 (x : Int) (IntKind.u64.wrap (-(x : Int))) * 285870213051353865) / 288230376151711744 = ((a * 285870213051353865 % 18446744073709551616 / 288230376151711744 : Nat) : Int) := by
  have e1 : IntKind.u64.wrap (-(x : Int)) = ((18446744073709551616 - x : Nat) : Int) := by rw [IntKind.wrap_u64]; omega
  rw [e1, u64_and_nat x _ hx (by omega), hlow, IntKind.wrap_u64]
  omega
set_option maxHeartbeats 1000000 in
theorem tz_core (x k idx : Nat) (w : World) (hx0 : ((x : Int) == 0) = false)
    (key : IntKind.u64.wrap (bits BinOp.and IntKind.u64 (x : Int) (IntKind.u64.wrap (-(x : Int))) * 285870213051353865) / 288230376151711744 = (idx : Int))
    (hi : idx < 64) (hk : k < 64) (hcell : w.cell? ⟨0, idx, none⟩ = some (.int .u8 k)) :
    Calls Tryd.prog 23 #[.int .u64 x] w fun e w' => e = .returned (.int .i64 k) ∧ w = w' := by
  go_enter Tryd.func23, Tryd.ntmps23
  go_wp2_with (simp only [key])
  go_ret
  exact ⟨rfl, rfl⟩
theorem tz64_any (x : Nat) (hx : x < 18446744073709551616) (w : World) (hT : Tab w) :
    Calls Tryd.prog 23 #[.int .u64 x] w fun e w' => e = .returned (.int .i64 (Lib.ctz 64 x : Nat)) ∧ w = w' := by
  by_cases hx0 : x = 0
  · subst hx0
    go_enter Tryd.func23, Tryd.ntmps23
    go_wp2
    go_ret
    exact ⟨rfl, rfl⟩
  · obtain ⟨hlow, hk⟩ := Lib.lowest_bit 64 x hx0 hx
    obtain ⟨hi, htab⟩ := Lib.deBruijn64_at _ hk
    have hcell := hT _ hi
    rw [htab] at hcell
    exact tz_core x _ _ w (by simp; omega) (tz_key x _ hx hx0 hlow) hi hk hcell

theorem oc1 (n : Nat) (h : n < 18446744073709551616) : IntKind.u64.wrap (bits .and .u64 ((n : Int) / 2) 6148914691236517205 + bits .and .u64 (n : Int) 6148914691236517205) = (st1 n : Int) := by
  have e1 : bits .and .u64 ((n : Int) / 2) 6148914691236517205 = ((n / 2 &&& 6148914691236517205 : Nat) : Int) := u64_and_nat (n / 2) 6148914691236517205 (by omega) (by omega)
  have e2 : bits .and .u64 (n : Int) 6148914691236517205 = ((n &&& 6148914691236517205 : Nat) : Int) := u64_and_nat n 6148914691236517205 h (by omega)
  have b1 : n / 2 &&& 6148914691236517205 ≤ 6148914691236517205 := Nat.and_le_right
  have b2 : n &&& 6148914691236517205 ≤ 6148914691236517205 := Nat.and_le_right
  rw [e1, e2, IntKind.wrap_u64]; unfold st1; omega
theorem st1_lt (n : Nat) : st1 n < 18446744073709551616 := by
  have b1 : n / 2 &&& 6148914691236517205 ≤ 6148914691236517205 := Nat.and_le_right
  have b2 : n &&& 6148914691236517205 ≤ 6148914691236517205 := Nat.and_le_right
  unfold st1; omega
theorem oc2 (n : Nat) (h : n < 18446744073709551616) : IntKind.u64.wrap (bits .and .u64 ((n : Int) / 4) 3689348814741910323 + bits .and .u64 (n : Int) 3689348814741910323) = (st2 n : Int) := by
  have e1 : bits .and .u64 ((n : Int) / 4) 3689348814741910323 = ((n / 4 &&& 3689348814741910323 : Nat) : Int) := u64_and_nat (n / 4) 3689348814741910323 (by omega) (by omega)
  have e2 : bits .and .u64 (n : Int) 3689348814741910323 = ((n &&& 3689348814741910323 : Nat) : Int) := u64_and_nat n 3689348814741910323 h (by omega)
  have b1 : n / 4 &&& 3689348814741910323 ≤ 3689348814741910323 := Nat.and_le_right
  have b2 : n &&& 3689348814741910323 ≤ 3689348814741910323 := Nat.and_le_right
  rw [e1, e2, IntKind.wrap_u64]; unfold st2; omega
theorem st2_le (n : Nat) : st2 n ≤ 7378697629483820646 := by
  have b1 : n / 4 &&& 3689348814741910323 ≤ 3689348814741910323 := Nat.and_le_right
  have b2 : n &&& 3689348814741910323 ≤ 3689348814741910323 := Nat.and_le_right
  unfold st2; omega
theorem oc3 (n : Nat) (h : n ≤ 7378697629483820646) : bits .and .u64 (IntKind.u64.wrap ((n : Int) / 16 + (n : Int))) 1085102592571150095 = (st3 n : Int) := by
  have e1 : IntKind.u64.wrap ((n : Int) / 16 + (n : Int)) = ((n / 16 + n : Nat) : Int) := by rw [IntKind.wrap_u64]; omega
  rw [e1]; exact u64_and_nat (n / 16 + n) 1085102592571150095 (by omega) (by omega)
theorem oc4 (n : Nat) : IntKind.u64.wrap ((n : Int) + (n : Int) / 256) = (y1f n : Int) := by rw [IntKind.wrap_u64]; unfold y1f; omega
theorem oc5 (n : Nat) : IntKind.u64.wrap ((n : Int) + (n : Int) / 65536) = (y2f n : Int) := by rw [IntKind.wrap_u64]; unfold y2f; omega
theorem oc6 (n : Nat) : bits .and .i64 (wrap64 (IntKind.u64.wrap ((n : Int) + (n : Int) / 4294967296))) 127 = (y3f n : Int) := by
  rw [i64_and127, IntKind.wrap_u64]; unfold y3f wrap64; omega
set_option maxHeartbeats 400000 in
theorem ones_any (n : Nat) (w : World) (h : n < 18446744073709551616) :
    Calls Tryd.prog 24 #[.int .u64 (n : Int)] w fun e w' => e = .returned (.int .i64 (pcn 64 n : Nat)) ∧ w = w' := by
  go_enter Tryd.func24, Tryd.ntmps24
  go_wp2
  go_ret
  refine ⟨ret_int ?_, rfl⟩
  rw [oc1 n h, oc2 _ (st1_lt n), oc3 _ (st2_le _), oc4, oc5, oc6, ← ones_eq]
  rfl
end Go.Proofs.YtkmigcegeffonaaDoor
