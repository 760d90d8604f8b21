/- num's holds, divide, reckon, shift: what they return; the world stands. -/
import Derived.Test.YtkmigcegeffonaaDoorNumA
import Derived.Laws.BitsAllLaws
namespace Go.Proofs.YtkmigcegeffonaaDoor
open Go.RowKit
set_option linter.unusedVariables false

namespace Num
/-- does the comparison b (its number in I32) hold? -/
def cmpB (W : Nat) (b X Y : Int) : Bool :=
  if b = 70 then X == Y else if b = 71 then X != Y else if b = 72 then decide (sg W X < sg W Y) else if b = 73 then decide (X < Y)
  else if b = 74 then decide (sg W Y < sg W X) else if b = 75 then decide (Y < X) else if b = 76 then decide (sg W X ≤ sg W Y) else if b = 77 then decide (X ≤ Y)
  else if b = 78 then decide (sg W Y ≤ sg W X) else decide (Y ≤ X)
/-- what comes of the division b, and the trap -/
def dvV (W : Nat) (b X Y : Int) : Int :=
  if Y = 0 then 0 else if b = 109 then (if sg W Y = -1 ∧ sg W X = - hf W then 0 else lo W ((sg W X).tdiv (sg W Y))) else if b = 110 then X / Y
  else if b = 111 then lo W ((sg W X).tmod (sg W Y)) else X % Y
def dvT (W : Nat) (b X Y : Int) : Int :=
  if Y = 0 then 2 else if b = 109 then (if sg W Y = -1 ∧ sg W X = - hf W then 3 else 0) else 0
theorem lo_u64 (W : Nat) (hW : W = 32 ∨ W = 64) (z : Int) : lo W (IntKind.u64.wrap z) = lo W z := by
  rw [IntKind.wrap_u64]
  rcases hW with rfl | rfl <;> simp only [lo, pw_32, pw_64] <;> omega
theorem lo_m64 (W : Nat) (hW : W = 32 ∨ W = 64) (z : Int) : lo W (z % 18446744073709551616) = lo W z := by
  rcases hW with rfl | rfl <;> simp only [lo, pw_32, pw_64] <;> omega
theorem lo_w64 (W : Nat) (hW : W = 32 ∨ W = 64) (z : Int) : lo W (wrap64 z) = lo W z := by
  rcases hW with rfl | rfl <;> simp only [lo, pw_32, pw_64, wrap64] <;> omega
/-- what comes of 64 bits -/
def arV (b X Y : Int) : Int :=
  if b = 106 then X + Y else if b = 107 then X - Y else if b = 108 then X * Y else if b = 113 then ((X.toNat &&& Y.toNat : Nat) : Int)
  else if b = 114 then ((X.toNat ||| Y.toNat : Nat) : Int) else ((X.toNat ^^^ Y.toNat : Nat) : Int)
end Num
open Num

set_option maxHeartbeats 800000 in
theorem holds_any (W : Nat) (hW : W = 32 ∨ W = 64) (b X Y : Int) (hb : 70 ≤ b ∧ b ≤ 79) (w : World) (h0 : 0 ≤ X) (h1 : X < 18446744073709551616) (h2 : 0 ≤ Y) (h3 : Y < 18446744073709551616) :
    Calls Tryd.prog 30 #[.int .u8 (kd W), .int .u8 b, .int .u64 X, .int .u64 Y] w fun e w' => e = .returned (.bool (cmpB W b X Y)) ∧ w = w' := by
  have hx := sg_64 W hW X; have hy := sg_64 W hW Y
  go_enter Tryd.func30, Tryd.ntmps30
  go_wp2_with fail
  refine (withSign_any W hW X _ h0 h1).mono ?_
  rintro e w1 ⟨rfl, rfl⟩
  go_wp2_with fail
  refine (withSign_any W hW Y _ h2 h3).mono ?_
  rintro e w1 ⟨rfl, rfl⟩
  generalize hX : sg W X = a at *
  generalize hY : sg W Y = c at *
  have HX := hide hX; have HY := hide hY; clear hX hY
  rcases (show b = 70 ∨ b = 71 ∨ b = 72 ∨ b = 73 ∨ b = 74 ∨ b = 75 ∨ b = 76 ∨ b = 77 ∨ b = 78 ∨ b = 79 from by omega) with rfl | rfl | rfl | rfl | rfl | rfl | rfl | rfl | rfl | rfl
  all_goals
    clear hb
    go_wp2
    go_ret
    exact ⟨ret_bool (by have h1 := unhide HX; have h2 := unhide HY; simp [cmpB, h1, h2]), rfl⟩

theorem reck_and (X Y : Int) (h0 : 0 ≤ X) (h1 : X < 18446744073709551616) (h2 : 0 ≤ Y) (h3 : Y < 18446744073709551616) : bits .and .u64 X Y = arV 113 X Y % 18446744073709551616 := by
  rw [u64_and X Y h0 h1 h2 h3]
  have : X.toNat &&& Y.toNat < 2 ^ 64 := Nat.and_lt_two_pow _ (by omega)
  simp only [arV]; simp; omega
theorem reck_or (X Y : Int) (h0 : 0 ≤ X) (h1 : X < 18446744073709551616) (h2 : 0 ≤ Y) (h3 : Y < 18446744073709551616) : bits .or .u64 X Y = arV 114 X Y % 18446744073709551616 := by
  rw [u64_or X Y h0 h1 h2 h3]
  have : X.toNat ||| Y.toNat < 2 ^ 64 := Nat.or_lt_two_pow (by omega) (by omega)
  simp only [arV]; simp; omega
theorem reck_xor (X Y : Int) (h0 : 0 ≤ X) (h1 : X < 18446744073709551616) (h2 : 0 ≤ Y) (h3 : Y < 18446744073709551616) : bits .xor .u64 X Y = arV 115 X Y % 18446744073709551616 := by
  rw [u64_xor X Y h0 h1 h2 h3]
  have : X.toNat ^^^ Y.toNat < 2 ^ 64 := Nat.xor_lt_two_pow (by omega) (by omega)
  simp only [arV]; simp; omega
theorem u64_bd (z : Int) : 0 ≤ IntKind.u64.wrap z ∧ IntKind.u64.wrap z < 18446744073709551616 := by rw [IntKind.wrap_u64]; omega

set_option maxHeartbeats 800000 in
theorem reckon_any (b X Y : Int) (hb : (106 ≤ b ∧ b ≤ 108) ∨ (113 ≤ b ∧ b ≤ 115)) (w : World) (h0 : 0 ≤ X) (h1 : X < 18446744073709551616) (h2 : 0 ≤ Y) (h3 : Y < 18446744073709551616) :
    Calls Tryd.prog 32 #[.int .u8 b, .int .u64 X, .int .u64 Y] w fun e w' => e = .returned (.int .u64 (arV b X Y % 18446744073709551616)) ∧ w = w' := by
  rcases (show b = 106 ∨ b = 107 ∨ b = 108 ∨ b = 113 ∨ b = 114 ∨ b = 115 from by omega) with rfl | rfl | rfl | rfl | rfl | rfl
  all_goals
    clear hb
    go_enter Tryd.func32, Tryd.ntmps32
    go_wp2
    go_ret
    exact ⟨ret_int (by first | (rw [IntKind.wrap_u64]; simp [arV]) | exact reck_and X Y h0 h1 h2 h3 | exact reck_or X Y h0 h1 h2 h3 | exact reck_xor X Y h0 h1 h2 h3), rfl⟩

set_option maxHeartbeats 800000 in
theorem divide_any (W : Nat) (hW : W = 32 ∨ W = 64) (b X Y : Int) (hb : 109 ≤ b ∧ b ≤ 112) (w : World) (h0 : 0 ≤ X) (h1 : X < 18446744073709551616) (h2 : 0 ≤ Y) (h3 : Y < 18446744073709551616) (hsy : Y ≠ 0 → sg W Y ≠ 0) :
    Calls Tryd.prog 31 #[.int .u8 (kd W), .int .u8 b, .int .u64 X, .int .u64 Y] w fun e w' => e = .returned (.tuple #[.int .u64 (dvV W b X Y), .int .i64 (dvT W b X Y)]) ∧ w = w' := by
  by_cases hz : Y = 0
  · subst hz
    go_enter Tryd.func31, Tryd.ntmps31
    go_wp2
    go_ret2
    exact ⟨by simp [dvV, dvT], rfl⟩
  · have hx := sg_64 W hW X; have hy := sg_64 W hW Y
    have hne := hsy hz
    have hz2 : (Y == 0) = false := by simp [hz]
    go_enter Tryd.func31, Tryd.ntmps31
    go_wp2_with fail
    refine (withSign_any W hW X _ h0 h1).mono ?_
    rintro e w1 ⟨rfl, rfl⟩
    go_wp2_with fail
    refine (withSign_any W hW Y _ h2 h3).mono ?_
    rintro e w1 ⟨rfl, rfl⟩
    generalize hX : sg W X = a at *
    generalize hY : sg W Y = c at *
    have HX := hide hX; have HY := hide hY; clear hX hY
    have hne2 : (c == 0) = false := by simp [hne]
    rcases (show b = 109 ∨ b = 110 ∨ b = 111 ∨ b = 112 from by omega) with rfl | rfl | rfl | rfl
    · clear hb
      by_cases hc : c = -1
      · subst hc
        by_cases ha : a = - hf W
        · have ha2 : (a == - hf W) = true := by simp [ha]
          go_wp2_with fail
          refine (least_any W hW _).mono ?_
          rintro e w1 ⟨rfl, rfl⟩
          go_wp2_with fail
          go_ret2
          exact ⟨by have h1 := unhide HX; have h2 := unhide HY; simp [dvV, dvT, h1, h2, ha, hz], rfl⟩
        · have ha2 : (a == - hf W) = false := by simp [ha]
          go_wp2_with fail
          refine (least_any W hW _).mono ?_
          rintro e w1 ⟨rfl, rfl⟩
          go_wp2_with fail
          refine (cut_any W hW _ _ (u64_bd _).1 (u64_bd _).2).mono ?_
          rintro e w1 ⟨rfl, rfl⟩
          rw [lo_u64 W hW, lo_w64 W hW]
          go_wp2_with fail
          go_ret2
          exact ⟨by have h1 := unhide HX; have h2 := unhide HY; simp [dvV, dvT, h1, h2, ha, hz], rfl⟩
      · have hc2 : (c == -1) = false := by simp [hc]
        go_wp2_with fail
        refine (cut_any W hW _ _ (u64_bd _).1 (u64_bd _).2).mono ?_
        rintro e w1 ⟨rfl, rfl⟩
        rw [lo_u64 W hW, lo_w64 W hW]
        go_wp2_with fail
        go_ret2
        exact ⟨by have h1 := unhide HX; have h2 := unhide HY; simp [dvV, dvT, h1, h2, hc, hz], rfl⟩
    · clear hb
      go_wp2
      go_ret2
      exact ⟨by simp [dvV, dvT, hz], rfl⟩
    · clear hb
      go_wp2_with fail
      refine (cut_any W hW _ _ (u64_bd _).1 (u64_bd _).2).mono ?_
      rintro e w1 ⟨rfl, rfl⟩
      rw [lo_u64 W hW]
      go_wp2_with fail
      go_ret2
      exact ⟨by have h1 := unhide HX; have h2 := unhide HY; simp [dvV, dvT, h1, h2, hz], rfl⟩
    · clear hb
      go_wp2
      go_ret2
      exact ⟨by simp [dvV, dvT, hz], rfl⟩

namespace Num
/-- what comes of 64 bits, moved by less than the width; and what is left of it -/
def shW (W : Nat) (b X n : Int) : Int :=
  if b = 116 then IntKind.u64.wrap (X * 2 ^ n.toNat) else if b = 117 then IntKind.u64.wrap (sg W X / 2 ^ n.toNat) else if b = 118 then X / 2 ^ n.toNat
  else if b = 119 then bits .or .u64 (IntKind.u64.wrap (X * 2 ^ n.toNat)) (X / 2 ^ ((W : Int) - n).toNat)
  else bits .or .u64 (X / 2 ^ n.toNat) (IntKind.u64.wrap (X * 2 ^ ((W : Int) - n).toNat))
def shV (W : Nat) (b X n : Int) : Int :=
  if b = 116 then ((X.toNat * 2 ^ n.toNat % 2 ^ W : Nat) : Int) else if b = 117 then lo W (sg W X / 2 ^ n.toNat) else if b = 118 then ((X.toNat / 2 ^ n.toNat : Nat) : Int)
  else if b = 119 then ((X.toNat * 2 ^ n.toNat % 2 ^ W + X.toNat / 2 ^ (W - n.toNat) : Nat) : Int)
  else ((X.toNat * 2 ^ (W - n.toNat) % 2 ^ W + X.toNat / 2 ^ n.toNat : Nat) : Int)

theorem rot_nat (W M X : Nat) (hW : W ≤ 64) (hM : M ≤ W) (hX : X < 2 ^ W) : ((X * 2 ^ M % 2 ^ 64) ||| (X / 2 ^ (W - M))) % 2 ^ W = X * 2 ^ M % 2 ^ W + X / 2 ^ (W - M) ∧ X / 2 ^ (W - M) < 2 ^ M ∧ X * 2 ^ M % 2 ^ W + 2 ^ M ≤ 2 ^ W := by
  have hb : X / 2 ^ (W - M) < 2 ^ M := Nat.div_lt_of_lt_mul (by rw [← Nat.pow_add, show W - M + M = W by omega]; exact hX)
  have ha : X * 2 ^ M % 2 ^ 64 % 2 ^ M = 0 := by rw [Nat.mod_mod_of_dvd _ (Nat.pow_dvd_pow 2 (by omega))]; exact Nat.mul_mod_left _ _
  rw [nat_join M _ _ ha hb, Nat.add_mod, Nat.mod_mod_of_dvd _ (Nat.pow_dvd_pow 2 hW), Nat.mod_eq_of_lt (Nat.lt_of_le_of_lt (Nat.div_le_self X _) hX)]
  have hc0 : X * 2 ^ M % 2 ^ W % 2 ^ M = 0 := by rw [Nat.mod_mod_of_dvd _ (Nat.pow_dvd_pow 2 hM)]; exact Nat.mul_mod_left _ _
  have hc1 : X * 2 ^ M % 2 ^ W < 2 ^ W := Nat.mod_lt _ (Nat.two_pow_pos W)
  generalize X * 2 ^ M % 2 ^ W = c at *
  have hq : c / 2 ^ M < 2 ^ (W - M) := Nat.div_lt_of_lt_mul (by rw [← Nat.pow_add, show M + (W - M) = W by omega]; exact hc1)
  have hcm : 2 ^ M * (c / 2 ^ M) = c := by have := Nat.div_add_mod c (2 ^ M); omega
  have hle : 2 ^ M * (c / 2 ^ M + 1) ≤ 2 ^ M * 2 ^ (W - M) := Nat.mul_le_mul_left _ hq
  rw [← Nat.pow_add, show M + (W - M) = W by omega, Nat.mul_add, hcm] at hle
  exact ⟨Nat.mod_eq_of_lt (by omega), hb, by omega⟩

theorem pw_eq (W : Nat) (hW : W = 32 ∨ W = 64) : pw W = ((2 ^ W : Nat) : Int) := by rcases hW with rfl | rfl <;> rfl
theorem lo_nat (W : Nat) (hW : W = 32 ∨ W = 64) (n : Nat) : lo W (n : Int) = ((n % 2 ^ W : Nat) : Int) := by
  rw [lo, pw_eq W hW]; simp
theorem shW_bd (W : Nat) (hW : W = 32 ∨ W = 64) (b X n : Int) (h0 : 0 ≤ X) (h1 : X < 18446744073709551616) : 0 ≤ shW W b X n ∧ shW W b X n < 18446744073709551616 := by
  have hd : ∀ k : Nat, 0 ≤ X / 2 ^ k ∧ X / 2 ^ k < 18446744073709551616 := fun k => by
    have h2 : (0 : Int) < 2 ^ k := Int.pow_pos (by omega)
    refine ⟨Int.ediv_nonneg h0 (Int.le_of_lt h2), ?_⟩
    have := Int.ediv_le_self (2 ^ k) h0
    omega
  have hor : ∀ u v : Int, (0 ≤ u ∧ u < 18446744073709551616) → (0 ≤ v ∧ v < 18446744073709551616) → 0 ≤ bits .or .u64 u v ∧ bits .or .u64 u v < 18446744073709551616 := fun u v hu hv => by
    rw [u64_or u v hu.1 hu.2 hv.1 hv.2]
    have : u.toNat ||| v.toNat < 2 ^ 64 := Nat.or_lt_two_pow (by omega) (by omega)
    omega
  have hw : ∀ z, 0 ≤ IntKind.u64.wrap z ∧ IntKind.u64.wrap z < 18446744073709551616 := fun z => by rw [IntKind.wrap_u64]; omega
  unfold shW
  repeat' split
  · exact hw _
  · exact hw _
  · exact hd _
  · exact hor _ _ (hw _) (hd _)
  · exact hor _ _ (hd _) (hw _)

theorem lo_shW (W : Nat) (hW : W = 32 ∨ W = 64) (b X n : Int) (h0 : 0 ≤ X) (h1 : X < pw W) (h2 : 0 ≤ n) (h3 : n < W) : lo W (shW W b X n) = shV W b X n := by
  obtain ⟨m, rfl⟩ := Int.eq_ofNat_of_zero_le h0
  obtain ⟨k, rfl⟩ := Int.eq_ofNat_of_zero_le h2
  have hk : k < W := by omega
  have hm : m < 2 ^ W := by rw [pw_eq W hW] at h1; exact_mod_cast h1
  have hW64 : W ≤ 64 := by omega
  have hm64 : m < 2 ^ 64 := Nat.lt_of_lt_of_le hm (Nat.pow_le_pow_right (by omega) hW64)
  have hd : ∀ j : Nat, (m : Int) / 2 ^ j = ((m / 2 ^ j : Nat) : Int) := fun j => by simp
  have hu : ∀ j : Nat, IntKind.u64.wrap ((m : Int) * 2 ^ j) = ((m * 2 ^ j % 2 ^ 64 : Nat) : Int) := fun j => by rw [IntKind.wrap_u64]; simp
  have hdl : ∀ j : Nat, m / 2 ^ j < 2 ^ 64 := fun j => Nat.lt_of_le_of_lt (Nat.div_le_self _ _) hm64
  have hul : ∀ j : Nat, m * 2 ^ j % 2 ^ 64 < 2 ^ 64 := fun j => Nat.mod_lt _ (by omega)
  have hmod : ∀ j : Nat, m * 2 ^ j % 2 ^ 64 % 2 ^ W = m * 2 ^ j % 2 ^ W := fun j => Nat.mod_mod_of_dvd _ (Nat.pow_dvd_pow 2 hW64)
  have hWk : ((W : Int) - (k : Int)).toNat = W - k := by omega
  have hWW : W - (W - k) = k := by omega
  simp only [shW, shV, Int.toNat_natCast, hWk]
  repeat' split
  · rw [hu, lo_nat W hW, hmod]
  · rw [lo_u64 W hW]
  · rw [hd, lo_nat W hW, Nat.mod_eq_of_lt (Nat.lt_of_le_of_lt (Nat.div_le_self _ _) hm)]
  · rw [hu, hd, u64_or_nat _ _ (hul _) (hdl _), lo_nat W hW, (rot_nat W k m hW64 (by omega) hm).1]
  · rw [hu, hd, u64_or_nat _ _ (hdl _) (hul _), lo_nat W hW, Nat.or_comm]
    have := (rot_nat W (W - k) m hW64 (by omega) hm).1
    rw [hWW] at this
    rw [this]
end Num
open Num

set_option maxHeartbeats 800000 in
theorem shift_any (W : Nat) (hW : W = 32 ∨ W = 64) (b X n : Int) (hb : 116 ≤ b ∧ b ≤ 120) (w : World) (h0 : 0 ≤ X) (h1 : X < 18446744073709551616) (h2 : 0 ≤ n) (h3 : n < W) :
    Calls Tryd.prog 33 #[.int .u8 (kd W), .int .u8 b, .int .u64 X, .int .u64 n] w fun e w' => e = .returned (.int .u64 (shW W b X n)) ∧ w = w' := by
  have hx := sg_64 W hW X
  rcases (show b = 116 ∨ b = 117 ∨ b = 118 ∨ b = 119 ∨ b = 120 from by omega) with rfl | rfl | rfl | rfl | rfl
  · clear hb
    go_enter Tryd.func33, Tryd.ntmps33
    go_wp2
    go_ret
    exact ⟨ret_int (by simp [shW]), rfl⟩
  · clear hb
    go_enter Tryd.func33, Tryd.ntmps33
    go_wp2_with fail
    refine (withSign_any W hW X _ h0 h1).mono ?_
    rintro e w1 ⟨rfl, rfl⟩
    go_wp2
    go_ret
    exact ⟨ret_int (by simp [shW]), rfl⟩
  · clear hb
    go_enter Tryd.func33, Tryd.ntmps33
    go_wp2
    go_ret
    exact ⟨ret_int (by simp [shW]), rfl⟩
  · clear hb
    go_enter Tryd.func33, Tryd.ntmps33
    go_wp2_with fail
    refine (width_any W hW _).mono ?_
    rintro e w1 ⟨rfl, rfl⟩
    go_wp2
    go_ret
    exact ⟨ret_int (by simp [shW]), rfl⟩
  · clear hb
    go_enter Tryd.func33, Tryd.ntmps33
    go_wp2_with fail
    refine (width_any W hW _).mono ?_
    rintro e w1 ⟨rfl, rfl⟩
    go_wp2
    go_ret
    exact ⟨ret_int (by simp [shW]), rfl⟩
end Go.Proofs.YtkmigcegeffonaaDoor
