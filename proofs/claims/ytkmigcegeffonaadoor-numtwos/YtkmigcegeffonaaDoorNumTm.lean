/- NumTurns: turned and turned back; moved up and down: plain mathematics. -/
import Derived.Test.YtkmigcegeffonaaDoorNumE
namespace Go.Proofs.YtkmigcegeffonaaDoor.Num

/-- turned up by n of W bits -/
def rl (W n X : Nat) : Nat := X * 2 ^ n % 2 ^ W + X / 2 ^ (W - n)
theorem rl_parts (W n X : Nat) (hn : n ≤ W) (hX : X < 2 ^ W) : rl W n X = 2 ^ n * (X % 2 ^ (W - n)) + X / 2 ^ (W - n) ∧ X / 2 ^ (W - n) < 2 ^ n := by
  have hp : 2 ^ W = 2 ^ (W - n) * 2 ^ n := by rw [← Nat.pow_add, show W - n + n = W by omega]
  refine ⟨?_, Nat.div_lt_of_lt_mul (by rw [← hp]; exact hX)⟩
  unfold rl
  rw [hp, Nat.mul_mod_mul_right, Nat.mul_comm]
theorem rl_lt (W n X : Nat) (hn : n ≤ W) (hX : X < 2 ^ W) : rl W n X < 2 ^ W := by
  obtain ⟨h1, h2⟩ := rl_parts W n X hn hX
  have hp : 2 ^ W = 2 ^ n * 2 ^ (W - n) := by rw [← Nat.pow_add, show n + (W - n) = W by omega]
  have h3 : X % 2 ^ (W - n) < 2 ^ (W - n) := Nat.mod_lt _ (Nat.two_pow_pos _)
  have h4 : 2 ^ n * (X % 2 ^ (W - n) + 1) ≤ 2 ^ n * 2 ^ (W - n) := Nat.mul_le_mul_left _ h3
  rw [Nat.mul_add] at h4
  rw [h1, hp]; omega
/-- turned back it is the same -/
theorem rl_back (W n X : Nat) (hn : n ≤ W) (hX : X < 2 ^ W) : rl W n X * 2 ^ (W - n) % 2 ^ W + rl W n X / 2 ^ n = X := by
  obtain ⟨h1, h2⟩ := rl_parts W n X hn hX
  have hpos : 0 < 2 ^ n := Nat.two_pow_pos n
  have hp : 2 ^ W = 2 ^ n * 2 ^ (W - n) := by rw [← Nat.pow_add, show n + (W - n) = W by omega]
  have hd : rl W n X / 2 ^ n = X % 2 ^ (W - n) := by
    rw [h1, Nat.mul_add_div hpos, Nat.div_eq_of_lt h2]; rfl
  have hm : rl W n X % 2 ^ n = X / 2 ^ (W - n) := by
    rw [h1, Nat.mul_add_mod, Nat.mod_eq_of_lt h2]
  rw [hp, Nat.mul_mod_mul_right, hm, hd, Nat.mul_comm]
  exact Nat.div_add_mod X (2 ^ (W - n))
theorem rl_pcn (W n X : Nat) (hn : n ≤ W) (hX : X < 2 ^ W) : pcn W (rl W n X) = pcn W X := by
  obtain ⟨h1, h2⟩ := rl_parts W n X hn hX
  have hpos : 0 < 2 ^ n := Nat.two_pow_pos n
  have hd : rl W n X / 2 ^ n = X % 2 ^ (W - n) := by
    rw [h1, Nat.mul_add_div hpos, Nat.div_eq_of_lt h2]; rfl
  have hm : rl W n X % 2 ^ n = X / 2 ^ (W - n) := by
    rw [h1, Nat.mul_add_mod, Nat.mod_eq_of_lt h2]
  have e1 := pcn_add n (W - n) (rl W n X)
  have e2 := pcn_add (W - n) n X
  rw [show n + (W - n) = W by omega, hm, hd] at e1
  rw [show W - n + n = W by omega] at e2
  omega
theorem pcn_w (W X : Nat) (hW : W ≤ 64) (hX : X < 2 ^ W) : pcn 64 X = pcn W X := by
  have e := pcn_add W (64 - W) X
  rw [show W + (64 - W) = 64 by omega, Nat.mod_eq_of_lt hX, Nat.div_eq_of_lt hX, pcn_zero] at e
  omega
/-- moved up, and down again -/
theorem up_down (W n X : Nat) (hn : n ≤ W) : X * 2 ^ n % 2 ^ W / 2 ^ n = X % 2 ^ (W - n) := by
  have hp : 2 ^ W = 2 ^ (W - n) * 2 ^ n := by rw [← Nat.pow_add, show W - n + n = W by omega]
  rw [hp, Nat.mul_mod_mul_right, Nat.mul_div_cancel _ (Nat.two_pow_pos n)]
end Go.Proofs.YtkmigcegeffonaaDoor.Num
namespace Go.Proofs.YtkmigcegeffonaaDoor
open Go.RowKit Num
set_option linter.unusedVariables false
def ansT (o x y v : Int) : Prop := ∀ wx, Calls Tryd.prog 13 #[.int .u8 o, .int .u64 x, .int .u64 y] wx fun e w' => e = .returned (.tuple #[.int .u64 v, .int .i64 0, .nilIface]) ∧ wx = w'
def ansO (o x v : Int) : Prop := ∀ wx, Calls Tryd.prog 9 #[.int .u8 o, .int .u64 x] wx fun e w' => e = .returned (.tuple #[.int .u64 v, .nilIface]) ∧ wx = w'
theorem turns_all (W : Nat) (hW : W = 32 ∨ W = 64) (o1 o2 o3 o4 o5 : Int) (h1 : o1 = opc W 119) (h2 : o2 = opc W 120) (h3 : o3 = opc W 105) (h4 : o4 = opc W 116) (h5 : o5 = opc W 118)
    (X n : Int) (x0 : 0 ≤ X) (x1 : X < pw W) (n0 : 0 ≤ n) (n1 : n < 18446744073709551616) :
    ∃ A C U : Int, ansT o1 X n A ∧ ansT o2 A n X ∧ ansO o3 X C ∧ ansO o3 A C ∧ ansT o4 X n U ∧ ansT o5 U n ((X.toNat % 2 ^ (W - (n % W).toNat) : Nat) : Int) := by
  have hp : pw W ≤ 18446744073709551616 := by rcases hW with rfl | rfl <;> simp only [pw_32, pw_64] <;> omega
  have hl : ∀ z : Int, 0 ≤ z → z < pw W → lo W z = z := fun z a b => by unfold lo; exact Int.emod_eq_of_lt a b
  have hk : lo W n % (W : Int) = n % W := by
    rcases hW with rfl | rfl <;> simp only [lo, pw_32, pw_64] <;> omega
  have hkn : 0 ≤ n % (W : Int) ∧ n % (W : Int) < W := ⟨Int.emod_nonneg _ (by omega), Int.emod_lt_of_pos _ (by omega)⟩
  obtain ⟨x, rfl⟩ := Int.eq_ofNat_of_zero_le x0
  obtain ⟨k, hkk⟩ := Int.eq_ofNat_of_zero_le hkn.1
  rw [hkk] at hk hkn ⊢
  have hkW : k ≤ W := by omega
  have hx2 : x < 2 ^ W := by rw [pw_eq W hW] at x1; exact_mod_cast x1
  have hA := rl_lt W k x hkW hx2
  have hAI : (0 : Int) ≤ (rl W k x : Nat) ∧ ((rl W k x : Nat) : Int) < pw W := by rw [pw_eq W hW]; exact ⟨by omega, by exact_mod_cast hA⟩
  have hUI : (0 : Int) ≤ (x * 2 ^ k % 2 ^ W : Nat) ∧ ((x * 2 ^ k % 2 ^ W : Nat) : Int) < pw W := by
    rw [pw_eq W hW]; exact ⟨by omega, by exact_mod_cast Nat.mod_lt _ (Nat.two_pow_pos W)⟩
  have hW64 : W ≤ 64 := by omega
  refine ⟨(rl W k x : Nat), (pcn W x : Nat), (x * 2 ^ k % 2 ^ W : Nat), fun wx => ?_, fun wx => ?_, fun wx => ?_, fun wx => ?_, fun wx => ?_, fun wx => ?_⟩
  · have := two_sh W hW 119 o1 x n h1 (by omega) wx x0 (by omega) n0 n1
    rw [hl _ x0 x1, hk] at this
    exact this
  · have := two_sh W hW 120 o2 (rl W k x : Nat) n h2 (by omega) wx hAI.1 (by omega) n0 n1
    rw [hl _ hAI.1 hAI.2, hk] at this
    have e : shV W 120 ((rl W k x : Nat) : Int) (k : Int) = (x : Int) := by
      simp only [shV, Int.toNat_natCast]
      rw [if_neg (by omega), if_neg (by omega), if_neg (by omega), if_neg (by omega), rl_back W k x hkW hx2]
    rw [e] at this
    exact this
  · have := one_pop W hW o3 x h3 wx x0 (by omega)
    rw [hl _ x0 x1, Int.toNat_natCast, pcn_w W x hW64 hx2] at this
    exact this
  · have := one_pop W hW o3 (rl W k x : Nat) h3 wx hAI.1 (by omega)
    rw [hl _ hAI.1 hAI.2, Int.toNat_natCast, pcn_w W _ hW64 hA, rl_pcn W k x hkW hx2] at this
    exact this
  · have := two_sh W hW 116 o4 x n h4 (by omega) wx x0 (by omega) n0 n1
    rw [hl _ x0 x1, hk] at this
    exact this
  · have := two_sh W hW 118 o5 (x * 2 ^ k % 2 ^ W : Nat) n h5 (by omega) wx hUI.1 (by omega) n0 n1
    rw [hl _ hUI.1 hUI.2, hk] at this
    have e : shV W 118 ((x * 2 ^ k % 2 ^ W : Nat) : Int) (k : Int) = ((x % 2 ^ (W - k) : Nat) : Int) := by
      simp only [shV, Int.toNat_natCast]
      rw [if_neg (by omega), if_neg (by omega), if_pos trivial, up_down W k x hkW]
    rw [e] at this
    exact this
end Go.Proofs.YtkmigcegeffonaaDoor
