/- Plain mathematics: how many ones stand in a number, reckoned by halves; and bit by bit. -/
import Derived.Test.YtkmigcegeffonaaDoorNumB
namespace Go.Proofs.YtkmigcegeffonaaDoor.Num

/-- how many ones stand in the lowest so many bits -/
def pcn : Nat → Nat → Nat
  | 0, _ => 0
  | k + 1, n => n % 2 + pcn k (n / 2)
theorem pcn_le : ∀ (k n : Nat), pcn k n ≤ k
  | 0, _ => by simp [pcn]
  | k + 1, n => by have := pcn_le k (n / 2); simp only [pcn]; omega
theorem pcn_zero : ∀ (k : Nat), pcn k 0 = 0
  | 0 => rfl
  | k + 1 => by simp [pcn, pcn_zero k]
theorem pcn_add : ∀ (a b n : Nat), pcn (a + b) n = pcn a (n % 2 ^ a) + pcn b (n / 2 ^ a)
  | 0, b, n => by simp [pcn]
  | a + 1, b, n => by
    rw [show a + 1 + b = (a + b) + 1 by omega]
    simp only [pcn]
    rw [pcn_add a b (n / 2)]
    have h1 : n % 2 ^ (a + 1) % 2 = n % 2 := Nat.mod_mod_of_dvd _ ⟨2 ^ a, by rw [Nat.pow_succ, Nat.mul_comm]⟩
    have h2 : n % 2 ^ (a + 1) / 2 = n / 2 % 2 ^ a := by
      rw [show 2 ^ (a + 1) = 2 * 2 ^ a by rw [Nat.pow_succ, Nat.mul_comm], Nat.mod_mul_right_div_self]
    have h3 : n / 2 / 2 ^ a = n / 2 ^ (a + 1) := by rw [Nat.div_div_eq_div_mul, show 2 * 2 ^ a = 2 ^ (a + 1) by rw [Nat.pow_succ, Nat.mul_comm]]
    rw [h1, h2, h3]; omega
theorem pcn_mod (a n : Nat) : pcn a (n % 2 ^ a) = pcn a n := by
  have := pcn_add a 0 n
  simp only [pcn] at this
  rw [Nat.add_zero] at this; omega

/-- byte by byte -/
def dg (f : Nat → Nat) : Nat → Nat → Nat
  | 0, _ => 0
  | k + 1, n => f (n % 256) + 256 * dg f k (n / 256)
def rep (m : Nat) : Nat → Nat
  | 0 => 0
  | k + 1 => m + 256 * rep m k
theorem and_byte (n m M : Nat) (hm : m < 256) : n &&& (m + 256 * M) = (n % 256 &&& m) + 256 * (n / 256 &&& M) := by
  have h1 : (n &&& (m + 256 * M)) % 2 ^ 8 = (n % 256 &&& m) := by
    rw [Nat.and_mod_two_pow]; congr 1; omega
  have h2 : (n &&& (m + 256 * M)) / 2 ^ 8 = (n / 256 &&& M) := by
    rw [Nat.and_div_two_pow]; congr 1; omega
  have := Nat.div_add_mod (n &&& (m + 256 * M)) (2 ^ 8)
  rw [h1, h2] at this
  omega
theorem dg_congr {f g : Nat → Nat} (h : ∀ a, a < 256 → f a = g a) : ∀ (k n : Nat), dg f k n = dg g k n
  | 0, _ => rfl
  | k + 1, n => by simp only [dg]; rw [h _ (by omega), dg_congr h k]
theorem dg_add (f g : Nat → Nat) : ∀ (k n : Nat), dg f k n + dg g k n = dg (fun a => f a + g a) k n
  | 0, _ => rfl
  | k + 1, n => by simp only [dg]; rw [← dg_add f g k]; omega
theorem dg_comp (f g : Nat → Nat) (h : ∀ a, a < 256 → f a < 256) : ∀ (k n : Nat), dg g k (dg f k n) = dg (fun a => g (f a)) k n
  | 0, _ => rfl
  | k + 1, n => by
    have h1 := h (n % 256) (by omega)
    simp only [dg]
    rw [show (f (n % 256) + 256 * dg f k (n / 256)) % 256 = f (n % 256) by omega, show (f (n % 256) + 256 * dg f k (n / 256)) / 256 = dg f k (n / 256) by omega, dg_comp f g h k]
theorem dg_and (m : Nat) (hm : m < 256) : ∀ (k n : Nat), n &&& rep m k = dg (fun a => a &&& m) k n
  | 0, n => by simp [rep, dg]
  | k + 1, n => by simp only [rep, dg]; rw [and_byte n m _ hm, dg_and m hm k]
theorem dg_half (j m : Nat) (hm : m < 256) (h : ∀ a, a < 256 * 2 ^ j → (a / 2 ^ j &&& m) = (a % 256 / 2 ^ j &&& m)) : ∀ (k n : Nat), n / 2 ^ j &&& rep m k = dg (fun a => a / 2 ^ j &&& m) k n
  | 0, n => by simp [rep, dg]
  | k + 1, n => by
    simp only [rep, dg]
    have hd : n / 2 ^ j / 256 = n / 256 / 2 ^ j := by rw [Nat.div_div_eq_div_mul, Nat.mul_comm, ← Nat.div_div_eq_div_mul]
    rw [and_byte _ m _ hm, hd, dg_half j m hm h k]
    have h1 := h (n % (256 * 2 ^ j)) (Nat.mod_lt _ (Nat.mul_pos (by omega) (Nat.two_pow_pos j)))
    have h2 : n % (256 * 2 ^ j) / 2 ^ j = n / 2 ^ j % 256 := by rw [Nat.mul_comm, Nat.mod_mul_right_div_self]
    have h3 : n % (256 * 2 ^ j) % 256 = n % 256 := Nat.mod_mod_of_dvd _ ⟨2 ^ j, rfl⟩
    rw [h2, h3] at h1
    rw [h1]
theorem dg_nib (f : Nat → Nat) (h : ∀ a, a < 256 → f a / 16 ≤ 4 ∧ f a % 16 ≤ 4) : ∀ (k n : Nat), (dg f k n / 16 + dg f k n) &&& rep 15 k = dg (fun a => f a / 16 + f a % 16) k n
  | 0, n => by simp [rep, dg]
  | k + 1, n => by
    have h1 := h (n % 256) (by omega)
    have hr : dg f k (n / 256) % 16 ≤ 4 := by
      cases k with
      | zero => simp [dg]
      | succ k => simp only [dg]; have := h (n / 256 % 256) (by omega); omega
    have ih := dg_nib f h k (n / 256)
    simp only [rep, dg]
    generalize dg f k (n / 256) = r at *
    generalize f (n % 256) = a at *
    rw [and_byte _ 15 _ (by omega)]
    rw [show ((a + 256 * r) / 16 + (a + 256 * r)) / 256 = r / 16 + r by omega, ih, show ((a + 256 * r) / 16 + (a + 256 * r)) % 256 = a / 16 + a + 16 * (r % 16) by omega]
    rw [show (15 : Nat) = 2 ^ 4 - 1 from rfl, Nat.and_two_pow_sub_one_eq_mod]
    omega

def st1 (n : Nat) : Nat := (n / 2 &&& 6148914691236517205) + (n &&& 6148914691236517205)
def st2 (n : Nat) : Nat := (n / 4 &&& 3689348814741910323) + (n &&& 3689348814741910323)
def st3 (n : Nat) : Nat := (n / 16 + n) &&& 1085102592571150095
def by1 (a : Nat) : Nat := (a / 2 &&& 85) + (a &&& 85)
def by2 (a : Nat) : Nat := (a / 4 &&& 51) + (a &&& 51)
theorem f1 : ∀ a, a < 512 → (a / 2 &&& 85) = (a % 256 / 2 &&& 85) := by decide +kernel
theorem f2 : ∀ a, a < 1024 → (a / 4 &&& 51) = (a % 256 / 4 &&& 51) := by decide +kernel
theorem g1 : ∀ a, a < 256 → by1 a < 256 := by decide +kernel
theorem g2 : ∀ a, a < 256 → by2 (by1 a) / 16 ≤ 4 ∧ by2 (by1 a) % 16 ≤ 4 := by decide +kernel
theorem g3 : ∀ a, a < 256 → by2 (by1 a) / 16 + by2 (by1 a) % 16 = pcn 8 a := by decide +kernel
theorem st_dg (n : Nat) : st3 (st2 (st1 n)) = dg (pcn 8) 8 n := by
  have r1 : rep 85 8 = 6148914691236517205 := by decide
  have r2 : rep 51 8 = 3689348814741910323 := by decide
  have r3 : rep 15 8 = 1085102592571150095 := by decide
  have e1 : st1 n = dg by1 8 n := by
    unfold st1
    rw [← r1, show n / 2 = n / 2 ^ 1 from rfl, dg_half 1 85 (by omega) f1, dg_and 85 (by omega), dg_add]
    rfl
  have e2 : ∀ m, st2 m = dg by2 8 m := fun m => by
    unfold st2
    rw [← r2, show m / 4 = m / 2 ^ 2 from rfl, dg_half 2 51 (by omega) f2, dg_and 51 (by omega), dg_add]
    rfl
  rw [e2, e1, dg_comp by1 by2 g1]
  unfold st3
  rw [← r3, dg_nib _ g2]
  exact dg_congr g3 8 n
theorem pcn_bytes : ∀ (k n : Nat), pcn (8 * (k + 1)) n = pcn 8 (n % 256) + pcn (8 * k) (n / 256) := fun k n => by
  rw [show 8 * (k + 1) = 8 + 8 * k by omega, pcn_add]
def y1f (s : Nat) : Nat := (s + s / 256) % 18446744073709551616
def y2f (y : Nat) : Nat := (y + y / 65536) % 18446744073709551616
def y3f (y : Nat) : Nat := (y + y / 4294967296) % 18446744073709551616 % 128
def ones (n : Nat) : Nat := y3f (y2f (y1f (st3 (st2 (st1 n)))))
theorem pcn_64 (n : Nat) : pcn 64 n = pcn 8 (n % 256) + (pcn 8 (n / 256 % 256) + (pcn 8 (n / 256 / 256 % 256) + (pcn 8 (n / 256 / 256 / 256 % 256) + (pcn 8 (n / 256 / 256 / 256 / 256 % 256) + (pcn 8 (n / 256 / 256 / 256 / 256 / 256 % 256) + (pcn 8 (n / 256 / 256 / 256 / 256 / 256 / 256 % 256) + pcn 8 (n / 256 / 256 / 256 / 256 / 256 / 256 / 256 % 256))))))) := by
  have h7 := pcn_bytes 7 n
  have h6 := pcn_bytes 6 (n / 256)
  have h5 := pcn_bytes 5 (n / 256 / 256)
  have h4 := pcn_bytes 4 (n / 256 / 256 / 256)
  have h3 := pcn_bytes 3 (n / 256 / 256 / 256 / 256)
  have h2 := pcn_bytes 2 (n / 256 / 256 / 256 / 256 / 256)
  have h1 := pcn_bytes 1 (n / 256 / 256 / 256 / 256 / 256 / 256)
  have h0 := pcn_mod 8 (n / 256 / 256 / 256 / 256 / 256 / 256 / 256)
  simp only [Nat.reduceAdd, Nat.reduceMul, Nat.reducePow] at h7 h6 h5 h4 h3 h2 h1 h0
  rw [h7, h6, h5, h4, h3, h2, h1, h0]
theorem div_lo (L H m : Nat) (h : L < m) : (L + m * H) / m = H := by
  rw [Nat.add_mul_div_left _ _ (by omega), Nat.div_eq_of_lt h, Nat.zero_add]
theorem fin_eq (c0 c1 c2 c3 c4 c5 c6 c7 : Nat) (b0 : c0 ≤ 8) (b1 : c1 ≤ 8) (b2 : c2 ≤ 8) (b3 : c3 ≤ 8) (b4 : c4 ≤ 8) (b5 : c5 ≤ 8) (b6 : c6 ≤ 8) (b7 : c7 ≤ 8) :
    y3f (y2f (y1f (c0 + 256 * c1 + 65536 * c2 + 16777216 * c3 + 4294967296 * c4 + 1099511627776 * c5 + 281474976710656 * c6 + 72057594037927936 * c7))) = c0 + c1 + c2 + c3 + c4 + c5 + c6 + c7 := by
  have f1 : y1f (c0 + 256 * c1 + 65536 * c2 + 16777216 * c3 + 4294967296 * c4 + 1099511627776 * c5 + 281474976710656 * c6 + 72057594037927936 * c7) = (c0 + c1) + 256 * (c1 + c2) + 65536 * (c2 + c3) + 16777216 * (c3 + c4) + 4294967296 * (c4 + c5) + 1099511627776 * (c5 + c6) + 281474976710656 * (c6 + c7) + 72057594037927936 * c7 := by
    unfold y1f; omega
  rw [f1]; clear f1
  have f3 : y2f ((c0 + c1) + 256 * (c1 + c2) + 65536 * (c2 + c3) + 16777216 * (c3 + c4) + 4294967296 * (c4 + c5) + 1099511627776 * (c5 + c6) + 281474976710656 * (c6 + c7) + 72057594037927936 * c7) = (c0 + c1 + c2 + c3) + 256 * (c1 + c2 + c3 + c4) + 65536 * (c2 + c3 + c4 + c5) + 16777216 * (c3 + c4 + c5 + c6) + 4294967296 * (c4 + c5 + c6 + c7) + 1099511627776 * (c5 + c6 + c7) + 281474976710656 * (c6 + c7) + 72057594037927936 * c7 := by
    have q := div_lo ((c0 + c1) + 256 * (c1 + c2)) ((c2 + c3) + 256 * (c3 + c4) + 65536 * (c4 + c5) + 16777216 * (c5 + c6) + 4294967296 * (c6 + c7) + 1099511627776 * c7) 65536 (by omega)
    rw [show (c0 + c1) + 256 * (c1 + c2) + 65536 * ((c2 + c3) + 256 * (c3 + c4) + 65536 * (c4 + c5) + 16777216 * (c5 + c6) + 4294967296 * (c6 + c7) + 1099511627776 * c7) = (c0 + c1) + 256 * (c1 + c2) + 65536 * (c2 + c3) + 16777216 * (c3 + c4) + 4294967296 * (c4 + c5) + 1099511627776 * (c5 + c6) + 281474976710656 * (c6 + c7) + 72057594037927936 * c7 by omega] at q
    unfold y2f; rw [q]; clear q; rw [Nat.mod_eq_of_lt (by omega)]; omega
  rw [f3]; clear f3
  have q := div_lo ((c0 + c1 + c2 + c3) + 256 * (c1 + c2 + c3 + c4) + 65536 * (c2 + c3 + c4 + c5) + 16777216 * (c3 + c4 + c5 + c6)) ((c4 + c5 + c6 + c7) + 256 * (c5 + c6 + c7) + 65536 * (c6 + c7) + 16777216 * c7) 4294967296 (by omega)
  rw [show (c0 + c1 + c2 + c3) + 256 * (c1 + c2 + c3 + c4) + 65536 * (c2 + c3 + c4 + c5) + 16777216 * (c3 + c4 + c5 + c6) + 4294967296 * ((c4 + c5 + c6 + c7) + 256 * (c5 + c6 + c7) + 65536 * (c6 + c7) + 16777216 * c7) = (c0 + c1 + c2 + c3) + 256 * (c1 + c2 + c3 + c4) + 65536 * (c2 + c3 + c4 + c5) + 16777216 * (c3 + c4 + c5 + c6) + 4294967296 * (c4 + c5 + c6 + c7) + 1099511627776 * (c5 + c6 + c7) + 281474976710656 * (c6 + c7) + 72057594037927936 * c7 by omega] at q
  unfold y3f; rw [q]; clear q
  have t : (c0 + c1 + c2 + c3) + 256 * (c1 + c2 + c3 + c4) + 65536 * (c2 + c3 + c4 + c5) + 16777216 * (c3 + c4 + c5 + c6) + 4294967296 * (c4 + c5 + c6 + c7) + 1099511627776 * (c5 + c6 + c7) + 281474976710656 * (c6 + c7) + 72057594037927936 * c7 + ((c4 + c5 + c6 + c7) + 256 * (c5 + c6 + c7) + 65536 * (c6 + c7) + 16777216 * c7)
      = (c0 + c1 + c2 + c3 + c4 + c5 + c6 + c7) + 128 * (2 * (c1 + c2 + c3 + c4 + c5 + c6 + c7) + 512 * (c2 + c3 + c4 + c5 + c6 + c7) + 131072 * (c3 + c4 + c5 + c6 + c7) + 33554432 * (c4 + c5 + c6 + c7) + 8589934592 * (c5 + c6 + c7) + 2199023255552 * (c6 + c7) + 562949953421312 * c7) := by omega
  rw [t]; clear t
  rw [Nat.mod_eq_of_lt (a := _ + 128 * _) (b := 18446744073709551616) (by omega), Nat.add_mul_mod_self_left, Nat.mod_eq_of_lt (by omega)]
theorem ones_eq (n : Nat) : ones n = pcn 64 n := by
  have e : st3 (st2 (st1 n)) = pcn 8 (n % 256) + 256 * pcn 8 (n / 256 % 256) + 65536 * pcn 8 (n / 256 / 256 % 256) + 16777216 * pcn 8 (n / 256 / 256 / 256 % 256) + 4294967296 * pcn 8 (n / 256 / 256 / 256 / 256 % 256) + 1099511627776 * pcn 8 (n / 256 / 256 / 256 / 256 / 256 % 256) + 281474976710656 * pcn 8 (n / 256 / 256 / 256 / 256 / 256 / 256 % 256) + 72057594037927936 * pcn 8 (n / 256 / 256 / 256 / 256 / 256 / 256 / 256 % 256) := by
    rw [st_dg]; simp only [dg]; omega
  unfold ones
  rw [e, fin_eq _ _ _ _ _ _ _ _ (pcn_le 8 _) (pcn_le 8 _) (pcn_le 8 _) (pcn_le 8 _) (pcn_le 8 _) (pcn_le 8 _) (pcn_le 8 _) (pcn_le 8 _), pcn_64]
  omega
end Go.Proofs.YtkmigcegeffonaaDoor.Num
