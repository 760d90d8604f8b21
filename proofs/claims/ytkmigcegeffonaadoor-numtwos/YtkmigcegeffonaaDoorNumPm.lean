/- NumParts: a quotient times the divisor and what is left; the answers of num.Two that it takes. -/
import Derived.Test.YtkmigcegeffonaaDoorNumE
namespace Go.Proofs.YtkmigcegeffonaaDoor
open Go.RowKit
set_option linter.unusedVariables false

theorem lo_id (W : Nat) (x : Int) (h0 : 0 ≤ x) (h1 : x < Num.pw W) : Num.lo W x = x := by
  unfold Num.lo; exact Int.emod_eq_of_lt h0 h1
theorem lo_add (W : Nat) (a b : Int) : Num.lo W (Num.lo W a + b) = Num.lo W (a + b) := by
  unfold Num.lo; rw [Int.emod_add_emod]
theorem lo_add2 (W : Nat) (a b : Int) : Num.lo W (a + Num.lo W b) = Num.lo W (a + b) := by
  unfold Num.lo; rw [Int.add_emod_emod]
theorem lo_mul (W : Nat) (a b : Int) : Num.lo W (Num.lo W a * b) = Num.lo W (a * b) := by
  unfold Num.lo; rw [Int.mul_emod, Int.emod_emod_of_dvd _ (Int.dvd_refl _), ← Int.mul_emod]
theorem lo_mul2 (W : Nat) (a b : Int) : Num.lo W (a * Num.lo W b) = Num.lo W (a * b) := by
  unfold Num.lo; rw [Int.mul_emod, Int.emod_emod_of_dvd _ (Int.dvd_refl _), ← Int.mul_emod]
theorem sg_lo_eq (W : Nat) (hW : W = 32 ∨ W = 64) (x : Int) : Num.lo W (Num.sg W x) = Num.lo W x := by
  rcases hW with rfl | rfl <;> simp only [Num.lo, Num.sg, Num.pw_32, Num.pw_64, Num.hf_32, Num.hf_64] <;> omega
/-- the parts with a sign -/
theorem parts_s (W : Nat) (hW : W = 32 ∨ W = 64) (x y : Int) (h0 : 0 ≤ x) (h1 : x < Num.pw W) :
    Num.lo W (Num.lo W (Num.lo W ((Num.sg W x).tdiv (Num.sg W y)) * y) + Num.lo W ((Num.sg W x).tmod (Num.sg W y))) = x := by
  rw [lo_mul, lo_add, lo_add2]
  have e : Num.lo W ((Num.sg W x).tdiv (Num.sg W y) * y + (Num.sg W x).tmod (Num.sg W y)) = Num.lo W ((Num.sg W x).tdiv (Num.sg W y) * Num.sg W y + (Num.sg W x).tmod (Num.sg W y)) := by
    rw [← lo_add W ((Num.sg W x).tdiv (Num.sg W y) * y), ← lo_mul2, ← sg_lo_eq W hW y, lo_mul2, lo_add]
  rw [e, Int.mul_comm, Int.mul_tdiv_add_tmod, sg_lo_eq W hW, lo_id W x h0 h1]
theorem parts_u (W : Nat) (x y : Int) (h0 : 0 ≤ x) (h1 : x < Num.pw W) (hy : 0 < y) :
    Num.lo W (Num.lo W (x / y * y) + x % y) = x := by
  rw [lo_add, Int.mul_comm, Int.mul_ediv_add_emod, lo_id W x h0 h1]
theorem ovf (W : Nat) (hW : W = 32 ∨ W = 64) (X Y : Int) (h0 : 0 ≤ X) (h1 : X < Num.pw W) (h2 : 0 ≤ Y) (h3 : Y < Num.pw W) : (Num.sg W Y = -1 ∧ Num.sg W X = - Num.hf W) ↔ (Y = Num.pw W - 1 ∧ X = Num.hf W) := by
  rcases hW with rfl | rfl <;> simp only [Num.sg, Num.pw_32, Num.pw_64, Num.hf_32, Num.hf_64] at * <;> omega
theorem pw_le (W : Nat) (hW : W = 32 ∨ W = 64) : Num.pw W ≤ 18446744073709551616 := by
  rcases hW with rfl | rfl <;> simp only [Num.pw_32, Num.pw_64] <;> omega
theorem hf_rem (W : Nat) (hW : W = 32 ∨ W = 64) : Num.dvV W 111 (Num.hf W) (Num.pw W - 1) = 0 ∧ Num.dvT W 111 (Num.hf W) (Num.pw W - 1) = 0 ∧ Num.dvT W 109 (Num.hf W) (Num.pw W - 1) = 3 ∧ Num.dvV W 109 (Num.hf W) (Num.pw W - 1) = 0 := by
  rcases hW with rfl | rfl <;> decide +kernel
def ans (o x y v t : Int) : Prop := ∀ wx, Calls Tryd.prog 13 #[.int .u8 o, .int .u64 x, .int .u64 y] wx fun e w' => e = .returned (.tuple #[.int .u64 v, .int .i64 t, .nilIface]) ∧ wx = w'
theorem parts_z (W : Nat) (hW : W = 32 ∨ W = 64) (s : Int) (hs : s = 0 ∨ s = 1) (o1 o2 : Int) (h1 : o1 = Num.opc W (109 + s)) (h2 : o2 = Num.opc W (111 + s)) (X : Int) (x0 : 0 ≤ X) (x1 : X < Num.pw W) :
    ans o1 X 0 0 2 ∧ ans o2 X 0 0 2 := by
  have hp := pw_le W hW
  have l0 : Num.lo W 0 = 0 := by unfold Num.lo; simp
  refine ⟨fun wx => ?_, fun wx => ?_⟩
  · have := two_div W hW (109 + s) o1 X 0 h1 (by omega) wx x0 (by omega) (by omega) (by omega)
    rw [l0] at this
    simpa [Num.dvV, Num.dvT] using this
  · have := two_div W hW (111 + s) o2 X 0 h2 (by omega) wx x0 (by omega) (by omega) (by omega)
    rw [l0] at this
    simpa [Num.dvV, Num.dvT] using this
theorem parts_o (W : Nat) (hW : W = 32 ∨ W = 64) (o1 o2 : Int) (h1 : o1 = Num.opc W 109) (h2 : o2 = Num.opc W 111) :
    ans o1 (Num.hf W) (Num.pw W - 1) 0 3 ∧ ans o2 (Num.hf W) (Num.pw W - 1) 0 0 := by
  obtain ⟨r1, r2, r3, r4⟩ := hf_rem W hW
  have hp := pw_le W hW
  have hh : 0 ≤ Num.hf W ∧ Num.hf W < Num.pw W ∧ 0 ≤ Num.pw W - 1 := by rcases hW with rfl | rfl <;> simp only [Num.pw_32, Num.pw_64, Num.hf_32, Num.hf_64] <;> omega
  refine ⟨fun wx => ?_, fun wx => ?_⟩
  · have := two_div W hW 109 o1 (Num.hf W) (Num.pw W - 1) h1 (by omega) wx hh.1 (by omega) hh.2.2 (by omega)
    rw [lo_id W _ hh.1 hh.2.1, lo_id W _ hh.2.2 (by omega), r3, r4] at this
    exact this
  · have := two_div W hW 111 o2 (Num.hf W) (Num.pw W - 1) h2 (by omega) wx hh.1 (by omega) hh.2.2 (by omega)
    rw [lo_id W _ hh.1 hh.2.1, lo_id W _ hh.2.2 (by omega), r1, r2] at this
    exact this
theorem parts_n (W : Nat) (hW : W = 32 ∨ W = 64) (s : Int) (hs : s = 0 ∨ s = 1) (o1 o2 o3 o4 : Int) (h1 : o1 = Num.opc W (109 + s)) (h2 : o2 = Num.opc W (111 + s)) (h3 : o3 = Num.opc W 108) (h4 : o4 = Num.opc W 106)
    (X Y : Int) (x0 : 0 ≤ X) (x1 : X < Num.pw W) (y0 : 0 ≤ Y) (y1 : Y < Num.pw W) (hY : Y ≠ 0) (hn : ¬ (s = 0 ∧ X = Num.hf W ∧ Y = Num.pw W - 1)) :
    ∃ Q R P : Int, ans o1 X Y Q 0 ∧ ans o2 X Y R 0 ∧ ans o3 Q Y P 0 ∧ ans o4 P R X 0 ∧ (s = 1 → R < Y) := by
  have hp := pw_le W hW
  have lx := lo_id W X x0 x1; have ly := lo_id W Y y0 y1
  have hov := ovf W hW X Y x0 x1 y0 y1
  have a1 := fun wx => two_div W hW (109 + s) o1 X Y h1 (by omega) wx x0 (by omega) y0 (by omega)
  have a2 := fun wx => two_div W hW (111 + s) o2 X Y h2 (by omega) wx x0 (by omega) y0 (by omega)
  rw [lx, ly] at a1 a2
  have key : ∃ Q R : Int, Num.dvV W (109 + s) X Y = Q ∧ Num.dvT W (109 + s) X Y = 0 ∧ Num.dvV W (111 + s) X Y = R ∧ Num.dvT W (111 + s) X Y = 0 ∧ (0 ≤ Q ∧ Q < Num.pw W) ∧ (0 ≤ R ∧ R < Num.pw W) ∧ Num.lo W (Num.lo W (Q * Y) + R) = X ∧ (s = 1 → R < Y) := by
    rcases hs with rfl | rfl
    · have hno : ¬ (Num.sg W Y = -1 ∧ Num.sg W X = - Num.hf W) := fun h => hn ⟨rfl, (hov.1 h).2, (hov.1 h).1⟩
      refine ⟨_, _, rfl, ?_, rfl, ?_, ?_, ?_, ?_, fun h => by omega⟩
      · simp [Num.dvT, hY, hno]
      · simp [Num.dvT, hY]
      · simp only [Num.dvV, hY, hno, if_false]; simp; exact Num.lo_lt W hW _
      · simp only [Num.dvV, hY, if_false]; simp; exact Num.lo_lt W hW _
      · simp only [Num.dvV, hY, hno, if_false]; simp; exact parts_s W hW X Y x0 x1
    · have hy : 0 < Y := by omega
      have hd : 0 ≤ X / Y ∧ X / Y ≤ X := ⟨Int.ediv_nonneg x0 y0, Int.ediv_le_self Y x0⟩
      have hm : 0 ≤ X % Y ∧ X % Y < Y := ⟨Int.emod_nonneg _ hY, Int.emod_lt_of_pos _ hy⟩
      have q1 : Num.dvV W (109 + 1) X Y = X / Y := by simp [Num.dvV, hY]
      have q2 : Num.dvV W (111 + 1) X Y = X % Y := by simp [Num.dvV, hY]
      exact ⟨_, _, q1, by simp [Num.dvT, hY], q2, by simp [Num.dvT, hY], ⟨hd.1, by omega⟩, ⟨hm.1, by omega⟩, parts_u W X Y x0 x1 hy, fun _ => hm.2⟩
  obtain ⟨Q, R, k1, k2, k3, k4, k5, k6, k7, k8⟩ := key
  rw [k1, k2] at a1
  rw [k3, k4] at a2
  have hP := Num.lo_lt W hW (Q * Y)
  refine ⟨Q, R, Num.lo W (Q * Y), a1, a2, fun wx => ?_, fun wx => ?_, k8⟩
  · have := two_ar W hW 108 o3 Q Y h3 (by omega) wx k5.1 (by omega) y0 (by omega)
    rw [lo_id W Q k5.1 k5.2, ly, show Num.arV 108 Q Y = Q * Y from rfl] at this
    exact this
  · have := two_ar W hW 106 o4 (Num.lo W (Q * Y)) R h4 (by omega) wx hP.1 (by omega) k6.1 (by omega)
    rw [lo_id W _ hP.1 hP.2, lo_id W R k6.1 k6.2, show Num.arV 106 (Num.lo W (Q * Y)) R = Num.lo W (Q * Y) + R from rfl, k7] at this
    exact this
end Go.Proofs.YtkmigcegeffonaaDoor
