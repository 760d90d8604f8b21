/- place: the bytes of a number, or none. -/
import Derived.Test.YtcljcnaglkbjcaaGreatDoorMemA
namespace Go.Proofs.YtcljcnaglkbjcaaGreatDoor
open Go.RowKit
set_option linter.unusedVariables false

theorem add64 (x y : Int) (hx : 0 ≤ x) (hy : 0 ≤ y) (w : World) : (callFunc 90 #[.int .u64 x, .int .u64 y, .int .u64 0]).run Tryz.prog w =
    .ok (.value (.tuple #[.int .u64 ((x + y) % 18446744073709551616), .int .u64 ((x + y) / 18446744073709551616)])) w := by
  rw [run_callFunc_extern Tryz.func90 (by kernel_rfl) (by kernel_rfl) (by kernel_rfl) (e := add64Entry) (by kernel_rfl), run_add64 x y 0 hx hy (by omega) (by omega)]
  simp [Result.andThen]

/-- Are so many bytes there, from an address on? -/
def fits (n : Nat) (a o s : Int) : Bool := decide ((s = 1 ∨ s = 2 ∨ s = 4 ∨ s = 8) ∧ a + o + s ≤ n)
theorem fits_iff {n : Nat} {a o s : Int} : fits n a o s = true ↔ (s = 1 ∨ s = 2 ∨ s = 4 ∨ s = 8) ∧ a + o + s ≤ n := by simp [fits]
theorem fits_no {n : Nat} {a o s : Int} : fits n a o s = false ↔ ¬ ((s = 1 ∨ s = 2 ∨ s = 4 ∨ s = 8) ∧ a + o + s ≤ n) := by
  unfold fits; exact decide_eq_false_iff_not

def U64 (x : Int) : Prop := 0 ≤ x ∧ x < 18446744073709551616

set_option maxHeartbeats 1000000 in
theorem place_yes {w : World} {b g n cap : Nat} {most : Int} {zs : List Int} (hm : MemAt w b g n cap most zs) (a o s : Int) (ha : U64 a) (ho : U64 o) (hf : fits n a o s = true) :
    Calls Tryz.prog 63 #[.pointer (some ⟨b, 0, none⟩), .int .u64 a, .int .u64 o, .int .i64 s] w fun e w' =>
      e = .returned (.tuple #[.slice (some ⟨g, (a + o).toNat, none⟩) s.toNat (cap - (a + o).toNat), .bool true]) ∧ w = w' := by
  have h0 := hm.c0
  have hs := hm.small
  have hr := hm.room
  have hcm := hm.capm
  unfold maxLen at hcm
  obtain ⟨h1, h2⟩ := fits_iff.1 hf
  obtain ⟨a0, a1⟩ := ha
  obtain ⟨o0, o1⟩ := ho
  obtain ⟨f, hfe⟩ := Int.eq_ofNat_of_zero_le (show 0 ≤ a + o by omega)
  have hadd := fun wx => add64 a o a0 o0 wx
  rw [show (a + o) % 18446744073709551616 = (f : Int) from by omega, show (a + o) / 18446744073709551616 = 0 from by omega] at hadd
  rw [hfe] at h2 ⊢
  clear hf hfe hm
  simp only [Int.toNat_natCast]
  rcases h1 with rfl | rfl | rfl | rfl
  all_goals
    go_enter Tryz.func63, Tryz.ntmps63
    go_wp2_with (simp only [hadd])
    go_ret2
    exact ⟨by congr 3 <;> simp <;> omega, rfl⟩

set_option maxHeartbeats 1000000 in
theorem place_no {w : World} {b g n cap : Nat} {most : Int} {zs : List Int} (hm : MemAt w b g n cap most zs) (a o s : Int) (ha : U64 a) (ho : U64 o) (hs64 : -9223372036854775808 ≤ s ∧ s < 9223372036854775808) (hf : fits n a o s = false) :
    Calls Tryz.prog 63 #[.pointer (some ⟨b, 0, none⟩), .int .u64 a, .int .u64 o, .int .i64 s] w fun e w' =>
      e = .returned (.tuple #[.slice none 0 0, .bool false]) ∧ w = w' := by
  have h0 := hm.c0
  have hs := hm.small
  have hr := hm.room
  have hcm := hm.capm
  unfold maxLen at hcm
  have hn := fits_no.1 hf
  obtain ⟨a0, a1⟩ := ha
  obtain ⟨o0, o1⟩ := ho
  obtain ⟨s0, s1⟩ := hs64
  have hadd := fun wx => add64 a o a0 o0 wx
  clear hf hm
  by_cases hz : s = 1 ∨ s = 2 ∨ s = 4 ∨ s = 8
  · have hbig : ¬ (a + o + s ≤ n) := fun h => hn ⟨hz, h⟩
    clear hn
    by_cases hc : a + o < 18446744073709551616
    · obtain ⟨f, hfe⟩ := Int.eq_ofNat_of_zero_le (show 0 ≤ a + o by omega)
      rw [show (a + o) % 18446744073709551616 = (f : Int) from by omega, show (a + o) / 18446744073709551616 = 0 from by omega] at hadd
      have hf2 : (f : Int) < 18446744073709551616 := by omega
      rw [hfe] at hbig
      clear hfe hc
      by_cases hg : (n : Int) < f
      · clear hbig
        rcases hz with rfl | rfl | rfl | rfl
        all_goals
          go_enter Tryz.func63, Tryz.ntmps63
          go_wp2_with (simp only [hadd])
          go_ret2
          exact ⟨rfl, rfl⟩
      · have hle : (f : Int) ≤ n := by omega
        have hd2 : (n : Int) - f < s := by omega
        clear hbig hg hf2
        rcases hz with rfl | rfl | rfl | rfl
        all_goals
          go_enter Tryz.func63, Tryz.ntmps63
          go_wp2_with (simp only [hadd])
          go_ret2
          exact ⟨rfl, rfl⟩
    · obtain ⟨f, hfe⟩ := Int.eq_ofNat_of_zero_le (show 0 ≤ (a + o) % 18446744073709551616 by omega)
      rw [show (a + o) / 18446744073709551616 = 1 from by omega, hfe] at hadd
      clear hfe hc hbig
      rcases hz with rfl | rfl | rfl | rfl
      all_goals
        go_enter Tryz.func63, Tryz.ntmps63
        go_wp2_with (simp only [hadd])
        go_ret2
        exact ⟨rfl, rfl⟩
  · have z1 : (s != 1) = true := by simp; omega
    have z2 : (s != 2) = true := by simp; omega
    have z4 : (s != 4) = true := by simp; omega
    have z8 : (s != 8) = true := by simp; omega
    clear hz hn hadd h0 hs hr hcm
    go_enter Tryz.func63, Tryz.ntmps63
    go_wp2
    go_ret2
    exact ⟨rfl, rfl⟩
end Go.Proofs.YtcljcnaglkbjcaaGreatDoor
