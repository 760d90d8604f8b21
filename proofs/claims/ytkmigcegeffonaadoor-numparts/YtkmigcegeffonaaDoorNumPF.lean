/- NumParts, of 32 bits. -/
import Derived.Test.YtkmigcegeffonaaDoorNumPm
namespace Go.Proofs.YtkmigcegeffonaaDoor
open Go.RowKit
set_option linter.unusedVariables false

set_option maxRecDepth 20000 in
set_option maxHeartbeats 20000000 in
theorem parts_walkF (a1 a2 : Int) (b0 : 0 ≤ a1) (b1 : a1 ≤ 18446744073709551615) (b2 : 0 ≤ a2) (b3 : a2 ≤ 18446744073709551615) (w : World) :
    Calls Tryd.prog 6 #[.bool false, .int .u64 a1, .int .u64 a2] w fun e w' => e = .returned (.bool true) ∧ Below w.heap.size w w' := by
  have hgo : True := trivial
  have hlx := and_low32 a1 b0 (by omega)
  have hly := and_low32 a2 b2 (by omega)
  have hX : 0 ≤ a1 % 4294967296 ∧ a1 % 4294967296 < 4294967296 := by omega
  have hY : 0 ≤ a2 % 4294967296 ∧ a2 % 4294967296 < 4294967296 := by omega
  generalize a1 % 4294967296 = X at *
  generalize a2 % 4294967296 = Y at *
  go_enter Tryd.func6, Tryd.ntmps6
  go_wp2_with (first | rw [hlx] | rw [hly] | fail)
  go_loop [8] (fun c => ∃ (k : Nat), c = .int .u8 k ∧ k ≤ 2) (fun c => 2 - (intOf c).toNat)
  case atStart => exact ⟨0, rfl, by omega⟩
  case round =>
    obtain ⟨k, rfl, hk⟩ := hrel
    have hk3 : k = 0 ∨ k = 1 ∨ k = 2 := by omega
    clear hlx hly hk
    rcases hk3 with rfl | rfl | rfl
    · by_cases hz : Y = 0
      · obtain ⟨z1, z2⟩ := parts_z 32 (.inl rfl) 0 (by omega) 109 111 (by decide) (by decide) X hX.1 hX.2
        subst hz
        have A1 := hide z1; have A2 := hide z2; clear z1 z2 hY
        go_wp2_with fail
        refine (unhide A1 _).mono ?_
        rintro e w1 ⟨rfl, rfl⟩
        go_wp2_with fail
        refine (unhide A2 _).mono ?_
        rintro e w1 ⟨rfl, rfl⟩
        go_wp2_with fail
        exact ⟨⟨1, by rfl, by omega⟩, by simp [intOf]⟩
      · have tz : (Y == 0) = false := by simp [hz]
        by_cases hl : X = 2147483648
        · by_cases ha : Y = 4294967295
          · subst hl ha
            clear hX hY tz
            obtain ⟨z1, z2⟩ := parts_o 32 (.inl rfl) 109 111 (by decide) (by decide)
            rw [show Num.hf 32 = 2147483648 from rfl, show Num.pw 32 - 1 = 4294967295 from by decide] at z1 z2
            have A1 := hide z1; have A2 := hide z2; clear z1 z2 hz
            go_wp2_with fail
            refine (unhide A1 _).mono ?_
            rintro e w1 ⟨rfl, rfl⟩
            go_wp2_with fail
            refine (unhide A2 _).mono ?_
            rintro e w1 ⟨rfl, rfl⟩
            go_wp2_with fail
            exact ⟨⟨1, by rfl, by omega⟩, by simp [intOf]⟩
          · have ta : (Y == 4294967295) = false := by simp [ha]
            have tl : (X == 2147483648) = true := by simp [hl]
            have HL := hide hl; clear hl
            obtain ⟨Q, R, P, z1, z2, z3, z4, z5⟩ := parts_n 32 (.inl rfl) 0 (by omega) 109 111 108 106 (by decide) (by decide) (by decide) (by decide) X Y hX.1 hX.2 hY.1 hY.2 hz (fun h => ha h.2.2)
            have A1 := hide z1; have A2 := hide z2; have A3 := hide z3; have A4 := hide z4; clear z1 z2 z3 z4 z5 hz hX hY
            go_wp2_with fail
            refine (unhide A1 _).mono ?_
            rintro e w1 ⟨rfl, rfl⟩
            go_wp2_with fail
            refine (unhide A2 _).mono ?_
            rintro e w1 ⟨rfl, rfl⟩
            go_wp2_with fail
            refine (unhide A3 _).mono ?_
            rintro e w1 ⟨rfl, rfl⟩
            go_wp2_with fail
            refine (unhide A4 _).mono ?_
            rintro e w1 ⟨rfl, rfl⟩
            go_wp2_with fail
            exact ⟨⟨1, by rfl, by omega⟩, by simp [intOf]⟩
        · have tl : (X == 2147483648) = false := by simp [hl]
          obtain ⟨Q, R, P, z1, z2, z3, z4, z5⟩ := parts_n 32 (.inl rfl) 0 (by omega) 109 111 108 106 (by decide) (by decide) (by decide) (by decide) X Y hX.1 hX.2 hY.1 hY.2 hz (fun h => hl h.2.1)
          have A1 := hide z1; have A2 := hide z2; have A3 := hide z3; have A4 := hide z4; clear z1 z2 z3 z4 z5 hz hX hY
          go_wp2_with fail
          refine (unhide A1 _).mono ?_
          rintro e w1 ⟨rfl, rfl⟩
          go_wp2_with fail
          refine (unhide A2 _).mono ?_
          rintro e w1 ⟨rfl, rfl⟩
          go_wp2_with fail
          refine (unhide A3 _).mono ?_
          rintro e w1 ⟨rfl, rfl⟩
          go_wp2_with fail
          refine (unhide A4 _).mono ?_
          rintro e w1 ⟨rfl, rfl⟩
          go_wp2_with fail
          exact ⟨⟨1, by rfl, by omega⟩, by simp [intOf]⟩
    · by_cases hz : Y = 0
      · obtain ⟨z1, z2⟩ := parts_z 32 (.inl rfl) 1 (by omega) 110 112 (by decide) (by decide) X hX.1 hX.2
        subst hz
        have A1 := hide z1; have A2 := hide z2; clear z1 z2 hY
        go_wp2_with fail
        refine (unhide A1 _).mono ?_
        rintro e w1 ⟨rfl, rfl⟩
        go_wp2_with fail
        refine (unhide A2 _).mono ?_
        rintro e w1 ⟨rfl, rfl⟩
        go_wp2_with fail
        exact ⟨⟨2, by rfl, by omega⟩, by simp [intOf]⟩
      · have tz : (Y == 0) = false := by simp [hz]
        obtain ⟨Q, R, P, z1, z2, z3, z4, z5⟩ := parts_n 32 (.inl rfl) 1 (by omega) 110 112 108 106 (by decide) (by decide) (by decide) (by decide) X Y hX.1 hX.2 hY.1 hY.2 hz (fun h => absurd h.1 (by omega))
        have tr : decide (Y ≤ R) = false := by have := z5 rfl; simp; omega
        have A1 := hide z1; have A2 := hide z2; have A3 := hide z3; have A4 := hide z4; clear z1 z2 z3 z4 z5 hz hX hY
        go_wp2_with fail
        refine (unhide A1 _).mono ?_
        rintro e w1 ⟨rfl, rfl⟩
        go_wp2_with fail
        refine (unhide A2 _).mono ?_
        rintro e w1 ⟨rfl, rfl⟩
        go_wp2_with fail
        refine (unhide A3 _).mono ?_
        rintro e w1 ⟨rfl, rfl⟩
        go_wp2_with fail
        refine (unhide A4 _).mono ?_
        rintro e w1 ⟨rfl, rfl⟩
        go_wp2_with fail
        exact ⟨⟨2, by rfl, by omega⟩, by simp [intOf]⟩
    · go_wp2_with fail
      refine (sure_any _).mono ?_
      rintro e w1 ⟨rfl, rfl⟩
      go_wp2
      go_ret
      exact ⟨rfl, Below.refl _ _⟩
end Go.Proofs.YtkmigcegeffonaaDoor
