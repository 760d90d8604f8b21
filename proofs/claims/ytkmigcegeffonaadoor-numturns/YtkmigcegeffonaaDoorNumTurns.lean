/- NumTurns returns true for every bool and every two uint64, and leaves them: turned one way, and back, a value is the same; as many ones stand in it; moved up, and down again, it has lost its upper bits. Of math/bits.deBruijn64tab, the one package variable that its road names, nothing is read; the card ties what the row lays. -/
import Derived.Test.YtkmigcegeffonaaDoorRows
import Derived.WalkKit
import Derived.ProofKit
import Derived.OpenShut
import Derived.ShutString
import Derived.ChangeOld
import Derived.ChangeSame
import Derived.ChangeVars
import Derived.JoinedOf
import Derived.RowKit
import Derived.RowKitTokens
import Derived.LaidLaws
import Derived.LaidHandle
import Derived.Stop.Joined
import Derived.Test.YtkmigcegeffonaaDoorTie
import Derived.Test.YtkmigcegeffonaaDoorCards
import Derived.Test.YtkmigcegeffonaaDoorNumTm
namespace Go.Proofs.YtkmigcegeffonaaDoor.numTurns
open Go.ChangeShapes Go.WideShapes Go.ChangeAt Go.RowKit
open Go.ChangeMaps (open_string shut_string)
set_option linter.unusedVariables false

theorem own : ownKnob Tryd.prog.godebug = none := by kernel_rfl

theorem lost_eq (W : Nat) (hW : W ≤ 64) (X K : Int) (h0 : 0 ≤ X) (h1 : X < 18446744073709551616) (h2 : X < (2 : Int) ^ W) (k0 : 0 ≤ K) (k1 : K < W) :
    (K = 0 ∧ ((X.toNat % 2 ^ (W - K.toNat) : Nat) : Int) = X) ∨ (0 < K ∧ ((X.toNat % 2 ^ (W - K.toNat) : Nat) : Int) = bits .and .u64 X (IntKind.u64.wrap (IntKind.u64.wrap ((2 : Int) ^ ((W : Int) - K).toNat) - 1))) := by
  by_cases h : K = 0
  · subst h
    refine .inl ⟨rfl, ?_⟩
    have h3 : X.toNat < 2 ^ W := by
      have : ((2 ^ W : Nat) : Int) = (2 : Int) ^ W := by simp
      omega
    simp only [Int.toNat_zero, Nat.sub_zero]
    rw [Nat.mod_eq_of_lt h3]; omega
  · refine .inr ⟨by omega, ?_⟩
    have e : ((W : Int) - K).toNat = W - K.toNat := by omega
    have hlt : W - K.toNat < 64 := by omega
    generalize W - K.toNat = j at *
    have hj : (2 : Nat) ^ j < 2 ^ 64 := Nat.pow_lt_pow_right (by omega) hlt
    have hp := Nat.two_pow_pos j
    have e2 : IntKind.u64.wrap (IntKind.u64.wrap ((2 : Int) ^ j) - 1) = ((2 ^ j - 1 : Nat) : Int) := by
      rw [IntKind.wrap_u64, IntKind.wrap_u64]
      have : ((2 ^ j : Nat) : Int) = (2 : Int) ^ j := by simp
      omega
    rw [e, e2]
    obtain ⟨x, rfl⟩ := Int.eq_ofNat_of_zero_le h0
    rw [u64_and_nat x (2 ^ j - 1) (by omega) (by omega), Nat.and_two_pow_sub_one_eq_mod]
    simp

set_option maxHeartbeats 4000000 in
theorem walk (a0 : Bool) (a1 : Int) (a2 : Int) (w1 : (Lit.int .u64 a1).wf = true) (w2 : (Lit.int .u64 a2).wf = true) (w : World) :
    Calls Tryd.prog 7 #[.bool a0, .int .u64 a1, .int .u64 a2] w fun e w' => e = .returned (.bool true) ∧ Below w.heap.size w w' := by
  obtain ⟨b0, b1⟩ := bounds_u64 w1
  obtain ⟨b2, b3⟩ := bounds_u64 w2
  clear w1 w2
  cases a0
  · have hlx := and_low32 a1 b0 (by omega)
    have hX : 0 ≤ a1 % 4294967296 ∧ a1 % 4294967296 < 4294967296 := by omega
    generalize a1 % 4294967296 = X at *
    obtain ⟨A, C, U, z1, z2, z3, z4, z5, z6⟩ := turns_all 32 (.inl rfl) 119 120 105 116 118 (by decide) (by decide) (by decide) (by decide) (by decide) X a2 hX.1 hX.2 b2 (by omega)
    have hK : 0 ≤ a2 % 32 ∧ a2 % 32 < 32 := by omega
    have hlost := lost_eq 32 (by omega) X (a2 % 32) hX.1 (by omega) (by omega) hK.1 hK.2
    rw [show ((((32 : Nat) : Int))) = 32 from rfl] at z6 hlost
    rcases hlost with ⟨hk0, hl⟩ | ⟨hk0, hl⟩
    · rw [hl] at z6
      have A1 := hide z1; have A2 := hide z2; have A3 := hide z3; have A4 := hide z4; have A5 := hide z5; have A6 := hide z6; clear z1 z2 z3 z4 z5 z6 hl hK
      go_enter Tryd.func7, Tryd.ntmps7
      go_wp2_with (first | rw [hlx] | fail)
      refine (unhide A1 _).mono ?_
      rintro e w1 ⟨rfl, rfl⟩
      go_wp2_with fail
      refine (unhide A2 _).mono ?_
      rintro e w1 ⟨rfl, rfl⟩
      go_wp2_with fail
      refine (unhide A3 _).mono ?_
      rintro e w1 ⟨rfl, rfl⟩
      go_wp2_with fail
      refine (unhide A4 _).mono ?_
      rintro e w1 ⟨rfl, rfl⟩
      go_wp2_with fail
      refine (unhide A5 _).mono ?_
      rintro e w1 ⟨rfl, rfl⟩
      go_wp2_with fail
      refine (unhide A6 _).mono ?_
      rintro e w1 ⟨rfl, rfl⟩
      go_wp2_with fail
      refine (sure_any _).mono ?_
      rintro e w1 ⟨rfl, rfl⟩
      go_wp2
      go_ret
      exact ⟨rfl, Below.refl _ _⟩
    · rw [hl] at z6
      have A1 := hide z1; have A2 := hide z2; have A3 := hide z3; have A4 := hide z4; have A5 := hide z5; have A6 := hide z6; clear z1 z2 z3 z4 z5 z6 hl
      go_enter Tryd.func7, Tryd.ntmps7
      go_wp2_with (first | rw [hlx] | fail)
      refine (unhide A1 _).mono ?_
      rintro e w1 ⟨rfl, rfl⟩
      go_wp2_with fail
      refine (unhide A2 _).mono ?_
      rintro e w1 ⟨rfl, rfl⟩
      go_wp2_with fail
      refine (unhide A3 _).mono ?_
      rintro e w1 ⟨rfl, rfl⟩
      go_wp2_with fail
      refine (unhide A4 _).mono ?_
      rintro e w1 ⟨rfl, rfl⟩
      go_wp2_with fail
      refine (unhide A5 _).mono ?_
      rintro e w1 ⟨rfl, rfl⟩
      go_wp2_with fail
      refine (unhide A6 _).mono ?_
      rintro e w1 ⟨rfl, rfl⟩
      go_wp2_with fail
      refine (sure_any _).mono ?_
      rintro e w1 ⟨rfl, rfl⟩
      go_wp2
      go_ret
      exact ⟨rfl, Below.refl _ _⟩
  · have hX : 0 ≤ a1 ∧ a1 < 18446744073709551616 := ⟨b0, by omega⟩
    generalize a1 = X at *
    obtain ⟨A, C, U, z1, z2, z3, z4, z5, z6⟩ := turns_all 64 (.inr rfl) 137 138 123 134 136 (by decide) (by decide) (by decide) (by decide) (by decide) X a2 hX.1 hX.2 b2 (by omega)
    have hK : 0 ≤ a2 % 64 ∧ a2 % 64 < 64 := by omega
    have hlost := lost_eq 64 (by omega) X (a2 % 64) hX.1 (by omega) (by omega) hK.1 hK.2
    rw [show ((((64 : Nat) : Int))) = 64 from rfl] at z6 hlost
    rcases hlost with ⟨hk0, hl⟩ | ⟨hk0, hl⟩
    · rw [hl] at z6
      have A1 := hide z1; have A2 := hide z2; have A3 := hide z3; have A4 := hide z4; have A5 := hide z5; have A6 := hide z6; clear z1 z2 z3 z4 z5 z6 hl hK
      go_enter Tryd.func7, Tryd.ntmps7
      go_wp2_with fail
      refine (unhide A1 _).mono ?_
      rintro e w1 ⟨rfl, rfl⟩
      go_wp2_with fail
      refine (unhide A2 _).mono ?_
      rintro e w1 ⟨rfl, rfl⟩
      go_wp2_with fail
      refine (unhide A3 _).mono ?_
      rintro e w1 ⟨rfl, rfl⟩
      go_wp2_with fail
      refine (unhide A4 _).mono ?_
      rintro e w1 ⟨rfl, rfl⟩
      go_wp2_with fail
      refine (unhide A5 _).mono ?_
      rintro e w1 ⟨rfl, rfl⟩
      go_wp2_with fail
      refine (unhide A6 _).mono ?_
      rintro e w1 ⟨rfl, rfl⟩
      go_wp2_with fail
      refine (sure_any _).mono ?_
      rintro e w1 ⟨rfl, rfl⟩
      go_wp2
      go_ret
      exact ⟨rfl, Below.refl _ _⟩
    · rw [hl] at z6
      have A1 := hide z1; have A2 := hide z2; have A3 := hide z3; have A4 := hide z4; have A5 := hide z5; have A6 := hide z6; clear z1 z2 z3 z4 z5 z6 hl
      go_enter Tryd.func7, Tryd.ntmps7
      go_wp2_with fail
      refine (unhide A1 _).mono ?_
      rintro e w1 ⟨rfl, rfl⟩
      go_wp2_with fail
      refine (unhide A2 _).mono ?_
      rintro e w1 ⟨rfl, rfl⟩
      go_wp2_with fail
      refine (unhide A3 _).mono ?_
      rintro e w1 ⟨rfl, rfl⟩
      go_wp2_with fail
      refine (unhide A4 _).mono ?_
      rintro e w1 ⟨rfl, rfl⟩
      go_wp2_with fail
      refine (unhide A5 _).mono ?_
      rintro e w1 ⟨rfl, rfl⟩
      go_wp2_with fail
      refine (unhide A6 _).mono ?_
      rintro e w1 ⟨rfl, rfl⟩
      go_wp2_with fail
      refine (sure_any _).mono ?_
      rintro e w1 ⟨rfl, rfl⟩
      go_wp2
      go_ret
      exact ⟨rfl, Below.refl _ _⟩

theorem laidWorld_met (os : Os) (args : Array Value) : laidMetH Tryd.prog Rows.numTurnsRow.laid (({ World.holding Tryd.prog os ⟨#[], #[], []⟩ with heap := ((World.holding Tryd.prog os ⟨#[], #[], []⟩).heap.modify 0 fun | .cells _ t frozen => .cells #[.int .u8 0, .int .u8 1, .int .u8 56, .int .u8 2, .int .u8 57, .int .u8 49, .int .u8 28, .int .u8 3, .int .u8 61, .int .u8 58, .int .u8 42, .int .u8 50, .int .u8 38, .int .u8 29, .int .u8 17, .int .u8 4, .int .u8 62, .int .u8 47, .int .u8 59, .int .u8 36, .int .u8 45, .int .u8 43, .int .u8 51, .int .u8 22, .int .u8 53, .int .u8 39, .int .u8 33, .int .u8 30, .int .u8 24, .int .u8 18, .int .u8 12, .int .u8 5, .int .u8 63, .int .u8 55, .int .u8 48, .int .u8 27, .int .u8 60, .int .u8 41, .int .u8 37, .int .u8 16, .int .u8 46, .int .u8 35, .int .u8 44, .int .u8 21, .int .u8 52, .int .u8 32, .int .u8 23, .int .u8 11, .int .u8 54, .int .u8 26, .int .u8 40, .int .u8 15, .int .u8 34, .int .u8 20, .int .u8 31, .int .u8 10, .int .u8 25, .int .u8 14, .int .u8 19, .int .u8 9, .int .u8 13, .int .u8 8, .int .u8 7, .int .u8 6] t frozen | o => o) } : World).forCall (fun _ _ => 0) ⟨#[], args, []⟩).memory :=
  laidMetH_of_parts (laidMet_of_run' 8 (by kernel_rfl) (by kernel_rfl)) (by kernel_rfl)

set_option maxRecDepth 100000 in
theorem lifted (os : Os) (started : os.Started) (H : Type) (enc : TypeId × Value → H) :
    ReturnsInHanded {} Tryd.checked os 7 .any (fun w args => (Rows.numTurnsSpec.pre enc Tryd.prog Tryd.f7 [] false w args ∧ laidMetH Tryd.prog Rows.numTurnsRow.laid w) ∧ sizedMet enc Tryd.prog Tryd.f7 (OpenSpec.ofChange Rows.numTurnsSpec) false w args) (Rows.numTurnsSpec.post enc Tryd.prog Tryd.f7 false true false false) := by
  refine returnsInHanded_of_change_and (C := Tryd.checked) (X := fun w _ => laidMetH Tryd.prog Rows.numTurnsRow.laid w) (fun _ _ _ hh h => h.of_heap hh) own started (by kernel_rfl) Tryd.func7
    (ChangeSpec.witness_at (enc := enc) (C := Tryd.checked) (os := os) (X := fun w _ => laidMetH Tryd.prog Rows.numTurnsRow.laid w) false ({ World.holding Tryd.prog os ⟨#[], #[], []⟩ with heap := ((World.holding Tryd.prog os ⟨#[], #[], []⟩).heap.modify 0 fun | .cells _ t frozen => .cells #[.int .u8 0, .int .u8 1, .int .u8 56, .int .u8 2, .int .u8 57, .int .u8 49, .int .u8 28, .int .u8 3, .int .u8 61, .int .u8 58, .int .u8 42, .int .u8 50, .int .u8 38, .int .u8 29, .int .u8 17, .int .u8 4, .int .u8 62, .int .u8 47, .int .u8 59, .int .u8 36, .int .u8 45, .int .u8 43, .int .u8 51, .int .u8 22, .int .u8 53, .int .u8 39, .int .u8 33, .int .u8 30, .int .u8 24, .int .u8 18, .int .u8 12, .int .u8 5, .int .u8 63, .int .u8 55, .int .u8 48, .int .u8 27, .int .u8 60, .int .u8 41, .int .u8 37, .int .u8 16, .int .u8 46, .int .u8 35, .int .u8 44, .int .u8 21, .int .u8 52, .int .u8 32, .int .u8 23, .int .u8 11, .int .u8 54, .int .u8 26, .int .u8 40, .int .u8 15, .int .u8 34, .int .u8 20, .int .u8 31, .int .u8 10, .int .u8 25, .int .u8 14, .int .u8 19, .int .u8 9, .int .u8 13, .int .u8 8, .int .u8 7, .int .u8 6] t frozen | o => o) } : World) #[.bool false, .int .u64 0, .int .u64 0] 8 rfl (by kernel_rfl) (by kernel_rfl) (by kernel_rfl) (by kernel_rfl) (by kernel_rfl) (laidWorld_met os _)) ?_
  intro W base args ds gs before hval0 hW _ _ hL _
  have hval : ∀ (j : Nat) t v, Tryd.f7.params[j]? = some t → args[j]? = some v → Value.okWide Tryd.prog W .any base t v := hval0
  have hW' := hW
  obtain ⟨p, q, hA0, hV, rfl, hfz, hnd⟩ := hW
  have hA : DataW.TrodAll enc Tryd.prog W 0 (fun _ => true) true Tryd.f7.params.toList args.toList ds p := hA0
  rw [Tryd.params7] at hA hval
  obtain ⟨v0, vs0, d0, ds0, p0, q0, hargs, rfl, rfl, h0, r0⟩ := trodAll_cons hA
  obtain ⟨v1, vs1, d1, ds1, p1, q1, rfl, rfl, rfl, h1, r1⟩ := trodAll_cons r0
  obtain ⟨v2, vs2, d2, ds2, p2, q2, rfl, rfl, rfl, h2, r2⟩ := trodAll_cons r1
  obtain ⟨rfl, rfl, rfl⟩ := trodAll_nil r2
  obtain rfl : args = #[v0, v1, v2] := by cases args; simp_all
  obtain ⟨rfl, rfl⟩ := trodVars_none hV
  obtain ⟨a0, rfl, rfl, rfl⟩ := open_bool Tryd.underlying4 (hval 0 4 v0 rfl rfl) h0
  obtain ⟨a1, rfl, rfl, rfl, w1⟩ := open_int Tryd.underlying22 (hval 1 22 v1 rfl rfl) h1
  obtain ⟨a2, rfl, rfl, rfl, w2⟩ := open_int Tryd.underlying22 (hval 2 22 v2 rfl rfl) h2
  clear hA0 hval0
  refine (walk a0 a1 a2 w1 w2 W).mono fun e W' ⟨he, bel⟩ => ?_
  subst he
  exact ⟨_, rfl, _, _, _, [], _, [], hW', trodAll_mk1 (shut_bool Tryd.underlying4 _), (trodAll_cons_mk (shut_bool Tryd.underlying4 _) (trodAll_cons_mk (shut_int Tryd.underlying22 w1) (trodAll_cons_mk (shut_int Tryd.underlying22 w2) trodAll_mk0))), rfl, bel.frame _, fun h => by cases h⟩

theorem over : Rows.numTurnsRow.holds Tryd.pinned (OpenSpec.ofChange Rows.numTurnsSpec) :=
  OpenClaim.holds_of_wide 7 Tryd.f7 rfl rfl rfl rfl rfl rfl rfl ⟨rfl, rfl, rfl, rfl, rfl⟩ rfl rfl rfl rfl rfl (by kernel_rfl) Tryd.func7 (by kernel_rfl)
    (of_decide_eq_true (by kernel_rfl)) (by unfold Func.isWrapper; first | (rw [if_pos (by decide +kernel)]; kernel_rfl) | (rw [if_neg (by decide +kernel)]; exact ⟨rfl, rfl⟩))
    (fun os started H enc _ => lifted os started H enc)

theorem proved : Rows.NumTurnsSaid :=
  over
end Go.Proofs.YtkmigcegeffonaaDoor.numTurns

namespace Go.Proofs.YtkmigcegeffonaaDoor
theorem numTurns_holds : Rows.NumTurnsSaid := numTurns.proved
theorem numTurns_card : Rows.NumTurnsCardSaid :=
  Claim7.holds_tied_plain_at .later [] [.data] true (true, "1dd1b51f4bebecc51485d96a13d6f51d41b85291c12fa707e29d821af03aec68") true
    numTurns_holds (fun _ h => by cases h) (by kernel_rfl) (fun _ h => by cases h) numTurns_row_tie rfl ⟨rfl, rfl⟩ (by kernel_rfl) rfl
    (fun f fn hf hfn => by
      obtain rfl : 7 = f := Option.some.inj (Eq.trans (by kernel_rfl) hf)
      obtain rfl : fn = Tryd.f7 := (Option.some.inj (Tryd.func7.symm.trans hfn)).symm
      exact ⟨by kernel_rfl, fun j t ht => by
        rw [Tryd.params7] at ht
        rcases j with _ | _ | _ | j
        · obtain rfl : t = 4 := by simpa using ht.symm
          exact (show Tryd.prog.wantsStandIn 4 = false by kernel_rfl)
        · obtain rfl : t = 22 := by simpa using ht.symm
          exact (show Tryd.prog.wantsStandIn 22 = false by kernel_rfl)
        · obtain rfl : t = 22 := by simpa using ht.symm
          exact (show Tryd.prog.wantsStandIn 22 = false by kernel_rfl)
        · simp at ht⟩)
    (by kernel_rfl)
end Go.Proofs.YtkmigcegeffonaaDoor
