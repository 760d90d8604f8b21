/- NumExtends returns true for every uint64, and leaves it: an I64 made short, and long again with its sign or without, is what it says; eqz tells nothing. Of math/bits.deBruijn64tab, the one package variable that its road names, nothing is read; the card ties what the row lays. -/
import Derived.Test.YtkmigcegeffonabDoorRows
import Derived.WalkKit
import Derived.ProofKit
import Derived.OpenShut
import Derived.ShutString
import Derived.ChangeOld
import Derived.ChangeSame
import Derived.ChangeVars
import Derived.JoinedOf
import Derived.RowKit
import Derived.RowKitTokens
import Derived.LaidLaws
import Derived.LaidHandle
import Derived.Stop.Joined
import Derived.Test.YtkmigcegeffonabDoorTie
import Derived.Test.YtkmigcegeffonabDoorCards
import Derived.Test.YtkmigcegeffonabDoorNumE
namespace Go.Proofs.YtkmigcegeffonabDoor.numExtends
open Go.ChangeShapes Go.WideShapes Go.ChangeAt Go.RowKit
open Go.ChangeMaps (open_string shut_string)
set_option linter.unusedVariables false

theorem own : ownKnob Tryd.prog.godebug = none := by kernel_rfl

theorem ext_sg (x : Int) (h0 : 0 ≤ x) (h1 : x < 18446744073709551616) : wrap64 (IntKind.u64.wrap (Num.sg 32 (Num.lo 32 x))) = wrap64 (wrap32 (x % 4294967296)) := by
  rw [IntKind.wrap_u64]; unfold Num.sg Num.lo wrap64 wrap32; simp only [Num.pw_32, Num.hf_32]; omega
theorem lo32 (x : Int) : Num.lo 32 x = x % 4294967296 := by unfold Num.lo; rw [Num.pw_32]
theorem lo64 (x : Int) (h0 : 0 ≤ x) (h1 : x < 18446744073709551616) : Num.lo 64 x = x := by unfold Num.lo; rw [Num.pw_64]; omega

set_option maxHeartbeats 400000 in
theorem walk (a0 : Int) (w0 : (Lit.int .u64 a0).wf = true) (w : World) :
    Calls Tryd.prog 3 #[.int .u64 a0] w fun e w' => e = .returned (.bool true) ∧ Below w.heap.size w w' := by
  obtain ⟨b0, b1⟩ := bounds_u64 w0
  clear w0
  have hl := Num.lo_bd 32 (.inl rfl) a0
  have e1 := fun wx => one_low 167 a0 (.inl rfl) wx b0 (by omega)
  have e2 := fun wx => one_sgn (Num.lo 32 a0) wx hl.1 hl.2
  have e3 := fun wx => one_low 173 (Num.lo 32 a0) (.inr rfl) wx hl.1 hl.2
  have e4 := fun wx => one_eqz 32 (.inl rfl) 69 a0 rfl wx b0 (by omega)
  have e5 := fun wx => one_eqz 64 (.inr rfl) 80 a0 (by decide) wx b0 (by omega)
  have hsg := ext_sg a0 b0 (by omega)
  rw [Num.lo_lo] at e3
  rw [lo64 a0 b0 (by omega)] at e5
  rw [lo32] at hsg e1 e2 e3 e4 hl
  generalize hS : Num.sg 32 (a0 % 4294967296) = S at *
  generalize hL : a0 % 4294967296 = L at *
  have H1 := hide e1; have H2 := hide e2; have H3 := hide e3; have H4 := hide e4; have H5 := hide e5; have HL := hide hL; have HS := hide hsg
  clear e1 e2 e3 e4 e5 hL hS hsg
  go_enter Tryd.func3, Tryd.ntmps3
  go_wp2_with fail
  refine (unhide H1 _).mono ?_
  rintro e w1 ⟨rfl, rfl⟩
  go_wp2_with fail
  refine (unhide H2 _).mono ?_
  rintro e w1 ⟨rfl, rfl⟩
  go_wp2_with fail
  refine (unhide H3 _).mono ?_
  rintro e w1 ⟨rfl, rfl⟩
  go_wp2_with fail
  refine (unhide H4 _).mono ?_
  rintro e w1 ⟨rfl, rfl⟩
  go_wp2_with fail
  refine (unhide H5 _).mono ?_
  rintro e w1 ⟨rfl, rfl⟩
  have t1 : (L == a0 % 4294967296) = true := by have := unhide HL; simp [this]
  have t2 : (wrap64 (IntKind.u64.wrap S) == wrap64 (wrap32 (a0 % 4294967296))) = true := by have h1 := unhide HS; have h2 := unhide HL; rw [h2, h1]; simp
  clear H1 H2 H3 H4 H5 HS
  by_cases hL0 : L = 0
  · have t3 : (L == 0) = true := by simp [hL0]
    rw [show Num.b01 (L == 0) = 1 by rw [t3]; rfl]
    by_cases ha : a0 = 0
    · have t4 : (a0 == 0) = true := by simp [ha]
      rw [show Num.b01 (a0 == 0) = 1 by rw [t4]; rfl]
      have HZ := hide hL0; have HZ2 := hide ha; clear hL0 ha HL
      go_wp2_with fail
      refine (sure_any _).mono ?_
      rintro e w1 ⟨rfl, rfl⟩
      go_wp2
      go_ret
      exact ⟨rfl, Below.refl _ _⟩
    · have t4 : (a0 == 0) = false := by simp [ha]
      rw [show Num.b01 (a0 == 0) = 0 by rw [t4]; rfl]
      have HZ := hide hL0; clear hL0 HL
      go_wp2_with fail
      refine (sure_any _).mono ?_
      rintro e w1 ⟨rfl, rfl⟩
      go_wp2
      go_ret
      exact ⟨rfl, Below.refl _ _⟩
  · have t3 : (L == 0) = false := by simp [hL0]
    have ha : a0 ≠ 0 := by intro h; apply hL0; rw [← unhide HL, h]; rfl
    have t4 : (a0 == 0) = false := by simp [ha]
    rw [show Num.b01 (L == 0) = 0 by rw [t3]; rfl, show Num.b01 (a0 == 0) = 0 by rw [t4]; rfl]
    clear HL
    go_wp2_with fail
    refine (sure_any _).mono ?_
    rintro e w1 ⟨rfl, rfl⟩
    go_wp2
    go_ret
    exact ⟨rfl, Below.refl _ _⟩

theorem laidWorld_met (os : Os) (args : Array Value) : laidMetH Tryd.prog Rows.numExtendsRow.laid (({ World.holding Tryd.prog os ⟨#[], #[], []⟩ with heap := ((World.holding Tryd.prog os ⟨#[], #[], []⟩).heap.modify 0 fun | .cells _ t frozen => .cells #[.int .u8 0, .int .u8 1, .int .u8 56, .int .u8 2, .int .u8 57, .int .u8 49, .int .u8 28, .int .u8 3, .int .u8 61, .int .u8 58, .int .u8 42, .int .u8 50, .int .u8 38, .int .u8 29, .int .u8 17, .int .u8 4, .int .u8 62, .int .u8 47, .int .u8 59, .int .u8 36, .int .u8 45, .int .u8 43, .int .u8 51, .int .u8 22, .int .u8 53, .int .u8 39, .int .u8 33, .int .u8 30, .int .u8 24, .int .u8 18, .int .u8 12, .int .u8 5, .int .u8 63, .int .u8 55, .int .u8 48, .int .u8 27, .int .u8 60, .int .u8 41, .int .u8 37, .int .u8 16, .int .u8 46, .int .u8 35, .int .u8 44, .int .u8 21, .int .u8 52, .int .u8 32, .int .u8 23, .int .u8 11, .int .u8 54, .int .u8 26, .int .u8 40, .int .u8 15, .int .u8 34, .int .u8 20, .int .u8 31, .int .u8 10, .int .u8 25, .int .u8 14, .int .u8 19, .int .u8 9, .int .u8 13, .int .u8 8, .int .u8 7, .int .u8 6] t frozen | o => o) } : World).forCall (fun _ _ => 0) ⟨#[], args, []⟩).memory :=
  laidMetH_of_parts (laidMet_of_run' 8 (by kernel_rfl) (by kernel_rfl)) (by kernel_rfl)

set_option maxRecDepth 100000 in
theorem lifted (os : Os) (started : os.Started) (H : Type) (enc : TypeId × Value → H) :
    ReturnsInHanded {} Tryd.checked os 3 .any (fun w args => (Rows.numExtendsSpec.pre enc Tryd.prog Tryd.f3 [] false w args ∧ laidMetH Tryd.prog Rows.numExtendsRow.laid w) ∧ sizedMet enc Tryd.prog Tryd.f3 (OpenSpec.ofChange Rows.numExtendsSpec) false w args) (Rows.numExtendsSpec.post enc Tryd.prog Tryd.f3 false true false false) := by
  refine returnsInHanded_of_change_and (C := Tryd.checked) (X := fun w _ => laidMetH Tryd.prog Rows.numExtendsRow.laid w) (fun _ _ _ hh h => h.of_heap hh) own started (by kernel_rfl) Tryd.func3
    (ChangeSpec.witness_at (enc := enc) (C := Tryd.checked) (os := os) (X := fun w _ => laidMetH Tryd.prog Rows.numExtendsRow.laid w) false ({ World.holding Tryd.prog os ⟨#[], #[], []⟩ with heap := ((World.holding Tryd.prog os ⟨#[], #[], []⟩).heap.modify 0 fun | .cells _ t frozen => .cells #[.int .u8 0, .int .u8 1, .int .u8 56, .int .u8 2, .int .u8 57, .int .u8 49, .int .u8 28, .int .u8 3, .int .u8 61, .int .u8 58, .int .u8 42, .int .u8 50, .int .u8 38, .int .u8 29, .int .u8 17, .int .u8 4, .int .u8 62, .int .u8 47, .int .u8 59, .int .u8 36, .int .u8 45, .int .u8 43, .int .u8 51, .int .u8 22, .int .u8 53, .int .u8 39, .int .u8 33, .int .u8 30, .int .u8 24, .int .u8 18, .int .u8 12, .int .u8 5, .int .u8 63, .int .u8 55, .int .u8 48, .int .u8 27, .int .u8 60, .int .u8 41, .int .u8 37, .int .u8 16, .int .u8 46, .int .u8 35, .int .u8 44, .int .u8 21, .int .u8 52, .int .u8 32, .int .u8 23, .int .u8 11, .int .u8 54, .int .u8 26, .int .u8 40, .int .u8 15, .int .u8 34, .int .u8 20, .int .u8 31, .int .u8 10, .int .u8 25, .int .u8 14, .int .u8 19, .int .u8 9, .int .u8 13, .int .u8 8, .int .u8 7, .int .u8 6] t frozen | o => o) } : World) #[.int .u64 0] 8 rfl (by kernel_rfl) (by kernel_rfl) (by kernel_rfl) (by kernel_rfl) (by kernel_rfl) (laidWorld_met os _)) ?_
  intro W base args ds gs before hval0 hW _ _ hL _
  have hval : ∀ (j : Nat) t v, Tryd.f3.params[j]? = some t → args[j]? = some v → Value.okWide Tryd.prog W .any base t v := hval0
  have hW' := hW
  obtain ⟨p, q, hA0, hV, rfl, hfz, hnd⟩ := hW
  have hA : DataW.TrodAll enc Tryd.prog W 0 (fun _ => true) true Tryd.f3.params.toList args.toList ds p := hA0
  rw [Tryd.params3] at hA hval
  obtain ⟨v0, vs0, d0, ds0, p0, q0, hargs, rfl, rfl, h0, r0⟩ := trodAll_cons hA
  obtain ⟨rfl, rfl, rfl⟩ := trodAll_nil r0
  obtain rfl : args = #[v0] := by cases args; simp_all
  obtain ⟨rfl, rfl⟩ := trodVars_none hV
  obtain ⟨a0, rfl, rfl, rfl, w0⟩ := open_int Tryd.underlying22 (hval 0 22 v0 rfl rfl) h0
  clear hA0 hval0
  refine (walk a0 w0 W).mono fun e W' ⟨he, bel⟩ => ?_
  subst he
  exact ⟨_, rfl, _, _, _, [], _, [], hW', trodAll_mk1 (shut_bool Tryd.underlying4 _), (trodAll_cons_mk (shut_int Tryd.underlying22 w0) trodAll_mk0), rfl, bel.frame _, fun h => by cases h⟩

theorem over : Rows.numExtendsRow.holds Tryd.pinned (OpenSpec.ofChange Rows.numExtendsSpec) :=
  OpenClaim.holds_of_wide 3 Tryd.f3 rfl rfl rfl rfl rfl rfl rfl ⟨rfl, rfl, rfl, rfl, rfl⟩ rfl rfl rfl rfl rfl (by kernel_rfl) Tryd.func3 (by kernel_rfl)
    (of_decide_eq_true (by kernel_rfl)) (by unfold Func.isWrapper; first | (rw [if_pos (by decide +kernel)]; kernel_rfl) | (rw [if_neg (by decide +kernel)]; exact ⟨rfl, rfl⟩))
    (fun os started H enc _ => lifted os started H enc)

theorem proved : Rows.NumExtendsSaid :=
  over
end Go.Proofs.YtkmigcegeffonabDoor.numExtends

namespace Go.Proofs.YtkmigcegeffonabDoor
theorem numExtends_holds : Rows.NumExtendsSaid := numExtends.proved
theorem numExtends_card : Rows.NumExtendsCardSaid :=
  Claim7.holds_tied_plain_at .later [] [.data] true (true, "62fba04a117d0f325b669bd134e09eb2e47ec8571b34c0479506dd259c30cf11") false
    numExtends_holds (fun _ h => by cases h) (by kernel_rfl) (fun _ h => by cases h) numExtends_row_tie rfl ⟨rfl, rfl⟩ (by kernel_rfl) rfl
    (fun f fn hf hfn => by
      obtain rfl : 3 = f := Option.some.inj (Eq.trans (by kernel_rfl) hf)
      obtain rfl : fn = Tryd.f3 := (Option.some.inj (Tryd.func3.symm.trans hfn)).symm
      exact ⟨by kernel_rfl, fun j t ht => by
        rw [Tryd.params3] at ht
        rcases j with _ | j
        · obtain rfl : t = 22 := by simpa using ht.symm
          exact (show Tryd.prog.wantsStandIn 22 = false by kernel_rfl)
        · simp at ht⟩)
    (by kernel_rfl)
end Go.Proofs.YtkmigcegeffonabDoor
