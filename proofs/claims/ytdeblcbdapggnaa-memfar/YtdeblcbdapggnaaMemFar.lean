/- MemFar returns true for every two uint64: in a memory of one page a number of eight bytes is loaded and stored just where its address, at and offset together, leaves room for it; stored elsewhere it changes no byte. No condition. -/
import Derived.Test.YtdeblcbdapggnaaRows
import Derived.WalkKit
import Derived.ProofKit
import Derived.OpenShut
import Derived.ShutString
import Derived.Test.YtdeblcbdapggnaaMemS
import Derived.Test.YtdeblcbdapggnaaMemF
namespace Go.Proofs.Ytdeblcbdapggnaa.memFar
open Go.ChangeShapes Go.WideShapes Go.ChangeAt Go.RowKit
open Go.ChangeMaps (open_string shut_string)
set_option linter.unusedVariables false

theorem own : ownKnob Try.prog.godebug = none := by kernel_rfl

open Mm
theorem far_get (f i : Nat) (hf : f + 8 ≤ 4096) : (stZ (List.replicate 4096 0) f 8 77)[i]?.getD 0 = if i = f then 77 else 0 := by
  rw [stZ_get 8 _ _ _ _ (by rw [List.length_replicate]; omega)]
  by_cases h1 : f ≤ i ∧ i < f + 8
  · rw [if_pos h1]
    rcases (show i - f = 0 ∨ i - f = 1 ∨ i - f = 2 ∨ i - f = 3 ∨ i - f = 4 ∨ i - f = 5 ∨ i - f = 6 ∨ i - f = 7 from by omega) with h | h | h | h | h | h | h | h
    · rw [h, if_pos (by omega)]; decide
    all_goals (rw [h, if_neg (by omega)]; decide)
  · rw [if_neg h1, if_neg (by omega)]
    simp only [List.getElem?_replicate]; split <;> rfl
theorem zero_get (i n : Nat) : (List.replicate n (0 : Int))[i]?.getD 0 = 0 := by
  simp only [List.getElem?_replicate]; split <;> rfl
theorem whole (zs : List Int) (h : zs.length = 4096) : (zs.drop 0).take 4096 = zs := by rw [List.drop_zero, List.take_of_length_le (by omega)]

set_option maxRecDepth 100000 in
set_option maxHeartbeats 2000000 in
theorem far_yes (a o : Int) (ha : U64 a) (ho : U64 o) (hf : a + o + 8 ≤ 4096) (w : World) :
    Calls Try.prog 5 #[.int .u64 a, .int .u64 o] w fun e w' => e = .returned (.bool true) ∧ Below w.heap.size w w' := by
  have hfit : fits 4096 a o 8 = true := fits_iff.2 ⟨by omega, by omega⟩
  obtain ⟨a0, a1⟩ := ha
  obtain ⟨o0, o1⟩ := ho
  have la : a < 4096 := by omega
  have lo : o < 4096 := by omega
  have HF := hide hfit; clear hfit
  go_enter Try.func5, Try.ntmps5
  go_wp2_with fail
  refine (new_yes 1 1 _ (by omega) (by omega) (by omega)).mono ?_
  rintro e w1 ⟨rfl, hm1, hb1⟩
  simp only [Int.toNat_one, Nat.one_mul] at hm1
  have HM := hide hm1; have HB := hide hb1; clear hm1 hb1
  go_wp2_with fail
  refine (load_yes (unhide HM) a o 8 ⟨a0, a1⟩ ⟨o0, o1⟩ (unhide HF)).mono ?_
  rintro e w2 ⟨rfl, hb2⟩
  have hm2 := (unhide HM).below (Nat.le_refl _) hb2
  have hb2' := Below.on (unhide HB) hb2
  generalize ldZ (List.replicate 4096 0) (a + o).toNat (8 : Int).toNat = V
  clear HM HB hb2
  have HM := hide hm2; have HB := hide hb2'; clear hm2 hb2'
  go_wp2_with fail
  refine (store_yes (unhide HM) a o 8 77 ⟨a0, a1⟩ ⟨o0, o1⟩ ⟨by omega, by omega⟩ (unhide HF)).mono ?_
  rintro e w3 ⟨rfl, hm3, ho3⟩
  have hb3 := (unhide HB).trans (ho3.below (unhide HB).size (by omega) (Nat.le_refl _))
  clear HM HB ho3
  obtain ⟨f, hfe⟩ := Int.eq_ofNat_of_zero_le (show 0 ≤ a + o by omega)
  rw [hfe] at hm3
  simp only [Int.toNat_natCast, show (8 : Int).toNat = 8 from rfl] at hm3
  have HM := hide hm3; have HB := hide hb3; have HE := hide hfe; clear hm3 hb3 hfe
  go_wp2_with fail
  refine (bytes_yes (unhide HM) 0 4096 (by omega) (by omega)).mono ?_
  rintro e w4 ⟨rfl, hy4, hb4⟩
  rw [whole _ (unhide HM).len] at hy4
  have hb4' := Below.on (unhide HB) hb4
  generalize w3.heap.size = G at *
  clear HM HB hb4
  have HY := hide hy4; have HB := hide hb4'; clear hy4 hb4'
  go_wp2_with fail
  go_loop [13] (fun i => ∃ k : Nat, k ≤ 4096 ∧ i = .int .i64 k) (fun i => 4096 - (intOf i).toNat)
  case atStart => exact ⟨0, by omega, rfl⟩
  case round =>
    obtain ⟨k, hk, rfl⟩ := hrel
    by_cases hlt : k < 4096
    · have hc := (unhide HY).2.2.2 k hlt
      have hfe := unhide HE
      rw [far_get f k (by omega)] at hc
      by_cases hkf : k = f
      · rw [if_pos hkf] at hc
        have t : ((k : Int) == a + o) = true := by simp; omega
        clear hfe hkf
        go_wp2
        go_round
        case rel => exact ⟨k + 1, by omega, by go_num⟩
        case measure => simp [intOf]; omega
      · rw [if_neg hkf] at hc
        have t : ((k : Int) == a + o) = false := by simp; omega
        clear hfe hkf
        go_wp2
        go_round
        case rel => exact ⟨k + 1, by omega, by go_num⟩
        case measure => simp [intOf]; omega
    · obtain rfl : k = 4096 := by omega
      go_wp2_with fail
      refine (sure_any _).mono ?_
      rintro e w5 ⟨rfl, hb5⟩
      have HB5 := hide (Below.on (unhide HB) hb5); clear hb5 HB
      go_wp2_with fail
      go_ret
      exact ⟨rfl, unhide HB5⟩

set_option maxRecDepth 100000 in
set_option maxHeartbeats 2000000 in
theorem far_no (a o : Int) (ha : U64 a) (ho : U64 o) (hf : ¬ a + o + 8 ≤ 4096) (w : World) :
    Calls Try.prog 5 #[.int .u64 a, .int .u64 o] w fun e w' => e = .returned (.bool true) ∧ Below w.heap.size w w' := by
  have hfit : fits 4096 a o 8 = false := fits_no.2 (by omega)
  obtain ⟨a0, a1⟩ := ha
  obtain ⟨o0, o1⟩ := ho
  have HF := hide hfit; clear hfit
  by_cases la : a < 4096
  · have hdec : decide (a + o + 8 ≤ 4096) = false := decide_eq_false hf
    clear hf
    by_cases lo : o < 4096
    all_goals
      go_enter Try.func5, Try.ntmps5
      go_wp2_with fail
      refine (new_yes 1 1 _ (by omega) (by omega) (by omega)).mono ?_
      rintro e w1 ⟨rfl, hm1, hb1⟩
      simp only [Int.toNat_one, Nat.one_mul] at hm1
      have HM := hide hm1; have HB := hide hb1; clear hm1 hb1
      go_wp2_with fail
      refine (load_no (unhide HM) a o 8 ⟨a0, a1⟩ ⟨o0, o1⟩ ⟨by omega, by omega⟩ (unhide HF)).mono ?_
      rintro e w2 ⟨rfl, rfl⟩
      go_wp2_with fail
      refine (store_no (unhide HM) a o 8 77 ⟨a0, a1⟩ ⟨o0, o1⟩ ⟨by omega, by omega⟩ (unhide HF)).mono ?_
      rintro e w3 ⟨rfl, rfl⟩
      go_wp2_with fail
      refine (bytes_yes (unhide HM) 0 4096 (by omega) (by omega)).mono ?_
      rintro e w4 ⟨rfl, hy4, hb4⟩
      rw [whole _ (unhide HM).len] at hy4
      have hb4' := Below.on (unhide HB) hb4
      generalize w1.heap.size = G at *
      clear HM HB hb4
      have HY := hide hy4; have HB := hide hb4'; clear hy4 hb4'
      go_wp2_with fail
      go_loop [13] (fun i => ∃ k : Nat, k ≤ 4096 ∧ i = .int .i64 k) (fun i => 4096 - (intOf i).toNat)
      case atStart => exact ⟨0, by omega, rfl⟩
      case round =>
        obtain ⟨k, hk, rfl⟩ := hrel
        by_cases hlt : k < 4096
        · have hc := (unhide HY).2.2.2 k hlt
          rw [zero_get] at hc
          go_wp2
          go_round
          case rel => exact ⟨k + 1, by omega, by go_num⟩
          case measure => simp [intOf]; omega
        · obtain rfl : k = 4096 := by omega
          go_wp2_with fail
          refine (sure_any _).mono ?_
          rintro e w5 ⟨rfl, hb5⟩
          have HB5 := hide (Below.on (unhide HB) hb5); clear hb5 HB
          go_wp2_with fail
          go_ret
          exact ⟨rfl, unhide HB5⟩
  · go_enter Try.func5, Try.ntmps5
    go_wp2_with fail
    refine (new_yes 1 1 _ (by omega) (by omega) (by omega)).mono ?_
    rintro e w1 ⟨rfl, hm1, hb1⟩
    simp only [Int.toNat_one, Nat.one_mul] at hm1
    have HM := hide hm1; have HB := hide hb1; clear hm1 hb1
    go_wp2_with fail
    refine (load_no (unhide HM) a o 8 ⟨a0, a1⟩ ⟨o0, o1⟩ ⟨by omega, by omega⟩ (unhide HF)).mono ?_
    rintro e w2 ⟨rfl, rfl⟩
    go_wp2_with fail
    refine (store_no (unhide HM) a o 8 77 ⟨a0, a1⟩ ⟨o0, o1⟩ ⟨by omega, by omega⟩ (unhide HF)).mono ?_
    rintro e w3 ⟨rfl, rfl⟩
    go_wp2_with fail
    refine (bytes_yes (unhide HM) 0 4096 (by omega) (by omega)).mono ?_
    rintro e w4 ⟨rfl, hy4, hb4⟩
    rw [whole _ (unhide HM).len] at hy4
    have hb4' := Below.on (unhide HB) hb4
    generalize w1.heap.size = G at *
    clear HM HB hb4
    have HY := hide hy4; have HB := hide hb4'; clear hy4 hb4'
    go_wp2_with fail
    go_loop [13] (fun i => ∃ k : Nat, k ≤ 4096 ∧ i = .int .i64 k) (fun i => 4096 - (intOf i).toNat)
    case atStart => exact ⟨0, by omega, rfl⟩
    case round =>
      obtain ⟨k, hk, rfl⟩ := hrel
      by_cases hlt : k < 4096
      · have hc := (unhide HY).2.2.2 k hlt
        rw [zero_get] at hc
        go_wp2
        go_round
        case rel => exact ⟨k + 1, by omega, by go_num⟩
        case measure => simp [intOf]; omega
      · obtain rfl : k = 4096 := by omega
        go_wp2_with fail
        refine (sure_any _).mono ?_
        rintro e w5 ⟨rfl, hb5⟩
        have HB5 := hide (Below.on (unhide HB) hb5); clear hb5 HB
        go_wp2_with fail
        go_ret
        exact ⟨rfl, unhide HB5⟩

set_option maxHeartbeats 400000 in
theorem walk (a0 : Int) (a1 : Int) (w0 : (Lit.int .u64 a0).wf = true) (w1 : (Lit.int .u64 a1).wf = true) (w : World) :
    Calls Try.prog 5 #[.int .u64 a0, .int .u64 a1] w fun e w' => e = .returned (.bool true) ∧ Below w.heap.size w w' := by
  have b0 := bounds_u64 w0
  have b1 := bounds_u64 w1
  by_cases hf : a0 + a1 + 8 ≤ 4096
  · exact far_yes a0 a1 ⟨b0.1, by omega⟩ ⟨b1.1, by omega⟩ hf w
  · exact far_no a0 a1 ⟨b0.1, by omega⟩ ⟨b1.1, by omega⟩ hf w

set_option maxRecDepth 100000 in
theorem lifted (os : Os) (started : os.Started) (H : Type) (enc : TypeId × Value → H) :
    ReturnsInHanded {} Try.checked os 5 .any (Rows.memFarSpec.pre6 enc Try.prog Try.f5 Rows.memFarRow.domain false) (Rows.memFarSpec.post enc Try.prog Try.f5 false true false false) := by
  refine returnsInHanded_of_change (C := Try.checked) own started (by kernel_rfl) Try.func5
    (ChangeSpec.witness6 (enc := enc) (C := Try.checked) false ⟨#[], #[.int .u64 0, .int .u64 0], []⟩ 8 (by kernel_rfl) (by kernel_rfl) (by kernel_rfl) (by kernel_rfl)) ?_
  intro W base args ds gs before hval0 hW hcnd _
  have hval : ∀ (j : Nat) t v, Try.f5.params[j]? = some t → args[j]? = some v → Value.okWide Try.prog W .any base t v := hval0
  have hW' := hW
  obtain ⟨p, q, hA0, hV, rfl, hfz, hnd⟩ := hW
  have hA : DataW.TrodAll enc Try.prog W 0 (fun _ => true) true Try.f5.params.toList args.toList ds p := hA0
  rw [Try.params5] at hA hval
  obtain ⟨v0, vs0, d0, ds0, p0, q0, hargs, rfl, rfl, h0, r0⟩ := trodAll_cons hA
  obtain ⟨v1, vs1, d1, ds1, p1, q1, rfl, rfl, rfl, h1, r1⟩ := trodAll_cons r0
  obtain ⟨rfl, rfl, rfl⟩ := trodAll_nil r1
  obtain rfl : args = #[v0, v1] := by cases args; simp_all
  obtain ⟨rfl, rfl⟩ := trodVars_none hV
  obtain ⟨a0, rfl, rfl, rfl, w0⟩ := open_int Try.underlying32 (hval 0 32 v0 rfl rfl) h0
  obtain ⟨a1, rfl, rfl, rfl, w1⟩ := open_int Try.underlying32 (hval 1 32 v1 rfl rfl) h1
  clear hA0 hval0
  refine (walk a0 a1 w0 w1 W).mono fun e W' ⟨he, bel⟩ => ?_
  subst he
  exact ⟨_, rfl, _, _, _, [], _, [], hW', trodAll_mk1 (shut_bool Try.underlying4 _), (trodAll_cons_mk (shut_int Try.underlying32 w0) (trodAll_cons_mk (shut_int Try.underlying32 w1) trodAll_mk0)), rfl, bel.frame _, fun h => by cases h⟩

theorem over : Rows.memFarRow.holds Try.pinned (OpenSpec.ofChange Rows.memFarSpec) :=
  OpenClaim.holds_of_wide 5 Try.f5 rfl rfl rfl rfl rfl rfl rfl ⟨rfl, rfl, rfl, rfl, rfl⟩ rfl rfl rfl rfl rfl (by kernel_rfl) Try.func5 (by kernel_rfl)
    (of_decide_eq_true (by kernel_rfl)) (by unfold Func.isWrapper; first | (rw [if_pos (by decide +kernel)]; kernel_rfl) | (rw [if_neg (by decide +kernel)]; exact ⟨rfl, rfl⟩))
    (fun os started H enc _ => lifted os started H enc)

theorem proved : Rows.MemFarSaid :=
  over
end Go.Proofs.Ytdeblcbdapggnaa.memFar

namespace Go.Proofs.Ytdeblcbdapggnaa
theorem memFar_holds : Rows.MemFarSaid := memFar.proved
end Go.Proofs.Ytdeblcbdapggnaa
