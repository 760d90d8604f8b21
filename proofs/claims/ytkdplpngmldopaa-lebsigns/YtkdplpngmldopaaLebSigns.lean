/- LebSigns returns true for every int64, and leaves its argument: PutS of a number that is not below 0 has as many bytes as PutS of the one that is below 0 by one more, and as many as SizeU tells, or one more. No condition. -/
import Derived.Test.YtkdplpngmldopaaRows
import Derived.WalkKit
import Derived.ProofKit
import Derived.OpenShut
import Derived.ShutString
import Derived.Test.YtkdplpngmldopaaSure
namespace Go.Proofs.Ytkdplpngmldopaa.lebSigns
open Go.ChangeShapes Go.WideShapes Go.ChangeAt Go.RowKit
open Go.ChangeMaps (open_string shut_string)
set_option linter.unusedVariables false

theorem own : ownKnob Try.prog.godebug = none := by kernel_rfl

theorem len_neg : ∀ (f : Nat) (v : Int), 0 ≤ v → (Leb.bS f (-v - 1)).length = (Leb.bS f v).length
  | 0, v, h => by simp [Leb.bS]
  | f + 1, v, h => by
    have ih := len_neg f (v / 128) (by omega)
    have e : (-v - 1) / 128 = -(v / 128) - 1 := by omega
    by_cases hf : -64 ≤ v ∧ v < 64
    · have hg : -64 ≤ -v - 1 ∧ -v - 1 < 64 := by omega
      rw [Leb.bS, if_pos hg, Leb.bS, if_pos hf]; simp
    · have hg : ¬ (-64 ≤ -v - 1 ∧ -v - 1 < 64) := by omega
      rw [Leb.bS, if_neg hg, Leb.bS, if_neg hf, e]; simp [ih]
theorem len_us : ∀ (f : Nat) (v : Int), 0 ≤ v → (Leb.bU f v).length ≤ (Leb.bS f v).length ∧ (Leb.bS f v).length ≤ (Leb.bU f v).length + 1
  | 0, v, h => by simp [Leb.bS, Leb.bU]
  | f + 1, v, h => by
    have ih := len_us f (v / 128) (by omega)
    by_cases hu : 127 < v
    · rw [Leb.bU, if_pos hu, Leb.bS, if_neg (by omega)]; simp; omega
    · by_cases hs : v < 64
      · rw [Leb.bU, if_neg hu, Leb.bS, if_pos (by omega)]; simp
      · have e : v / 128 = 0 := by omega
        have h1 : (Leb.bS f 0).length = 1 := by cases f <;> simp [Leb.bS]
        rw [Leb.bU, if_neg hu, Leb.bS, if_neg (by omega), e]; simp [h1]

set_option maxHeartbeats 400000 in
theorem rest (v : Int) (w : World) (h0 : 0 ≤ v) (h1 : v ≤ 9223372036854775807) (n : Nat) (hn : (Leb.bS 10 v).length = n) (m : Nat) (hm : (Leb.bU 10 v).length = m) : n ≤ 11 ∧ 1 ≤ n ∧ m ≤ n ∧ n ≤ m + 1 ∧ (Leb.bS 10 (-v - 1)).length = n := by
  have a := Leb.bS_len 10 v
  have b := Leb.bS_pos 10 v
  have c := len_us 10 v h0
  have d := len_neg 10 v h0
  omega

set_option maxHeartbeats 400000 in
theorem walk (a0 : Int) (w0 : (Lit.int .i64 a0).wf = true) (w : World) :
    Calls Try.prog 5 #[.int .i64 a0] w fun e w' => e = .returned (.bool true) ∧ Below w.heap.size w w' := by
  obtain ⟨bd0, bd1⟩ := bounds_i64 w0
  by_cases h : a0 < 0
  · go_enter Try.func5, Try.ntmps5
    go_wp2_with fail
    have hv0 : 0 ≤ -(a0 + 1) := by omega
    have hv1 : -(a0 + 1) ≤ 9223372036854775807 := by omega
    generalize -(a0 + 1) = v at *
    obtain ⟨n, hn⟩ : ∃ n, (Leb.bS 10 v).length = n := ⟨_, rfl⟩
    obtain ⟨m, hm⟩ : ∃ m, (Leb.bU 10 v).length = m := ⟨_, rfl⟩
    obtain ⟨r1, r2, r3, r4, r5⟩ := rest v w (by omega) (by omega) n hn m hm
    have HN := hide hn; have HM := hide hm; have H5 := hide r5; clear hn hm r5
    refine (putS_b none 0 0 [] v _ (Row.nil _) (by omega) (by omega) (by omega)).mono ?_
    rintro e w1 ⟨g, cap, rfl, _, _, _, hb1⟩
    rw [unhide HN]
    have HB1 := hide hb1; clear hb1
    go_wp2_with fail
    refine (putS_b none 0 0 [] (-v - 1) _ (Row.nil _) (by omega) (by omega) (by omega)).mono ?_
    rintro e w2 ⟨g2, cap2, rfl, _, _, _, hb2⟩
    rw [unhide H5]
    have HB2 := hide (Below.on (unhide HB1) hb2); clear hb2 HB1
    go_wp2_with fail
    refine (sizeU_any v _ (by omega) (by omega)).mono ?_
    rintro e w3 ⟨rfl, rfl⟩
    rw [unhide HM]
    go_wp2_with fail
    refine (sizeU_any v _ (by omega) (by omega)).mono ?_
    rintro e w3 ⟨rfl, rfl⟩
    rw [unhide HM]
    go_wp2_with fail
    refine (sure_any _).mono ?_
    rintro e w4 ⟨rfl, hb4⟩
    have HB4 := hide (Below.on (unhide HB2) hb4); clear hb4 HB2
    go_wp2_with fail
    go_ret
    exact ⟨rfl, unhide HB4⟩
  · go_enter Try.func5, Try.ntmps5
    go_wp2_with fail
    obtain ⟨n, hn⟩ : ∃ n, (Leb.bS 10 a0).length = n := ⟨_, rfl⟩
    obtain ⟨m, hm⟩ : ∃ m, (Leb.bU 10 a0).length = m := ⟨_, rfl⟩
    obtain ⟨r1, r2, r3, r4, r5⟩ := rest a0 w (by omega) (by omega) n hn m hm
    have HN := hide hn; have HM := hide hm; have H5 := hide r5; clear hn hm r5
    refine (putS_b none 0 0 [] a0 _ (Row.nil _) (by omega) (by omega) (by omega)).mono ?_
    rintro e w1 ⟨g, cap, rfl, _, _, _, hb1⟩
    rw [unhide HN]
    have HB1 := hide hb1; clear hb1
    go_wp2_with fail
    refine (putS_b none 0 0 [] (-a0 - 1) _ (Row.nil _) (by omega) (by omega) (by omega)).mono ?_
    rintro e w2 ⟨g2, cap2, rfl, _, _, _, hb2⟩
    rw [unhide H5]
    have HB2 := hide (Below.on (unhide HB1) hb2); clear hb2 HB1
    go_wp2_with fail
    refine (sizeU_any a0 _ (by omega) (by omega)).mono ?_
    rintro e w3 ⟨rfl, rfl⟩
    rw [unhide HM]
    go_wp2_with fail
    refine (sizeU_any a0 _ (by omega) (by omega)).mono ?_
    rintro e w3 ⟨rfl, rfl⟩
    rw [unhide HM]
    go_wp2_with fail
    refine (sure_any _).mono ?_
    rintro e w4 ⟨rfl, hb4⟩
    have HB4 := hide (Below.on (unhide HB2) hb4); clear hb4 HB2
    go_wp2_with fail
    go_ret
    exact ⟨rfl, unhide HB4⟩

set_option maxRecDepth 100000 in
theorem lifted (os : Os) (started : os.Started) (H : Type) (enc : TypeId × Value → H) :
    ReturnsInHanded {} Try.checked os 5 .any (Rows.lebSignsSpec.pre6 enc Try.prog Try.f5 Rows.lebSignsRow.domain false) (Rows.lebSignsSpec.post enc Try.prog Try.f5 false true false false) := by
  refine returnsInHanded_of_change (C := Try.checked) own started (by kernel_rfl) Try.func5
    (ChangeSpec.witness6 (enc := enc) (C := Try.checked) false ⟨#[], #[.int .i64 0], []⟩ 8 (by kernel_rfl) (by kernel_rfl) (by kernel_rfl) (by kernel_rfl)) ?_
  intro W base args ds gs before hval0 hW hcnd _
  have hval : ∀ (j : Nat) t v, Try.f5.params[j]? = some t → args[j]? = some v → Value.okWide Try.prog W .any base t v := hval0
  have hW' := hW
  obtain ⟨p, q, hA0, hV, rfl, hfz, hnd⟩ := hW
  have hA : DataW.TrodAll enc Try.prog W 0 (fun _ => true) true Try.f5.params.toList args.toList ds p := hA0
  rw [Try.params5] at hA hval
  obtain ⟨v0, vs0, d0, ds0, p0, q0, hargs, rfl, rfl, h0, r0⟩ := trodAll_cons hA
  obtain ⟨rfl, rfl, rfl⟩ := trodAll_nil r0
  obtain rfl : args = #[v0] := by cases args; simp_all
  obtain ⟨rfl, rfl⟩ := trodVars_none hV
  obtain ⟨a0, rfl, rfl, rfl, w0⟩ := open_int Try.underlying2 (hval 0 2 v0 rfl rfl) h0
  clear hA0 hval0
  refine (walk a0 w0 W).mono fun e W' ⟨he, bel⟩ => ?_
  subst he
  exact ⟨_, rfl, _, _, _, [], _, [], hW', trodAll_mk1 (shut_bool Try.underlying4 _), (trodAll_cons_mk (shut_int Try.underlying2 w0) trodAll_mk0), rfl, bel.frame _, fun h => by cases h⟩

theorem over : Rows.lebSignsRow.holds Try.pinned (OpenSpec.ofChange Rows.lebSignsSpec) :=
  OpenClaim.holds_of_wide 5 Try.f5 rfl rfl rfl rfl rfl rfl rfl ⟨rfl, rfl, rfl, rfl, rfl⟩ rfl rfl rfl rfl rfl (by kernel_rfl) Try.func5 (by kernel_rfl)
    (of_decide_eq_true (by kernel_rfl)) (by unfold Func.isWrapper; first | (rw [if_pos (by decide +kernel)]; kernel_rfl) | (rw [if_neg (by decide +kernel)]; exact ⟨rfl, rfl⟩))
    (fun os started H enc _ => lifted os started H enc)

theorem proved : Rows.LebSignsSaid :=
  over
end Go.Proofs.Ytkdplpngmldopaa.lebSigns

namespace Go.Proofs.Ytkdplpngmldopaa
theorem lebSigns_holds : Rows.LebSignsSaid := lebSigns.proved
end Go.Proofs.Ytkdplpngmldopaa
