/- LebPuts returns true for every slice of bytes and every uint64, and leaves both as they were: PutU and PutS lay the document's bytes behind any others, and SizeU and SizeS tell how many these are. No condition. -/
import Derived.Test.YtkdplpngmldopaaRows
import Derived.WalkKit
import Derived.ProofKit
import Derived.OpenShut
import Derived.ShutString
import Derived.ChangeOld
import Derived.Below
import Derived.Test.YtkdplpngmldopaaConv
namespace Go.Proofs.Ytkdplpngmldopaa.lebPuts
open Go.ChangeShapes Go.WideShapes Go.ChangeAt Go.RowKit
open Go.ChangeMaps (open_string shut_string)
set_option linter.unusedVariables false

theorem own : ownKnob Try.prog.godebug = none := by kernel_rfl
theorem laidOut : laidOutB Try.prog = true := by kernel_rfl

def IsRow (k : IntKind) (w : World) (a : Option Addr) (len cap : Nat) (zs : List Int) : Prop :=
  (a = none ∧ len = 0 ∧ cap = 0 ∧ zs = []) ∨
  ∃ x, a = some x ∧ len ≤ cap ∧ cap ≤ maxLen ∧ zs.length = cap ∧ (∀ i, i < zs.length → w.cell? (x.add i) = some (.int k (zs.getD i 0))) ∧ ∀ n ∈ zs, (Lit.int k n).wf = true

theorem row_of {W : World} {a : Option Addr} {len cap : Nat} {zs : List Int} (h : IsRow .u8 W a len cap zs) : Row W a len (zs.take len) ∧ len ≤ cap := by
  rcases h with ⟨rfl, rfl, rfl, rfl⟩ | ⟨x, rfl, hl, hm, hz, hc, hw⟩
  · exact ⟨⟨rfl, by simp, by simp⟩, Nat.le_refl _⟩
  · refine ⟨⟨by simp; omega, fun z hzm => ?_, fun h0 => ?_⟩, hl⟩
    · have := bounds_u8 (hw z (List.mem_of_mem_take hzm)); omega
    · obtain ⟨b, off, spot⟩ := x
      have h00 := hc 0 (by omega)
      have hspot : spot = none := by simpa [Addr.add] using World.cell?_spot h00
      subst hspot
      have hlt : b < W.heap.size := by
        have h1 : W.cell? ⟨b, off, none⟩ = some (.int .u8 (zs.getD 0 0)) := by simpa [Addr.add] using h00
        exact block_lt_of_cell h1
      refine ⟨b, off, rfl, hlt, fun i hi => ?_⟩
      have := hc i (by omega)
      rw [addr_add] at this
      rw [this]; simp [List.getD, hi]

set_option maxHeartbeats 400000 in
theorem walk (a0 : Option Addr) (len0 cap0 : Nat) (z0 : List Int) (a1 : Int) (w : World) (w0 : IsRow .u8 w a0 len0 cap0 z0) (w1 : (Lit.int .u64 a1).wf = true) :
    Calls Try.prog 3 #[.slice a0 len0 cap0, .int .u64 a1] w fun e w' => e = .returned (.bool true) ∧ Below w.heap.size w w' := by
  obtain ⟨hrow, hcap⟩ := row_of w0
  obtain ⟨b0, b1⟩ := bounds_u64 w1
  generalize z0.take len0 = zs at *
  clear w0 w1
  by_cases hlen : 1000 < len0
  · have HR := hide hrow; clear hrow
    go_enter Try.func3, Try.ntmps3
    go_wp2_with fail
    refine (sure_any _).mono ?_
    rintro e w2 ⟨rfl, hb⟩
    have HB := hide hb; clear hb
    go_wp2_with fail
    go_ret
    exact ⟨rfl, unhide HB⟩
  · obtain ⟨S0, hS0⟩ : ∃ S, strOfNums zs = S := ⟨_, rfl⟩
    obtain ⟨S1, hS1⟩ : ∃ S, strOfNums (Leb.bU 10 a1) = S := ⟨_, rfl⟩
    have hi : -9223372036854775808 ≤ IntKind.i64.wrap a1 ∧ IntKind.i64.wrap a1 < 9223372036854775808 := by rw [IntKind.wrap_i64]; omega
    generalize hsv : IntKind.i64.wrap a1 = sv at *
    obtain ⟨S2, hS2⟩ : ∃ S, strOfNums (Leb.bS 10 sv) = S := ⟨_, rfl⟩
    obtain ⟨S01, hS01⟩ : ∃ S, strOfNums (zs ++ Leb.bU 10 a1) = S := ⟨_, rfl⟩
    obtain ⟨S02, hS02⟩ : ∃ S, strOfNums (zs ++ Leb.bS 10 sv) = S := ⟨_, rfl⟩
    have hadd1 : S0 ++ S1 = S01 := by rw [← hS0, ← hS1, ← hS01, strNums_append]
    have hadd2 : S0 ++ S2 = S02 := by rw [← hS0, ← hS2, ← hS02, strNums_append]
    have hz0 : S0.size = len0 := by rw [← hS0, strOfNums_size]; exact hrow.1
    have hz1 : S1.size = (Leb.bU 10 a1).length := by rw [← hS1, strOfNums_size]
    have hz2 : S2.size = (Leb.bS 10 sv).length := by rw [← hS2, strOfNums_size]
    have hl1 := Leb.bU_len 10 a1
    have hl2 := Leb.bS_len 10 sv
    have H0 := hide hS0; have H1 := hide hS1; have H2 := hide hS2; have H01 := hide hS01; have H02 := hide hS02
    clear hS0 hS1 hS2 hS01 hS02
    have hcv := convS (cap := cap0) hrow H0
    have HR := hide hrow; clear hrow
    go_enter Try.func3, Try.ntmps3
    go_wp2_with fail
    go_region_with (first | (go_at_call 7; refine (refU_any _ _ b0 (by omega)).mono ?_; rintro e w1 ⟨g1, c1, rfl, hr1, _, _, hb1⟩; have hv1 := convS (cap := c1) hr1 H1; have HR1 := hide hr1; have HB1 := hide hb1; clear hr1 hb1) | (go_at_call 8; refine (refS_any _ _ hi.1 hi.2).mono ?_; rintro e w2 ⟨g2, c2, rfl, hr2, _, _, hb2⟩; have hv1' := convS (cap := c1) ((unhide HR1).below (Nat.le_refl _) hb2) H1; have hv2 := convS (cap := c2) hr2 H2; have HB2 := hide hb2; clear hr2 hb2))
    all_goals
      go_wp2_with fail
      have hbw : Below w.heap.size w w2 := Below.on (Below.trans (Below.drew (Below.refl _ _)) (unhide HB1)) (unhide HB2)
      have hr2 := (unhide HR).below (Nat.le_refl _) hbw
      clear hv1 hv1' hv2 HR1 HB1 HB2 hcv
      refine (putU_b a0 len0 cap0 zs a1 _ hr2 b0 (by omega) (by omega)).mono ?_
      rintro e w3 ⟨g3, c3, rfl, hr3, _, _, hb3⟩
      have hv3 := convS (cap := c3) hr3 H01
      have HB3 := hide (Below.on hbw hb3); clear hr3 hb3 hbw hr2
      go_wp2_with fail
      have hr3 := (unhide HR).below (Nat.le_refl _) (unhide HB3)
      clear hv3
      refine (putS_b a0 len0 cap0 zs sv _ hr3 hi.1 hi.2 (by omega)).mono ?_
      rintro e w4 ⟨g4, c4, rfl, hr4, _, _, hb4⟩
      have hv4 := convS (cap := c4) hr4 H02
      have HB4 := hide (Below.on (unhide HB3) hb4); clear hr3 hb4 hr4 HB3
      go_wp2_with fail
      clear hv4
      refine (sizeU_any a1 _ b0 (by omega)).mono ?_
      rintro e w5 ⟨rfl, rfl⟩
      go_wp2_with fail
      refine (sizeS_any sv _ hi.1 hi.2).mono ?_
      rintro e w5 ⟨rfl, rfl⟩
      have hv5 := convS (cap := cap0) ((unhide HR).below (Nat.le_refl _) (unhide HB4)) H0
      go_wp2_with fail
      refine (sure_any _).mono ?_
      rintro e w6 ⟨rfl, hb6⟩
      have HB6 := hide (Below.on (unhide HB4) hb6); clear hb6 HB4 hv5
      go_wp2_with fail
      go_ret
      exact ⟨rfl, unhide HB6⟩

set_option maxRecDepth 100000 in
theorem lifted (os : Os) (started : os.Started) (H : Type) (enc : TypeId × Value → H) :
    ReturnsInHanded {} Try.checked os 3 .any (Rows.lebPutsSpec.pre6 enc Try.prog Try.f3 Rows.lebPutsRow.domain false) (Rows.lebPutsSpec.post enc Try.prog Try.f3 false true false false) := by
  refine returnsInHanded_of_change (C := Try.checked) own started (by kernel_rfl) Try.func3
    (ChangeSpec.witness6 (enc := enc) (C := Try.checked) false ⟨#[], #[.slice none 0 0, .int .u64 0], []⟩ 8 (by kernel_rfl) (by kernel_rfl) (by kernel_rfl) (by kernel_rfl)) ?_
  intro W base args ds gs before hval0 hW hcnd _
  have hval : ∀ (j : Nat) t v, Try.f3.params[j]? = some t → args[j]? = some v → Value.okWide Try.prog W .any base t v := hval0
  have hW' := hW
  obtain ⟨p, q, hA0, hV, rfl, hfz, hnd⟩ := hW
  have hA : DataW.TrodAll enc Try.prog W 0 (fun _ => true) true Try.f3.params.toList args.toList ds p := hA0
  rw [Try.params3] at hA hval
  obtain ⟨v0, vs0, d0, ds0, p0, q0, hargs, rfl, rfl, h0, r0⟩ := trodAll_cons hA
  obtain ⟨v1, vs1, d1, ds1, p1, q1, rfl, rfl, rfl, h1, r1⟩ := trodAll_cons r0
  obtain ⟨rfl, rfl, rfl⟩ := trodAll_nil r1
  obtain rfl : args = #[v0, v1] := by cases args; simp_all
  obtain ⟨rfl, rfl⟩ := trodVars_none hV
  obtain ⟨a0, len0, cap0, rfl⟩ := okWide_slice Try.underlying22 (hval 0 22 v0 rfl rfl)
  have k0 := h0
  have lt0 : ∀ x ∈ p0, x.block < W.heap.size := by obtain ⟨m, hm⟩ := k0; exact DataW.trod_lt m _ _ _ hm
  obtain ⟨z0, w0⟩ : ∃ zs, IsRow .u8 W a0 len0 cap0 zs := by
    obtain ⟨fuel, hf⟩ := h0
    rcases open_ints Try.underlying22 Try.underlying5 (by kernel_rfl) hf with ⟨hcs, _⟩ | ⟨x, l, c, zs, hcs, _, hl, hm, hz, _, hcell, hwz⟩
    · simp [Value.cells] at hcs
      obtain ⟨rfl, rfl, rfl⟩ := hcs
      exact ⟨[], .inl ⟨rfl, rfl, rfl, rfl⟩⟩
    · simp [Value.cells] at hcs
      obtain ⟨rfl, rfl, rfl⟩ := hcs
      exact ⟨zs, .inr ⟨_, rfl, hl, hm, by simpa using hz, hcell, hwz⟩⟩
  obtain ⟨a1, rfl, rfl, rfl, w1⟩ := open_int Try.underlying23 (hval 1 23 v1 rfl rfl) h1
  clear hA0 hval0
  refine (walk a0 len0 cap0 z0 a1 W w0 w1).mono fun e W' ⟨he, bel⟩ => ?_
  subst he
  exact ⟨_, rfl, _, _, _, [], _, [], hW', trodAll_mk1 (shut_bool Try.underlying4 _), (trodAll_cons_mk (Below.trod laidOut (by kernel_rfl) (of_decide_eq_true (by kernel_rfl)) k0 bel lt0) (trodAll_cons_mk (shut_int Try.underlying23 w1) trodAll_mk0)), rfl, bel.frame _, fun h => by cases h⟩

theorem over : Rows.lebPutsRow.holds Try.pinned (OpenSpec.ofChange Rows.lebPutsSpec) :=
  OpenClaim.holds_of_wide 3 Try.f3 rfl rfl rfl rfl rfl rfl rfl ⟨rfl, rfl, rfl, rfl, rfl⟩ rfl rfl rfl rfl rfl (by kernel_rfl) Try.func3 (by kernel_rfl)
    (of_decide_eq_true (by kernel_rfl)) (by unfold Func.isWrapper; first | (rw [if_pos (by decide +kernel)]; kernel_rfl) | (rw [if_neg (by decide +kernel)]; exact ⟨rfl, rfl⟩))
    (fun os started H enc _ => lifted os started H enc)

theorem proved : Rows.LebPutsSaid := over
end Go.Proofs.Ytkdplpngmldopaa.lebPuts

namespace Go.Proofs.Ytkdplpngmldopaa
theorem lebPuts_holds : Rows.LebPutsSaid := lebPuts.proved
end Go.Proofs.Ytkdplpngmldopaa
