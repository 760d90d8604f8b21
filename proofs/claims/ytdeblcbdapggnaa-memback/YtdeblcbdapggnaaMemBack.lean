/- MemBack returns true for every uint64, every int and every two uint64: what was stored is loaded, the bytes ahead of it and behind stay, in parts it is the same, and so when pages were added. No condition. -/
import Derived.Test.YtdeblcbdapggnaaRows
import Derived.WalkKit
import Derived.ProofKit
import Derived.OpenShut
import Derived.ShutString
import Derived.Lib.SmallJoins
import Derived.Test.YtdeblcbdapggnaaMemBackW1
import Derived.Test.YtdeblcbdapggnaaMemBackW2
import Derived.Test.YtdeblcbdapggnaaMemBackW4
import Derived.Test.YtdeblcbdapggnaaMemBackW8
namespace Go.Proofs.Ytdeblcbdapggnaa.memBack
open Go.ChangeShapes Go.WideShapes Go.ChangeAt Go.RowKit
set_option linter.unusedVariables false

theorem own : ownKnob Try.prog.godebug = none := by kernel_rfl
theorem laidOut : laidOutB Try.prog = true := by kernel_rfl

theorem walk (t s v x : Int) (w0 : (Lit.int .u64 t).wf = true) (w2 : (Lit.int .u64 v).wf = true) (w3 : (Lit.int .u64 x).wf = true) (w : World) :
    Calls Try.prog 4 #[.int .u64 t, .int .i64 s, .agg #[.int .u64 v, .int .u64 x]] w fun e w' => e = .returned (.bool true) ∧ Below w.heap.size w w' := by
  have bt := bounds_u64 w0; have bv := bounds_u64 w2; have bx := bounds_u64 w3
  have ht : U64 t := ⟨bt.1, by omega⟩
  have hv : U64 v := ⟨bv.1, by omega⟩
  have hx : U64 x := ⟨bx.1, by omega⟩
  have hT : (IntKind.u64.wrap s).tmod 4 = IntKind.u64.wrap s % 4 := Int.tmod_eq_emod_of_nonneg (by rw [IntKind.wrap_u64]; omega)
  rcases (show IntKind.u64.wrap s % 4 = 0 ∨ IntKind.u64.wrap s % 4 = 1 ∨ IntKind.u64.wrap s % 4 = 2 ∨ IntKind.u64.wrap s % 4 = 3 from by omega) with h | h | h | h
  · exact back_1 t s v x w ht hv hx (hT.trans h)
  · exact back_2 t s v x w ht hv hx (hT.trans h)
  · exact back_4 t s v x w ht hv hx (hT.trans h)
  · exact back_8 t s v x w ht hv hx (hT.trans h)

/-- two numbers in an array -/
theorem open_arr2 {H : Type} {enc : TypeId × Value → H} {w : World} {r : Reach} {b0 base : Nat} {spare : Nat → Bool} {held : Bool} {v : Value} {d : DataW H} {p : List MemPlace}
    (hv : Value.okWide Try.prog w r b0 54 v) (h : DataW.Trod enc Try.prog w base spare held 54 v d p) :
    ∃ x y : Int, v = .agg #[.int .u64 x, .int .u64 y] ∧ (Lit.int .u64 x).wf = true ∧ (Lit.int .u64 y).wf = true := by
  have hc : ∃ cs, v = .agg cs ∧ cs.size = Try.prog.cellsOf 54 := by
    simp only [Value.okWide, Try.underlying54] at hv
    obtain ⟨cs, h1, h2, _⟩ := hv
    exact ⟨cs, h1, h2⟩
  obtain ⟨cs, rfl, hsz⟩ := hc
  obtain ⟨c0, c1, rfl⟩ := Go.Joins.array2 (hsz.trans (by kernel_rfl))
  obtain ⟨fuel, hf⟩ := h
  obtain ⟨xs, m, _, _, _, hxl, hxs⟩ := DataW.trod_array Try.underlying54 hf
  have e1 : Try.prog.cellsOf 32 = 1 := by kernel_rfl
  have h0 := hxs 0 (by omega)
  have h1 := hxs 1 (by omega)
  rw [e1] at h0 h1
  simp only [Value.cells, Nat.zero_mul, List.drop_zero, Nat.one_mul] at h0 h1
  rw [List.getElem?_eq_getElem (by omega)] at h0 h1
  obtain ⟨x, e0, _, wx⟩ := DataW.trod_int Try.underlying32 h0
  obtain ⟨y, e2, _, wy⟩ := DataW.trod_int Try.underlying32 h1
  simp at e0 e2
  subst e0 e2
  exact ⟨x, y, rfl, wx, wy⟩

set_option maxRecDepth 100000 in
theorem lifted (os : Os) (started : os.Started) (H : Type) (enc : TypeId × Value → H) :
    ReturnsInHanded {} Try.checked os 4 .any (Rows.memBackSpec.pre6 enc Try.prog Try.f4 Rows.memBackRow.domain false) (Rows.memBackSpec.post enc Try.prog Try.f4 false true false false) := by
  refine returnsInHanded_of_change (C := Try.checked) own started (by kernel_rfl) Try.func4
    (ChangeSpec.witness6 (enc := enc) (C := Try.checked) false ⟨#[], #[.int .u64 0, .int .i64 0, .agg #[.int .u64 0, .int .u64 0]], []⟩ 8 (by kernel_rfl) (by kernel_rfl) (by kernel_rfl) (by kernel_rfl)) ?_
  intro W base args ds gs before hval0 hW hcnd _
  have hval : ∀ (j : Nat) t v, Try.f4.params[j]? = some t → args[j]? = some v → Value.okWide Try.prog W .any base t v := hval0
  have hW' := hW
  obtain ⟨p, q, hA0, hV, rfl, hfz, hnd⟩ := hW
  have hA : DataW.TrodAll enc Try.prog W 0 (fun _ => true) true Try.f4.params.toList args.toList ds p := hA0
  rw [Try.params4] at hA hval
  obtain ⟨v0, vs0, d0, ds0, p0, q0, hargs, rfl, rfl, h0, r0⟩ := trodAll_cons hA
  obtain ⟨v1, vs1, d1, ds1, p1, q1, rfl, rfl, rfl, h1, r1⟩ := trodAll_cons r0
  obtain ⟨v2, vs2, d2, ds2, p2, q2, rfl, rfl, rfl, h2, r2⟩ := trodAll_cons r1
  obtain ⟨rfl, rfl, rfl⟩ := trodAll_nil r2
  obtain rfl : args = #[v0, v1, v2] := by cases args; simp_all
  obtain ⟨rfl, rfl⟩ := trodVars_none hV
  obtain ⟨a0, rfl, rfl, rfl, w0⟩ := open_int Try.underlying32 (hval 0 32 v0 rfl rfl) h0
  obtain ⟨a1, rfl, rfl, rfl, w1⟩ := open_int Try.underlying3 (hval 1 3 v1 rfl rfl) h1
  have k2 := h2
  have lt2 : ∀ x ∈ p2, x.block < W.heap.size := by obtain ⟨m, hm⟩ := k2; exact DataW.trod_lt m _ _ _ hm
  obtain ⟨a2, a3, rfl, w2, w3⟩ := open_arr2 (hval 2 54 v2 rfl rfl) h2
  clear hA0 hval0
  refine (walk a0 a1 a2 a3 w0 w2 w3 W).mono fun e W' ⟨he, bel⟩ => ?_
  subst he
  exact ⟨_, rfl, _, _, _, [], _, [], hW', trodAll_mk1 (shut_bool Try.underlying4 _), (trodAll_cons_mk (shut_int Try.underlying32 w0) (trodAll_cons_mk (shut_int Try.underlying3 w1) (trodAll_cons_mk (Below.trod laidOut (by kernel_rfl) (of_decide_eq_true (by kernel_rfl)) k2 bel lt2) trodAll_mk0))), rfl, bel.frame _, fun h => by cases h⟩

theorem over : Rows.memBackRow.holds Try.pinned (OpenSpec.ofChange Rows.memBackSpec) :=
  OpenClaim.holds_of_wide 4 Try.f4 rfl rfl rfl rfl rfl rfl rfl ⟨rfl, rfl, rfl, rfl, rfl⟩ rfl rfl rfl rfl rfl (by kernel_rfl) Try.func4 (by kernel_rfl)
    (of_decide_eq_true (by kernel_rfl)) (by unfold Func.isWrapper; first | (rw [if_pos (by decide +kernel)]; kernel_rfl) | (rw [if_neg (by decide +kernel)]; exact ⟨rfl, rfl⟩))
    (fun os started H enc _ => lifted os started H enc)
end Go.Proofs.Ytdeblcbdapggnaa.memBack

namespace Go.Proofs.Ytdeblcbdapggnaa
theorem memBack_holds : Rows.MemBackSaid := memBack.over
end Go.Proofs.Ytdeblcbdapggnaa
