/- MemRuns returns true for every two ints and every list of acts: whatever is stored, loaded and grown, all answers, the pages, the sum and the bytes are those of the document's list. No condition. -/
import Derived.Test.YtdeblcbdapggnaaRows
import Derived.WalkKit
import Derived.ProofKit
import Derived.OpenShut
import Derived.ShutString
import Derived.Deep.Slices
import Derived.Test.YtdeblcbdapggnaaMemRunW
namespace Go.Proofs.Ytdeblcbdapggnaa.memRuns
open Go.ChangeShapes Go.WideShapes Go.ChangeAt Go.RowKit
set_option linter.unusedVariables false

theorem own : ownKnob Try.prog.godebug = none := by kernel_rfl
theorem laidOut : laidOutB Try.prog = true := by kernel_rfl

theorem walk (pg mo : Int) (al : Option Addr) (ll cl : Nat) (A : Nat → Int × Int × Int × Int × Int) (w : World) (hA : Acts w al ll A) :
    Calls Try.prog 3 #[.int .i64 pg, .int .i64 mo, .slice al ll cl] w fun e w' => e = .returned (.bool true) ∧ Below w.heap.size w w' := by
  have h1 : 0 ≤ IntKind.u64.wrap mo := by rw [IntKind.wrap_u64]; omega
  have h2 : 0 ≤ IntKind.u64.wrap pg := by rw [IntKind.wrap_u64]; omega
  obtain ⟨K, hK⟩ := Int.eq_ofNat_of_zero_le (show 0 ≤ IntKind.u64.wrap mo % 17 by omega)
  have eK : (IntKind.u64.wrap mo).tmod 17 = (K : Int) := by rw [Int.tmod_eq_emod_of_nonneg h1]; exact hK
  have hp : (0 : Int) < (K : Int) + 1 := by omega
  have hn0 := Int.emod_nonneg (IntKind.u64.wrap pg) (show (K : Int) + 1 ≠ 0 by omega)
  have hn1 := Int.emod_lt_of_pos (IntKind.u64.wrap pg) hp
  obtain ⟨N, hN⟩ := Int.eq_ofNat_of_zero_le hn0
  have eN : (IntKind.u64.wrap pg).tmod ((K : Int) + 1) = (N : Int) := by rw [Int.tmod_eq_emod_of_nonneg h2]; exact hN
  exact runs_any pg mo al ll cl A w hA K N eK (by omega) eN (by omega)

theorem add_lit (b off j : Nat) : (⟨b, off, none⟩ : Addr).add j = ⟨b, off + j, none⟩ := by
  by_cases h : j = 0 <;> simp [Addr.add, h]
theorem one_cell {cs : List Value} {k : Nat} {x : Value} (hl : cs.length = 5) (h : (cs.drop k).take 1 = [x]) : cs[k]? = some x := by
  have h1 : ((cs.drop k).take 1)[0]? = some x := by rw [h]; rfl
  rw [List.getElem?_take_of_lt (by omega), List.getElem?_drop] at h1
  simpa using h1

/-- one act, of its five cells -/
theorem open_act {H : Type} {enc : TypeId × Value → H} {w : World} {base : Nat} {spare : Nat → Bool} {held : Bool} {fuel : Nat} {cs : List Value} {x : DataW H × List MemPlace}
    (h : DataW.trod enc Try.prog w base spare held fuel 34 cs = some x) :
    ∃ q ta to ts tv : Int, cs.length = 5 ∧ cs[0]? = some (.int .i64 q) ∧ cs[1]? = some (.int .u64 ta) ∧ cs[2]? = some (.int .u64 to) ∧ cs[3]? = some (.int .i64 ts) ∧ cs[4]? = some (.int .u64 tv) ∧
      U64 ta ∧ U64 to ∧ (-9223372036854775808 ≤ ts ∧ ts < 9223372036854775808) ∧ U64 tv := by
  obtain ⟨xs, n, _, _, hl, hlen, hf⟩ := DataW.trod_struct Try.underlying34 h
  have hl5 : cs.length = 5 := hl.trans (by kernel_rfl)
  have hxl : xs.length = 5 := hlen
  have g0 := hf 0 _ rfl
  have g1 := hf 1 _ rfl
  have g2 := hf 2 _ rfl
  have g3 := hf 3 _ rfl
  have g4 := hf 4 _ rfl
  rw [List.getElem?_eq_getElem (by omega)] at g0 g1 g2 g3 g4
  obtain ⟨q, e0, _, _⟩ := DataW.trod_int Try.underlying3 g0
  obtain ⟨ta, e1, _, w1⟩ := DataW.trod_int Try.underlying32 g1
  obtain ⟨to, e2, _, w2⟩ := DataW.trod_int Try.underlying32 g2
  obtain ⟨ts, e3, _, w3⟩ := DataW.trod_int Try.underlying3 g3
  obtain ⟨tv, e4, _, w4⟩ := DataW.trod_int Try.underlying32 g4
  have c1 : Try.prog.cellsOf 32 = 1 := by kernel_rfl
  have c0 : Try.prog.cellsOf 3 = 1 := by kernel_rfl
  have f0 : (cs.drop 0).take (Try.prog.cellsOf 3) = [.int .i64 q] := e0
  have f1 : (cs.drop 1).take (Try.prog.cellsOf 32) = [.int .u64 ta] := e1
  have f2 : (cs.drop 2).take (Try.prog.cellsOf 32) = [.int .u64 to] := e2
  have f3 : (cs.drop 3).take (Try.prog.cellsOf 3) = [.int .i64 ts] := e3
  have f4 : (cs.drop 4).take (Try.prog.cellsOf 32) = [.int .u64 tv] := e4
  rw [c0] at f0 f3
  rw [c1] at f1 f2 f4
  have b1 := bounds_u64 w1; have b2 := bounds_u64 w2; have b3 := bounds_i64 w3; have b4 := bounds_u64 w4
  exact ⟨q, ta, to, ts, tv, hl5, one_cell hl5 f0, one_cell hl5 f1, one_cell hl5 f2, one_cell hl5 f3, one_cell hl5 f4, ⟨b1.1, by omega⟩, ⟨b2.1, by omega⟩, ⟨b3.1, by omega⟩, ⟨b4.1, by omega⟩⟩

theorem open_acts {H : Type} {enc : TypeId × Value → H} {w : World} {al : Option Addr} {ll cl : Nat} {d : DataW H} {p : List MemPlace}
    (h : DataW.Trod enc Try.prog w 0 (fun _ => true) true 22 (.slice al ll cl) d p) : ∃ A, Acts w al ll A := by
  obtain ⟨fuel, hf⟩ := h
  rcases Go.Deep.open_slice Try.underlying22 hf with ⟨hcs, _⟩ | ⟨a, len, cap, m, n, D, Pl, hcs, _, hlc, hcm, hm, _, hx⟩
  · simp [Value.cells] at hcs
    obtain ⟨rfl, rfl, rfl⟩ := hcs
    exact ⟨fun _ => (0, 0, 0, 0, 0), ⟨by omega, fun i hi => by omega, by omega⟩⟩
  · simp [Value.cells] at hcs
    obtain ⟨rfl, rfl, rfl⟩ := hcs
    have c5 : Try.prog.cellsOf 34 = 5 := by kernel_rfl
    rw [c5] at hx
    simp only [if_true] at hm
    subst hm
    unfold maxLen at hcm
    obtain ⟨A, hA⟩ := Go.Deep.choose_lt (α := Int × Int × Int × Int × Int) (n := ll) (p := fun i x =>
        (w.cell? ((a.add (i * 5)).add 0) = some (.int .i64 x.1) ∧ w.cell? ((a.add (i * 5)).add 1) = some (.int .u64 x.2.1) ∧ w.cell? ((a.add (i * 5)).add 2) = some (.int .u64 x.2.2.1) ∧ w.cell? ((a.add (i * 5)).add 3) = some (.int .i64 x.2.2.2.1) ∧ w.cell? ((a.add (i * 5)).add 4) = some (.int .u64 x.2.2.2.2)) ∧
        U64 x.2.1 ∧ U64 x.2.2.1 ∧ (-9223372036854775808 ≤ x.2.2.2.1 ∧ x.2.2.2.1 < 9223372036854775808) ∧ U64 x.2.2.2.2) (fun i hi => by
      obtain ⟨cs', h1, h2⟩ := hx i (by omega)
      obtain ⟨_, _, hc⟩ := World.cells?_some h1
      obtain ⟨q, ta, to, ts, tv, hl, e0, e1, e2, e3, e4, u1, u2, u3, u4⟩ := open_act h2
      exact ⟨(q, ta, to, ts, tv), ⟨(hc 0 (by omega)).trans e0, (hc 1 (by omega)).trans e1, (hc 2 (by omega)).trans e2, (hc 3 (by omega)).trans e3, (hc 4 (by omega)).trans e4⟩, u1, u2, u3, u4⟩)
    refine ⟨A, ⟨fun h0 => ?_, fun i hi => (hA i hi).2, by omega⟩⟩
    obtain ⟨b, off, spot⟩ := a
    have hs : spot = none := by
      have := (hA 0 h0).1.1
      cases spot with
      | none => rfl
      | some s => simp [World.cell?, Addr.add] at this; split at this <;> simp_all
    subst hs
    have hb := World.block_lt_of_cell? w _ (hA 0 h0).1.1
    refine ⟨b, off, rfl, by simpa [add_lit] using hb, fun i hi => ?_⟩
    have := (hA i hi).1
    simpa [add_lit] using this

set_option maxRecDepth 100000 in
theorem lifted (os : Os) (started : os.Started) (H : Type) (enc : TypeId × Value → H) :
    ReturnsInHanded {} Try.checked os 3 .any (Rows.memRunsSpec.pre6 enc Try.prog Try.f3 Rows.memRunsRow.domain false) (Rows.memRunsSpec.post enc Try.prog Try.f3 false true false false) := by
  refine returnsInHanded_of_change (C := Try.checked) own started (by kernel_rfl) Try.func3
    (ChangeSpec.witness6 (enc := enc) (C := Try.checked) false ⟨#[], #[.int .i64 0, .int .i64 0, .slice none 0 0], []⟩ 8 (by kernel_rfl) (by kernel_rfl) (by kernel_rfl) (by kernel_rfl)) ?_
  intro W base args ds gs before hval0 hW hcnd _
  have hval : ∀ (j : Nat) t v, Try.f3.params[j]? = some t → args[j]? = some v → Value.okWide Try.prog W .any base t v := hval0
  have hW' := hW
  obtain ⟨p, q, hA0, hV, rfl, hfz, hnd⟩ := hW
  have hA : DataW.TrodAll enc Try.prog W 0 (fun _ => true) true Try.f3.params.toList args.toList ds p := hA0
  rw [Try.params3] at hA hval
  obtain ⟨v0, vs0, d0, ds0, p0, q0, hargs, rfl, rfl, h0, r0⟩ := trodAll_cons hA
  obtain ⟨v1, vs1, d1, ds1, p1, q1, rfl, rfl, rfl, h1, r1⟩ := trodAll_cons r0
  obtain ⟨v2, vs2, d2, ds2, p2, q2, rfl, rfl, rfl, h2, r2⟩ := trodAll_cons r1
  obtain ⟨rfl, rfl, rfl⟩ := trodAll_nil r2
  obtain rfl : args = #[v0, v1, v2] := by cases args; simp_all
  obtain ⟨rfl, rfl⟩ := trodVars_none hV
  obtain ⟨a0, rfl, rfl, rfl, w0⟩ := open_int Try.underlying3 (hval 0 3 v0 rfl rfl) h0
  obtain ⟨a1, rfl, rfl, rfl, w1⟩ := open_int Try.underlying3 (hval 1 3 v1 rfl rfl) h1
  have k2 := h2
  have lt2 : ∀ x ∈ p2, x.block < W.heap.size := by obtain ⟨m, hm⟩ := k2; exact DataW.trod_lt m _ _ _ hm
  obtain ⟨al, ll, cl, rfl⟩ := okWide_slice Try.underlying22 (hval 2 22 v2 rfl rfl)
  obtain ⟨A, hacts⟩ := open_acts h2
  clear hA0 hval0
  refine (walk a0 a1 al ll cl A W hacts).mono fun e W' ⟨he, bel⟩ => ?_
  subst he
  exact ⟨_, rfl, _, _, _, [], _, [], hW', trodAll_mk1 (shut_bool Try.underlying4 _), (trodAll_cons_mk (shut_int Try.underlying3 w0) (trodAll_cons_mk (shut_int Try.underlying3 w1) (trodAll_cons_mk (Below.trod laidOut (by kernel_rfl) (of_decide_eq_true (by kernel_rfl)) k2 bel lt2) trodAll_mk0))), rfl, bel.frame _, fun h => by cases h⟩

theorem over : Rows.memRunsRow.holds Try.pinned (OpenSpec.ofChange Rows.memRunsSpec) :=
  OpenClaim.holds_of_wide 3 Try.f3 rfl rfl rfl rfl rfl rfl rfl ⟨rfl, rfl, rfl, rfl, rfl⟩ rfl rfl rfl rfl rfl (by kernel_rfl) Try.func3 (by kernel_rfl)
    (of_decide_eq_true (by kernel_rfl)) (by unfold Func.isWrapper; first | (rw [if_pos (by decide +kernel)]; kernel_rfl) | (rw [if_neg (by decide +kernel)]; exact ⟨rfl, rfl⟩))
    (fun os started H enc _ => lifted os started H enc)
end Go.Proofs.Ytdeblcbdapggnaa.memRuns

namespace Go.Proofs.Ytdeblcbdapggnaa
theorem memRuns_holds : Rows.MemRunsSaid := memRuns.over
end Go.Proofs.Ytdeblcbdapggnaa
