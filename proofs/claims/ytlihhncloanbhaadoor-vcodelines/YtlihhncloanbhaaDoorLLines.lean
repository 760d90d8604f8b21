/- VcodeLines returns true for every code, and leaves it: code that may be has as many lines as it has blocks and instructions, and one; as many of them as it has instructions begin with two blanks; or there is the error for too long a text. Of ops' tables, of internal/strconv's powers of ten, of two tables of math/bits and of errors.errorType it takes what the program's text lays (the card ties it). -/
import Derived.Test.YtlihhncloanbhaaDoorVcP
import Derived.Test.YtlihhncloanbhaaDoorRows
import Derived.OpenShut
import Derived.ShutString
import Derived.ProofKit
import Derived.Lib.SmallJoins
import Derived.Deep.DeepHandedRow
import Derived.Test.YtlihhncloanbhaaDoorNum
import Derived.ChangeOld
import Derived.ChangeSame
import Derived.ChangeVars
import Derived.JoinedOf
import Derived.RowKit
import Derived.RowKitTokens
import Derived.LaidLaws
import Derived.LaidHandle
import Derived.Stop.Joined
import Derived.Test.YtlihhncloanbhaaDoorTie
import Derived.Test.YtlihhncloanbhaaDoorCards
import Derived.WalkKit
import Derived.Below
import Derived.Test.YtlihhncloanbhaaDoorVcLb
import Derived.Test.YtlihhncloanbhaaDoorOpL

/- Code that comes in, opened, however long. -/
namespace Go.Proofs.YtlihhncloanbhaaDoor
open Go.ChangeShapes Go.WideShapes Go.ChangeAt Go.RowKit
namespace Vc
set_option linter.unusedVariables false
set_option linter.unusedSimpArgs false

theorem cell_at {cs : List Value} {k n : Nat} {x : Value} (hl : cs.length = n) (hk : k < n) (h : (cs.drop k).take 1 = [x]) : cs[k]? = some x := by
  have h1 : ((cs.drop k).take 1)[0]? = some x := by rw [h]; rfl
  rw [List.getElem?_take_of_lt (by omega), List.getElem?_drop] at h1
  simpa using h1
theorem list3 {cs : List Value} {x0 x1 x2 : Value} (h : cs.length = 3) (h0 : cs[0]? = some x0) (h1 : cs[1]? = some x1) (h2 : cs[2]? = some x2) : cs = [x0, x1, x2] := by
  match cs, h with
  | [y0, y1, y2], _ => simp_all
theorem list4 {cs : List Value} {x0 x1 x2 x3 : Value} (h : cs.length = 4) (h0 : cs[0]? = some x0) (h1 : cs[1]? = some x1) (h2 : cs[2]? = some x2) (h3 : cs[3]? = some x3) : cs = [x0, x1, x2, x3] := by
  match cs, h with
  | [y0, y1, y2, y3], _ => simp_all
theorem list5 {cs : List Value} {x0 x1 x2 x3 x4 : Value} (h : cs.length = 5) (h0 : cs[0]? = some x0) (h1 : cs[1]? = some x1) (h2 : cs[2]? = some x2) (h3 : cs[3]? = some x3) (h4 : cs[4]? = some x4) : cs = [x0, x1, x2, x3, x4] := by
  match cs, h with
  | [y0, y1, y2, y3, y4], _ => simp_all
theorem open_nums {H : Type} {enc : TypeId × Value → H} {w : World} {base fuel : Nat} {cs : List Value} {x : DataW H × List MemPlace}
    (h : DataW.trod enc Tryd.prog w base (fun _ => true) true fuel 45 cs = some x) : ∃ (ls : List Int) (v : Value), cs = [v] ∧ NumsL w (fun _ => True) ls v ∧ (∀ z ∈ ls, i64 z) ∧ ls.length ≤ 9223372036854775807 := by
  rcases open_ints Tryd.underlying45 Tryd.underlying3 (by kernel_rfl) h with ⟨hcs, hx⟩ | ⟨a, len, cap, zs, hcs, _, hl, hm, hz, hx, hc, hw⟩
  · exact ⟨[], _, hcs, ⟨none, 0, rfl, Nat.le_refl _, fun _ => rfl, fun h => by simp at h⟩, by simp, by simp⟩
  · have hzl : zs.length = cap := by simpa using hz
    have hlt : (zs.take len).length = len := by simp; omega
    refine ⟨zs.take len, .slice (some a) len cap, hcs, ⟨some a, cap, by rw [hlt], by omega, by simp, fun h0 => ?_⟩, fun z hzm => ?_, ?_⟩
    · obtain ⟨b, off, spot⟩ := a
      have h00 := hc 0 (by omega)
      have hspot : spot = none := by simpa [Addr.add] using World.cell?_spot h00
      subst hspot
      refine ⟨b, off, rfl, trivial, fun i hi => ?_⟩
      have := hc i (by omega)
      rw [Addr.add_lit] at this
      rw [this]; simp [List.getD, show i < len by omega]
    · have := bounds_i64 (hw z (List.mem_of_mem_take hzm)); exact ⟨this.1, this.2⟩
    · have : cap ≤ 9223372036854775807 := hm
      omega
theorem open_list {H α : Type} [Inhabited α] {enc : TypeId × Value → H} {w : World} {base fuel : Nat} {cs : List Value} {x : DataW H × List MemPlace} {It : World → (Nat → Prop) → α → List Value → Prop} {c : Nat} {S T : TypeId} {Wf : α → Prop}
    (hu : Tryd.prog.underlying S = some (.slice T)) (hc8 : Tryd.prog.cellsOf T = c) (hc0 : 0 < c)
    (item : ∀ m cs y, DataW.trod enc Tryd.prog w base (fun _ => true) true m T cs = some y → ∃ a : α, cs.length = c ∧ It w (fun _ => True) a cs ∧ Wf a)
    (h : DataW.trod enc Tryd.prog w base (fun _ => true) true fuel S cs = some x) : ∃ (l : List α) (v : Value), cs = [v] ∧ LL It c w (fun _ => True) l v ∧ (∀ a ∈ l, Wf a) ∧ l.length ≤ 9223372036854775807 := by
  rcases DataW.trod_slice hu h with ⟨hcs, hx⟩ | ⟨a, len, cap, elems, rest, n, hfn, hcs, hx, _, hl, hm, hel, hE, _, _⟩
  · exact ⟨[], _, hcs, LL_nil _ _ _ _, by simp, Nat.zero_le _⟩
  · rw [hc8] at hE
    obtain ⟨A, hA⟩ := Go.Deep.choose_lt (α := α) (n := len) (p := fun j i => (∃ cs, cs.length = c ∧ It w (fun _ => True) i cs ∧ ∀ k u, cs[k]? = some u → w.cell? ((a.add (j * c)).add k) = some u) ∧ Wf i) (fun j hj => by
      have h1 := hE j hj
      rw [List.getElem?_eq_getElem (show j < elems.length by omega)] at h1
      obtain ⟨cs', h2, h3⟩ := Option.bind_eq_some_iff.1 h1
      obtain ⟨_, hcl, hc⟩ := World.cells?_some h2
      obtain ⟨i, q1, q2, q3⟩ := item n cs' _ h3
      refine ⟨i, ⟨cs', q1, q2, fun k u hu => ?_⟩, q3⟩
      have hk := (List.getElem?_eq_some_iff.1 hu).1
      exact (hc k (by omega)).trans hu)
    have hll : ((List.range len).map A).length = len := by simp
    refine ⟨(List.range len).map A, .slice (some a) len cap, hcs, ⟨some a, cap, by rw [hll], by omega, by simp, fun h0 => ?_⟩, fun i hi => ?_, ?_⟩
    · obtain ⟨b, off, spot⟩ := a
      have hfirst : w.cell? ((Addr.add ⟨b, off, spot⟩ (0 * c)).add 0) ≠ none := by
        obtain ⟨⟨cs', h1, _, h2⟩, _⟩ := hA 0 (by omega)
        rw [h2 0 (cs'[0]'(by omega)) (List.getElem?_eq_getElem _)]; simp
      obtain ⟨u0, hu0⟩ := Option.ne_none_iff_exists'.1 hfirst
      have hsp : spot = none := by simpa [Addr.add] using World.cell?_spot hu0
      subst hsp
      have hblt : b < w.heap.size := by
        have : w.cell? ⟨b, off, none⟩ = some u0 := by simpa [Addr.add] using hu0
        exact block_lt_of_cell this
      refine ⟨b, off, rfl, trivial, hblt, fun j y hy => ?_⟩
      have hj : j < len := by have := (List.getElem?_eq_some_iff.1 hy).1; simpa using this
      obtain ⟨⟨cs', q1, q2, q3⟩, _⟩ := hA j hj
      have hAj : y = A j := by
        have := (List.getElem?_eq_some_iff.1 hy).2; rw [← this]; simp
      rw [hAj]
      refine ⟨cs', q1, q2, fun k u hu => ?_⟩
      have := q3 k u hu
      simp only [Addr.add_lit] at this
      exact this
    · obtain ⟨j, hj, rfl⟩ := List.getElem_of_mem hi
      have hAj : ((List.range len).map A)[j] = A j := by simp
      rw [hAj]
      exact (hA j (by simpa using hj)).2
    · have : cap ≤ 9223372036854775807 := hm
      rw [hll]; omega
theorem open_in {H : Type} {enc : TypeId × Value → H} {w : World} {base fuel : Nat} {cs : List Value} {d : DataW H × List MemPlace}
    (h : DataW.trod enc Tryd.prog w base (fun _ => true) true fuel 55 cs = some d) : ∃ x : In, cs.length = 5 ∧ InC w (fun _ => True) x cs ∧ WfI0 x := by
  obtain ⟨xs, n, hfn, hx, hl, hlen, hf⟩ := DataW.trod_struct Tryd.underlying55 h
  have hl8 : cs.length = 5 := hl.trans (by kernel_rfl)
  have hxl : xs.length = 5 := hlen
  have g0 := hf 0 _ rfl
  have g1 := hf 1 _ rfl
  have g2 := hf 2 _ rfl
  have g3 := hf 3 _ rfl
  have g4 := hf 4 _ rfl
  rw [List.getElem?_eq_getElem (by omega)] at g0 g1 g2 g3 g4
  have c0 : Tryd.prog.cellsOf 5 = 1 := by kernel_rfl
  have c1 : Tryd.prog.cellsOf 3 = 1 := by kernel_rfl
  have c2 : Tryd.prog.cellsOf 45 = 1 := by kernel_rfl
  have c3 : Tryd.prog.cellsOf 2 = 1 := by kernel_rfl
  have c4 : Tryd.prog.cellsOf 48 = 1 := by kernel_rfl
  obtain ⟨z0, e0, _, w0⟩ := DataW.trod_int Tryd.underlying5 g0
  obtain ⟨z1, e1, _, w1⟩ := DataW.trod_int Tryd.underlying3 g1
  obtain ⟨z2, v2, e2, q2, w2, k2⟩ := open_nums g2
  obtain ⟨z3, e3, _, w3⟩ := DataW.trod_int Tryd.underlying2 g3
  obtain ⟨z4, e4, _, w4⟩ := DataW.trod_int Tryd.underlying48 g4
  have f0 : (cs.drop 0).take (Tryd.prog.cellsOf 5) = [.int .u8 z0] := e0
  have f1 : (cs.drop 1).take (Tryd.prog.cellsOf 3) = [.int .i64 z1] := e1
  have f2 : (cs.drop 2).take (Tryd.prog.cellsOf 45) = [v2] := e2
  have f3 : (cs.drop 3).take (Tryd.prog.cellsOf 2) = [.int .i64 z3] := e3
  have f4 : (cs.drop 4).take (Tryd.prog.cellsOf 48) = [.int .u32 z4] := e4
  rw [c0] at f0; rw [c1] at f1; rw [c2] at f2; rw [c3] at f3; rw [c4] at f4
  have hcs := list5 hl8 (cell_at hl8 (by omega) f0) (cell_at hl8 (by omega) f1) (cell_at hl8 (by omega) f2) (cell_at hl8 (by omega) f3) (cell_at hl8 (by omega) f4)
  have b0 := bounds_u8 w0; have b1 := bounds_i64 w1; have b3 := bounds_i64 w3; have b4 := bounds_u32 w4
  obtain ⟨m0, rfl⟩ : ∃ m : Nat, z0 = m := ⟨z0.toNat, by omega⟩
  exact ⟨⟨m0, z1, z2, z3, z4⟩, hl8, ⟨v2, hcs, q2⟩, ⟨by show m0 < 256; omega, ⟨b1.1, b1.2⟩, w2, ⟨b3.1, b3.2⟩, b4.1, by show z4 ≤ 4294967295; omega, by show z2.length ≤ _; omega⟩⟩
theorem open_bl {H : Type} {enc : TypeId × Value → H} {w : World} {base fuel : Nat} {cs : List Value} {d : DataW H × List MemPlace}
    (h : DataW.trod enc Tryd.prog w base (fun _ => true) true fuel 54 cs = some d) : ∃ x : Bl, cs.length = 3 ∧ BlC w (fun _ => True) x cs ∧ WfB0 x := by
  haveI : Inhabited In := ⟨⟨0, 0, [], 0, 0⟩⟩
  obtain ⟨xs, n, hfn, hx, hl, hlen, hf⟩ := DataW.trod_struct Tryd.underlying54 h
  have hl8 : cs.length = 3 := hl.trans (by kernel_rfl)
  have hxl : xs.length = 3 := hlen
  have g0 := hf 0 _ rfl
  have g1 := hf 1 _ rfl
  have g2 := hf 2 _ rfl
  rw [List.getElem?_eq_getElem (by omega)] at g0 g1 g2
  have c0 : Tryd.prog.cellsOf 52 = 1 := by kernel_rfl
  have c1 : Tryd.prog.cellsOf 45 = 1 := by kernel_rfl
  have c2 : Tryd.prog.cellsOf 3 = 1 := by kernel_rfl
  obtain ⟨l0, v0, e0, q0, w0, k0⟩ := open_list (It := InC) (c := 5) (Wf := WfI0) Tryd.underlying52 (by kernel_rfl) (by decide) (fun m cs y hy => open_in hy) g0
  obtain ⟨z1, v1, e1, q1, w1, k1⟩ := open_nums g1
  obtain ⟨z2, e2, _, w2⟩ := DataW.trod_int Tryd.underlying3 g2
  have f0 : (cs.drop 0).take (Tryd.prog.cellsOf 52) = [v0] := e0
  have f1 : (cs.drop 1).take (Tryd.prog.cellsOf 45) = [v1] := e1
  have f2 : (cs.drop 2).take (Tryd.prog.cellsOf 3) = [.int .i64 z2] := e2
  rw [c0] at f0; rw [c1] at f1; rw [c2] at f2
  have hcs := list3 hl8 (cell_at hl8 (by omega) f0) (cell_at hl8 (by omega) f1) (cell_at hl8 (by omega) f2)
  have b2 := bounds_i64 w2
  exact ⟨⟨l0, z1, z2⟩, hl8, ⟨v0, v1, hcs, q0, q1⟩, ⟨w0, w1, ⟨b2.1, b2.2⟩, by show l0.length ≤ _; omega, by show z1.length ≤ _; omega⟩⟩
theorem Bls.low {w : World} {l : List Bl} {v : Value} (h : Bls w (fun _ => True) l v) : Bls w (fun k => k < w.heap.size) l v := h.moved (fun k hk _ => ⟨hk, rfl⟩) (Nat.le_refl _)
theorem open_co {H : Type} {enc : TypeId × Value → H} {w : World} {cs : Array Value} {d : DataW H} {p : List MemPlace}
    (h : DataW.Trod enc Tryd.prog w 0 (fun _ => true) true 24 (.agg cs) d p) : ∃ (c : Co) (v : Value), cs = #[.int .i64 c.pa, .int .i64 c.re, .bool c.rs, v] ∧ Bls w (fun k => k < w.heap.size) c.bl v ∧ WfC0 c := by
  haveI : Inhabited Bl := ⟨⟨[], [], 0⟩⟩
  obtain ⟨fuel, hf0⟩ := h
  obtain ⟨xs, n, hfn, hx, hl, hlen, hf⟩ := DataW.trod_struct Tryd.underlying24 hf0
  have hl8 : cs.toList.length = 4 := hl.trans (by kernel_rfl)
  have hxl : xs.length = 4 := hlen
  have g0 := hf 0 _ rfl
  have g1 := hf 1 _ rfl
  have g2 := hf 2 _ rfl
  have g3 := hf 3 _ rfl
  rw [List.getElem?_eq_getElem (by omega)] at g0 g1 g2 g3
  have c0 : Tryd.prog.cellsOf 3 = 1 := by kernel_rfl
  have c2 : Tryd.prog.cellsOf 4 = 1 := by kernel_rfl
  have c3 : Tryd.prog.cellsOf 22 = 1 := by kernel_rfl
  obtain ⟨z0, e0, _, w0⟩ := DataW.trod_int Tryd.underlying3 g0
  obtain ⟨z1, e1, _, w1⟩ := DataW.trod_int Tryd.underlying3 g1
  obtain ⟨z2, e2, _⟩ := DataW.trod_bool Tryd.underlying4 g2
  obtain ⟨l3, v3, e3, q3, w3, k3⟩ := open_list (It := BlC) (c := 3) (Wf := WfB0) Tryd.underlying22 (by kernel_rfl) (by decide) (fun m cs y hy => open_bl hy) g3
  have f0 : (cs.toList.drop 0).take (Tryd.prog.cellsOf 3) = [.int .i64 z0] := e0
  have f1 : (cs.toList.drop 1).take (Tryd.prog.cellsOf 3) = [.int .i64 z1] := e1
  have f2 : (cs.toList.drop 2).take (Tryd.prog.cellsOf 4) = [.bool z2] := e2
  have f3 : (cs.toList.drop 3).take (Tryd.prog.cellsOf 22) = [v3] := e3
  rw [c0] at f0 f1; rw [c2] at f2; rw [c3] at f3
  have hcs := list4 hl8 (cell_at hl8 (by omega) f0) (cell_at hl8 (by omega) f1) (cell_at hl8 (by omega) f2) (cell_at hl8 (by omega) f3)
  have b0 := bounds_i64 w0; have b1 := bounds_i64 w1
  refine ⟨⟨z0, z1, z2, l3⟩, v3, Array.ext' hcs, Bls.low q3, ⟨⟨b0.1, b0.2⟩, ⟨b1.1, b1.2⟩, w3, by show l3.length ≤ _; omega⟩⟩
end Vc
end Go.Proofs.YtlihhncloanbhaaDoor

/- From the rows' condition on errors.errorType (beside other variables) to the variable's cell. After the guide's worked toy of errors.As. -/
namespace Go.Proofs.YtlihhncloanbhaaDoor
open Go.ChangeShapes Go.WideShapes Go.RowKit

theorem hownKnob : ownKnob Tryd.prog.godebug = none := by kernel_rfl
theorem het : Tryd.prog.globalNamed "errors.errorType" = some 0 := by kernel_rfl
theorem honeRow : ((List.range 189).filter fun t => Tryd.prog.rowNamed t [101, 114, 114, 111, 114]) = [32] := by kernel_rfl
theorem hsize : Tryd.prog.types.size = 189 := by kernel_rfl

theorem handle_of_met {W : World} (h : handlesMet Tryd.prog [("errors.errorType", Rows.laid_errors_errorType)] W) : ErrT W := by
  obtain ⟨name, u, ty, e1, e2, e3, e4, e5⟩ := h _ (List.mem_singleton.2 rfl)
  have en : name = [101, 114, 114, 111, 114] := (Option.some.inj e1).symm
  subst en
  obtain rfl : 114 = u := Option.some.inj (Eq.trans (by kernel_rfl) e2)
  have hm : ty ∈ (List.range 189).filter fun t => Tryd.prog.rowNamed t [101, 114, 114, 111, 114] := List.mem_filter.2 ⟨List.mem_range.2 (by rw [← hsize]; exact e3), e4⟩
  rw [honeRow] at hm
  obtain rfl := List.mem_singleton.1 hm
  have hh : typeHandle Tryd.prog 32 = .pointer (some ⟨8, 32, none⟩) := by kernel_rfl
  rw [hh] at e5
  have := World.var?_cell het e5 0
  unfold ErrT
  simpa using this
end Go.Proofs.YtlihhncloanbhaaDoor

/- VcodeLines returns true for every code, and leaves it: code that may be has as many lines as it has blocks and instructions, and one; as many of them as it has instructions begin with two blanks; or there is the error for too long a text. Of ops' tables, of internal/strconv's powers of ten, of two tables of math/bits and of errors.errorType it takes what the program's text lays (the card ties it). -/
namespace Go.Proofs.YtlihhncloanbhaaDoor.vcodeLines
open Go.ChangeShapes Go.WideShapes Go.ChangeAt Go.RowKit
set_option linter.unusedVariables false

theorem own : ownKnob Tryd.prog.godebug = none := by kernel_rfl
theorem laidOut : laidOutB Tryd.prog = true := by kernel_rfl

theorem walk (c0 : Vc.Co) (x0 : Value) (w : World) (hErr : ErrT w) (hTb : Tb w) (hPow : Vc.P10 w) (h0 : Vc.Bls w (fun k => k < w.heap.size) c0.bl x0) (f0 : Vc.WfC0 c0) :
    Calls Tryd.prog 6 #[.agg #[.int .i64 c0.pa, .int .i64 c0.re, .bool c0.rs, x0]] w fun e w' => e = .returned (.bool true) ∧ Below w.heap.size w w' := by
  exact Vc.lines_walk c0 f0 x0 w hTb.2 hTb.1 hPow hErr h0

noncomputable def laidWorld (os : Os) : World := ({ World.holding Tryd.prog os ⟨#[], #[], []⟩ with heap := (((((((((World.holding Tryd.prog os ⟨#[], #[], []⟩).heap.modify 6 fun | .cells _ t frozen => .cells #[.int .u8 0, .int .u8 1, .int .u8 28, .int .u8 2, .int .u8 29, .int .u8 14, .int .u8 24, .int .u8 3, .int .u8 30, .int .u8 22, .int .u8 20, .int .u8 15, .int .u8 25, .int .u8 17, .int .u8 4, .int .u8 8, .int .u8 31, .int .u8 27, .int .u8 13, .int .u8 23, .int .u8 21, .int .u8 19, .int .u8 16, .int .u8 7, .int .u8 26, .int .u8 12, .int .u8 18, .int .u8 6, .int .u8 11, .int .u8 5, .int .u8 10, .int .u8 9] t frozen | o => o).modify 7 fun | .cells _ t frozen => .cells #[.int .u8 0, .int .u8 1, .int .u8 56, .int .u8 2, .int .u8 57, .int .u8 49, .int .u8 28, .int .u8 3, .int .u8 61, .int .u8 58, .int .u8 42, .int .u8 50, .int .u8 38, .int .u8 29, .int .u8 17, .int .u8 4, .int .u8 62, .int .u8 47, .int .u8 59, .int .u8 36, .int .u8 45, .int .u8 43, .int .u8 51, .int .u8 22, .int .u8 53, .int .u8 39, .int .u8 33, .int .u8 30, .int .u8 24, .int .u8 18, .int .u8 12, .int .u8 5, .int .u8 63, .int .u8 55, .int .u8 48, .int .u8 27, .int .u8 60, .int .u8 41, .int .u8 37, .int .u8 16, .int .u8 46, .int .u8 35, .int .u8 44, .int .u8 21, .int .u8 52, .int .u8 32, .int .u8 23, .int .u8 11, .int .u8 54, .int .u8 26, .int .u8 40, .int .u8 15, .int .u8 34, .int .u8 20, .int .u8 31, .int .u8 10, .int .u8 25, .int .u8 14, .int .u8 19, .int .u8 9, .int .u8 13, .int .u8 8, .int .u8 7, .int .u8 6] t frozen | o => o).modify 5 fun | .cells _ t frozen => .cells #[.int .u64 1, .int .u64 10, .int .u64 100, .int .u64 1000, .int .u64 10000, .int .u64 100000, .int .u64 1000000, .int .u64 10000000, .int .u64 100000000, .int .u64 1000000000, .int .u64 10000000000, .int .u64 100000000000, .int .u64 1000000000000, .int .u64 10000000000000, .int .u64 100000000000000, .int .u64 1000000000000000, .int .u64 10000000000000000, .int .u64 100000000000000000, .int .u64 1000000000000000000, .int .u64 10000000000000000000] t frozen | o => o).modify 0 fun | .cells _ t frozen => .cells #[.iface 114 (.agg #[.pointer (some ⟨8, 32, none⟩)])] t frozen | o => o).modify 1 fun | .cells _ t frozen => .cells #[.string ⟨#[117, 110, 114, 101, 97, 99, 104, 97, 98, 108, 101]⟩, .string ⟨#[110, 111, 112]⟩, .string ⟨#[98, 108, 111, 99, 107]⟩, .string ⟨#[108, 111, 111, 112]⟩, .string ⟨#[105, 102]⟩, .string ⟨#[]⟩, .string ⟨#[]⟩, .string ⟨#[]⟩, .string ⟨#[]⟩, .string ⟨#[]⟩, .string ⟨#[]⟩, .string ⟨#[]⟩, .string ⟨#[98, 114]⟩, .string ⟨#[98, 114, 95, 105, 102]⟩, .string ⟨#[98, 114, 95, 116, 97, 98, 108, 101]⟩, .string ⟨#[114, 101, 116, 117, 114, 110]⟩, .string ⟨#[99, 97, 108, 108]⟩, .string ⟨#[99, 97, 108, 108, 95, 105, 110, 100, 105, 114, 101, 99, 116]⟩, .string ⟨#[]⟩, .string ⟨#[]⟩, .string ⟨#[]⟩, .string ⟨#[]⟩, .string ⟨#[]⟩, .string ⟨#[]⟩, .string ⟨#[]⟩, .string ⟨#[]⟩, .string ⟨#[100, 114, 111, 112]⟩, .string ⟨#[115, 101, 108, 101, 99, 116]⟩, .string ⟨#[]⟩, .string ⟨#[]⟩, .string ⟨#[]⟩, .string ⟨#[]⟩, .string ⟨#[108, 111, 99, 97, 108, 46, 103, 101, 116]⟩, .string ⟨#[108, 111, 99, 97, 108, 46, 115, 101, 116]⟩, .string ⟨#[108, 111, 99, 97, 108, 46, 116, 101, 101]⟩, .string ⟨#[103, 108, 111, 98, 97, 108, 46, 103, 101, 116]⟩, .string ⟨#[103, 108, 111, 98, 97, 108, 46, 115, 101, 116]⟩, .string ⟨#[]⟩, .string ⟨#[]⟩, .string ⟨#[]⟩, .string ⟨#[105, 51, 50, 46, 108, 111, 97, 100]⟩, .string ⟨#[105, 54, 52, 46, 108, 111, 97, 100]⟩, .string ⟨#[]⟩, .string ⟨#[]⟩, .string ⟨#[105, 51, 50, 46, 108, 111, 97, 100, 56, 95, 115]⟩, .string ⟨#[105, 51, 50, 46, 108, 111, 97, 100, 56, 95, 117]⟩, .string ⟨#[105, 51, 50, 46, 108, 111, 97, 100, 49, 54, 95, 115]⟩, .string ⟨#[105, 51, 50, 46, 108, 111, 97, 100, 49, 54, 95, 117]⟩, .string ⟨#[105, 54, 52, 46, 108, 111, 97, 100, 56, 95, 115]⟩, .string ⟨#[105, 54, 52, 46, 108, 111, 97, 100, 56, 95, 117]⟩, .string ⟨#[105, 54, 52, 46, 108, 111, 97, 100, 49, 54, 95, 115]⟩, .string ⟨#[105, 54, 52, 46, 108, 111, 97, 100, 49, 54, 95, 117]⟩, .string ⟨#[105, 54, 52, 46, 108, 111, 97, 100, 51, 50, 95, 115]⟩, .string ⟨#[105, 54, 52, 46, 108, 111, 97, 100, 51, 50, 95, 117]⟩, .string ⟨#[105, 51, 50, 46, 115, 116, 111, 114, 101]⟩, .string ⟨#[105, 54, 52, 46, 115, 116, 111, 114, 101]⟩, .string ⟨#[]⟩, .string ⟨#[]⟩, .string ⟨#[105, 51, 50, 46, 115, 116, 111, 114, 101, 56]⟩, .string ⟨#[105, 51, 50, 46, 115, 116, 111, 114, 101, 49, 54]⟩, .string ⟨#[105, 54, 52, 46, 115, 116, 111, 114, 101, 56]⟩, .string ⟨#[105, 54, 52, 46, 115, 116, 111, 114, 101, 49, 54]⟩, .string ⟨#[105, 54, 52, 46, 115, 116, 111, 114, 101, 51, 50]⟩, .string ⟨#[109, 101, 109, 111, 114, 121, 46, 115, 105, 122, 101]⟩, .string ⟨#[109, 101, 109, 111, 114, 121, 46, 103, 114, 111, 119]⟩, .string ⟨#[105, 51, 50, 46, 99, 111, 110, 115, 116]⟩, .string ⟨#[105, 54, 52, 46, 99, 111, 110, 115, 116]⟩] t frozen | o => o).modify 2 fun | .cells _ t frozen => .cells #[.string ⟨#[105, 51, 50, 46, 101, 113, 122]⟩, .string ⟨#[105, 51, 50, 46, 101, 113]⟩, .string ⟨#[105, 51, 50, 46, 110, 101]⟩, .string ⟨#[105, 51, 50, 46, 108, 116, 95, 115]⟩, .string ⟨#[105, 51, 50, 46, 108, 116, 95, 117]⟩, .string ⟨#[105, 51, 50, 46, 103, 116, 95, 115]⟩, .string ⟨#[105, 51, 50, 46, 103, 116, 95, 117]⟩, .string ⟨#[105, 51, 50, 46, 108, 101, 95, 115]⟩, .string ⟨#[105, 51, 50, 46, 108, 101, 95, 117]⟩, .string ⟨#[105, 51, 50, 46, 103, 101, 95, 115]⟩, .string ⟨#[105, 51, 50, 46, 103, 101, 95, 117]⟩, .string ⟨#[105, 54, 52, 46, 101, 113, 122]⟩, .string ⟨#[105, 54, 52, 46, 101, 113]⟩, .string ⟨#[105, 54, 52, 46, 110, 101]⟩, .string ⟨#[105, 54, 52, 46, 108, 116, 95, 115]⟩, .string ⟨#[105, 54, 52, 46, 108, 116, 95, 117]⟩, .string ⟨#[105, 54, 52, 46, 103, 116, 95, 115]⟩, .string ⟨#[105, 54, 52, 46, 103, 116, 95, 117]⟩, .string ⟨#[105, 54, 52, 46, 108, 101, 95, 115]⟩, .string ⟨#[105, 54, 52, 46, 108, 101, 95, 117]⟩, .string ⟨#[105, 54, 52, 46, 103, 101, 95, 115]⟩, .string ⟨#[105, 54, 52, 46, 103, 101, 95, 117]⟩] t frozen | o => o).modify 3 fun | .cells _ t frozen => .cells #[.string ⟨#[105, 51, 50, 46, 99, 108, 122]⟩, .string ⟨#[105, 51, 50, 46, 99, 116, 122]⟩, .string ⟨#[105, 51, 50, 46, 112, 111, 112, 99, 110, 116]⟩, .string ⟨#[105, 51, 50, 46, 97, 100, 100]⟩, .string ⟨#[105, 51, 50, 46, 115, 117, 98]⟩, .string ⟨#[105, 51, 50, 46, 109, 117, 108]⟩, .string ⟨#[105, 51, 50, 46, 100, 105, 118, 95, 115]⟩, .string ⟨#[105, 51, 50, 46, 100, 105, 118, 95, 117]⟩, .string ⟨#[105, 51, 50, 46, 114, 101, 109, 95, 115]⟩, .string ⟨#[105, 51, 50, 46, 114, 101, 109, 95, 117]⟩, .string ⟨#[105, 51, 50, 46, 97, 110, 100]⟩, .string ⟨#[105, 51, 50, 46, 111, 114]⟩, .string ⟨#[105, 51, 50, 46, 120, 111, 114]⟩, .string ⟨#[105, 51, 50, 46, 115, 104, 108]⟩, .string ⟨#[105, 51, 50, 46, 115, 104, 114, 95, 115]⟩, .string ⟨#[105, 51, 50, 46, 115, 104, 114, 95, 117]⟩, .string ⟨#[105, 51, 50, 46, 114, 111, 116, 108]⟩, .string ⟨#[105, 51, 50, 46, 114, 111, 116, 114]⟩, .string ⟨#[105, 54, 52, 46, 99, 108, 122]⟩, .string ⟨#[105, 54, 52, 46, 99, 116, 122]⟩, .string ⟨#[105, 54, 52, 46, 112, 111, 112, 99, 110, 116]⟩, .string ⟨#[105, 54, 52, 46, 97, 100, 100]⟩, .string ⟨#[105, 54, 52, 46, 115, 117, 98]⟩, .string ⟨#[105, 54, 52, 46, 109, 117, 108]⟩, .string ⟨#[105, 54, 52, 46, 100, 105, 118, 95, 115]⟩, .string ⟨#[105, 54, 52, 46, 100, 105, 118, 95, 117]⟩, .string ⟨#[105, 54, 52, 46, 114, 101, 109, 95, 115]⟩, .string ⟨#[105, 54, 52, 46, 114, 101, 109, 95, 117]⟩, .string ⟨#[105, 54, 52, 46, 97, 110, 100]⟩, .string ⟨#[105, 54, 52, 46, 111, 114]⟩, .string ⟨#[105, 54, 52, 46, 120, 111, 114]⟩, .string ⟨#[105, 54, 52, 46, 115, 104, 108]⟩, .string ⟨#[105, 54, 52, 46, 115, 104, 114, 95, 115]⟩, .string ⟨#[105, 54, 52, 46, 115, 104, 114, 95, 117]⟩, .string ⟨#[105, 54, 52, 46, 114, 111, 116, 108]⟩, .string ⟨#[105, 54, 52, 46, 114, 111, 116, 114]⟩] t frozen | o => o).modify 4 fun | .cells _ t frozen => .cells #[.int .u8 0, .int .u8 1, .int .i64 0, .int .u8 0, .int .u8 0, .int .u8 0, .int .u8 2, .int .u8 3, .int .i64 6, .int .u8 0, .int .u8 0, .int .u8 0, .int .u8 4, .int .u8 4, .int .i64 7, .int .u8 0, .int .u8 0, .int .u8 0, .int .u8 12, .int .u8 13, .int .i64 3, .int .u8 0, .int .u8 0, .int .u8 0, .int .u8 14, .int .u8 14, .int .i64 8, .int .u8 0, .int .u8 0, .int .u8 0, .int .u8 15, .int .u8 15, .int .i64 0, .int .u8 0, .int .u8 0, .int .u8 0, .int .u8 16, .int .u8 16, .int .i64 3, .int .u8 0, .int .u8 0, .int .u8 0, .int .u8 17, .int .u8 17, .int .i64 9, .int .u8 0, .int .u8 0, .int .u8 0, .int .u8 26, .int .u8 27, .int .i64 0, .int .u8 0, .int .u8 0, .int .u8 0, .int .u8 32, .int .u8 36, .int .i64 3, .int .u8 0, .int .u8 0, .int .u8 0, .int .u8 40, .int .u8 40, .int .i64 4, .int .u8 127, .int .u8 0, .int .u8 127, .int .u8 41, .int .u8 41, .int .i64 4, .int .u8 127, .int .u8 0, .int .u8 126, .int .u8 44, .int .u8 47, .int .i64 4, .int .u8 127, .int .u8 0, .int .u8 127, .int .u8 48, .int .u8 53, .int .i64 4, .int .u8 127, .int .u8 0, .int .u8 126, .int .u8 54, .int .u8 54, .int .i64 4, .int .u8 127, .int .u8 127, .int .u8 0, .int .u8 55, .int .u8 55, .int .i64 4, .int .u8 127, .int .u8 126, .int .u8 0, .int .u8 58, .int .u8 59, .int .i64 4, .int .u8 127, .int .u8 127, .int .u8 0, .int .u8 60, .int .u8 62, .int .i64 4, .int .u8 127, .int .u8 126, .int .u8 0, .int .u8 63, .int .u8 63, .int .i64 5, .int .u8 0, .int .u8 0, .int .u8 127, .int .u8 64, .int .u8 64, .int .i64 5, .int .u8 127, .int .u8 0, .int .u8 127, .int .u8 65, .int .u8 65, .int .i64 1, .int .u8 0, .int .u8 0, .int .u8 127, .int .u8 66, .int .u8 66, .int .i64 2, .int .u8 0, .int .u8 0, .int .u8 126, .int .u8 69, .int .u8 69, .int .i64 0, .int .u8 127, .int .u8 0, .int .u8 127, .int .u8 70, .int .u8 79, .int .i64 0, .int .u8 127, .int .u8 127, .int .u8 127, .int .u8 80, .int .u8 80, .int .i64 0, .int .u8 126, .int .u8 0, .int .u8 127, .int .u8 81, .int .u8 90, .int .i64 0, .int .u8 126, .int .u8 126, .int .u8 127, .int .u8 103, .int .u8 105, .int .i64 0, .int .u8 127, .int .u8 0, .int .u8 127, .int .u8 106, .int .u8 120, .int .i64 0, .int .u8 127, .int .u8 127, .int .u8 127, .int .u8 121, .int .u8 123, .int .i64 0, .int .u8 126, .int .u8 0, .int .u8 126, .int .u8 124, .int .u8 138, .int .i64 0, .int .u8 126, .int .u8 126, .int .u8 126, .int .u8 167, .int .u8 167, .int .i64 0, .int .u8 126, .int .u8 0, .int .u8 127, .int .u8 172, .int .u8 173, .int .i64 0, .int .u8 127, .int .u8 0, .int .u8 126] t frozen | o => o) } : World)
set_option maxRecDepth 100000 in
theorem laid_met (os : Os) (args : Array Value) : laidMetH Tryd.prog Rows.vcodeLinesRow.laid ((laidWorld os).forCall (fun _ _ => 0) ⟨#[], args, []⟩).memory :=
  laidMetH_of_parts (laidMet_of_run' 8 (by kernel_rfl) (by kernel_rfl)) (by kernel_rfl)

set_option maxRecDepth 100000 in
theorem lifted (os : Os) (started : os.Started) (H : Type) (enc : TypeId × Value → H) :
    ReturnsInHanded {} Tryd.checked os 6 .any (fun w args => (Rows.vcodeLinesSpec.pre enc Tryd.prog Tryd.f6 [] false w args ∧ laidMetH Tryd.prog Rows.vcodeLinesRow.laid w) ∧ sizedMet enc Tryd.prog Tryd.f6 (OpenSpec.ofChange Rows.vcodeLinesSpec) false w args) (Rows.vcodeLinesSpec.post enc Tryd.prog Tryd.f6 false true false false) := by
  refine returnsInHanded_of_change_and (C := Tryd.checked) (X := fun w _ => laidMetH Tryd.prog Rows.vcodeLinesRow.laid w) (fun _ _ _ hh h => h.of_heap hh) own started (by kernel_rfl) Tryd.func6
    (ChangeSpec.witness_at (enc := enc) (C := Tryd.checked) (os := os) (X := fun w _ => laidMetH Tryd.prog Rows.vcodeLinesRow.laid w) false (laidWorld os) #[.agg #[.int .i64 0, .int .i64 0, .bool false, .slice none 0 0]] 8 rfl (by kernel_rfl) (by kernel_rfl) (by kernel_rfl) (by kernel_rfl) (by kernel_rfl) (laid_met os _)) ?_
  intro W base args ds gs before hval0 hW _ _ hL _
  have hLL0 : laidMet Tryd.prog [("math/bits.deBruijn32tab", Rows.laid_math_bits_deBruijn32tab), ("math/bits.deBruijn64tab", Rows.laid_math_bits_deBruijn64tab), ("internal/strconv.uint64pow10", Rows.laid_internal_strconv_uint64pow10), ("mandrel/ops.names", Rows.laid_mandrel_ops_names), ("mandrel/ops.testNames", Rows.laid_mandrel_ops_testNames), ("mandrel/ops.reckonNames", Rows.laid_mandrel_ops_reckonNames), ("mandrel/ops.families", Rows.laid_mandrel_ops_families)] W ∧ handlesMet Tryd.prog [("errors.errorType", Rows.laid_errors_errorType)] W := hL
  have hg : ErrT W := handle_of_met hLL0.2
  have hLL := hLL0.1
  have hgTb : Tb W := ⟨⟨names_laid hLL.tail.tail.tail, tests_laid hLL.tail.tail.tail.tail, reckons_laid hLL.tail.tail.tail.tail.tail⟩, families_laid hLL.tail.tail.tail.tail.tail.tail⟩
  have hgP : Vc.P10 W := pow_laid hLL.tail.tail
  have hval : ∀ (j : Nat) t v, Tryd.f6.params[j]? = some t → args[j]? = some v → Value.okWide Tryd.prog W .any base t v := hval0
  have hW' := hW
  obtain ⟨p, q, hA0, hV, rfl, hfz, hnd⟩ := hW
  have hA : DataW.TrodAll enc Tryd.prog W 0 (fun _ => true) true Tryd.f6.params.toList args.toList ds p := hA0
  rw [Tryd.params6] at hA hval
  obtain ⟨v0, vs0, d0, ds0, p0, q0, hargs, rfl, rfl, h0, r0⟩ := trodAll_cons hA
  obtain ⟨rfl, rfl, rfl⟩ := trodAll_nil r0
  obtain rfl : args = #[v0] := by cases args; simp_all
  obtain ⟨rfl, rfl⟩ := trodVars_none hV
  have m0 := h0
  have lt0 : ∀ x ∈ p0, x.block < W.heap.size := by obtain ⟨m, hm⟩ := m0; exact DataW.trod_lt m _ _ _ hm
  obtain ⟨cs0, hcs0, _⟩ := okWide_struct Tryd.underlying24 (hval 0 24 v0 rfl rfl)
  subst hcs0
  obtain ⟨c0, x0, rfl, h0c, f0⟩ := Vc.open_co h0
  clear hA0 hval0
  refine (walk c0 x0 W hg hgTb hgP h0c f0).mono fun e W' ⟨he, bel⟩ => ?_
  subst he
  exact ⟨_, rfl, _, _, _, [], _, [], hW', trodAll_mk1 (shut_bool Tryd.underlying4 _), (trodAll_cons_mk (Below.trod laidOut (by kernel_rfl) (of_decide_eq_true (by kernel_rfl)) m0 bel lt0) trodAll_mk0), rfl, bel.frame _, fun h => by cases h⟩

theorem proved : Rows.VcodeLinesSaid :=
  OpenClaim.holds_of_wide 6 Tryd.f6 rfl rfl rfl rfl rfl rfl rfl ⟨rfl, rfl, rfl, rfl, rfl⟩ rfl rfl rfl rfl rfl (by kernel_rfl) Tryd.func6 (by kernel_rfl)
    (of_decide_eq_true (by kernel_rfl)) (by unfold Func.isWrapper; first | (rw [if_pos (by decide +kernel)]; kernel_rfl) | (rw [if_neg (by decide +kernel)]; exact ⟨rfl, rfl⟩))
    (fun os started H enc _ => lifted os started H enc)
end Go.Proofs.YtlihhncloanbhaaDoor.vcodeLines

namespace Go.Proofs.YtlihhncloanbhaaDoor
theorem vcodeLines_card : Rows.VcodeLinesCardSaid :=
  Claim7.holds_tied_plain_at .later [] _ _ _ _ vcodeLines.proved (fun _ h => by cases h) (by kernel_rfl) (fun _ h => by cases h) vcodeLines_row_tie rfl ⟨rfl, rfl⟩ (by kernel_rfl) rfl
    (fun f fn hf hfn => by
      obtain rfl : 6 = f := Option.some.inj (Eq.trans (by kernel_rfl) hf)
      obtain rfl : fn = Tryd.f6 := (Option.some.inj (Tryd.func6.symm.trans hfn)).symm
      exact ⟨by kernel_rfl, fun j t ht => by
        rw [Tryd.params6] at ht
        rcases j with _ | j
        · obtain rfl : t = 24 := by simpa using ht.symm
          exact (show Tryd.prog.wantsStandIn 24 = false by kernel_rfl)
        · simp at ht⟩)
    (by kernel_rfl)
end Go.Proofs.YtlihhncloanbhaaDoor
