/- Code that comes in, opened, however long. -/
import Derived.Test.YtlihhncloanbhaaDoorVcP
import Derived.Test.YtlihhncloanbhaaDoorRows
import Derived.OpenShut
import Derived.ShutString
import Derived.ProofKit
import Derived.Lib.SmallJoins
import Derived.Deep.DeepHandedRow
namespace Go.Proofs.YtlihhncloanbhaaDoor
open Go.ChangeShapes Go.WideShapes Go.ChangeAt Go.RowKit
namespace Vc
set_option linter.unusedVariables false
set_option linter.unusedSimpArgs false

theorem cell_at {cs : List Value} {k n : Nat} {x : Value} (hl : cs.length = n) (hk : k < n) (h : (cs.drop k).take 1 = [x]) : cs[k]? = some x := by
  have h1 : ((cs.drop k).take 1)[0]? = some x := by rw [h]; rfl
  rw [List.getElem?_take_of_lt (by omega), List.getElem?_drop] at h1
  simpa using h1
theorem list3 {cs : List Value} {x0 x1 x2 : Value} (h : cs.length = 3) (h0 : cs[0]? = some x0) (h1 : cs[1]? = some x1) (h2 : cs[2]? = some x2) : cs = [x0, x1, x2] := by
  match cs, h with
  | [y0, y1, y2], _ => simp_all
theorem list4 {cs : List Value} {x0 x1 x2 x3 : Value} (h : cs.length = 4) (h0 : cs[0]? = some x0) (h1 : cs[1]? = some x1) (h2 : cs[2]? = some x2) (h3 : cs[3]? = some x3) : cs = [x0, x1, x2, x3] := by
  match cs, h with
  | [y0, y1, y2, y3], _ => simp_all
theorem list5 {cs : List Value} {x0 x1 x2 x3 x4 : Value} (h : cs.length = 5) (h0 : cs[0]? = some x0) (h1 : cs[1]? = some x1) (h2 : cs[2]? = some x2) (h3 : cs[3]? = some x3) (h4 : cs[4]? = some x4) : cs = [x0, x1, x2, x3, x4] := by
  match cs, h with
  | [y0, y1, y2, y3, y4], _ => simp_all
theorem open_nums {H : Type} {enc : TypeId × Value → H} {w : World} {base fuel : Nat} {cs : List Value} {x : DataW H × List MemPlace}
    (h : DataW.trod enc Tryd.prog w base (fun _ => true) true fuel 45 cs = some x) : ∃ (ls : List Int) (v : Value), cs = [v] ∧ NumsL w (fun _ => True) ls v ∧ (∀ z ∈ ls, i64 z) ∧ ls.length ≤ 9223372036854775807 := by
  rcases open_ints Tryd.underlying45 Tryd.underlying3 (by kernel_rfl) h with ⟨hcs, hx⟩ | ⟨a, len, cap, zs, hcs, _, hl, hm, hz, hx, hc, hw⟩
  · exact ⟨[], _, hcs, ⟨none, 0, rfl, Nat.le_refl _, fun _ => rfl, fun h => by simp at h⟩, by simp, by simp⟩
  · have hzl : zs.length = cap := by simpa using hz
    have hlt : (zs.take len).length = len := by simp; omega
    refine ⟨zs.take len, .slice (some a) len cap, hcs, ⟨some a, cap, by rw [hlt], by omega, by simp, fun h0 => ?_⟩, fun z hzm => ?_, ?_⟩
    · obtain ⟨b, off, spot⟩ := a
      have h00 := hc 0 (by omega)
      have hspot : spot = none := by simpa [Addr.add] using World.cell?_spot h00
      subst hspot
      refine ⟨b, off, rfl, trivial, fun i hi => ?_⟩
      have := hc i (by omega)
      rw [Addr.add_lit] at this
      rw [this]; simp [List.getD, show i < len by omega]
    · have := bounds_i64 (hw z (List.mem_of_mem_take hzm)); exact ⟨this.1, this.2⟩
    · have : cap ≤ 9223372036854775807 := hm
      omega
theorem open_list {H α : Type} [Inhabited α] {enc : TypeId × Value → H} {w : World} {base fuel : Nat} {cs : List Value} {x : DataW H × List MemPlace} {It : World → (Nat → Prop) → α → List Value → Prop} {c : Nat} {S T : TypeId} {Wf : α → Prop}
    (hu : Tryd.prog.underlying S = some (.slice T)) (hc8 : Tryd.prog.cellsOf T = c) (hc0 : 0 < c)
    (item : ∀ m cs y, DataW.trod enc Tryd.prog w base (fun _ => true) true m T cs = some y → ∃ a : α, cs.length = c ∧ It w (fun _ => True) a cs ∧ Wf a)
    (h : DataW.trod enc Tryd.prog w base (fun _ => true) true fuel S cs = some x) : ∃ (l : List α) (v : Value), cs = [v] ∧ LL It c w (fun _ => True) l v ∧ (∀ a ∈ l, Wf a) ∧ l.length ≤ 9223372036854775807 := by
  rcases DataW.trod_slice hu h with ⟨hcs, hx⟩ | ⟨a, len, cap, elems, rest, n, hfn, hcs, hx, _, hl, hm, hel, hE, _, _⟩
  · exact ⟨[], _, hcs, LL_nil _ _ _ _, by simp, Nat.zero_le _⟩
  · rw [hc8] at hE
    obtain ⟨A, hA⟩ := Go.Deep.choose_lt (α := α) (n := len) (p := fun j i => (∃ cs, cs.length = c ∧ It w (fun _ => True) i cs ∧ ∀ k u, cs[k]? = some u → w.cell? ((a.add (j * c)).add k) = some u) ∧ Wf i) (fun j hj => by
      have h1 := hE j hj
      rw [List.getElem?_eq_getElem (show j < elems.length by omega)] at h1
      obtain ⟨cs', h2, h3⟩ := Option.bind_eq_some_iff.1 h1
      obtain ⟨_, hcl, hc⟩ := World.cells?_some h2
      obtain ⟨i, q1, q2, q3⟩ := item n cs' _ h3
      refine ⟨i, ⟨cs', q1, q2, fun k u hu => ?_⟩, q3⟩
      have hk := (List.getElem?_eq_some_iff.1 hu).1
      exact (hc k (by omega)).trans hu)
    have hll : ((List.range len).map A).length = len := by simp
    refine ⟨(List.range len).map A, .slice (some a) len cap, hcs, ⟨some a, cap, by rw [hll], by omega, by simp, fun h0 => ?_⟩, fun i hi => ?_, ?_⟩
    · obtain ⟨b, off, spot⟩ := a
      have hfirst : w.cell? ((Addr.add ⟨b, off, spot⟩ (0 * c)).add 0) ≠ none := by
        obtain ⟨⟨cs', h1, _, h2⟩, _⟩ := hA 0 (by omega)
        rw [h2 0 (cs'[0]'(by omega)) (List.getElem?_eq_getElem _)]; simp
      obtain ⟨u0, hu0⟩ := Option.ne_none_iff_exists'.1 hfirst
      have hsp : spot = none := by simpa [Addr.add] using World.cell?_spot hu0
      subst hsp
      have hblt : b < w.heap.size := by
        have : w.cell? ⟨b, off, none⟩ = some u0 := by simpa [Addr.add] using hu0
        exact block_lt_of_cell this
      refine ⟨b, off, rfl, trivial, hblt, fun j y hy => ?_⟩
      have hj : j < len := by have := (List.getElem?_eq_some_iff.1 hy).1; simpa using this
      obtain ⟨⟨cs', q1, q2, q3⟩, _⟩ := hA j hj
      have hAj : y = A j := by
        have := (List.getElem?_eq_some_iff.1 hy).2; rw [← this]; simp
      rw [hAj]
      refine ⟨cs', q1, q2, fun k u hu => ?_⟩
      have := q3 k u hu
      simp only [Addr.add_lit] at this
      exact this
    · obtain ⟨j, hj, rfl⟩ := List.getElem_of_mem hi
      have hAj : ((List.range len).map A)[j] = A j := by simp
      rw [hAj]
      exact (hA j (by simpa using hj)).2
    · have : cap ≤ 9223372036854775807 := hm
      rw [hll]; omega
theorem open_in {H : Type} {enc : TypeId × Value → H} {w : World} {base fuel : Nat} {cs : List Value} {d : DataW H × List MemPlace}
    (h : DataW.trod enc Tryd.prog w base (fun _ => true) true fuel 55 cs = some d) : ∃ x : In, cs.length = 5 ∧ InC w (fun _ => True) x cs ∧ WfI0 x := by
  obtain ⟨xs, n, hfn, hx, hl, hlen, hf⟩ := DataW.trod_struct Tryd.underlying55 h
  have hl8 : cs.length = 5 := hl.trans (by kernel_rfl)
  have hxl : xs.length = 5 := hlen
  have g0 := hf 0 _ rfl
  have g1 := hf 1 _ rfl
  have g2 := hf 2 _ rfl
  have g3 := hf 3 _ rfl
  have g4 := hf 4 _ rfl
  rw [List.getElem?_eq_getElem (by omega)] at g0 g1 g2 g3 g4
  have c0 : Tryd.prog.cellsOf 5 = 1 := by kernel_rfl
  have c1 : Tryd.prog.cellsOf 3 = 1 := by kernel_rfl
  have c2 : Tryd.prog.cellsOf 45 = 1 := by kernel_rfl
  have c3 : Tryd.prog.cellsOf 2 = 1 := by kernel_rfl
  have c4 : Tryd.prog.cellsOf 48 = 1 := by kernel_rfl
  obtain ⟨z0, e0, _, w0⟩ := DataW.trod_int Tryd.underlying5 g0
  obtain ⟨z1, e1, _, w1⟩ := DataW.trod_int Tryd.underlying3 g1
  obtain ⟨z2, v2, e2, q2, w2, k2⟩ := open_nums g2
  obtain ⟨z3, e3, _, w3⟩ := DataW.trod_int Tryd.underlying2 g3
  obtain ⟨z4, e4, _, w4⟩ := DataW.trod_int Tryd.underlying48 g4
  have f0 : (cs.drop 0).take (Tryd.prog.cellsOf 5) = [.int .u8 z0] := e0
  have f1 : (cs.drop 1).take (Tryd.prog.cellsOf 3) = [.int .i64 z1] := e1
  have f2 : (cs.drop 2).take (Tryd.prog.cellsOf 45) = [v2] := e2
  have f3 : (cs.drop 3).take (Tryd.prog.cellsOf 2) = [.int .i64 z3] := e3
  have f4 : (cs.drop 4).take (Tryd.prog.cellsOf 48) = [.int .u32 z4] := e4
  rw [c0] at f0; rw [c1] at f1; rw [c2] at f2; rw [c3] at f3; rw [c4] at f4
  have hcs := list5 hl8 (cell_at hl8 (by omega) f0) (cell_at hl8 (by omega) f1) (cell_at hl8 (by omega) f2) (cell_at hl8 (by omega) f3) (cell_at hl8 (by omega) f4)
  have b0 := bounds_u8 w0; have b1 := bounds_i64 w1; have b3 := bounds_i64 w3; have b4 := bounds_u32 w4
  obtain ⟨m0, rfl⟩ : ∃ m : Nat, z0 = m := ⟨z0.toNat, by omega⟩
  exact ⟨⟨m0, z1, z2, z3, z4⟩, hl8, ⟨v2, hcs, q2⟩, ⟨by show m0 < 256; omega, ⟨b1.1, b1.2⟩, w2, ⟨b3.1, b3.2⟩, b4.1, by show z4 ≤ 4294967295; omega, by show z2.length ≤ _; omega⟩⟩
theorem open_bl {H : Type} {enc : TypeId × Value → H} {w : World} {base fuel : Nat} {cs : List Value} {d : DataW H × List MemPlace}
    (h : DataW.trod enc Tryd.prog w base (fun _ => true) true fuel 54 cs = some d) : ∃ x : Bl, cs.length = 3 ∧ BlC w (fun _ => True) x cs ∧ WfB0 x := by
  haveI : Inhabited In := ⟨⟨0, 0, [], 0, 0⟩⟩
  obtain ⟨xs, n, hfn, hx, hl, hlen, hf⟩ := DataW.trod_struct Tryd.underlying54 h
  have hl8 : cs.length = 3 := hl.trans (by kernel_rfl)
  have hxl : xs.length = 3 := hlen
  have g0 := hf 0 _ rfl
  have g1 := hf 1 _ rfl
  have g2 := hf 2 _ rfl
  rw [List.getElem?_eq_getElem (by omega)] at g0 g1 g2
  have c0 : Tryd.prog.cellsOf 52 = 1 := by kernel_rfl
  have c1 : Tryd.prog.cellsOf 45 = 1 := by kernel_rfl
  have c2 : Tryd.prog.cellsOf 3 = 1 := by kernel_rfl
  obtain ⟨l0, v0, e0, q0, w0, k0⟩ := open_list (It := InC) (c := 5) (Wf := WfI0) Tryd.underlying52 (by kernel_rfl) (by decide) (fun m cs y hy => open_in hy) g0
  obtain ⟨z1, v1, e1, q1, w1, k1⟩ := open_nums g1
  obtain ⟨z2, e2, _, w2⟩ := DataW.trod_int Tryd.underlying3 g2
  have f0 : (cs.drop 0).take (Tryd.prog.cellsOf 52) = [v0] := e0
  have f1 : (cs.drop 1).take (Tryd.prog.cellsOf 45) = [v1] := e1
  have f2 : (cs.drop 2).take (Tryd.prog.cellsOf 3) = [.int .i64 z2] := e2
  rw [c0] at f0; rw [c1] at f1; rw [c2] at f2
  have hcs := list3 hl8 (cell_at hl8 (by omega) f0) (cell_at hl8 (by omega) f1) (cell_at hl8 (by omega) f2)
  have b2 := bounds_i64 w2
  exact ⟨⟨l0, z1, z2⟩, hl8, ⟨v0, v1, hcs, q0, q1⟩, ⟨w0, w1, ⟨b2.1, b2.2⟩, by show l0.length ≤ _; omega, by show z1.length ≤ _; omega⟩⟩
theorem Bls.low {w : World} {l : List Bl} {v : Value} (h : Bls w (fun _ => True) l v) : Bls w (fun k => k < w.heap.size) l v := h.moved (fun k hk _ => ⟨hk, rfl⟩) (Nat.le_refl _)
theorem open_co {H : Type} {enc : TypeId × Value → H} {w : World} {cs : Array Value} {d : DataW H} {p : List MemPlace}
    (h : DataW.Trod enc Tryd.prog w 0 (fun _ => true) true 24 (.agg cs) d p) : ∃ (c : Co) (v : Value), cs = #[.int .i64 c.pa, .int .i64 c.re, .bool c.rs, v] ∧ Bls w (fun k => k < w.heap.size) c.bl v ∧ WfC0 c := by
  haveI : Inhabited Bl := ⟨⟨[], [], 0⟩⟩
  obtain ⟨fuel, hf0⟩ := h
  obtain ⟨xs, n, hfn, hx, hl, hlen, hf⟩ := DataW.trod_struct Tryd.underlying24 hf0
  have hl8 : cs.toList.length = 4 := hl.trans (by kernel_rfl)
  have hxl : xs.length = 4 := hlen
  have g0 := hf 0 _ rfl
  have g1 := hf 1 _ rfl
  have g2 := hf 2 _ rfl
  have g3 := hf 3 _ rfl
  rw [List.getElem?_eq_getElem (by omega)] at g0 g1 g2 g3
  have c0 : Tryd.prog.cellsOf 3 = 1 := by kernel_rfl
  have c2 : Tryd.prog.cellsOf 4 = 1 := by kernel_rfl
  have c3 : Tryd.prog.cellsOf 22 = 1 := by kernel_rfl
  obtain ⟨z0, e0, _, w0⟩ := DataW.trod_int Tryd.underlying3 g0
  obtain ⟨z1, e1, _, w1⟩ := DataW.trod_int Tryd.underlying3 g1
  obtain ⟨z2, e2, _⟩ := DataW.trod_bool Tryd.underlying4 g2
  obtain ⟨l3, v3, e3, q3, w3, k3⟩ := open_list (It := BlC) (c := 3) (Wf := WfB0) Tryd.underlying22 (by kernel_rfl) (by decide) (fun m cs y hy => open_bl hy) g3
  have f0 : (cs.toList.drop 0).take (Tryd.prog.cellsOf 3) = [.int .i64 z0] := e0
  have f1 : (cs.toList.drop 1).take (Tryd.prog.cellsOf 3) = [.int .i64 z1] := e1
  have f2 : (cs.toList.drop 2).take (Tryd.prog.cellsOf 4) = [.bool z2] := e2
  have f3 : (cs.toList.drop 3).take (Tryd.prog.cellsOf 22) = [v3] := e3
  rw [c0] at f0 f1; rw [c2] at f2; rw [c3] at f3
  have hcs := list4 hl8 (cell_at hl8 (by omega) f0) (cell_at hl8 (by omega) f1) (cell_at hl8 (by omega) f2) (cell_at hl8 (by omega) f3)
  have b0 := bounds_i64 w0; have b1 := bounds_i64 w1
  refine ⟨⟨z0, z1, z2, l3⟩, v3, Array.ext' hcs, Bls.low q3, ⟨⟨b0.1, b0.2⟩, ⟨b1.1, b1.2⟩, w3, by show l3.length ≤ _; omega⟩⟩
end Vc
end Go.Proofs.YtlihhncloanbhaaDoor
