/- K35: what follows, part by part: each part tells what it holds. -/
import Derived.Test.YtglehoekehiaiaaGreatDoorK33
import Derived.Test.YtglehoekehiaiaaGreatDoorRows
import Derived.OpenShut
import Derived.ShutString
import Derived.ProofKit
import Derived.Lib.SmallJoins
import Derived.Deep.DeepHandedRow
import Derived.Test.YtglehoekehiaiaaGreatDoorK2
import Derived.Lib.LaidTab
import Derived.Stop.LaidErr
import Derived.LaidHandle
import Derived.ChangeOld
import Derived.ChangeSame
import Derived.ChangeVars
import Derived.JoinedOf
import Derived.RowKit
import Derived.RowKitTokens
import Derived.LaidLaws
import Derived.Stop.Joined
namespace Go.Proofs.YtglehoekehiaiaaGreatDoor
open Go.RowKit
set_option linter.unusedVariables false
set_option linter.unusedSimpArgs false
set_option maxRecDepth 100000
set_option maxHeartbeats 32000000
namespace Vc
open Go.ChangeShapes Go.WideShapes Go.ChangeAt Go.RowKit
/- Code that comes in, opened, however long. -/
theorem cell_at {cs : List Value} {k n : Nat} {x : Value} (hl : cs.length = n) (hk : k < n) (h : (cs.drop k).take 1 = [x]) : cs[k]? = some x := by
  have h1 : ((cs.drop k).take 1)[0]? = some x := by rw [h]; rfl
  rw [List.getElem?_take_of_lt (by omega), List.getElem?_drop] at h1
  simpa using h1
theorem list3 {cs : List Value} {x0 x1 x2 : Value} (h : cs.length = 3) (h0 : cs[0]? = some x0) (h1 : cs[1]? = some x1) (h2 : cs[2]? = some x2) : cs = [x0, x1, x2] := by
  match cs, h with
  | [y0, y1, y2], _ => simp_all
theorem list4 {cs : List Value} {x0 x1 x2 x3 : Value} (h : cs.length = 4) (h0 : cs[0]? = some x0) (h1 : cs[1]? = some x1) (h2 : cs[2]? = some x2) (h3 : cs[3]? = some x3) : cs = [x0, x1, x2, x3] := by
  match cs, h with
  | [y0, y1, y2, y3], _ => simp_all
theorem list5 {cs : List Value} {x0 x1 x2 x3 x4 : Value} (h : cs.length = 5) (h0 : cs[0]? = some x0) (h1 : cs[1]? = some x1) (h2 : cs[2]? = some x2) (h3 : cs[3]? = some x3) (h4 : cs[4]? = some x4) : cs = [x0, x1, x2, x3, x4] := by
  match cs, h with
  | [y0, y1, y2, y3, y4], _ => simp_all
theorem open_nums {H : Type} {enc : TypeId × Value → H} {w : World} {base fuel : Nat} {cs : List Value} {x : DataW H × List MemPlace}
    (h : DataW.trod enc Tryz.prog w base (fun _ => true) true fuel 31 cs = some x) : ∃ (ls : List Int) (v : Value), cs = [v] ∧ NumsL w (fun _ => True) ls v ∧ (∀ z ∈ ls, i64 z) ∧ ls.length ≤ 9223372036854775807 := by
  rcases open_ints Tryz.underlying31 Tryz.underlying3 (by kernel_rfl) h with ⟨hcs, hx⟩ | ⟨a, len, cap, zs, hcs, _, hl, hm, hz, hx, hc, hw⟩
  · exact ⟨[], _, hcs, ⟨none, 0, rfl, Nat.le_refl _, fun _ => rfl, fun h => by simp at h⟩, by simp, by simp⟩
  · have hzl : zs.length = cap := by simpa using hz
    have hlt : (zs.take len).length = len := by simp; omega
    refine ⟨zs.take len, .slice (some a) len cap, hcs, ⟨some a, cap, by rw [hlt], by omega, by simp, fun h0 => ?_⟩, fun z hzm => ?_, ?_⟩
    · obtain ⟨b, off, spot⟩ := a
      have h00 := hc 0 (by omega)
      have hspot : spot = none := by simpa [Addr.add] using World.cell?_spot h00
      subst hspot
      refine ⟨b, off, rfl, trivial, fun i hi => ?_⟩
      have := hc i (by omega)
      rw [Addr.add_lit] at this
      rw [this]; simp [List.getD, show i < len by omega]
    · have := bounds_i64 (hw z (List.mem_of_mem_take hzm)); exact ⟨this.1, this.2⟩
    · have : cap ≤ 9223372036854775807 := hm
      omega
theorem open_list {H α : Type} [Inhabited α] {enc : TypeId × Value → H} {w : World} {base fuel : Nat} {cs : List Value} {x : DataW H × List MemPlace} {It : World → (Nat → Prop) → α → List Value → Prop} {c : Nat} {S T : TypeId} {Wf : α → Prop}
    (hu : Tryz.prog.underlying S = some (.slice T)) (hc8 : Tryz.prog.cellsOf T = c) (hc0 : 0 < c)
    (item : ∀ m cs y, DataW.trod enc Tryz.prog w base (fun _ => true) true m T cs = some y → ∃ a : α, cs.length = c ∧ It w (fun _ => True) a cs ∧ Wf a)
    (h : DataW.trod enc Tryz.prog w base (fun _ => true) true fuel S cs = some x) : ∃ (l : List α) (v : Value), cs = [v] ∧ LL It c w (fun _ => True) l v ∧ (∀ a ∈ l, Wf a) ∧ l.length ≤ 9223372036854775807 := by
  rcases DataW.trod_slice hu h with ⟨hcs, hx⟩ | ⟨a, len, cap, elems, rest, n, hfn, hcs, hx, _, hl, hm, hel, hE, _, _⟩
  · exact ⟨[], _, hcs, LL_nil _ _ _ _, by simp, Nat.zero_le _⟩
  · rw [hc8] at hE
    obtain ⟨A, hA⟩ := Go.Deep.choose_lt (α := α) (n := len) (p := fun j i => (∃ cs, cs.length = c ∧ It w (fun _ => True) i cs ∧ ∀ k u, cs[k]? = some u → w.cell? ((a.add (j * c)).add k) = some u) ∧ Wf i) (fun j hj => by
      have h1 := hE j hj
      rw [List.getElem?_eq_getElem (show j < elems.length by omega)] at h1
      obtain ⟨cs', h2, h3⟩ := Option.bind_eq_some_iff.1 h1
      obtain ⟨_, hcl, hc⟩ := World.cells?_some h2
      obtain ⟨i, q1, q2, q3⟩ := item n cs' _ h3
      refine ⟨i, ⟨cs', q1, q2, fun k u hu => ?_⟩, q3⟩
      have hk := (List.getElem?_eq_some_iff.1 hu).1
      exact (hc k (by omega)).trans hu)
    have hll : ((List.range len).map A).length = len := by simp
    refine ⟨(List.range len).map A, .slice (some a) len cap, hcs, ⟨some a, cap, by rw [hll], by omega, by simp, fun h0 => ?_⟩, fun i hi => ?_, ?_⟩
    · obtain ⟨b, off, spot⟩ := a
      have hfirst : w.cell? ((Addr.add ⟨b, off, spot⟩ (0 * c)).add 0) ≠ none := by
        obtain ⟨⟨cs', h1, _, h2⟩, _⟩ := hA 0 (by omega)
        rw [h2 0 (cs'[0]'(by omega)) (List.getElem?_eq_getElem _)]; simp
      obtain ⟨u0, hu0⟩ := Option.ne_none_iff_exists'.1 hfirst
      have hsp : spot = none := by simpa [Addr.add] using World.cell?_spot hu0
      subst hsp
      have hblt : b < w.heap.size := by
        have : w.cell? ⟨b, off, none⟩ = some u0 := by simpa [Addr.add] using hu0
        exact block_lt_of_cell this
      refine ⟨b, off, rfl, trivial, hblt, fun j y hy => ?_⟩
      have hj : j < len := by have := (List.getElem?_eq_some_iff.1 hy).1; simpa using this
      obtain ⟨⟨cs', q1, q2, q3⟩, _⟩ := hA j hj
      have hAj : y = A j := by
        have := (List.getElem?_eq_some_iff.1 hy).2; rw [← this]; simp
      rw [hAj]
      refine ⟨cs', q1, q2, fun k u hu => ?_⟩
      have := q3 k u hu
      simp only [Addr.add_lit] at this
      exact this
    · obtain ⟨j, hj, rfl⟩ := List.getElem_of_mem hi
      have hAj : ((List.range len).map A)[j] = A j := by simp
      rw [hAj]
      exact (hA j (by simpa using hj)).2
    · have : cap ≤ 9223372036854775807 := hm
      rw [hll]; omega
theorem open_in {H : Type} {enc : TypeId × Value → H} {w : World} {base fuel : Nat} {cs : List Value} {d : DataW H × List MemPlace}
    (h : DataW.trod enc Tryz.prog w base (fun _ => true) true fuel 52 cs = some d) : ∃ x : In, cs.length = 5 ∧ InC w (fun _ => True) x cs ∧ WfI0 x := by
  obtain ⟨xs, n, hfn, hx, hl, hlen, hf⟩ := DataW.trod_struct Tryz.underlying52 h
  have hl8 : cs.length = 5 := hl.trans (by kernel_rfl)
  have hxl : xs.length = 5 := hlen
  have g0 := hf 0 _ rfl
  have g1 := hf 1 _ rfl
  have g2 := hf 2 _ rfl
  have g3 := hf 3 _ rfl
  have g4 := hf 4 _ rfl
  rw [List.getElem?_eq_getElem (by omega)] at g0 g1 g2 g3 g4
  have c0 : Tryz.prog.cellsOf 5 = 1 := by kernel_rfl
  have c1 : Tryz.prog.cellsOf 3 = 1 := by kernel_rfl
  have c2 : Tryz.prog.cellsOf 31 = 1 := by kernel_rfl
  have c3 : Tryz.prog.cellsOf 2 = 1 := by kernel_rfl
  have c4 : Tryz.prog.cellsOf 50 = 1 := by kernel_rfl
  obtain ⟨z0, e0, _, w0⟩ := DataW.trod_int Tryz.underlying5 g0
  obtain ⟨z1, e1, _, w1⟩ := DataW.trod_int Tryz.underlying3 g1
  obtain ⟨z2, v2, e2, q2, w2, k2⟩ := open_nums g2
  obtain ⟨z3, e3, _, w3⟩ := DataW.trod_int Tryz.underlying2 g3
  obtain ⟨z4, e4, _, w4⟩ := DataW.trod_int Tryz.underlying50 g4
  have f0 : (cs.drop 0).take (Tryz.prog.cellsOf 5) = [.int .u8 z0] := e0
  have f1 : (cs.drop 1).take (Tryz.prog.cellsOf 3) = [.int .i64 z1] := e1
  have f2 : (cs.drop 2).take (Tryz.prog.cellsOf 31) = [v2] := e2
  have f3 : (cs.drop 3).take (Tryz.prog.cellsOf 2) = [.int .i64 z3] := e3
  have f4 : (cs.drop 4).take (Tryz.prog.cellsOf 50) = [.int .u32 z4] := e4
  rw [c0] at f0; rw [c1] at f1; rw [c2] at f2; rw [c3] at f3; rw [c4] at f4
  have hcs := list5 hl8 (cell_at hl8 (by omega) f0) (cell_at hl8 (by omega) f1) (cell_at hl8 (by omega) f2) (cell_at hl8 (by omega) f3) (cell_at hl8 (by omega) f4)
  have b0 := bounds_u8 w0; have b1 := bounds_i64 w1; have b3 := bounds_i64 w3; have b4 := bounds_u32 w4
  obtain ⟨m0, rfl⟩ : ∃ m : Nat, z0 = m := ⟨z0.toNat, by omega⟩
  exact ⟨⟨m0, z1, z2, z3, z4⟩, hl8, ⟨v2, hcs, q2⟩, ⟨by show m0 < 256; omega, ⟨b1.1, b1.2⟩, w2, ⟨b3.1, b3.2⟩, b4.1, by show z4 ≤ 4294967295; omega, by show z2.length ≤ _; omega⟩⟩
theorem open_bl {H : Type} {enc : TypeId × Value → H} {w : World} {base fuel : Nat} {cs : List Value} {d : DataW H × List MemPlace}
    (h : DataW.trod enc Tryz.prog w base (fun _ => true) true fuel 49 cs = some d) : ∃ x : Bl, cs.length = 3 ∧ BlC w (fun _ => True) x cs ∧ WfB0 x := by
  haveI : Inhabited In := ⟨⟨0, 0, [], 0, 0⟩⟩
  obtain ⟨xs, n, hfn, hx, hl, hlen, hf⟩ := DataW.trod_struct Tryz.underlying49 h
  have hl8 : cs.length = 3 := hl.trans (by kernel_rfl)
  have hxl : xs.length = 3 := hlen
  have g0 := hf 0 _ rfl
  have g1 := hf 1 _ rfl
  have g2 := hf 2 _ rfl
  rw [List.getElem?_eq_getElem (by omega)] at g0 g1 g2
  have c0 : Tryz.prog.cellsOf 47 = 1 := by kernel_rfl
  have c1 : Tryz.prog.cellsOf 31 = 1 := by kernel_rfl
  have c2 : Tryz.prog.cellsOf 3 = 1 := by kernel_rfl
  obtain ⟨l0, v0, e0, q0, w0, k0⟩ := open_list (It := InC) (c := 5) (Wf := WfI0) Tryz.underlying47 (by kernel_rfl) (by decide) (fun m cs y hy => open_in hy) g0
  obtain ⟨z1, v1, e1, q1, w1, k1⟩ := open_nums g1
  obtain ⟨z2, e2, _, w2⟩ := DataW.trod_int Tryz.underlying3 g2
  have f0 : (cs.drop 0).take (Tryz.prog.cellsOf 47) = [v0] := e0
  have f1 : (cs.drop 1).take (Tryz.prog.cellsOf 31) = [v1] := e1
  have f2 : (cs.drop 2).take (Tryz.prog.cellsOf 3) = [.int .i64 z2] := e2
  rw [c0] at f0; rw [c1] at f1; rw [c2] at f2
  have hcs := list3 hl8 (cell_at hl8 (by omega) f0) (cell_at hl8 (by omega) f1) (cell_at hl8 (by omega) f2)
  have b2 := bounds_i64 w2
  exact ⟨⟨l0, z1, z2⟩, hl8, ⟨v0, v1, hcs, q0, q1⟩, ⟨w0, w1, ⟨b2.1, b2.2⟩, by show l0.length ≤ _; omega, by show z1.length ≤ _; omega⟩⟩
theorem Bls.low {w : World} {l : List Bl} {v : Value} (h : Bls w (fun _ => True) l v) : Bls w (fun k => k < w.heap.size) l v := h.moved (fun k hk _ => ⟨hk, rfl⟩) (Nat.le_refl _)
theorem open_co {H : Type} {enc : TypeId × Value → H} {w : World} {cs : Array Value} {d : DataW H} {p : List MemPlace}
    (h : DataW.Trod enc Tryz.prog w 0 (fun _ => true) true 24 (.agg cs) d p) : ∃ (c : Co) (v : Value), cs = #[.int .i64 c.pa, .int .i64 c.re, .bool c.rs, v] ∧ Bls w (fun k => k < w.heap.size) c.bl v ∧ WfC0 c := by
  haveI : Inhabited Bl := ⟨⟨[], [], 0⟩⟩
  obtain ⟨fuel, hf0⟩ := h
  obtain ⟨xs, n, hfn, hx, hl, hlen, hf⟩ := DataW.trod_struct Tryz.underlying24 hf0
  have hl8 : cs.toList.length = 4 := hl.trans (by kernel_rfl)
  have hxl : xs.length = 4 := hlen
  have g0 := hf 0 _ rfl
  have g1 := hf 1 _ rfl
  have g2 := hf 2 _ rfl
  have g3 := hf 3 _ rfl
  rw [List.getElem?_eq_getElem (by omega)] at g0 g1 g2 g3
  have c0 : Tryz.prog.cellsOf 3 = 1 := by kernel_rfl
  have c2 : Tryz.prog.cellsOf 4 = 1 := by kernel_rfl
  have c3 : Tryz.prog.cellsOf 22 = 1 := by kernel_rfl
  obtain ⟨z0, e0, _, w0⟩ := DataW.trod_int Tryz.underlying3 g0
  obtain ⟨z1, e1, _, w1⟩ := DataW.trod_int Tryz.underlying3 g1
  obtain ⟨z2, e2, _⟩ := DataW.trod_bool Tryz.underlying4 g2
  obtain ⟨l3, v3, e3, q3, w3, k3⟩ := open_list (It := BlC) (c := 3) (Wf := WfB0) Tryz.underlying22 (by kernel_rfl) (by decide) (fun m cs y hy => open_bl hy) g3
  have f0 : (cs.toList.drop 0).take (Tryz.prog.cellsOf 3) = [.int .i64 z0] := e0
  have f1 : (cs.toList.drop 1).take (Tryz.prog.cellsOf 3) = [.int .i64 z1] := e1
  have f2 : (cs.toList.drop 2).take (Tryz.prog.cellsOf 4) = [.bool z2] := e2
  have f3 : (cs.toList.drop 3).take (Tryz.prog.cellsOf 22) = [v3] := e3
  rw [c0] at f0 f1; rw [c2] at f2; rw [c3] at f3
  have hcs := list4 hl8 (cell_at hl8 (by omega) f0) (cell_at hl8 (by omega) f1) (cell_at hl8 (by omega) f2) (cell_at hl8 (by omega) f3)
  have b0 := bounds_i64 w0; have b1 := bounds_i64 w1
  refine ⟨⟨z0, z1, z2, l3⟩, v3, Array.ext' hcs, Bls.low q3, ⟨⟨b0.1, b0.2⟩, ⟨b1.1, b1.2⟩, w3, by show l3.length ≤ _; omega⟩⟩
end Vc
/- From the rows' condition on ops' tables to what the walks ask of them. -/
theorem tc_of_head {P : Program} {W : World} {name : String} {d : DataW Unit} {rest : List (String × DataW Unit)} {g : Nat} {t : TypeId}
    (hg : P.globalNamed name = some g) (hty : (P.globals[g]?).map (·.type) = some t) (h : laidMet P ((name, d) :: rest) W) {vs : List Value}
    (hc : ∀ fuel (xs : List Value) p, DataW.trod (fun _ => ()) P W 0 (fun _ => true) false fuel t xs = some (d, p) → xs = vs) : TC W g vs := by
  obtain ⟨ps, ⟨g', t', cs', fuel, p, q, hg', ht', hvar, hd, _, _⟩, _⟩ := h
  obtain rfl := Option.some.inj (hg.symm.trans hg')
  obtain rfl := Option.some.inj (hty.symm.trans ht')
  have e := hc _ _ _ hd
  simp only [World.var?, hg, Option.bind_some] at hvar
  split at hvar
  · rename_i cs t fr hh
    obtain rfl := Option.some.inj hvar
    subst e
    exact ⟨(Array.getElem?_eq_some_iff.1 hh).1, t, fr, hh⟩
  · cases hvar
theorem fam_of_trod {W : World} (fuel : Nat) (xs : List Value) (x : Fam) (p : List MemPlace)
    (h : DataW.trod (fun _ => ()) Tryz.prog W 0 (fun _ => true) false fuel 204 xs = some (.agg [.lit (.int .u8 x.f), .lit (.int .u8 x.l), .lit (.int .i64 x.o), .lit (.int .u8 x.x), .lit (.int .u8 x.y), .lit (.int .u8 x.g)], p)) : xs = fmC x := by
  obtain ⟨fs, hfs⟩ : ∃ fs, Tryz.prog.underlying 204 = some (.struct fs) := ⟨_, Tryz.underlying204⟩
  have hty : (Tryz.prog.underlying 204).map (fun d => match d with | .struct fs => fs.toList.map (fun f => (f.type, f.offset)) | _ => []) = some [(5, 0), (5, 1), (3, 2), (194, 3), (194, 4), (194, 5)] := by kernel_rfl
  rw [hfs] at hty
  simp only [Option.map_some, Option.some.injEq] at hty
  obtain ⟨ys, k, rfl, hx, hlen, hyl, hall⟩ := DataW.trod_struct hfs h
  rw [show Tryz.prog.cellsOf 204 = 6 by kernel_rfl] at hlen
  have hm : ys.map (·.1) = [DataW.lit (.int .u8 x.f), .lit (.int .u8 x.l), .lit (.int .i64 x.o), .lit (.int .u8 x.x), .lit (.int .u8 x.y), .lit (.int .u8 x.g)] := by
    have := congrArg Prod.fst hx
    simpa using this.symm
  have key : ∀ (i : Nat) (t : TypeId) (kd : IntKind) (z : Int), (fs.toList.map (fun f => (f.type, f.offset)))[i]? = some (t, i) → Tryz.prog.underlying t = some (.int kd) → Tryz.prog.cellsOf t = 1 → (ys.map (·.1))[i]? = some (DataW.lit (.int kd z)) → xs[i]? = some (.int kd z) := by
    intro i t kd z e1 e2 e3 e4
    simp only [List.getElem?_map, Option.map_eq_some_iff] at e1 e4
    obtain ⟨f, hf, hft⟩ := e1
    obtain ⟨y, hy, hy1⟩ := e4
    have h1 := hall i f (by simpa using hf)
    have ht : f.type = t := congrArg Prod.fst hft
    have ho : f.offset = i := congrArg Prod.snd hft
    rw [ht, ho, e3, hy] at h1
    obtain ⟨y1, y2⟩ := y
    simp only at hy1
    subst hy1
    have := int_of_trod e2 _ _ _ _ h1
    have := congrArg (·[0]?) this
    simpa [List.getElem?_take, List.getElem?_drop] using this
  have u8 : Tryz.prog.underlying 5 = some (.int .u8) := by kernel_rfl
  have ui : Tryz.prog.underlying 3 = some (.int .i64) := by kernel_rfl
  have uk : Tryz.prog.underlying 194 = some (.int .u8) := by kernel_rfl
  have s8 : Tryz.prog.cellsOf 5 = 1 := by kernel_rfl
  have si : Tryz.prog.cellsOf 3 = 1 := by kernel_rfl
  have sk : Tryz.prog.cellsOf 194 = 1 := by kernel_rfl
  rw [hty, hm] at key
  have k0 := key 0 _ _ _ rfl u8 s8 rfl
  have k1 := key 1 _ _ _ rfl u8 s8 rfl
  have k2 := key 2 _ _ _ rfl ui si rfl
  have k3 := key 3 _ _ _ rfl uk sk rfl
  have k4 := key 4 _ _ _ rfl uk sk rfl
  have k5 := key 5 _ _ _ rfl uk sk rfl
  clear key hall hx h hm hty hfs
  match xs, hlen with
  | [a, b, c, d, e, f], _ =>
    simp at k0 k1 k2 k3 k4 k5
    subst k0 k1 k2 k3 k4 k5
    rfl
theorem families_laid {W : World} {rest : List (String × DataW Unit)} (h : laidMet Tryz.prog (("mandrel/ops.families", Rows.laid_mandrel_ops_families) :: rest) W) : TC W 1 fmV := by
  have h' : laidMet Tryz.prog (("mandrel/ops.families", .agg (fms.map fun x => .agg [.lit (.int .u8 x.f), .lit (.int .u8 x.l), .lit (.int .i64 x.o), .lit (.int .u8 x.x), .lit (.int .u8 x.y), .lit (.int .u8 x.g)])) :: rest) W := h
  exact tc_of_head (t := 208) (by kernel_rfl) (by kernel_rfl) h' fun fuel xs p hp => cells_of_arr (n := 32) (e := 204) (m := 6) (fun x : Fam => .agg [.lit (.int .u8 x.f), .lit (.int .u8 x.l), .lit (.int .i64 x.o), .lit (.int .u8 x.x), .lit (.int .u8 x.y), .lit (.int .u8 x.g)]) fmC
    fam_of_trod (by kernel_rfl) (by kernel_rfl) (by kernel_rfl) hp
section
open Go.ChangeShapes Go.WideShapes Go.RowKit
/- From the rows' condition on errors.errorType (beside other variables) to the variable's cell. After the guide's worked toy of errors.As. -/
theorem het : Tryz.prog.globalNamed "errors.errorType" = some 0 := by kernel_rfl
theorem honeRow : ((List.range 239).filter fun t => Tryz.prog.rowNamed t [101, 114, 114, 111, 114]) = [33] := by kernel_rfl
theorem hsize : Tryz.prog.types.size = 239 := by kernel_rfl
theorem handle_of_met {W : World} (h : handlesMet Tryz.prog [("errors.errorType", Rows.laid_errors_errorType)] W) : ErrT W := by
  obtain ⟨name, u, ty, e1, e2, e3, e4, e5⟩ := h _ (List.mem_singleton.2 rfl)
  have en : name = [101, 114, 114, 111, 114] := (Option.some.inj e1).symm
  subst en
  obtain rfl : 148 = u := Option.some.inj (Eq.trans (by kernel_rfl) e2)
  have hm : ty ∈ (List.range 239).filter fun t => Tryz.prog.rowNamed t [101, 114, 114, 111, 114] := List.mem_filter.2 ⟨List.mem_range.2 (by rw [← hsize]; exact e3), e4⟩
  rw [honeRow] at hm
  obtain rfl := List.mem_singleton.1 hm
  have hh : typeHandle Tryz.prog 33 = .pointer (some ⟨2, 33, none⟩) := by kernel_rfl
  rw [hh] at e5
  have := World.var?_cell het e5 0
  unfold ErrT
  simpa using this
end
end Go.Proofs.YtglehoekehiaiaaGreatDoor
