/- G2: what follows, part by part: each part tells what it holds. -/
import Derived.Test.YtcljcnaglkbjcaaGreatDoorGL
import Derived.Test.YtcljcnaglkbjcaaGreatDoorEzH
import Derived.Test.YtcljcnaglkbjcaaGreatDoorGC
import Derived.Test.YtcljcnaglkbjcaaGreatDoorInIT
import Derived.Test.YtcljcnaglkbjcaaGreatDoorInIF
import Derived.Test.YtcljcnaglkbjcaaGreatDoorInIN
import Derived.Deep.QuietTactic
import Derived.BigQuiet
import Derived.BigRegion
import Derived.Test.YtcljcnaglkbjcaaGreatDoorGmD
import Derived.Test.YtcljcnaglkbjcaaGreatDoorExH
import Derived.Test.YtcljcnaglkbjcaaGreatDoorInA

/- A module that comes in, opened. -/
namespace Go.Proofs.YtcljcnaglkbjcaaGreatDoor
open Go.ChangeShapes Go.WideShapes Go.ChangeAt Go.RowKit
namespace Gm
set_option linter.unusedVariables false
set_option linter.unusedSimpArgs false
theorem len8 {α : Type} {xs : List α} (h : xs.length = 8) : ∃ y0 y1 y2 y3 y4 y5 y6 y7, xs = [y0, y1, y2, y3, y4, y5, y6, y7] := by
  match xs, h with
  | [y0, y1, y2, y3, y4, y5, y6, y7], _ => exact ⟨_, _, _, _, _, _, _, _, rfl⟩
theorem list2 {cs : List Value} {x0 x1 : Value} (h : cs.length = 2) (h0 : cs[0]? = some x0) (h1 : cs[1]? = some x1) : cs = [x0, x1] := by
  match cs, h with
  | [y0, y1], _ => simp_all
theorem list3 {cs : List Value} {x0 x1 x2 : Value} (h : cs.length = 3) (h0 : cs[0]? = some x0) (h1 : cs[1]? = some x1) (h2 : cs[2]? = some x2) : cs = [x0, x1, x2] := by
  match cs, h with
  | [y0, y1, y2], _ => simp_all
theorem list8 {cs : List Value} {x0 x1 x2 x3 x4 x5 x6 x7 : Value} (h : cs.length = 8) (h0 : cs[0]? = some x0) (h1 : cs[1]? = some x1) (h2 : cs[2]? = some x2) (h3 : cs[3]? = some x3) (h4 : cs[4]? = some x4) (h5 : cs[5]? = some x5) (h6 : cs[6]? = some x6) (h7 : cs[7]? = some x7) : cs = [x0, x1, x2, x3, x4, x5, x6, x7] := by
  match cs, h with
  | [y0, y1, y2, y3, y4, y5, y6, y7], _ => simp_all
theorem list10a {cs : List Value} {x0 x1 : Value} (h : cs.length = 10) (h0 : cs[0]? = some x0) (h1 : cs[1]? = some x1) : cs = x0 :: x1 :: (cs.drop 2).take 8 := by
  match cs, h with
  | [y0, y1, y2, y3, y4, y5, y6, y7, y8, y9], _ => simp_all
theorem list10b {cs : List Value} {x0 x1 : Value} (h : cs.length = 10) (h0 : cs[0]? = some x0) (h1 : cs[9]? = some x1) : cs = x0 :: (cs.drop 1).take 8 ++ [x1] := by
  match cs, h with
  | [y0, y1, y2, y3, y4, y5, y6, y7, y8, y9], _ => simp_all
theorem szI_wt {x : Ex.Ins} {N : Nat} (h : Ex.wI x ≤ N) : Ex.SzI N x := by
  unfold Ex.wI at h
  have h2 := Ex.wt_len x.body
  have h3 := Ex.wt_len x.els
  exact ⟨by omega, by omega, by omega, Ex.Sz_wt _ (by omega), Ex.Sz_wt _ (by omega)⟩
theorem open_insC {H : Type} {enc : TypeId × Value → H} {w : World} {base fuel : Nat} {cs : List Value} {d : DataW H × List MemPlace}
    (h : DataW.trod enc Tryz.prog w base (fun _ => true) true fuel 114 cs = some d) : ∃ x : Ex.Ins, InsC w (fun _ => True) x cs ∧ Ex.WfI x ∧ Ex.wI x ≤ Rows.uptoBulk d.1 := by
  obtain ⟨i, vb, ve, vl, hl8, e0, e1, e2, e3, e4, e5, e6, e7, q1, q2, q3, q4, q5⟩ := Ex.open_ins (fun m _ => Ex.open_code m) h
  exact ⟨i, ⟨vb, ve, vl, list8 hl8 e0 e1 e2 e3 e4 e5 e6 e7, q1, q2, q3⟩, q4, q5⟩
theorem open_byts {H : Type} {enc : TypeId × Value → H} {w : World} {base fuel : Nat} {cs : List Value} {x : DataW H × List MemPlace}
    (h : DataW.trod enc Tryz.prog w base (fun _ => true) true fuel 105 cs = some x) : ∃ (ls : List Int) (v : Value), cs = [v] ∧ Ex.Lies (fun _ => True) ls.length (Byts w ls) v ∧ (∀ z ∈ ls, 0 ≤ z ∧ z ≤ 255) ∧ ls.length + 1 ≤ Rows.uptoBulk x.1 := by
  rcases open_ints Tryz.underlying105 Tryz.underlying5 (by kernel_rfl) h with ⟨hcs, hx⟩ | ⟨a, len, cap, zs, hcs, _, hl, hm, hz, hx, hc, hw⟩
  · exact ⟨[], _, hcs, ⟨none, 0, rfl, Nat.le_refl _, fun _ => rfl, fun h => by simp at h⟩, by simp, by have := Ex.bulk_pos x.1; simpa using this⟩
  · have hzl : zs.length = cap := by simpa using hz
    have hlt : (zs.take len).length = len := by simp; omega
    refine ⟨zs.take len, .slice (some a) len cap, hcs, ⟨some a, cap, by rw [hlt], by omega, by simp, fun h0 => ?_⟩, fun z hzm => ?_, ?_⟩
    · obtain ⟨b, off, spot⟩ := a
      have h00 := hc 0 (by omega)
      have hspot : spot = none := by simpa [Addr.add] using World.cell?_spot h00
      subst hspot
      refine ⟨b, off, rfl, trivial, fun i hi => ?_⟩
      have := hc i (by omega)
      rw [addr_add] at this
      rw [this]; simp [List.getD, show i < len by omega]
    · have := bounds_u8 (hw z (List.mem_of_mem_take hzm)); omega
    · rw [hx]
      have e : Rows.uptoBulk (DataW.slice (lits .u8 (zs.take len)) (lits .u8 (zs.drop len)) : DataW H) = Rows.uptoBulkAll (H := H) (lits .u8 (zs.take len)) + Rows.uptoBulkAll (H := H) (lits .u8 (zs.drop len)) + 1 := by rw [Rows.uptoBulk]
      have h2 := Ex.len_bulk (H := H) (lits .u8 (zs.take len))
      have h3 : (lits (H := H) .u8 (zs.take len)).length = (zs.take len).length := by simp [lits]
      rw [e]; omega
theorem open_list {H α : Type} [Inhabited α] {enc : TypeId × Value → H} {w : World} {base fuel : Nat} {cs : List Value} {x : DataW H × List MemPlace} {It : World → (Nat → Prop) → α → List Value → Prop} {c : Nat} {S T : TypeId} {Wf : α → Prop} {B : α → Nat}
    (hu : Tryz.prog.underlying S = some (.slice T)) (hc8 : Tryz.prog.cellsOf T = c) (hc0 : 0 < c)
    (item : ∀ m cs y, DataW.trod enc Tryz.prog w base (fun _ => true) true m T cs = some y → ∃ a : α, cs.length = c ∧ It w (fun _ => True) a cs ∧ Wf a ∧ B a ≤ Rows.uptoBulk y.1)
    (h : DataW.trod enc Tryz.prog w base (fun _ => true) true fuel S cs = some x) : ∃ (l : List α) (v : Value), cs = [v] ∧ LL It c w (fun _ => True) l v ∧ (∀ a ∈ l, Wf a ∧ B a ≤ Rows.uptoBulk x.1) ∧ l.length ≤ Rows.uptoBulk x.1 := by
  rcases DataW.trod_slice hu h with ⟨hcs, hx⟩ | ⟨a, len, cap, elems, rest, n, hfn, hcs, hx, _, hl, hm, hel, hE, _, _⟩
  · exact ⟨[], _, hcs, LL_nil _ _ _ _, by simp, Nat.zero_le _⟩
  · rw [hc8] at hE
    obtain ⟨A, hA⟩ := Go.Deep.choose_lt (α := α) (n := len) (p := fun j i => (∃ cs, cs.length = c ∧ It w (fun _ => True) i cs ∧ ∀ k u, cs[k]? = some u → w.cell? ((a.add (j * c)).add k) = some u) ∧ Wf i ∧ ∀ d, (elems.map (·.1))[j]? = some d → B i ≤ Rows.uptoBulk d) (fun j hj => by
      have h1 := hE j hj
      rw [List.getElem?_eq_getElem (show j < elems.length by omega)] at h1
      obtain ⟨cs', h2, h3⟩ := Option.bind_eq_some_iff.1 h1
      obtain ⟨_, hcl, hc⟩ := World.cells?_some h2
      obtain ⟨i, q1, q2, q3, q4⟩ := item n cs' _ h3
      refine ⟨i, ⟨cs', q1, q2, fun k u hu => ?_⟩, q3, fun d hd => ?_⟩
      · have hk := (List.getElem?_eq_some_iff.1 hu).1
        exact (hc k (by omega)).trans hu
      · rw [List.getElem?_map, List.getElem?_eq_getElem (show j < elems.length by omega)] at hd
        simp at hd
        rw [← hd]; exact q4)
    have hll : ((List.range len).map A).length = len := by simp
    have hbk : Rows.uptoBulk x.1 = Rows.uptoBulkAll (elems.map (·.1)) + Rows.uptoBulkAll (rest.map (·.1)) + 1 := by rw [hx]; simp only [Rows.uptoBulk]
    refine ⟨(List.range len).map A, .slice (some a) len cap, hcs, ⟨some a, cap, by rw [hll], by omega, by simp, fun h0 => ?_⟩, fun i hi => ?_, ?_⟩
    · obtain ⟨b, off, spot⟩ := a
      have hfirst : w.cell? ((Addr.add ⟨b, off, spot⟩ (0 * c)).add 0) ≠ none := by
        obtain ⟨⟨cs', h1, _, h2⟩, _⟩ := hA 0 (by omega)
        rw [h2 0 (cs'[0]'(by omega)) (List.getElem?_eq_getElem _)]; simp
      obtain ⟨u0, hu0⟩ := Option.ne_none_iff_exists'.1 hfirst
      have hsp : spot = none := by simpa [Addr.add] using World.cell?_spot hu0
      subst hsp
      have hblt : b < w.heap.size := by
        have : w.cell? ⟨b, off, none⟩ = some u0 := by simpa [Addr.add] using hu0
        exact block_lt_of_cell this
      refine ⟨b, off, rfl, trivial, hblt, fun j hj => ?_⟩
      obtain ⟨⟨cs', q1, q2, q3⟩, _⟩ := hA j (by omega)
      have hAj : ((List.range len).map A)[j] = A j := by simp
      rw [hAj]
      refine ⟨cs', q1, q2, fun k u hu => ?_⟩
      have := q3 k u hu
      simp only [addr_add] at this
      exact this
    · obtain ⟨j, hj, rfl⟩ := List.getElem_of_mem hi
      have hAj : ((List.range len).map A)[j] = A j := by simp
      rw [hAj]
      obtain ⟨_, q1, q2⟩ := hA j (by omega)
      have hjl : j < (elems.map (·.1)).length := by simp at hj; simp; omega
      have := q2 _ (List.getElem?_eq_getElem hjl)
      have := Ex.bulk_at (List.getElem?_eq_getElem hjl)
      exact ⟨q1, by omega⟩
    · have := Ex.len_bulk (elems.map (·.1))
      simp at this ⊢
      omega
def Typ.wf (x : Typ) : Prop := (∀ z ∈ x.ps, 0 ≤ z ∧ z ≤ 255) ∧ (0 ≤ x.re ∧ x.re ≤ 255)
def Typ.bk (x : Typ) : Nat := 0 + x.ps.length
theorem open_Typ {H : Type} {enc : TypeId × Value → H} {w : World} {base fuel : Nat} {cs : List Value} {d : DataW H × List MemPlace}
    (h : DataW.trod enc Tryz.prog w base (fun _ => true) true fuel 107 cs = some d) : ∃ x : Typ, cs.length = 2 ∧ TypC w (fun _ => True) x cs ∧ x.wf ∧ x.bk ≤ Rows.uptoBulk d.1 := by
  obtain ⟨xs, n, hfn, hx, hl, hlen, hf⟩ := DataW.trod_struct Tryz.underlying107 h
  have hl8 : cs.length = 2 := hl.trans (by kernel_rfl)
  have hxl : xs.length = 2 := hlen
  have g0 := hf 0 _ rfl
  have g1 := hf 1 _ rfl
  rw [List.getElem?_eq_getElem (by omega)] at g0 g1
  have c0 : Tryz.prog.cellsOf 105 = 1 := by kernel_rfl
  obtain ⟨z0, v0, e0, q0, w0, k0⟩ := open_byts g0
  have f0 : (cs.drop 0).take (Tryz.prog.cellsOf 105) = [v0] := e0
  rw [c0] at f0
  have a0 := Ex.cell_at hl8 (by omega) f0
  have c1 : Tryz.prog.cellsOf 5 = 1 := by kernel_rfl
  obtain ⟨z1, e1, _, w1⟩ := DataW.trod_int Tryz.underlying5 g1
  have b1 := bounds_u8 w1
  have f1 : (cs.drop 1).take (Tryz.prog.cellsOf 5) = [.int .u8 z1] := e1
  rw [c1] at f1
  have a1 := Ex.cell_at hl8 (by omega) f1
  have hcs : cs = [v0, .int .u8 z1] := list2 hl8 a0 a1
  refine ⟨⟨z0, z1⟩, hl8, ⟨_, hcs, q0⟩, ⟨w0, b1⟩, ?_⟩
  rw [hx]
  match xs, hxl with
  | [y0, y1], _ =>
    simp only [List.getElem_cons_zero, List.getElem_cons_succ] at k0
    show 0 + z0.length ≤ _
    simp only [List.map_cons, List.map_nil, Rows.uptoBulk, Rows.uptoBulkAll]
    omega
def Fnc.wf (x : Fnc) : Prop := (0 ≤ x.ty ∧ x.ty ≤ 4294967295) ∧ (∀ z ∈ x.ls, 0 ≤ z ∧ z ≤ 255) ∧ (Ex.Wf x.body)
def Fnc.bk (x : Fnc) : Nat := 0 + x.ls.length + Ex.wt x.body
theorem open_Fnc {H : Type} {enc : TypeId × Value → H} {w : World} {base fuel : Nat} {cs : List Value} {d : DataW H × List MemPlace}
    (h : DataW.trod enc Tryz.prog w base (fun _ => true) true fuel 110 cs = some d) : ∃ x : Fnc, cs.length = 3 ∧ FncC w (fun _ => True) x cs ∧ x.wf ∧ x.bk ≤ Rows.uptoBulk d.1 := by
  obtain ⟨xs, n, hfn, hx, hl, hlen, hf⟩ := DataW.trod_struct Tryz.underlying110 h
  have hl8 : cs.length = 3 := hl.trans (by kernel_rfl)
  have hxl : xs.length = 3 := hlen
  have g0 := hf 0 _ rfl
  have g1 := hf 1 _ rfl
  have g2 := hf 2 _ rfl
  rw [List.getElem?_eq_getElem (by omega)] at g0 g1 g2
  have c0 : Tryz.prog.cellsOf 62 = 1 := by kernel_rfl
  obtain ⟨z0, e0, _, w0⟩ := DataW.trod_int Tryz.underlying62 g0
  have b0 := bounds_u32 w0
  have f0 : (cs.drop 0).take (Tryz.prog.cellsOf 62) = [.int .u32 z0] := e0
  rw [c0] at f0
  have a0 := Ex.cell_at hl8 (by omega) f0
  have c1 : Tryz.prog.cellsOf 105 = 1 := by kernel_rfl
  obtain ⟨z1, v1, e1, q1, w1, k1⟩ := open_byts g1
  have f1 : (cs.drop 1).take (Tryz.prog.cellsOf 105) = [v1] := e1
  rw [c1] at f1
  have a1 := Ex.cell_at hl8 (by omega) f1
  have c2 : Tryz.prog.cellsOf 108 = 1 := by kernel_rfl
  obtain ⟨z2, v2, e2, q2, w2, k2⟩ := Ex.open_code n _ _ g2
  have f2 : (cs.drop 2).take (Tryz.prog.cellsOf 108) = [v2] := e2
  rw [c2] at f2
  have a2 := Ex.cell_at hl8 (by omega) f2
  have hcs : cs = [.int .u32 z0, v1, v2] := list3 hl8 a0 a1 a2
  refine ⟨⟨z0, z1, z2⟩, hl8, ⟨_, _, hcs, q1, q2⟩, ⟨b0, w1, w2⟩, ?_⟩
  rw [hx]
  match xs, hxl with
  | [y0, y1, y2], _ =>
    simp only [List.getElem_cons_zero, List.getElem_cons_succ] at k1 k2
    show 0 + z1.length + Ex.wt z2 ≤ _
    simp only [List.map_cons, List.map_nil, Rows.uptoBulk, Rows.uptoBulkAll]
    omega
def Lim.wf (x : Lim) : Prop := (0 ≤ x.mn ∧ x.mn ≤ 4294967295) ∧ (True) ∧ (0 ≤ x.mx ∧ x.mx ≤ 4294967295)
def Lim.bk (x : Lim) : Nat := 0
theorem open_Lim {H : Type} {enc : TypeId × Value → H} {w : World} {base fuel : Nat} {cs : List Value} {d : DataW H × List MemPlace}
    (h : DataW.trod enc Tryz.prog w base (fun _ => true) true fuel 144 cs = some d) : ∃ x : Lim, cs.length = 3 ∧ LimC w (fun _ => True) x cs ∧ x.wf ∧ x.bk ≤ Rows.uptoBulk d.1 := by
  obtain ⟨xs, n, hfn, hx, hl, hlen, hf⟩ := DataW.trod_struct Tryz.underlying144 h
  have hl8 : cs.length = 3 := hl.trans (by kernel_rfl)
  have hxl : xs.length = 3 := hlen
  have g0 := hf 0 _ rfl
  have g1 := hf 1 _ rfl
  have g2 := hf 2 _ rfl
  rw [List.getElem?_eq_getElem (by omega)] at g0 g1 g2
  have c0 : Tryz.prog.cellsOf 62 = 1 := by kernel_rfl
  obtain ⟨z0, e0, _, w0⟩ := DataW.trod_int Tryz.underlying62 g0
  have b0 := bounds_u32 w0
  have f0 : (cs.drop 0).take (Tryz.prog.cellsOf 62) = [.int .u32 z0] := e0
  rw [c0] at f0
  have a0 := Ex.cell_at hl8 (by omega) f0
  have c1 : Tryz.prog.cellsOf 4 = 1 := by kernel_rfl
  obtain ⟨z1, e1, _⟩ := DataW.trod_bool Tryz.underlying4 g1
  have f1 : (cs.drop 1).take (Tryz.prog.cellsOf 4) = [.bool z1] := e1
  rw [c1] at f1
  have a1 := Ex.cell_at hl8 (by omega) f1
  have c2 : Tryz.prog.cellsOf 62 = 1 := by kernel_rfl
  obtain ⟨z2, e2, _, w2⟩ := DataW.trod_int Tryz.underlying62 g2
  have b2 := bounds_u32 w2
  have f2 : (cs.drop 2).take (Tryz.prog.cellsOf 62) = [.int .u32 z2] := e2
  rw [c2] at f2
  have a2 := Ex.cell_at hl8 (by omega) f2
  have hcs : cs = [.int .u32 z0, .bool z1, .int .u32 z2] := list3 hl8 a0 a1 a2
  refine ⟨⟨z0, z1, z2⟩, hl8, hcs, ⟨b0, trivial, b2⟩, ?_⟩
  rw [hx]
  match xs, hxl with
  | [y0, y1, y2], _ =>
    show 0 ≤ _
    simp only [List.map_cons, List.map_nil, Rows.uptoBulk, Rows.uptoBulkAll]
    omega
def Glo.wf (x : Glo) : Prop := (0 ≤ x.kd ∧ x.kd ≤ 255) ∧ (True) ∧ (Ex.WfI x.ini)
def Glo.bk (x : Glo) : Nat := 0 + Ex.wI x.ini
theorem open_Glo {H : Type} {enc : TypeId × Value → H} {w : World} {base fuel : Nat} {cs : List Value} {d : DataW H × List MemPlace}
    (h : DataW.trod enc Tryz.prog w base (fun _ => true) true fuel 120 cs = some d) : ∃ x : Glo, cs.length = 10 ∧ GloC w (fun _ => True) x cs ∧ x.wf ∧ x.bk ≤ Rows.uptoBulk d.1 := by
  obtain ⟨xs, n, hfn, hx, hl, hlen, hf⟩ := DataW.trod_struct Tryz.underlying120 h
  have hl8 : cs.length = 10 := hl.trans (by kernel_rfl)
  have hxl : xs.length = 3 := hlen
  have g0 := hf 0 _ rfl
  have g1 := hf 1 _ rfl
  have g2 := hf 2 _ rfl
  rw [List.getElem?_eq_getElem (by omega)] at g0 g1 g2
  have c0 : Tryz.prog.cellsOf 5 = 1 := by kernel_rfl
  obtain ⟨z0, e0, _, w0⟩ := DataW.trod_int Tryz.underlying5 g0
  have b0 := bounds_u8 w0
  have f0 : (cs.drop 0).take (Tryz.prog.cellsOf 5) = [.int .u8 z0] := e0
  rw [c0] at f0
  have a0 := Ex.cell_at hl8 (by omega) f0
  have c1 : Tryz.prog.cellsOf 4 = 1 := by kernel_rfl
  obtain ⟨z1, e1, _⟩ := DataW.trod_bool Tryz.underlying4 g1
  have f1 : (cs.drop 1).take (Tryz.prog.cellsOf 4) = [.bool z1] := e1
  rw [c1] at f1
  have a1 := Ex.cell_at hl8 (by omega) f1
  have c2 : Tryz.prog.cellsOf 114 = 8 := by kernel_rfl
  obtain ⟨z2, q2, w2, k2⟩ := open_insC g2
  have q2 : InsC w (fun _ => True) z2 ((cs.drop 2).take (Tryz.prog.cellsOf 114)) := q2
  rw [c2] at q2
  have hcs := list10a hl8 a0 a1
  refine ⟨⟨z0, z1, z2⟩, hl8, ⟨_, hcs, q2⟩, ⟨b0, trivial, w2⟩, ?_⟩
  rw [hx]
  match xs, hxl with
  | [y0, y1, y2], _ =>
    simp only [List.getElem_cons_zero, List.getElem_cons_succ] at k2
    show 0 + Ex.wI z2 ≤ _
    simp only [List.map_cons, List.map_nil, Rows.uptoBulk, Rows.uptoBulkAll]
    omega
def Exo.wf (x : Exo) : Prop := (x.nm.size ≤ maxLen) ∧ (0 ≤ x.wh ∧ x.wh ≤ 255) ∧ (0 ≤ x.ix ∧ x.ix ≤ 4294967295)
def Exo.bk (x : Exo) : Nat := 0
theorem open_Exo {H : Type} {enc : TypeId × Value → H} {w : World} {base fuel : Nat} {cs : List Value} {d : DataW H × List MemPlace}
    (h : DataW.trod enc Tryz.prog w base (fun _ => true) true fuel 64 cs = some d) : ∃ x : Exo, cs.length = 3 ∧ ExoC w (fun _ => True) x cs ∧ x.wf ∧ x.bk ≤ Rows.uptoBulk d.1 := by
  obtain ⟨xs, n, hfn, hx, hl, hlen, hf⟩ := DataW.trod_struct Tryz.underlying64 h
  have hl8 : cs.length = 3 := hl.trans (by kernel_rfl)
  have hxl : xs.length = 3 := hlen
  have g0 := hf 0 _ rfl
  have g1 := hf 1 _ rfl
  have g2 := hf 2 _ rfl
  rw [List.getElem?_eq_getElem (by omega)] at g0 g1 g2
  have c0 : Tryz.prog.cellsOf 9 = 1 := by kernel_rfl
  obtain ⟨z0, e0, _, w0⟩ := DataW.trod_string Tryz.underlying9 g0
  have f0 : (cs.drop 0).take (Tryz.prog.cellsOf 9) = [.string z0] := e0
  rw [c0] at f0
  have a0 := Ex.cell_at hl8 (by omega) f0
  have c1 : Tryz.prog.cellsOf 5 = 1 := by kernel_rfl
  obtain ⟨z1, e1, _, w1⟩ := DataW.trod_int Tryz.underlying5 g1
  have b1 := bounds_u8 w1
  have f1 : (cs.drop 1).take (Tryz.prog.cellsOf 5) = [.int .u8 z1] := e1
  rw [c1] at f1
  have a1 := Ex.cell_at hl8 (by omega) f1
  have c2 : Tryz.prog.cellsOf 62 = 1 := by kernel_rfl
  obtain ⟨z2, e2, _, w2⟩ := DataW.trod_int Tryz.underlying62 g2
  have b2 := bounds_u32 w2
  have f2 : (cs.drop 2).take (Tryz.prog.cellsOf 62) = [.int .u32 z2] := e2
  rw [c2] at f2
  have a2 := Ex.cell_at hl8 (by omega) f2
  have hcs : cs = [.string z0, .int .u8 z1, .int .u32 z2] := list3 hl8 a0 a1 a2
  refine ⟨⟨z0, z1, z2⟩, hl8, hcs, ⟨w0, b1, b2⟩, ?_⟩
  rw [hx]
  match xs, hxl with
  | [y0, y1, y2], _ =>
    show 0 ≤ _
    simp only [List.map_cons, List.map_nil, Rows.uptoBulk, Rows.uptoBulkAll]
    omega
def Elm.wf (x : Elm) : Prop := (0 ≤ x.tb ∧ x.tb ≤ 4294967295) ∧ (Ex.WfI x.off) ∧ (∀ z ∈ x.fs, 0 ≤ z ∧ z < 4294967296)
def Elm.bk (x : Elm) : Nat := 0 + Ex.wI x.off + x.fs.length
theorem open_Elm {H : Type} {enc : TypeId × Value → H} {w : World} {base fuel : Nat} {cs : List Value} {d : DataW H × List MemPlace}
    (h : DataW.trod enc Tryz.prog w base (fun _ => true) true fuel 116 cs = some d) : ∃ x : Elm, cs.length = 10 ∧ ElmC w (fun _ => True) x cs ∧ x.wf ∧ x.bk ≤ Rows.uptoBulk d.1 := by
  obtain ⟨xs, n, hfn, hx, hl, hlen, hf⟩ := DataW.trod_struct Tryz.underlying116 h
  have hl8 : cs.length = 10 := hl.trans (by kernel_rfl)
  have hxl : xs.length = 3 := hlen
  have g0 := hf 0 _ rfl
  have g1 := hf 1 _ rfl
  have g2 := hf 2 _ rfl
  rw [List.getElem?_eq_getElem (by omega)] at g0 g1 g2
  have c0 : Tryz.prog.cellsOf 62 = 1 := by kernel_rfl
  obtain ⟨z0, e0, _, w0⟩ := DataW.trod_int Tryz.underlying62 g0
  have b0 := bounds_u32 w0
  have f0 : (cs.drop 0).take (Tryz.prog.cellsOf 62) = [.int .u32 z0] := e0
  rw [c0] at f0
  have a0 := Ex.cell_at hl8 (by omega) f0
  have c1 : Tryz.prog.cellsOf 114 = 8 := by kernel_rfl
  obtain ⟨z1, q1, w1, k1⟩ := open_insC g1
  have q1 : InsC w (fun _ => True) z1 ((cs.drop 1).take (Tryz.prog.cellsOf 114)) := q1
  rw [c1] at q1
  have c2 : Tryz.prog.cellsOf 112 = 1 := by kernel_rfl
  obtain ⟨z2, v2, e2, q2, w2, k2⟩ := Ex.open_labs g2
  have f2 : (cs.drop 9).take (Tryz.prog.cellsOf 112) = [v2] := e2
  rw [c2] at f2
  have a2 := Ex.cell_at hl8 (by omega) f2
  have hcs := list10b hl8 a0 a2
  refine ⟨⟨z0, z1, z2⟩, hl8, ⟨_, _, hcs, q1, q2⟩, ⟨b0, w1, w2⟩, ?_⟩
  rw [hx]
  match xs, hxl with
  | [y0, y1, y2], _ =>
    simp only [List.getElem_cons_zero, List.getElem_cons_succ] at k1 k2
    show 0 + Ex.wI z1 + z2.length ≤ _
    simp only [List.map_cons, List.map_nil, Rows.uptoBulk, Rows.uptoBulkAll]
    omega
def Dat.wf (x : Dat) : Prop := (0 ≤ x.tb ∧ x.tb ≤ 4294967295) ∧ (Ex.WfI x.off) ∧ (∀ z ∈ x.bs, 0 ≤ z ∧ z ≤ 255)
def Dat.bk (x : Dat) : Nat := 0 + Ex.wI x.off + x.bs.length
theorem open_Dat {H : Type} {enc : TypeId × Value → H} {w : World} {base fuel : Nat} {cs : List Value} {d : DataW H × List MemPlace}
    (h : DataW.trod enc Tryz.prog w base (fun _ => true) true fuel 118 cs = some d) : ∃ x : Dat, cs.length = 10 ∧ DatC w (fun _ => True) x cs ∧ x.wf ∧ x.bk ≤ Rows.uptoBulk d.1 := by
  obtain ⟨xs, n, hfn, hx, hl, hlen, hf⟩ := DataW.trod_struct Tryz.underlying118 h
  have hl8 : cs.length = 10 := hl.trans (by kernel_rfl)
  have hxl : xs.length = 3 := hlen
  have g0 := hf 0 _ rfl
  have g1 := hf 1 _ rfl
  have g2 := hf 2 _ rfl
  rw [List.getElem?_eq_getElem (by omega)] at g0 g1 g2
  have c0 : Tryz.prog.cellsOf 62 = 1 := by kernel_rfl
  obtain ⟨z0, e0, _, w0⟩ := DataW.trod_int Tryz.underlying62 g0
  have b0 := bounds_u32 w0
  have f0 : (cs.drop 0).take (Tryz.prog.cellsOf 62) = [.int .u32 z0] := e0
  rw [c0] at f0
  have a0 := Ex.cell_at hl8 (by omega) f0
  have c1 : Tryz.prog.cellsOf 114 = 8 := by kernel_rfl
  obtain ⟨z1, q1, w1, k1⟩ := open_insC g1
  have q1 : InsC w (fun _ => True) z1 ((cs.drop 1).take (Tryz.prog.cellsOf 114)) := q1
  rw [c1] at q1
  have c2 : Tryz.prog.cellsOf 105 = 1 := by kernel_rfl
  obtain ⟨z2, v2, e2, q2, w2, k2⟩ := open_byts g2
  have f2 : (cs.drop 9).take (Tryz.prog.cellsOf 105) = [v2] := e2
  rw [c2] at f2
  have a2 := Ex.cell_at hl8 (by omega) f2
  have hcs := list10b hl8 a0 a2
  refine ⟨⟨z0, z1, z2⟩, hl8, ⟨_, _, hcs, q1, q2⟩, ⟨b0, w1, w2⟩, ?_⟩
  rw [hx]
  match xs, hxl with
  | [y0, y1, y2], _ =>
    simp only [List.getElem_cons_zero, List.getElem_cons_succ] at k1 k2
    show 0 + Ex.wI z1 + z2.length ≤ _
    simp only [List.map_cons, List.map_nil, Rows.uptoBulk, Rows.uptoBulkAll]
    omega
def WfM (M : Mod) : Prop := (∀ x ∈ M.types, Typ.wf x) ∧ (∀ x ∈ M.funcs, Fnc.wf x) ∧ (∀ x ∈ M.tables, Lim.wf x) ∧ (∀ x ∈ M.mems, Lim.wf x) ∧ (∀ x ∈ M.globs, Glo.wf x) ∧ (∀ x ∈ M.exps, Exo.wf x) ∧ (∀ x ∈ M.elems, Elm.wf x) ∧ (∀ x ∈ M.datas, Dat.wf x)
theorem open_mod {H : Type} {enc : TypeId × Value → H} {w : World} {v : Value} {d : DataW H} {p : List MemPlace} {cs : Array Value} (hv : v = .agg cs)
    (h : DataW.Trod enc Tryz.prog w 0 (fun _ => true) true 30 v d p) : ∃ (M : Mod) (v0 v1 v2 v3 v4 v5 v6 v7 : Value), v = .agg #[v0, v1, v2, v3, v4, v5, v6, v7] ∧ ModL w (fun _ => True) M v0 v1 v2 v3 v4 v5 v6 v7 ∧ WfM M ∧ (Rows.uptoBulk d ≤ 1048576 → SzM M) := by
  subst hv
  obtain ⟨fuel, hfu⟩ := h
  obtain ⟨xs, n, hfn, hx, hl, hlen, hf⟩ := DataW.trod_struct Tryz.underlying30 hfu
  have hcsl : (Value.agg cs).cells = cs := by simp [Value.cells]
  rw [hcsl] at hl hf
  have hl8 : cs.toList.length = 8 := hl.trans (by kernel_rfl)
  have hxl : xs.length = 8 := hlen
  have g0 := hf 0 _ rfl
  have g1 := hf 1 _ rfl
  have g2 := hf 2 _ rfl
  have g3 := hf 3 _ rfl
  have g4 := hf 4 _ rfl
  have g5 := hf 5 _ rfl
  have g6 := hf 6 _ rfl
  have g7 := hf 7 _ rfl
  rw [List.getElem?_eq_getElem (by omega)] at g0 g1 g2 g3 g4 g5 g6 g7
  have c0 : Tryz.prog.cellsOf 22 = 1 := by kernel_rfl
  haveI : Inhabited Typ := ⟨⟨[], 0⟩⟩
  obtain ⟨l0, v0, e0, q0, w0, n0⟩ := open_list (It := TypC) (c := 2) (Wf := Typ.wf) (B := Typ.bk) Tryz.underlying22 (by kernel_rfl) (by omega) (fun m cs x hh => open_Typ hh) g0
  have f0 : (cs.toList.drop 0).take (Tryz.prog.cellsOf 22) = [v0] := e0
  rw [c0] at f0
  have a0 := Ex.cell_at hl8 (by omega) f0
  have c1 : Tryz.prog.cellsOf 23 = 1 := by kernel_rfl
  haveI : Inhabited Fnc := ⟨⟨0, [], []⟩⟩
  obtain ⟨l1, v1, e1, q1, w1, n1⟩ := open_list (It := FncC) (c := 3) (Wf := Fnc.wf) (B := Fnc.bk) Tryz.underlying23 (by kernel_rfl) (by omega) (fun m cs x hh => open_Fnc hh) g1
  have f1 : (cs.toList.drop 1).take (Tryz.prog.cellsOf 23) = [v1] := e1
  rw [c1] at f1
  have a1 := Ex.cell_at hl8 (by omega) f1
  have c2 : Tryz.prog.cellsOf 24 = 1 := by kernel_rfl
  haveI : Inhabited Lim := ⟨⟨0, false, 0⟩⟩
  obtain ⟨l2, v2, e2, q2, w2, n2⟩ := open_list (It := LimC) (c := 3) (Wf := Lim.wf) (B := Lim.bk) Tryz.underlying24 (by kernel_rfl) (by omega) (fun m cs x hh => open_Lim hh) g2
  have f2 : (cs.toList.drop 2).take (Tryz.prog.cellsOf 24) = [v2] := e2
  rw [c2] at f2
  have a2 := Ex.cell_at hl8 (by omega) f2
  have c3 : Tryz.prog.cellsOf 24 = 1 := by kernel_rfl
  haveI : Inhabited Lim := ⟨⟨0, false, 0⟩⟩
  obtain ⟨l3, v3, e3, q3, w3, n3⟩ := open_list (It := LimC) (c := 3) (Wf := Lim.wf) (B := Lim.bk) Tryz.underlying24 (by kernel_rfl) (by omega) (fun m cs x hh => open_Lim hh) g3
  have f3 : (cs.toList.drop 3).take (Tryz.prog.cellsOf 24) = [v3] := e3
  rw [c3] at f3
  have a3 := Ex.cell_at hl8 (by omega) f3
  have c4 : Tryz.prog.cellsOf 25 = 1 := by kernel_rfl
  haveI : Inhabited Glo := ⟨⟨0, false, ⟨0, 0, 0, 0, 0, [], [], []⟩⟩⟩
  obtain ⟨l4, v4, e4, q4, w4, n4⟩ := open_list (It := GloC) (c := 10) (Wf := Glo.wf) (B := Glo.bk) Tryz.underlying25 (by kernel_rfl) (by omega) (fun m cs x hh => open_Glo hh) g4
  have f4 : (cs.toList.drop 4).take (Tryz.prog.cellsOf 25) = [v4] := e4
  rw [c4] at f4
  have a4 := Ex.cell_at hl8 (by omega) f4
  have c5 : Tryz.prog.cellsOf 26 = 1 := by kernel_rfl
  haveI : Inhabited Exo := ⟨⟨⟨#[]⟩, 0, 0⟩⟩
  obtain ⟨l5, v5, e5, q5, w5, n5⟩ := open_list (It := ExoC) (c := 3) (Wf := Exo.wf) (B := Exo.bk) Tryz.underlying26 (by kernel_rfl) (by omega) (fun m cs x hh => open_Exo hh) g5
  have f5 : (cs.toList.drop 5).take (Tryz.prog.cellsOf 26) = [v5] := e5
  rw [c5] at f5
  have a5 := Ex.cell_at hl8 (by omega) f5
  have c6 : Tryz.prog.cellsOf 27 = 1 := by kernel_rfl
  haveI : Inhabited Elm := ⟨⟨0, ⟨0, 0, 0, 0, 0, [], [], []⟩, []⟩⟩
  obtain ⟨l6, v6, e6, q6, w6, n6⟩ := open_list (It := ElmC) (c := 10) (Wf := Elm.wf) (B := Elm.bk) Tryz.underlying27 (by kernel_rfl) (by omega) (fun m cs x hh => open_Elm hh) g6
  have f6 : (cs.toList.drop 6).take (Tryz.prog.cellsOf 27) = [v6] := e6
  rw [c6] at f6
  have a6 := Ex.cell_at hl8 (by omega) f6
  have c7 : Tryz.prog.cellsOf 28 = 1 := by kernel_rfl
  haveI : Inhabited Dat := ⟨⟨0, ⟨0, 0, 0, 0, 0, [], [], []⟩, []⟩⟩
  obtain ⟨l7, v7, e7, q7, w7, n7⟩ := open_list (It := DatC) (c := 10) (Wf := Dat.wf) (B := Dat.bk) Tryz.underlying28 (by kernel_rfl) (by omega) (fun m cs x hh => open_Dat hh) g7
  have f7 : (cs.toList.drop 7).take (Tryz.prog.cellsOf 28) = [v7] := e7
  rw [c7] at f7
  have a7 := Ex.cell_at hl8 (by omega) f7
  have hcs : cs = #[v0, v1, v2, v3, v4, v5, v6, v7] := by
    have := list8 hl8 a0 a1 a2 a3 a4 a5 a6 a7
    apply Array.toList_inj.1; simpa using this
  subst hcs
  refine ⟨⟨l0, l1, l2, l3, l4, l5, l6, l7⟩, v0, v1, v2, v3, v4, v5, v6, v7, rfl, ⟨q0, q1, q2, q3, q4, q5, q6, q7⟩, ⟨fun x hx => (w0 x hx).1, fun x hx => (w1 x hx).1, fun x hx => (w2 x hx).1, fun x hx => (w3 x hx).1, fun x hx => (w4 x hx).1, fun x hx => (w5 x hx).1, fun x hx => (w6 x hx).1, fun x hx => (w7 x hx).1⟩, fun hb => ?_⟩
  have hx1 : d = .agg (xs.map (·.1)) := congrArg Prod.fst hx
  rw [hx1] at hb
  · obtain ⟨y0, y1, y2, y3, y4, y5, y6, y7, rfl⟩ := len8 hxl
    simp only [List.getElem_cons_zero, List.getElem_cons_succ] at w0 n0 w1 n1 w2 n2 w3 n3 w4 n4 w5 n5 w6 n6 w7 n7
    simp only [List.map_cons, List.map_nil, Rows.uptoBulk, Rows.uptoBulkAll] at hb
    refine ⟨by show l0.length ≤ _; omega, by show l1.length ≤ _; omega, by show l2.length ≤ _; omega, by show l3.length ≤ _; omega, by show l4.length ≤ _; omega, by show l5.length ≤ _; omega, by show l6.length ≤ _; omega, by show l7.length ≤ _; omega, fun x hx => ?s0, fun x hx => ?s1, fun x hx => ?s2, fun x hx => ?s3, fun x hx => ?s4, fun x hx => ?s5, fun x hx => ?s6, fun x hx => ?s7⟩
    case s0 => have := w0 x hx; have h2 := this.2; unfold Typ.bk at h2; exact ⟨this.1.1, by omega⟩
    case s1 => have := w1 x hx; have h2 := this.2; unfold Fnc.bk at h2; have h3 := Ex.wt_len x.body; exact ⟨this.1.2.1, by omega, by omega, Ex.Sz_wt _ (by omega)⟩
    case s2 => trivial
    case s3 => trivial
    case s4 => have := w4 x hx; have h2 := this.2; unfold Glo.bk at h2; exact szI_wt (by omega)
    case s5 => trivial
    case s6 => have := w6 x hx; have h2 := this.2; unfold Elm.bk at h2; exact szI_wt (by omega)
    case s7 => have := w7 x hx; have h2 := this.2; unfold Dat.bk at h2; exact szI_wt (by omega)
end Gm
end Go.Proofs.YtcljcnaglkbjcaaGreatDoor

/- inst: item, typeOf; the type of a function as the reference gives it. -/
namespace Go.Proofs.YtcljcnaglkbjcaaGreatDoor
open Go.RowKit
namespace Gm
set_option linter.unusedVariables false
set_option linter.unusedSimpArgs false
open Ex (Lies)

def ty? (M : Mod) (f : Int) : Option Typ := if f < 0 then none else (M.funcs[f.toNat]?).bind fun fn => M.types[fn.ty.toNat]?
theorem ty_neg {M : Mod} {f : Int} (h : f < 0) : ty? M f = none := by unfold ty?; rw [if_pos h]
theorem ty_big {M : Mod} {f : Int} (h : (M.funcs.length : Int) ≤ f) : ty? M f = none := by
  unfold ty?; rw [if_neg (by omega), List.getElem?_eq_none (by omega)]; rfl
theorem ty_at {M : Mod} {j : Nat} (h : j < M.funcs.length) : ty? M j = M.types[(M.funcs[j]).ty.toNat]? := by
  unfold ty?; rw [if_neg (by omega), Int.toNat_natCast, List.getElem?_eq_getElem h]; rfl

/-- an item of a list, its cells -/
theorem LL.at {α : Type} {It : World → (Nat → Prop) → α → List Value → Prop} {c : Nat} {w : World} {g : Nat → Prop} {l : List α} {v : Value} (h : LL It c w g l v) {j : Nat} (hj : j < l.length) :
    ∃ b o cp, v = .slice (some ⟨b, o, none⟩) l.length cp ∧ l.length ≤ cp ∧ b < w.heap.size ∧ g b ∧ ∃ cs, cs.length = c ∧ It w g l[j] cs ∧ ∀ k u, cs[k]? = some u → w.cell? ⟨b, o + j * c + k, none⟩ = some u := by
  obtain ⟨a, cp, rfl, hc, _, hr⟩ := h
  obtain ⟨b, o, rfl, hg, hb, hi⟩ := hr (by omega)
  exact ⟨b, o, cp, rfl, hc, hb, hg, hi j hj⟩
theorem LL.sl {α : Type} {It : World → (Nat → Prop) → α → List Value → Prop} {c : Nat} {w : World} {g : Nat → Prop} {l : List α} {v : Value} (h : LL It c w g l v) : ∃ a cp, v = .slice a l.length cp := by
  obtain ⟨a, cp, rfl, _⟩ := h; exact ⟨a, cp, rfl⟩

theorem item_t {w : World} {g : Nat → Prop} {l : List Typ} {v : Value} (h : LL TypC 2 w g l v) {j : Nat} (hj : j < l.length) :
    Calls Tryz.prog 56 #[v, .int .i64 j] w fun e w' => ∃ pa pc, e = .returned (.tuple #[.agg #[.slice pa l[j].ps.length pc, .int .u8 l[j].re], .bool true]) ∧ Lies g l[j].ps.length (Byts w l[j].ps) (.slice pa l[j].ps.length pc) ∧ Below w.heap.size w w' := by
  obtain ⟨b, o, cp, rfl, _, hb, _, cs, _, ⟨vp, rfl, hp⟩, hcs⟩ := h.at hj
  have hp2 := hp
  obtain ⟨pa, pc, rfl, _⟩ := hp
  refine (iti_T_yes b o l.length cp j pa l[j].ps.length pc l[j].re w hb (by omega) (hcs 0 _ rfl) (hcs 1 _ rfl)).mono ?_
  rintro e w' ⟨rfl, hbel⟩
  exact ⟨pa, pc, rfl, hp2, hbel⟩
theorem item_f {w : World} {g : Nat → Prop} {l : List Fnc} {v : Value} (h : LL FncC 3 w g l v) {j : Nat} (hj : j < l.length) :
    Calls Tryz.prog 78 #[v, .int .i64 j] w fun e w' => ∃ pa pl pc qa ql qc, e = .returned (.tuple #[.agg #[.int .u32 l[j].ty, .slice pa pl pc, .slice qa ql qc], .bool true]) ∧ Below w.heap.size w w' := by
  obtain ⟨b, o, cp, rfl, _, hb, _, cs, _, ⟨vp, vq, rfl, hp, hq⟩, hcs⟩ := h.at hj
  obtain ⟨pa, pc, rfl, _⟩ := hp
  obtain ⟨qa, qc, rfl, _⟩ := hq
  refine (iti_F_yes b o l.length cp j l[j].ty pa _ pc qa _ qc w hb (by omega) (hcs 0 _ rfl) (hcs 1 _ rfl) (hcs 2 _ rfl)).mono ?_
  rintro e w' ⟨rfl, hbel⟩
  exact ⟨pa, _, pc, qa, _, qc, rfl, hbel⟩

def TyYes (fn : Nat) (ag : Value) (w : World) (g : Nat → Prop) (f : Int) (t : Typ) : Prop :=
  Calls Tryz.prog fn #[ag, .int .i64 f] w fun e w' => ∃ pa pc, e = .returned (.tuple #[.agg #[.slice pa t.ps.length pc, .int .u8 t.re], .bool true]) ∧ Lies g t.ps.length (Byts w t.ps) (.slice pa t.ps.length pc) ∧ Below w.heap.size w w'
def TyNo (fn : Nat) (ag : Value) (w : World) (f : Int) : Prop :=
  Calls Tryz.prog fn #[ag, .int .i64 f] w fun e w' => e = .returned (.tuple #[.agg #[.slice none 0 0, .int .u8 0], .bool false]) ∧ Below w.heap.size w w'

theorem res2 {w w1 : World} {m : Obj} {x0 x1 : Value} {t : TypeId} (hb : Below ((w.alloc m).alloc (.cells #[x0, x1] t)).heap.size ((w.alloc m).alloc (.cells #[x0, x1] t)) w1) :
    w1.heap[w.heap.size + 1]? = some (.cells #[x0, x1] t (0, 0)) ∧ w.heap.size + 1 < w1.heap.size ∧ Below w.heap.size w w1 ∧ (∀ i, i < w.heap.size + 1 → w1.heap[i]? = (w.alloc m).heap[i]?) := by
  have e1 : ((w.alloc m).alloc (.cells #[x0, x1] t)).heap.size = w.heap.size + 2 := by simp
  have e2 : (w.alloc m).heap.size = w.heap.size + 1 := by simp
  have h1 : Below w.heap.size w ((w.alloc m).alloc (.cells #[x0, x1] t)) := ((Below.refl _ _).alloc (Nat.le_refl _) _).alloc (by simp) _
  have hn := heap_alloc_new (w.alloc m) (.cells #[x0, x1] t)
  rw [e2] at hn
  refine ⟨(hb.block _ (by omega)).trans hn, by have := hb.size; omega, h1.trans (hb.mono (by omega)), fun i hi => (hb.block i (by omega)).trans (Below.heap_alloc _ _ _ (by omega))⟩
theorem cel2 {w : World} {B : Nat} {t : TypeId} {x0 x1 : Value} (h : w.heap[B]? = some (.cells #[x0, x1] t (0, 0))) : w.cell? ⟨B, 0, none⟩ = some x0 ∧ w.cell? ⟨B, 1, none⟩ = some x1 := by
  refine ⟨?_, ?_⟩ <;> (rw [cell_of_row w B _ _ _ _ h]; rfl)

theorem set2 {w : World} {B : Nat} {t : TypeId} {x0 x1 : Value} (h : w.heap[B]? = some (.cells #[x0, x1] t (0, 0))) (y0 y1 : Value) : ((w.setCell ⟨B, 0, none⟩ y0).setCell ⟨B, 1, none⟩ y1).heap[B]? = some (.cells #[y0, y1] t (0, 0)) := by
  have h0 : (w.setCell ⟨B, 0, none⟩ y0).heap[B]? = some (.cells #[y0, x1] t (0, 0)) := (heap_setCell_same _ B 0 _ _ y0 h).trans rfl
  exact (heap_setCell_same _ B 1 _ _ y1 h0).trans rfl
theorem fin2 {w w1 : World} {S B : Nat} {t : TypeId} {x0 x1 : Value} (hr : w1.heap[B]? = some (.cells #[x0, x1] t (0, 0))) (hb : Below S w w1) (hS : S ≤ B) (y0 y1 : Value) :
    ((w1.setCell ⟨B, 0, none⟩ y0).setCell ⟨B, 1, none⟩ y1).cell? ⟨B, 0, none⟩ = some y0 ∧ ((w1.setCell ⟨B, 0, none⟩ y0).setCell ⟨B, 1, none⟩ y1).cell? ⟨B, 1, none⟩ = some y1 ∧ Below S w ((w1.setCell ⟨B, 0, none⟩ y0).setCell ⟨B, 1, none⟩ y1) := by
  obtain ⟨q0, q1⟩ := cel2 (set2 hr y0 y1)
  exact ⟨q0, q1, (hb.setCell (p := ⟨B, 0, none⟩) hS y0).setCell (p := ⟨B, 1, none⟩) hS y1⟩
theorem fin2a {w w1 : World} {S B : Nat} {t : TypeId} {x0 x1 : Value} (hr : w1.heap[B]? = some (.cells #[x0, x1] t (0, 0))) (hb : Below S w w1) (hS : S ≤ B) (y0 y1 : Value) (o : Obj) :
    (((w1.setCell ⟨B, 0, none⟩ y0).setCell ⟨B, 1, none⟩ y1).alloc o).cell? ⟨B, 0, none⟩ = some y0 ∧ (((w1.setCell ⟨B, 0, none⟩ y0).setCell ⟨B, 1, none⟩ y1).alloc o).cell? ⟨B, 1, none⟩ = some y1 ∧ Below S w (((w1.setCell ⟨B, 0, none⟩ y0).setCell ⟨B, 1, none⟩ y1).alloc o) := by
  obtain ⟨q0, q1, q2⟩ := fin2 hr hb hS y0 y1
  have hB := (Array.getElem?_eq_some_iff.1 hr).1
  have hs : ((w1.setCell ⟨B, 0, none⟩ y0).setCell ⟨B, 1, none⟩ y1).heap.size = w1.heap.size := by simp
  have ha : Below w1.heap.size ((w1.setCell ⟨B, 0, none⟩ y0).setCell ⟨B, 1, none⟩ y1) (((w1.setCell ⟨B, 0, none⟩ y0).setCell ⟨B, 1, none⟩ y1).alloc o) := (Below.refl _ _).alloc (by omega) o
  exact ⟨(ha.cell (p := ⟨B, 0, none⟩) hB).trans q0, (ha.cell (p := ⟨B, 1, none⟩) hB).trans q1, q2.alloc (by omega) o⟩

set_option maxRecDepth 100000 in
set_option maxHeartbeats 1600000 in
theorem typeOf_out {M : Mod} {g : Nat → Prop} {v0 v1 v2 v3 v4 v5 v6 v7 : Value} {w : World} (hM : ModL w g M v0 v1 v2 v3 v4 v5 v6 v7) {f : Int} (hf : f < 0 ∨ (M.funcs.length : Int) ≤ f) : TyNo 48 (.agg #[v0, v1, v2, v3, v4, v5, v6, v7]) w f := by
  unfold TyNo
  obtain ⟨a0, c0, rfl⟩ := hM.l0.sl
  obtain ⟨a1, c1, rfl⟩ := hM.l1.sl
  have hN := fun W => iti_F_no a1 M.funcs.length c1 f W hf
  have HN := hide hN; clear hN hf hM
  go_enter Tryz.func48, Tryz.ntmps48
  go_wp2_with fail
  refine (unhide HN _).mono ?_
  rintro e w1 ⟨rfl, hb1⟩
  obtain ⟨r1, r2, r3, r4⟩ := res2 hb1
  obtain ⟨z0, z1⟩ := cel2 r1
  have fz : ∀ j, w1.frozen? ⟨w.heap.size + 1, j, none⟩ = false := fun j => frozen_of_row w1 _ j _ _ r1
  have HB := hide r3; have HR := hide r1
  clear hb1 r3 r1 r4
  go_wp2
  obtain ⟨q0, q1, q2⟩ := fin2a (unhide HR) (unhide HB) (by omega) (.slice none 0 0) (.int .u8 0) (.cells #[.int .u32 0, .slice none 0 0, .slice none 0 0] 143)
  refine bodyPost_ret (v := .tuple #[.agg #[.slice none 0 0, .int .u8 0], .bool false]) (by simp [results, Tryz.results48, go_sem, q0, q1]) rfl ⟨rfl, q2⟩

set_option maxRecDepth 100000 in
set_option maxHeartbeats 1600000 in
theorem typeOf_big {M : Mod} {g : Nat → Prop} {v0 v1 v2 v3 v4 v5 v6 v7 : Value} {w : World} (hM : ModL w g M v0 v1 v2 v3 v4 v5 v6 v7) {j : Nat} (hj : j < M.funcs.length) (ht0 : 0 ≤ (M.funcs[j]).ty) (ht1 : (M.funcs[j]).ty ≤ 4294967295) (ht : (M.types.length : Int) ≤ (M.funcs[j]).ty) : TyNo 48 (.agg #[v0, v1, v2, v3, v4, v5, v6, v7]) w j := by
  unfold TyNo
  obtain ⟨a0, c0, rfl⟩ := hM.l0.sl
  obtain ⟨a1, c1, rfl⟩ := hM.l1.sl
  have hN : ∀ W, Below w.heap.size w W → _ := fun W hW => item_f (hM.l1.moved (Mv.below (g' := g) hW (fun _ _ h => h)) hW.size (fun _ _ q => FncC.moved (Mv.below (g' := g) hW (fun _ _ h => h)) q)) hj
  have hN2 := fun W => iti_T_no a0 M.types.length c0 (M.funcs[j]).ty W (.inr ht)
  have HN := hide hN; have HN2 := hide hN2; clear hN hM hN2
  generalize (M.funcs[j]).ty = ty at *
  go_enter Tryz.func48, Tryz.ntmps48
  go_wp2_with fail
  refine (unhide HN _ (((Below.refl _ _).alloc (Nat.le_refl _) _).alloc (by simp) _)).mono ?_
  rintro e w1 ⟨pa, pl, pc, qa, ql, qc, rfl, hb1⟩
  obtain ⟨r1, r2, r3, r4⟩ := res2 hb1
  have m0 : w1.cell? ⟨w.heap.size, 0, none⟩ = some (.slice a0 M.types.length c0) := by
    rw [cell_of_row w1 _ 0 _ _ _ ((r4 _ (by omega)).trans (heap_alloc_new w _))]; rfl
  have HB := hide r3; have HR := hide r1
  have n1 : w.heap.size < w1.heap.size := by omega
  have n2 : ¬ w.heap.size = w1.heap.size := by omega
  clear hb1 r3 r1 r4
  go_wp2_with fail
  refine (unhide HN2 _).mono ?_
  rintro e w2 ⟨rfl, hb2⟩
  have hb3 := Below.on ((Below.refl w1.heap.size w1).alloc (Nat.le_refl _) _) hb2
  have r1 := (hb3.block _ r2).trans (unhide HR)
  have hb4 := Below.on0 (unhide HB) hb3 (unhide HB).size
  obtain ⟨z0, z1⟩ := cel2 r1
  have fz : ∀ j, w2.frozen? ⟨w.heap.size + 1, j, none⟩ = false := fun j => frozen_of_row w2 _ j _ _ r1
  have hlt2 : w.heap.size + 1 < w2.heap.size := by have := hb3.size; omega
  have HB4 := hide hb4; have HR2 := hide r1
  clear hb2 hb3 hb4 r1 HB HR
  go_wp2
  obtain ⟨q0, q1, q2⟩ := fin2 (unhide HR2) (unhide HB4) (by omega) (.slice none 0 0) (.int .u8 0)
  refine bodyPost_ret (v := .tuple #[.agg #[.slice none 0 0, .int .u8 0], .bool false]) (by simp [results, Tryz.results48, go_sem, q0, q1]) rfl ⟨rfl, q2⟩

set_option maxRecDepth 100000 in
set_option maxHeartbeats 1600000 in
theorem typeOf_yes {M : Mod} {g : Nat → Prop} {v0 v1 v2 v3 v4 v5 v6 v7 : Value} {w : World} (hM : ModL w g M v0 v1 v2 v3 v4 v5 v6 v7) {j : Nat} (hj : j < M.funcs.length) {k : Nat} (hk : k < M.types.length) (ht : (M.funcs[j]).ty = k) (ht1 : k ≤ 4294967295) : TyYes 48 (.agg #[v0, v1, v2, v3, v4, v5, v6, v7]) w g j M.types[k] := by
  unfold TyYes
  obtain ⟨a1, c1, rfl⟩ := hM.l1.sl
  have hN : ∀ W, Below w.heap.size w W → _ := fun W hW => item_f (hM.l1.moved (Mv.below (g' := g) hW (fun _ _ h => h)) hW.size (fun _ _ q => FncC.moved (Mv.below (g' := g) hW (fun _ _ h => h)) q)) hj
  obtain ⟨b, o, c0, rfl, -, hb, -, cs, -, ⟨vp, rfl, hp⟩, hcs⟩ := hM.l0.at hk
  have hp2 := hp
  obtain ⟨ta, tc, rfl, -⟩ := hp
  have hN2 : ∀ W, Below w.heap.size w W → _ := fun W hW => iti_T_yes b o M.types.length c0 k ta (M.types[k]).ps.length tc (M.types[k]).re W (Nat.lt_of_lt_of_le hb hW.size) (by omega) ((hW.cell (p := ⟨b, _, none⟩) hb).trans (hcs 0 _ rfl)) ((hW.cell (p := ⟨b, _, none⟩) hb).trans (hcs 1 _ rfl))
  have HN := hide hN; have HN2 := hide hN2; have HBy := hide hp2; clear hN hN2 hcs hp2
  rw [ht] at HN
  clear ht hM
  generalize M.types[k] = t at *
  go_enter Tryz.func48, Tryz.ntmps48
  go_wp2_with fail
  refine (unhide HN _ (((Below.refl _ _).alloc (Nat.le_refl _) _).alloc (by simp) _)).mono ?_
  rintro e w1 ⟨pa, pl, pc, qa, ql, qc, rfl, hb1⟩
  obtain ⟨r1, r2, r3, r4⟩ := res2 hb1
  have m0 : w1.cell? ⟨w.heap.size, 0, none⟩ = some (.slice (some ⟨b, o, none⟩) M.types.length c0) := by
    rw [cell_of_row w1 _ 0 _ _ _ ((r4 _ (by omega)).trans (heap_alloc_new w _))]; rfl
  have HB := hide r3; have HR := hide r1
  have n1 : w.heap.size < w1.heap.size := by omega
  have n2 : ¬ w.heap.size = w1.heap.size := by omega
  clear hb1 r3 r1 r4
  go_wp2_with fail
  refine (unhide HN2 _ ((unhide HB).alloc (unhide HB).size _)).mono ?_
  rintro e w2 ⟨rfl, hb2⟩
  have hb3 := Below.on ((Below.refl w1.heap.size w1).alloc (Nat.le_refl _) _) hb2
  have r1 := (hb3.block _ r2).trans (unhide HR)
  have hb4 := Below.on0 (unhide HB) hb3 (unhide HB).size
  obtain ⟨z0, z1⟩ := cel2 r1
  have fz : ∀ j, w2.frozen? ⟨w.heap.size + 1, j, none⟩ = false := fun j => frozen_of_row w2 _ j _ _ r1
  have hlt2 : w.heap.size + 1 < w2.heap.size := by have := hb3.size; omega
  have HB4 := hide hb4; have HR2 := hide r1
  clear hb2 hb3 hb4 r1 HB HR
  go_wp2
  obtain ⟨q0, q1, q2⟩ := fin2 (unhide HR2) (unhide HB4) (by omega) (.slice ta t.ps.length tc) (.int .u8 t.re)
  refine bodyPost_ret (v := .tuple #[.agg #[.slice ta t.ps.length tc, .int .u8 t.re], .bool true]) (by simp [results, Tryz.results48, go_sem, q0, q1]) rfl ⟨_, _, rfl, unhide HBy, q2⟩
end Gm
end Go.Proofs.YtcljcnaglkbjcaaGreatDoor

/- The type of a function as the reference gives it. -/
namespace Go.Proofs.YtcljcnaglkbjcaaGreatDoor
open Go.RowKit
namespace Gm
set_option linter.unusedVariables false
set_option linter.unusedSimpArgs false
open Ex (Lies)
theorem drewn_below9 (w : World) (k : Nat) : Below w.heap.size w (w.drewN k) := ⟨rfl, rfl, rfl, Nat.le_refl _, fun _ _ => rfl⟩

theorem start2 {w : World} {ms : Array Value} {t t2 : TypeId} {x0 x1 : Value} : ∃ W0, ((w.alloc (.cells ms t)).alloc (.cells #[x0, x1] t2)) = W0 ∧ W0.heap[w.heap.size]? = some (.cells ms t (0, 0)) ∧ W0.heap[w.heap.size + 1]? = some (.cells #[x0, x1] t2 (0, 0)) ∧ w.heap.size + 1 < W0.heap.size ∧ Below w.heap.size w W0 := by
  have e2 : (w.alloc (.cells ms t)).heap.size = w.heap.size + 1 := by simp
  have hn := heap_alloc_new (w.alloc (.cells ms t)) (.cells #[x0, x1] t2)
  rw [e2] at hn
  exact ⟨_, rfl, (Below.heap_alloc _ _ _ (by simp)).trans (heap_alloc_new w (.cells ms t)), hn, by simp, ((Below.refl _ _).alloc (Nat.le_refl _) _).alloc (by simp) _⟩

set_option maxRecDepth 100000 in
set_option maxHeartbeats 1600000 in
theorem rtype_out {M : Mod} {g : Nat → Prop} {v0 v1 v2 v3 v4 v5 v6 v7 : Value} {w : World} (hM : ModL w g M v0 v1 v2 v3 v4 v5 v6 v7) {f : Int} (hf : f < 0 ∨ (M.funcs.length : Int) ≤ f) : TyNo 50 (.agg #[v0, v1, v2, v3, v4, v5, v6, v7]) w f := by
  unfold TyNo
  obtain ⟨a0, c0, rfl⟩ := hM.l0.sl
  obtain ⟨a1, c1, rfl⟩ := hM.l1.sl
  clear hM
  generalize M.types.length = nt at *
  generalize M.funcs.length = nf at *
  obtain ⟨W0, hW0, b1, b2, b3, b4⟩ := start2 (w := w) (ms := #[.slice a0 nt c0, .slice a1 nf c1, v2, v3, v4, v5, v6, v7]) (t := 30) (t2 := 107) (x0 := .slice none 0 0) (x1 := .int .u8 0)
  have m0 : W0.cell? ⟨w.heap.size, 0, none⟩ = some (.slice a0 nt c0) := by rw [cell_of_row W0 _ 0 _ _ _ b1]; rfl
  have m1 : W0.cell? ⟨w.heap.size, 1, none⟩ = some (.slice a1 nf c1) := by rw [cell_of_row W0 _ 1 _ _ _ b1]; rfl
  obtain ⟨z0, z1⟩ := cel2 b2
  have fz : ∀ j, W0.frozen? ⟨w.heap.size + 1, j, none⟩ = false := fun j => frozen_of_row W0 _ j _ _ b2
  have HW := hide hW0; have HR := hide b2; have HB := hide b4
  clear hW0 b1 b2 b4
  by_cases h0 : f < 0
  · clear hf
    go_enter Tryz.func50, Tryz.ntmps50
    go_wp2_with fail
    rw [unhide HW]
    go_quiet (fail)
    go_wp2
    have q := fin2 (w1 := W0.drewN nq) (unhide HR) (Below.on0 (unhide HB) (drewn_below9 W0 nq) (unhide HB).size) (by omega) (.slice none 0 0) (.int .u8 0)
    obtain ⟨q0, q1, q2⟩ := q
    refine bodyPost_ret (v := .tuple #[.agg #[.slice none 0 0, .int .u8 0], .bool false]) (by simp [results, Tryz.results50, go_sem, q0, q1]) rfl ⟨rfl, q2⟩
  · have h1 : f ≥ (nf : Int) := by omega
    have d0 : decide (f < 0) = false := decide_eq_false h0
    clear hf
    go_enter Tryz.func50, Tryz.ntmps50
    go_wp2_with fail
    rw [unhide HW]
    go_quiet (fail)
    go_wp2
    have q := fin2 (w1 := W0.drewN nq) (unhide HR) (Below.on0 (unhide HB) (drewn_below9 W0 nq) (unhide HB).size) (by omega) (.slice none 0 0) (.int .u8 0)
    obtain ⟨q0, q1, q2⟩ := q
    refine bodyPost_ret (v := .tuple #[.agg #[.slice none 0 0, .int .u8 0], .bool false]) (by simp [results, Tryz.results50, go_sem, q0, q1]) rfl ⟨rfl, q2⟩

set_option maxRecDepth 100000 in
set_option maxHeartbeats 1600000 in
theorem rtype_big {M : Mod} {g : Nat → Prop} {v0 v1 v2 v3 v4 v5 v6 v7 : Value} {w : World} (hM : ModL w g M v0 v1 v2 v3 v4 v5 v6 v7) (hnt : M.types.length ≤ 1048576) {j : Nat} (hj : j < M.funcs.length) (ht0 : 0 ≤ (M.funcs[j]).ty) (ht1 : (M.funcs[j]).ty ≤ 4294967295) (ht : (M.types.length : Int) ≤ (M.funcs[j]).ty) : TyNo 50 (.agg #[v0, v1, v2, v3, v4, v5, v6, v7]) w j := by
  unfold TyNo
  obtain ⟨a0, c0, rfl⟩ := hM.l0.sl
  obtain ⟨b, o, c1, rfl, -, hb, -, cs, -, ⟨vp, vq, rfl, hp, hq⟩, hcs⟩ := hM.l1.at hj
  have e0 : w.cell? ⟨b, o + j * 3, none⟩ = some (.int .u32 (M.funcs[j]).ty) := hcs 0 _ rfl
  clear hM hcs hp hq
  generalize (M.funcs[j]).ty = ty at *
  generalize M.types.length = nt at *
  generalize M.funcs.length = nf at *
  obtain ⟨W0, hW0, b1, b2, b3, b4⟩ := start2 (w := w) (ms := #[.slice a0 nt c0, .slice (some ⟨b, o, none⟩) nf c1, v2, v3, v4, v5, v6, v7]) (t := 30) (t2 := 107) (x0 := .slice none 0 0) (x1 := .int .u8 0)
  have m0 : W0.cell? ⟨w.heap.size, 0, none⟩ = some (.slice a0 nt c0) := by rw [cell_of_row W0 _ 0 _ _ _ b1]; rfl
  have m1 : W0.cell? ⟨w.heap.size, 1, none⟩ = some (.slice (some ⟨b, o, none⟩) nf c1) := by rw [cell_of_row W0 _ 1 _ _ _ b1]; rfl
  obtain ⟨z0, z1⟩ := cel2 b2
  have fz : ∀ j, W0.frozen? ⟨w.heap.size + 1, j, none⟩ = false := fun j => frozen_of_row W0 _ j _ _ b2
  have d0 : decide ((j : Int) < 0) = false := decide_eq_false (by omega)
  have d1 : decide ((j : Int) ≥ (nf : Int)) = false := decide_eq_false (by omega)
  have d1' : decide ((nf : Int) ≤ (j : Int)) = false := decide_eq_false (by omega)
  have dn : decide (nf ≤ j) = false := decide_eq_false (by omega)
  have wr : IntKind.u32.wrap (nt : Int) = (nt : Int) := by rw [IntKind.wrap_u32]; omega
  have hjn : (j : Int) < nf := by omega
  have e1 : W0.cell? ⟨b, o + j * 3, none⟩ = some (.int .u32 ty) := (b4.cell (p := ⟨b, o + j * 3, none⟩) hb).trans e0
  have t1 : ty ≥ (nt : Int) := ht
  have hn2 : (nt : Int) ≤ 1048576 := by omega
  have HW := hide hW0; have HR := hide b2; have HB := hide b4
  clear hW0 b1 b2 b4 e0 hnt
  go_enter Tryz.func50, Tryz.ntmps50
  go_wp2_with fail
  rw [unhide HW]
  go_quiet (fail)
  go_wp2
  have q := fin2 (w1 := W0.drewN nq) (unhide HR) (Below.on0 (unhide HB) (drewn_below9 W0 nq) (unhide HB).size) (by omega) (.slice none 0 0) (.int .u8 0)
  obtain ⟨q0, q1, q2⟩ := q
  refine bodyPost_ret (v := .tuple #[.agg #[.slice none 0 0, .int .u8 0], .bool false]) (by simp [results, Tryz.results50, go_sem, q0, q1]) rfl ⟨rfl, q2⟩

set_option maxRecDepth 100000 in
set_option maxHeartbeats 1600000 in
theorem rtype_yes {M : Mod} {g : Nat → Prop} {v0 v1 v2 v3 v4 v5 v6 v7 : Value} {w : World} (hM : ModL w g M v0 v1 v2 v3 v4 v5 v6 v7) (hnt : M.types.length ≤ 1048576) {j : Nat} (hj : j < M.funcs.length) {k : Nat} (hk : k < M.types.length) (ht : (M.funcs[j]).ty = k) : TyYes 50 (.agg #[v0, v1, v2, v3, v4, v5, v6, v7]) w g j M.types[k] := by
  unfold TyYes
  obtain ⟨b, o, c1, rfl, -, hb, -, cs, -, ⟨vp, vq, rfl, hp, hq⟩, hcs⟩ := hM.l1.at hj
  obtain ⟨b', o', c0, rfl, -, hb', -, cs', -, ⟨vt, rfl, hvt⟩, hcs'⟩ := hM.l0.at hk
  have e0 : w.cell? ⟨b, o + j * 3, none⟩ = some (.int .u32 (M.funcs[j]).ty) := hcs 0 _ rfl
  have HBy := hide hvt
  obtain ⟨ta, tc, rfl, -⟩ := hvt
  have e2 : w.cell? ⟨b', o' + k * 2, none⟩ = some (.slice ta (M.types[k]).ps.length tc) := hcs' 0 _ rfl
  have e3 : w.cell? ⟨b', o' + k * 2 + 1, none⟩ = some (.int .u8 (M.types[k]).re) := hcs' 1 _ rfl
  rw [ht] at e0
  clear hM hcs hcs' hp hq ht
  generalize M.types[k] = t at *
  generalize M.types.length = nt at *
  generalize M.funcs.length = nf at *
  obtain ⟨W0, hW0, b1, b2, b3, b4⟩ := start2 (w := w) (ms := #[.slice (some ⟨b', o', none⟩) nt c0, .slice (some ⟨b, o, none⟩) nf c1, v2, v3, v4, v5, v6, v7]) (t := 30) (t2 := 107) (x0 := .slice none 0 0) (x1 := .int .u8 0)
  have m0 : W0.cell? ⟨w.heap.size, 0, none⟩ = some (.slice (some ⟨b', o', none⟩) nt c0) := by rw [cell_of_row W0 _ 0 _ _ _ b1]; rfl
  have m1 : W0.cell? ⟨w.heap.size, 1, none⟩ = some (.slice (some ⟨b, o, none⟩) nf c1) := by rw [cell_of_row W0 _ 1 _ _ _ b1]; rfl
  obtain ⟨z0, z1⟩ := cel2 b2
  have fz : ∀ j, W0.frozen? ⟨w.heap.size + 1, j, none⟩ = false := fun j => frozen_of_row W0 _ j _ _ b2
  have d0 : decide ((j : Int) < 0) = false := decide_eq_false (by omega)
  have d1 : decide ((j : Int) ≥ (nf : Int)) = false := decide_eq_false (by omega)
  have d1' : decide ((nf : Int) ≤ (j : Int)) = false := decide_eq_false (by omega)
  have dn : decide (nf ≤ j) = false := decide_eq_false (by omega)
  have wr : IntKind.u32.wrap (nt : Int) = (nt : Int) := by rw [IntKind.wrap_u32]; omega
  have hjn : (j : Int) < nf := by omega
  have hkn : (k : Int) < nt := by omega
  have d2 : decide ((k : Int) ≥ (nt : Int)) = false := decide_eq_false (by omega)
  have dn2 : decide (nt ≤ k) = false := decide_eq_false (by omega)
  have d2' : decide ((nt : Int) ≤ (k : Int)) = false := decide_eq_false (by omega)
  have e1 : W0.cell? ⟨b, o + j * 3, none⟩ = some (.int .u32 k) := (b4.cell (p := ⟨b, o + j * 3, none⟩) hb).trans e0
  have e4 : W0.cell? ⟨b', o' + k * 2, none⟩ = some (.slice ta t.ps.length tc) := (b4.cell (p := ⟨b', o' + k * 2, none⟩) hb').trans e2
  have e5 : W0.cell? ⟨b', o' + k * 2 + 1, none⟩ = some (.int .u8 t.re) := (b4.cell (p := ⟨b', o' + k * 2 + 1, none⟩) hb').trans e3
  have hn2 : (nt : Int) ≤ 1048576 := by omega
  have HW := hide hW0; have HR := hide b2; have HB := hide b4
  clear hW0 b1 b2 b4 e0 e2 e3 hnt
  go_enter Tryz.func50, Tryz.ntmps50
  go_wp2_with fail
  rw [unhide HW]
  go_quiet (fail)
  go_wp2_with fail
  have nb : ¬ b = w.heap.size + 1 := by omega
  have nb' : ¬ b' = w.heap.size + 1 := by omega
  have ns : ¬ w.heap.size = w.heap.size + 1 := by omega
  have HB1 := hide (Below.on0 (unhide HB) (drewn_below9 W0 nq) (unhide HB).size)
  have HR1 : Hid ((W0.drewN nq).heap[w.heap.size + 1]? = some (.cells #[.slice none 0 0, .int .u8 0] 107 (0, 0))) := hide (unhide HR)
  have b3' : w.heap.size + 1 < (W0.drewN nq).heap.size := b3
  have m0' : (W0.drewN nq).cell? ⟨w.heap.size, 0, none⟩ = some (.slice (some ⟨b', o', none⟩) nt c0) := m0
  have m1' : (W0.drewN nq).cell? ⟨w.heap.size, 1, none⟩ = some (.slice (some ⟨b, o, none⟩) nf c1) := m1
  have z0' : (W0.drewN nq).cell? ⟨w.heap.size + 1, 0, none⟩ = some (.slice none 0 0) := z0
  have z1' : (W0.drewN nq).cell? ⟨w.heap.size + 1, 1, none⟩ = some (.int .u8 0) := z1
  have fz' : ∀ j, (W0.drewN nq).frozen? ⟨w.heap.size + 1, j, none⟩ = false := fz
  have e1' : (W0.drewN nq).cell? ⟨b, o + j * 3, none⟩ = some (.int .u32 k) := e1
  have e4' : (W0.drewN nq).cell? ⟨b', o' + k * 2, none⟩ = some (.slice ta t.ps.length tc) := e4
  have e5' : (W0.drewN nq).cell? ⟨b', o' + k * 2 + 1, none⟩ = some (.int .u8 t.re) := e5
  clear m0 m1 z0 z1 fz e1 e4 e5 b3 HW HR HB
  generalize W0.drewN nq = W1 at *
  go_region
  all_goals go_wp2
  obtain ⟨q0, q1, q2⟩ := fin2 (unhide HR1) (unhide HB1) (by omega) (.slice ta t.ps.length tc) (.int .u8 t.re)
  have q3 := Below.on0 q2 (drew_below9 _) q2.size
  refine bodyPost_ret (v := .tuple #[.agg #[.slice ta t.ps.length tc, .int .u8 t.re], .bool true]) (by simp [results, Tryz.results50, go_sem, q0, q1]) rfl ⟨_, _, rfl, unhide HBy, q3⟩

theorem ty_cases (M : Mod) (f : Int) (hwf : WfM M) : ((f < 0 ∨ (M.funcs.length : Int) ≤ f) ∧ ty? M f = none) ∨ (∃ (j : Nat) (h : j < M.funcs.length), f = j ∧ 0 ≤ (M.funcs[j]).ty ∧ (M.funcs[j]).ty ≤ 4294967295 ∧ (M.types.length : Int) ≤ (M.funcs[j]).ty ∧ ty? M f = none) ∨
    (∃ (j : Nat) (h : j < M.funcs.length) (k : Nat) (hk : k < M.types.length), f = j ∧ (M.funcs[j]).ty = k ∧ k ≤ 4294967295 ∧ ty? M f = some M.types[k]) := by
  by_cases h0 : f < 0
  · exact .inl ⟨.inl h0, ty_neg h0⟩
  by_cases h1 : (M.funcs.length : Int) ≤ f
  · exact .inl ⟨.inr h1, ty_big h1⟩
  obtain ⟨j, rfl⟩ : ∃ j : Nat, f = j := ⟨f.toNat, by omega⟩
  have hj : j < M.funcs.length := by omega
  have hw := (hwf.2.1 _ (List.getElem_mem hj)).1
  by_cases h2 : (M.types.length : Int) ≤ (M.funcs[j]).ty
  · exact .inr (.inl ⟨j, hj, rfl, hw.1, hw.2, h2, by rw [ty_at hj, List.getElem?_eq_none (by omega)]⟩)
  · obtain ⟨k, hk⟩ : ∃ k : Nat, (M.funcs[j]).ty = k := ⟨((M.funcs[j]).ty).toNat, by omega⟩
    have hk2 : k < M.types.length := by omega
    exact .inr (.inr ⟨j, hj, k, hk2, rfl, hk, by omega, by rw [ty_at hj, hk, Int.toNat_natCast, List.getElem?_eq_getElem hk2]⟩)
def TyB (fn : Nat) (ag : Value) (w : World) (g : Nat → Prop) (f : Int) (o : Option Typ) : Prop := match o with
  | some t => TyYes fn ag w g f t
  | none => TyNo fn ag w f
theorem typeOf_any {M : Mod} {g : Nat → Prop} {v0 v1 v2 v3 v4 v5 v6 v7 : Value} {w : World} (hM : ModL w g M v0 v1 v2 v3 v4 v5 v6 v7) (hwf : WfM M) (f : Int) : TyB 48 (.agg #[v0, v1, v2, v3, v4, v5, v6, v7]) w g f (ty? M f) := by
  rcases ty_cases M f hwf with ⟨h, e⟩ | ⟨j, h, rfl, h1, h2, h3, e⟩ | ⟨j, h, k, hk, rfl, h1, h2, e⟩ <;> rw [e]
  · exact typeOf_out hM h
  · exact typeOf_big hM h h1 h2 h3
  · exact typeOf_yes hM h hk h1 h2
theorem rtype_any {M : Mod} {g : Nat → Prop} {v0 v1 v2 v3 v4 v5 v6 v7 : Value} {w : World} (hM : ModL w g M v0 v1 v2 v3 v4 v5 v6 v7) (hwf : WfM M) (hs : SzM M) (f : Int) : TyB 50 (.agg #[v0, v1, v2, v3, v4, v5, v6, v7]) w g f (ty? M f) := by
  rcases ty_cases M f hwf with ⟨h, e⟩ | ⟨j, h, rfl, h1, h2, h3, e⟩ | ⟨j, h, k, hk, rfl, h1, h2, e⟩ <;> rw [e]
  · exact rtype_out hM h
  · exact rtype_big hM hs.n0 h h1 h2 h3
  · exact rtype_yes hM hs.n0 h hk h1
end Gm
end Go.Proofs.YtcljcnaglkbjcaaGreatDoor

/- The reference's sameType: result and parameters. -/
namespace Go.Proofs.YtcljcnaglkbjcaaGreatDoor
open Go.RowKit
namespace Gm
set_option linter.unusedVariables false
set_option linter.unusedSimpArgs false
open Ex (Lies)
theorem conv {W : World} {a : Option Addr} {len cap : Nat} {zs : List Int} {S : ByteArray} (h : Row W a len zs) (hS : Hid (strOfNums zs = S)) : Sem.run Tryz.prog (convert 105 9 (.slice a len cap)) W = .ok (.string S) W := by
  rw [← hS.out]
  by_cases h0 : 0 < len
  · obtain ⟨b, off, rfl, _, hc⟩ := h.2.2 h0
    exact run_convert_bytes_arg (P := Tryz.prog) W 105 5 Tryz.underlying105 Tryz.underlying5 b off len cap zs h.1 hc 9 Tryz.underlying9
  · obtain rfl : len = 0 := by omega
    obtain rfl : zs = [] := List.eq_nil_of_length_eq_zero h.1
    cases a with
    | none => exact run_convert_bytes_nil (P := Tryz.prog) W 105 5 Tryz.underlying105 Tryz.underlying5 0 cap 9 Tryz.underlying9
    | some x =>
      rw [run_convert_bytes_string W 105 9 5 _ _ _ Tryz.underlying105 Tryz.underlying5 Tryz.underlying9, run_bytesToString W x 0 cap [] (by simp [loadCells, loadCellsFrom])]
      rfl
theorem str_inj : ∀ {xs ys : List Int}, (∀ z ∈ xs, 0 ≤ z ∧ z ≤ 255) → (∀ z ∈ ys, 0 ≤ z ∧ z ≤ 255) → strOfNums xs = strOfNums ys → xs = ys := by
  intro xs ys hx hy h
  have h1 : xs.map (fun n => UInt8.ofNat n.toNat) = ys.map fun n => UInt8.ofNat n.toNat := by rw [← strOfNums_data, ← strOfNums_data, h]
  clear h
  induction xs generalizing ys with
  | nil => cases ys with
    | nil => rfl
    | cons y r => simp at h1
  | cons x r ih => cases ys with
    | nil => simp at h1
    | cons y r2 =>
      simp only [List.map_cons, List.cons.injEq] at h1
      have e := congrArg UInt8.toNat h1.1
      have b1 := hx x (by simp); have b2 := hy y (by simp)
      simp only [UInt8.toNat_ofNat'] at e
      have e2 : x = y := by omega
      rw [e2, ih (fun z hz => hx z (by simp [hz])) (fun z hz => hy z (by simp [hz])) h1.2]
theorem toList_ne {a b : ByteArray} (h : ¬ a = b) : (a.toList == b.toList) = false := by
  rw [ByteArray.toList_eq, ByteArray.toList_eq, beq_eq_false_iff_ne]
  exact fun e => h (by cases a; cases b; exact congrArg _ (Array.toList_inj.1 e))
def tyEq (x y : Typ) : Bool := decide (x.re = y.re) && (x.ps == y.ps)

set_option maxRecDepth 100000 in
set_option maxHeartbeats 1600000 in
theorem same_any {x y : Typ} {w : World} {g g2 : Nat → Prop} {xa ya : Option Addr} {xc yc : Nat} (hx : Lies g x.ps.length (Byts w x.ps) (.slice xa x.ps.length xc)) (hy : Lies g2 y.ps.length (Byts w y.ps) (.slice ya y.ps.length yc)) (bx : ∀ z ∈ x.ps, 0 ≤ z ∧ z ≤ 255) (bY : ∀ z ∈ y.ps, 0 ≤ z ∧ z ≤ 255) :
    Calls Tryz.prog 59 #[.agg #[.slice xa x.ps.length xc, .int .u8 x.re], .agg #[.slice ya y.ps.length yc, .int .u8 y.re]] w fun e w' => e = .returned (.bool (tyEq x y)) ∧ Below w.heap.size w w' := by
  have hB : Below w.heap.size w ((w.alloc (.cells #[.slice xa x.ps.length xc, .int .u8 x.re] 107)).alloc (.cells #[.slice ya y.ps.length yc, .int .u8 y.re] 107)) := ((Below.refl _ _).alloc (Nat.le_refl _) _).alloc (by simp) _
  obtain ⟨Sx, hSx⟩ : ∃ S, strOfNums x.ps = S := ⟨_, rfl⟩
  obtain ⟨Sy, hSy⟩ : ∃ S, strOfNums y.ps = S := ⟨_, rfl⟩
  have c1 := conv (cap := xc) (row_of (Byts.moved (Mv.below (g' := g) hB (fun _ _ h => h)) hx) bx) (hide hSx)
  have c2 := conv (cap := yc) (row_of (Byts.moved (Mv.below (g' := g2) hB (fun _ _ h => h)) hy) bY) (hide hSy)
  have hi : Sx = Sy → x.ps = y.ps := fun e => str_inj bx bY (by rw [hSx, hSy, e])
  have hi2 : x.ps = y.ps → Sx = Sy := fun e => by rw [← hSx, ← hSy, e]
  unfold tyEq
  have HB := hide hB; have HI := hide hi; have HI2 := hide hi2
  clear hx hy bx bY hB hSx hSy hi hi2
  by_cases h1 : x.re = y.re
  · by_cases h2 : x.ps = y.ps
    · have e : Sx = Sy := unhide HI2 h2
      have t : (decide (x.re = y.re) && (x.ps == y.ps)) = true := by simp [h1, h2]
      rw [t]
      subst e
      clear t h2 HI HI2
      generalize x.ps.length = lx at *
      generalize y.ps.length = ly at *
      rw [← h1]
      rw [← h1] at c1 c2 HB
      clear h1
      generalize x.re = rx at *
      go_enter Tryz.func59, Tryz.ntmps59
      go_wp2
      go_ret
      exact ⟨rfl, unhide HB⟩
    · have ne : ¬ Sx = Sy := fun e => h2 (unhide HI e)
      have t : (decide (x.re = y.re) && (x.ps == y.ps)) = false := by simp [h2]
      have nb : (Sx.toList == Sy.toList) = false := toList_ne ne
      rw [t]
      clear t h2 HI HI2
      generalize x.ps.length = lx at *
      generalize y.ps.length = ly at *
      rw [← h1]
      rw [← h1] at c1 c2 HB
      clear h1
      generalize x.re = rx at *
      go_enter Tryz.func59, Tryz.ntmps59
      go_wp2
      go_ret
      exact ⟨rfl, unhide HB⟩
  · have t : (decide (x.re = y.re) && (x.ps == y.ps)) = false := by simp [h1]
    have nb : (x.re == y.re) = false := by simpa using h1
    rw [t]
    clear t HI HI2 c1 c2
    generalize x.ps.length = lx at *
    generalize y.ps.length = ly at *
    generalize x.re = rx at *
    generalize y.re = ry at *
    go_enter Tryz.func59, Tryz.ntmps59
    go_wp2
    go_ret
    exact ⟨rfl, unhide HB⟩
end Gm
end Go.Proofs.YtcljcnaglkbjcaaGreatDoor

/- slices.Equal of kinds. -/
namespace Go.Proofs.YtcljcnaglkbjcaaGreatDoor
open Go.RowKit
namespace Gm
open Ex (Lies)
set_option linter.unusedVariables false

theorem ret_bool {b c : Bool} (h : b = c) : Ending.returned (.bool b) = .returned (.bool c) := by rw [h]
theorem ls_ne {la lb : List Int} (j : Nat) (h : ¬ la.getD j 0 = lb.getD j 0) : (la == lb) = false := by
  rw [beq_eq_false_iff_ne]; rintro rfl; exact h rfl
theorem ls_eq {la lb : List Int} (hl : la.length = lb.length) (h : ∀ i, i < la.length → la.getD i 0 = lb.getD i 0) : (la == lb) = true := by
  rw [beq_iff_eq]
  refine List.ext_getElem hl fun j h1 h2 => ?_
  have := h j h1
  simpa [List.getD, List.getElem?_eq_getElem h1, List.getElem?_eq_getElem h2] using this
theorem drewN_add (w : World) (a b : Nat) : (w.drewN a).drewN b = w.drewN (a + b) := by
  rw [World.drewN_drewN]

set_option maxRecDepth 100000 in
set_option maxHeartbeats 1000000 in
theorem equal_kinds {g g2 : Nat → Prop} {va vb : Value} {la lb : List Int} {w : World} (ha : Lies g la.length (Byts w la) va) (hb : Lies g2 lb.length (Byts w lb) vb) (h1 : la.length ≤ 1099511627776) (h2 : lb.length ≤ 1099511627776) :
    Calls Tryz.prog 58 #[va, vb] w fun e w' => e = .returned (.bool (la == lb)) ∧ Below w.heap.size w w' := by
  obtain ⟨a, ca, rfl, hca, _, hA⟩ := ha
  obtain ⟨b, cb, rfl, hcb, _, hB⟩ := hb
  by_cases hl : la.length = lb.length
  · rw [← hl] at hB hcb ⊢
    have heq := fun h => ls_eq hl h
    have HEq := hide heq; have HL := hide hl; clear heq hl h2
    by_cases h0 : 0 < la.length
    · obtain ⟨ba, oa, rfl, _, hla⟩ := hA h0
      obtain ⟨bb, ob, rfl, _, hlb⟩ := hB h0
      have HLa := hide hla; have HLb := hide hlb
      clear hA hB hla hlb
      have hne := fun j h => ls_ne (la := la) (lb := lb) j h
      have HNe := hide hne; clear hne
      unfold Byts at HLa HLb
      generalize hn : la.length = n at *
      have HN := hide hn; clear hn
      go_enter Tryz.func58, Tryz.ntmps58
      go_wp2_with fail
      go_loopw [13] (fun c wr => ∃ j : Nat, c = .int .i64 j ∧ (j : Int) ≤ n ∧ (∀ i, i < j → la.getD i 0 = lb.getD i 0) ∧ ∃ k, wr = w.drewN k) (fun c _ => n - (intOf c).toNat)
      case atStart => exact ⟨0, rfl, by omega, fun i hi => absurd hi (by omega), 0, rfl⟩
      case round =>
        obtain ⟨j, rfl, hj, hall, k, rfl⟩ := hrel
        have HAll := hide hall; clear hall
        by_cases hlt : (j : Int) < n
        · have c1 := unhide HLa j (by omega)
          have c2 := unhide HLb j (by have := unhide HN; have := unhide HL; omega)
          generalize hx : la.getD j 0 = x at *
          generalize hy : lb.getD j 0 = y at *
          have HX := hide hx; have HY := hide hy; clear hx hy hj
          by_cases he : x = y
          · subst he
            go_wp2_with fail
            go_quiet (fail)
            go_wp2
            go_roundw
            case rel => exact ⟨j + 1, by go_num, by omega, fun i hi => by
              by_cases e : i = j
              · subst e; rw [unhide HX, unhide HY]
              · exact unhide HAll i (by omega), _, rfl⟩
            case measure => simp [intOf]; omega
          · have t : (x != y) = true := by simpa using he
            have hf := unhide HNe j (by rw [unhide HX, unhide HY]; exact he)
            have HF := hide hf
            clear he hf
            go_wp2_with fail
            go_quiet (fail)
            go_wp2
            go_ret
            exact ⟨ret_bool (unhide HF).symm, ⟨rfl, rfl, rfl, Nat.le_refl _, fun _ _ => rfl⟩⟩
        · obtain rfl : j = n := by omega
          have hf := unhide HEq (unhide HAll)
          have HF := hide hf
          clear hf hj hlt
          go_wp2
          go_ret
          exact ⟨ret_bool (unhide HF).symm, ⟨rfl, rfl, rfl, Nat.le_refl _, fun _ _ => rfl⟩⟩
    · have hz : la.length = 0 := by omega
      have ht := unhide HEq (fun i hi => absurd hi (by omega))
      rw [ht, hz]
      clear ht HEq hA hB hcb hca h0 hz h1 HL
      go_enter Tryz.func58, Tryz.ntmps58
      go_wp2_with fail
      go_loopw [13] (fun c wr => c = .int .i64 0 ∧ wr = w) (fun c _ => 0)
      case atStart => exact ⟨rfl, rfl⟩
      case round =>
        obtain ⟨rfl, rfl⟩ := hrel
        go_wp2
        go_ret
        exact ⟨rfl, Below.refl _ _⟩
  · have hf : (la == lb) = false := by rw [beq_eq_false_iff_ne]; rintro rfl; exact hl rfl
    have t : ((la.length : Int) != (lb.length : Int)) = true := by simp; omega
    rw [hf]
    clear hf hl hA hB
    generalize la.length = n at *
    generalize lb.length = m at *
    go_enter Tryz.func58, Tryz.ntmps58
    go_wp2
    go_ret
    exact ⟨rfl, Below.refl _ _⟩
end Gm
end Go.Proofs.YtcljcnaglkbjcaaGreatDoor

/- inst.Pick. -/
namespace Go.Proofs.YtcljcnaglkbjcaaGreatDoor
open Go.RowKit
namespace Gm
set_option linter.unusedVariables false
set_option linter.unusedSimpArgs false
open Ex (Lies)
def Tab (w : World) (zs : List Int) (b o : Nat) : Prop := ∀ j, j < zs.length → w.cell? ⟨b, o + j, none⟩ = some (.int .i64 (zs.getD j 0))
set_option maxRecDepth 100000 in
set_option maxHeartbeats 1000000 in
theorem itq_yes (b o n cp i : Nat) (z0 : Int) (w : World) (hb : b < w.heap.size) (hi : (i : Int) < n) (h0 : w.cell? ⟨b, o + i, none⟩ = some (.int .i64 z0)) :
    Calls Tryz.prog 57 #[.slice (some ⟨b, o, none⟩) n cp, .int .i64 i] w fun e w' => e = .returned (.tuple #[.int .i64 z0, .bool true]) ∧ w' = w := by
  have hne : ¬ b = w.heap.size := by omega
  have i0 : ¬ (i : Int) < 0 := by omega
  have i1 : ¬ (n : Int) ≤ i := by omega
  go_enter Tryz.func57, Tryz.ntmps57
  go_wp2
  go_ret2
  exact ⟨rfl, rfl⟩

set_option maxRecDepth 100000 in
set_option maxHeartbeats 1000000 in
theorem itq_no (a : Option Addr) (n cp : Nat) (i : Int) (w : World) (hi : i < 0 ∨ (n : Int) ≤ i) :
    Calls Tryz.prog 57 #[.slice a n cp, .int .i64 i] w fun e w' => e = .returned (.tuple #[.int .i64 0, .bool false]) ∧ w' = w := by
  by_cases h0 : i < 0
  · clear hi
    go_enter Tryz.func57, Tryz.ntmps57
    go_wp2
    go_ret2
    exact ⟨rfl, rfl⟩
  · have h1 : (n : Int) ≤ i := by omega
    clear hi
    go_enter Tryz.func57, Tryz.ntmps57
    go_wp2
    go_ret2
    exact ⟨rfl, rfl⟩
theorem low_q (v : Int) (w : World) (h0 : 0 ≤ v) (h1 : v < 18446744073709551616) : Calls Tryz.prog 49 #[.int .u64 v] w fun e w' => e = .returned (.int .u64 (v % 4294967296)) ∧ w' = w := (low32_any v w h0 h1).mono fun _ _ h => ⟨h.1, h.2.symm⟩
def noTyp : Typ := ⟨[], 0⟩
def pick2 (M : Mod) (tbl : List Int) (t0 : Typ) (i : Nat) : Option (Int × Int) :=
  if tbl.length ≤ i then some (0, 5) else
  match ty? M (tbl.getD i 0) with
  | none => some (0, 5)
  | some t => if tyEq t t0 = true then some (tbl.getD i 0, 0) else some (0, 6)
def pick (M : Mod) (tbl : List Int) (typ a : Int) : Option (Int × Int) :=
  if typ < 0 ∨ (M.types.length : Int) ≤ typ then none else pick2 M tbl (M.types.getD typ.toNat noTyp) (a % 4294967296).toNat
def pickV : Option (Int × Int) → Value
  | none => .tuple #[.int .i64 0, .int .i64 0, .iface 135 (.int .i64 1)]
  | some x => .tuple #[.int .i64 x.1, .int .i64 x.2, .nilIface]

set_option maxRecDepth 100000 in
set_option maxHeartbeats 1600000 in
theorem pick_out {M : Mod} {g : Nat → Prop} {v0 v1 v2 v3 v4 v5 v6 v7 : Value} {w : World} (hM : ModL w g M v0 v1 v2 v3 v4 v5 v6 v7) (p : Value) (typ a : Int) (ht : typ < 0 ∨ (M.types.length : Int) ≤ typ) :
    Calls Tryz.prog 27 #[.agg #[v0, v1, v2, v3, v4, v5, v6, v7], p, .int .i64 typ, .int .u64 a] w fun e w' => e = .returned (pickV none) ∧ Below w.heap.size w w' := by
  obtain ⟨a0, c0, rfl⟩ := hM.l0.sl
  have hN := fun W => iti_T_no a0 M.types.length c0 typ W ht
  have HN := hide hN; clear hN ht hM
  go_enter Tryz.func27, Tryz.ntmps27
  go_wp2_with fail
  refine (unhide HN _).mono ?_
  rintro e w1 ⟨rfl, hb1⟩
  have HB := hide (Below.on0 ((Below.refl w.heap.size w).alloc (Nat.le_refl _) _) hb1 (by simp))
  clear hb1
  go_wp2
  refine bodyPost_ret (v := pickV none) (by simp [results, Tryz.results27, go_sem, pickV]) rfl ⟨rfl, (unhide HB).alloc (unhide HB).size _⟩

set_option maxRecDepth 100000 in
set_option maxHeartbeats 1600000 in
theorem pick_nil {M : Mod} {g : Nat → Prop} {v0 v1 v2 v3 v4 v5 v6 v7 : Value} {w : World} (hM : ModL w g M v0 v1 v2 v3 v4 v5 v6 v7) (typ a : Int) :
    Calls Tryz.prog 27 #[.agg #[v0, v1, v2, v3, v4, v5, v6, v7], .pointer none, .int .i64 typ, .int .u64 a] w fun e w' => e = .returned (pickV none) ∧ Below w.heap.size w w' := by
  by_cases ht : typ < 0 ∨ (M.types.length : Int) ≤ typ
  · exact pick_out hM _ typ a ht
  obtain ⟨k, rfl⟩ : ∃ k : Nat, typ = k := ⟨typ.toNat, by omega⟩
  have hk : k < M.types.length := by omega
  have hN : ∀ W, Below w.heap.size w W → _ := fun W hW => item_t (hM.l0.moved (Mv.below (g' := g) hW (fun _ _ h => h)) hW.size (fun _ _ q => TypC.moved (Mv.below (g' := g) hW (fun _ _ h => h)) q)) hk
  obtain ⟨a0, c0, rfl⟩ := hM.l0.sl
  have HN := hide hN; clear hN ht hM
  generalize M.types[k] = t at *
  go_enter Tryz.func27, Tryz.ntmps27
  go_wp2_with fail
  refine (unhide HN _ ((Below.refl _ _).alloc (Nat.le_refl _) _)).mono ?_
  rintro e w1 ⟨pa, pc, rfl, _, hb1⟩
  have HB := hide (Below.on0 ((Below.refl w.heap.size w).alloc (Nat.le_refl _) _) hb1 (by simp))
  clear hb1
  go_wp2
  refine bodyPost_ret (v := pickV none) (by simp [results, Tryz.results27, go_sem, pickV]) rfl ⟨rfl, (unhide HB).alloc (unhide HB).size _⟩

theorem ty_mem {M : Mod} {f : Int} {t : Typ} (h : ty? M f = some t) : t ∈ M.types := by
  unfold ty? at h
  by_cases h0 : f < 0
  · rw [if_pos h0] at h; exact absurd h (by simp)
  · rw [if_neg h0] at h
    obtain ⟨fn, _, h2⟩ := Option.bind_eq_some_iff.1 h
    exact List.mem_of_getElem? h2

set_option maxRecDepth 100000 in
set_option maxHeartbeats 3200000 in
theorem pick_in {M : Mod} {g : Nat → Prop} {v0 v1 v2 v3 v4 v5 v6 v7 : Value} {w : World} (hM : ModL w g M v0 v1 v2 v3 v4 v5 v6 v7) (hwf : WfM M) (hsz : SzM M) {bs : Nat} {x0 x2 : Value} {ta : Option Addr} {tc : Nat} {tbl : List Int} {T : TypeId} (hst : w.heap[bs]? = some (.cells #[x0, .slice ta tbl.length tc, x2] T (0, 0)))
    (htb : Lies (fun _ => True) tbl.length (Tab w tbl) (.slice ta tbl.length tc)) (k : Nat) (hk : k < M.types.length) (a : Int) (ha : 0 ≤ a ∧ a < 18446744073709551616) :
    Calls Tryz.prog 27 #[.agg #[v0, v1, v2, v3, v4, v5, v6, v7], .pointer (some ⟨bs, 0, none⟩), .int .i64 k, .int .u64 a] w fun e w' => e = .returned (pickV (pick M tbl k a)) ∧ Below w.heap.size w w' := by
  obtain ⟨b0, o0, c0, hv0, -, hb0, -, cs0, -, ⟨vp, rfl, hp⟩, hcs0⟩ := hM.l0.at hk
  have HLy := hide hp
  obtain ⟨pa, pc, rfl, -⟩ := hp
  have hN : ∀ W, Below w.heap.size w W → _ := fun W hW => iti_T_yes b0 o0 M.types.length c0 k pa (M.types[k]).ps.length pc (M.types[k]).re W (Nat.lt_of_lt_of_le hb0 hW.size) (by omega) ((hW.cell (p := ⟨b0, _, none⟩) hb0).trans (hcs0 0 _ rfl)) ((hW.cell (p := ⟨b0, _, none⟩) hb0).trans (hcs0 1 _ rfl))
  have HM := hide hM; have HT := hide htb; have HWf := hide hwf
  have hbs : bs < w.heap.size := (Array.getElem?_eq_some_iff.1 hst).1
  have hl := fun W => low_q a W ha.1 ha.2
  have hla : 0 ≤ a % 4294967296 ∧ a % 4294967296 < 4294967296 := by omega
  obtain ⟨i, hi⟩ : ∃ i : Nat, a % 4294967296 = i := ⟨(a % 4294967296).toNat, by omega⟩
  have hpk : pick M tbl k a = pick2 M tbl M.types[k] i := by
    unfold pick
    rw [if_neg (by omega), hi, Int.toNat_natCast, Int.toNat_natCast]
    simp only [List.getD_eq_getElem?_getD, List.getElem?_eq_getElem hk, Option.getD_some]
  rw [hi] at hl hla
  rw [hpk]
  subst hv0
  have HN := hide hN; have HSt := hide hst; have HL := hide hl
  have HBk := hide ((hwf.1 _ (List.getElem_mem hk)).1)
  have HPs := hide ((hsz.s0 _ (List.getElem_mem hk)).2)
  have HSz := hide hsz
  clear hN hM hst htb hwf hl hpk hi hsz hcs0
  generalize M.types[k] = t0 at *
  generalize M.types.length = nt at *
  clear hk
  go_enter Tryz.func27, Tryz.ntmps27
  go_wp2_with fail
  refine (unhide HN _ ((Below.refl _ _).alloc (Nat.le_refl _) _)).mono ?_
  rintro e w1 ⟨rfl, hb1⟩
  have hbw := Below.on0 ((Below.refl w.heap.size w).alloc (Nat.le_refl _) _) hb1 (by simp)
  have hmb := (hb1.block w.heap.size (by simp)).trans (heap_alloc_new w _)
  have hcs : w1.cell? ⟨bs, 1, none⟩ = some (.slice ta tbl.length tc) := by rw [cell_of_row w1 _ 1 _ _ _ ((hbw.block _ hbs).trans (unhide HSt))]; rfl
  have hs1 := hbw.size
  have hs2 : w.heap.size < w1.heap.size := by have := hb1.size; simp at this; omega
  have HBw := hide hbw; have HMb := hide hmb
  clear hb1 hbw hmb
  have nw : ¬ bs = w1.heap.size := by omega
  by_cases h1 : tbl.length ≤ i
  · have hp2 : pick2 M tbl t0 i = some (0, 5) := by unfold pick2; rw [if_pos h1]
    have HP2 := hide hp2
    have hno := fun W => itq_no ta tbl.length tc i W (.inr (by omega))
    have HNo := hide hno; clear hno hp2 HN HT
    go_wp2_with fail
    generalize hW : w1.alloc _ = W1 at *
    have hb2 : Below w.heap.size w W1 := by rw [← hW]; exact (unhide HBw).alloc hs1 _
    have hcs2 : W1.cell? ⟨bs, 1, none⟩ = some (.slice ta tbl.length tc) := by rw [← hW]; exact ((Below.refl w1.heap.size w1).alloc (Nat.le_refl _) _).cell (p := ⟨bs, 1, none⟩) (by show bs < _; omega) |>.trans hcs
    have HB2 := hide hb2
    clear hW hcs hb2 HLy HBw HMb HBk HPs HWf HSt hbs hs1 hs2 nw h1 ha HM
    generalize tbl.length = tl at *
    go_quiet ((first | (go_at_call 49; exact Calls.quiet_of_same (unhide HL _)) | (go_at_call 57; exact Calls.quiet_of_same (unhide HNo _))))
    go_wp2
    refine bodyPost_ret (v := pickV (some (0, 5))) (by simp [results, Tryz.results27, go_sem, pickV]) rfl ⟨by rw [unhide HP2], Below.on0 (unhide HB2) (drewn_below9 _ _) (unhide HB2).size⟩
  · obtain ⟨ta', tc', et, htcap, -, htr⟩ := unhide HT
    simp only [Value.slice.injEq] at et
    obtain ⟨rfl, -, rfl⟩ := et
    obtain ⟨bt, ot, rfl, -, htab⟩ := htr (by omega)
    have hct := htab i (by omega)
    have hbt : bt < w.heap.size := World.block_lt_of_cell? w _ hct
    have hp2 : pick2 M tbl t0 i = match ty? M (tbl.getD i 0) with
        | none => some (0, 5)
        | some t => if tyEq t t0 = true then some (tbl.getD i 0, 0) else some (0, 6) := by unfold pick2; rw [if_neg h1]
    generalize tbl.getD i 0 = z at *
    have hty : ∀ W, Below w.heap.size w W → TyB 48 (.agg #[.slice (some ⟨b0, o0, none⟩) nt c0, v1, v2, v3, v4, v5, v6, v7]) W g z (ty? M z) := fun W hW => typeOf_any ((unhide HM).moved (Mv.below (g' := g) hW (fun _ _ h => h)) hW.size) (unhide HWf) z
    have hyes : ∀ W, Below w.heap.size w W → _ := fun W hW => itq_yes bt ot tbl.length tc i z W (Nat.lt_of_lt_of_le hbt hW.size) (by omega) ((hW.cell (p := ⟨bt, ot + i, none⟩) hbt).trans hct)
    have HP2 := hide hp2; have HTy := hide hty; have HY := hide hyes
    clear hp2 hty hyes HN HT htr htab hct
    go_wp2_with fail
    generalize hW : w1.alloc _ = W1 at *
    have hbA : Below w1.heap.size w1 W1 := by rw [← hW]; exact (Below.refl w1.heap.size w1).alloc (Nat.le_refl _) _
    have hb2 : Below w.heap.size w W1 := Below.on0 (unhide HBw) hbA hs1
    have hcs2 : W1.cell? ⟨bs, 1, none⟩ = some (.slice (some ⟨bt, ot, none⟩) tbl.length tc) := (hbA.cell (p := ⟨bs, 1, none⟩) (by show bs < _; omega)).trans hcs
    have hmb2 := (hbA.block w.heap.size hs2).trans (unhide HMb)
    have hwb : W1.heap[w1.heap.size]? = some (.cells #[.slice pa t0.ps.length pc, .int .u8 t0.re] 140 (0, 0)) := by rw [← hW]; exact heap_alloc_new w1 _
    have HB2 := hide hb2; have HMb2 := hide hmb2; have HWb := hide hwb; have HCs2 := hide hcs2
    have HY2 := hide (fun n => unhide HY (W1.drewN n) (Below.on0 (unhide HB2) (drewn_below9 _ _) (unhide HB2).size))
    have hwlt := (Array.getElem?_eq_some_iff.1 hwb).1
    clear hW hcs hb2 hmb2 hwb hbA HMb HSt HY nw h1 ha
    generalize tbl.length = tl at *
    go_quiet ((first | (go_at_call 49; exact Calls.quiet_of_same (unhide HL _)) | (go_at_call 57; exact Calls.quiet_of_same (unhide HY2 _))))
    have hB3 := Below.on0 (unhide HB2) (drewn_below9 W1 nq) (unhide HB2).size
    have hM3 : (W1.drewN nq).heap[w.heap.size]? = _ := unhide HMb2
    have hW3 : (W1.drewN nq).heap[w1.heap.size]? = _ := unhide HWb
    have hS3 : w1.heap.size < (W1.drewN nq).heap.size := hwlt
    clear HB2 HMb2 HWb HCs2 HY2 HL hcs2 hwlt
    generalize W1.drewN nq = W3 at *
    obtain ⟨m0, m1, m2, m3, m4, m5, m6, m7⟩ := Ex.cel8 hM3
    have hty := unhide HTy W3 hB3
    have hp2 := unhide HP2
    have hmm : ∀ t, ty? M z = some t → t.ps.length ≤ 1048576 := fun t ht => ((unhide HSz).s0 t (ty_mem ht)).2
    generalize ty? M z = o at hty hp2 hmm
    have HB3 := hide hB3; have HW3 := hide hW3
    clear hB3 hM3 hW3 HTy
    cases o with
    | none =>
      have HTn : Hid (TyNo 48 (.agg #[.slice (some ⟨b0, o0, none⟩) nt c0, v1, v2, v3, v4, v5, v6, v7]) W3 z) := hide hty
      unfold TyNo at HTn
      have HP3 := hide hp2
      clear hty hp2 HP2 hmm
      go_wp2_with fail
      refine (unhide HTn).mono ?_
      rintro e w5 ⟨rfl, hb5⟩
      have HB5 := hide (Below.on0 (unhide HB3) hb5 (unhide HB3).size)
      clear hb5 m0 m1 m2 m3 m4 m5 m6 m7
      go_wp2
      refine bodyPost_ret (v := pickV (some (0, 5))) (by simp [results, Tryz.results27, go_sem, pickV]) rfl ⟨by rw [unhide HP3], (unhide HB5).alloc (unhide HB5).size _⟩
    | some t =>
      have HTs : Hid (TyYes 48 (.agg #[.slice (some ⟨b0, o0, none⟩) nt c0, v1, v2, v3, v4, v5, v6, v7]) W3 g z t) := hide hty
      unfold TyYes at HTs
      have HPt := hide (hmm t rfl)
      have HP3 := hide hp2
      clear hty hp2 HP2 hmm
      go_wp2_with fail
      refine (unhide HTs).mono ?_
      rintro e w5 ⟨qa, qc, rfl, hq, hb5⟩
      have hB5 := Below.on0 (unhide HB3) hb5 (unhide HB3).size
      obtain ⟨y0, y1⟩ := cel2 ((hb5.block _ hS3).trans (unhide HW3))
      have hn5 : w1.heap.size < w5.heap.size := by have := hb5.size; omega
      have hn6 : ¬ w1.heap.size = w5.heap.size := by omega
      have hE : ∀ W, Below w5.heap.size w5 W → Calls Tryz.prog 58 #[.slice qa t.ps.length qc, .slice pa t0.ps.length pc] W fun e w' => e = .returned (.bool (t.ps == t0.ps)) ∧ Below W.heap.size W w' := fun W hW =>
        equal_kinds (Byts.moved (Mv.below (g' := g) (Below.on hb5 hW) (fun _ _ h => h)) hq) (Byts.moved (Mv.below (g' := g) (Below.on0 hB5 hW hB5.size) (fun _ _ h => h)) (unhide HLy)) (by have := unhide HPt; omega) (by have := unhide HPs; omega)
      have HE := hide hE; have HB5 := hide hB5
      clear hb5 hB5 hE hq m0 m1 m2 m3 m4 m5 m6 m7
      by_cases hre : t.re = t0.re
      · by_cases hps : t.ps = t0.ps
        · have hp3 : pick2 M tbl t0 i = some (z, 0) := by rw [unhide HP3]; simp [tyEq, hre, hps]
          have eb : (t.ps == t0.ps) = true := by simpa using hps
          rw [eb] at HE
          have HP4 := hide hp3
          clear HP3 hp3 eb hps
          go_wp2_with (go_at_call 58; refine (unhide HE _ (new_below0 w5 _)).mono ?_; rintro e w6 ⟨rfl, hb6⟩; have HB6 := hide (Below.on0 (unhide HB5) (Below.on (new_below0 w5 _) hb6) (unhide HB5).size); clear hb6)
          refine bodyPost_ret (v := pickV (some (z, 0))) (by simp [results, Tryz.results27, go_sem, pickV]) rfl ⟨by rw [unhide HP4], unhide HB6⟩
        · have hp3 : pick2 M tbl t0 i = some (0, 6) := by rw [unhide HP3]; simp [tyEq, hps]
          have eb : (t.ps == t0.ps) = false := by simpa using hps
          rw [eb] at HE
          have HP4 := hide hp3
          clear HP3 hp3 eb hps
          go_wp2_with (go_at_call 58; refine (unhide HE _ (new_below0 w5 _)).mono ?_; rintro e w6 ⟨rfl, hb6⟩; have HB6 := hide (Below.on0 (unhide HB5) (Below.on (new_below0 w5 _) hb6) (unhide HB5).size); clear hb6)
          refine bodyPost_ret (v := pickV (some (0, 6))) (by simp [results, Tryz.results27, go_sem, pickV]) rfl ⟨by rw [unhide HP4], unhide HB6⟩
      · have hp3 : pick2 M tbl t0 i = some (0, 6) := by rw [unhide HP3]; simp [tyEq, hre]
        have HP4 := hide hp3
        have rb : (t.re != t0.re) = true := by simpa using hre
        clear HP3 hp3 HE
        go_wp2
        refine bodyPost_ret (v := pickV (some (0, 6))) (by simp [results, Tryz.results27, go_sem, pickV]) rfl ⟨by rw [unhide HP4], (unhide HB5).alloc (unhide HB5).size _⟩
end Gm
end Go.Proofs.YtcljcnaglkbjcaaGreatDoor
