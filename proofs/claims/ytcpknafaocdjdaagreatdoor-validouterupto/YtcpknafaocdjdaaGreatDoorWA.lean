/- WA: what follows, part by part: each part tells what it holds. -/
import Derived.Test.YtcpknafaocdjdaaGreatDoorRows
import Derived.Test.YtcpknafaocdjdaaGreatDoorAux9
import Derived.WalkKit
import Derived.ProofKit
import Derived.OpenShut
import Derived.ShutString
import Derived.Deep.Slices
import Derived.Test.YtcpknafaocdjdaaGreatDoorGmM
import Derived.Test.YtcpknafaocdjdaaGreatDoorEzA

/- Instructions that come in, one within another: opened into a list that lies in memory; how much it holds against the reading's own bulk. -/
namespace Go.Proofs.YtcpknafaocdjdaaGreatDoor
open Go.ChangeShapes Go.WideShapes Go.ChangeAt Go.RowKit
namespace Ex
set_option linter.unusedVariables false

/-- how much there is: instructions and labels -/
def wt : List Ins → Nat
  | [] => 0
  | ⟨_, _, _, _, _, b, e, ls⟩ :: r => 1 + ls.length + wt b + wt e + wt r
def wI (i : Ins) : Nat := 1 + i.ls.length + wt i.body + wt i.els
theorem wt_nil : wt [] = 0 := by rw [wt]
theorem wt_cons (i : Ins) (r : List Ins) : wt (i :: r) = wI i + wt r := by obtain ⟨op, n, al, of, re, b, e, ls⟩ := i; rw [wt]; rfl
theorem wt_len : ∀ l : List Ins, l.length ≤ wt l
  | [] => by simp
  | i :: r => by have := wt_len r; rw [wt_cons, List.length_cons]; unfold wI; omega
theorem wt_mem {i : Ins} : ∀ {l : List Ins}, i ∈ l → wI i ≤ wt l
  | x :: r, h => by
    rw [wt_cons]
    rcases List.mem_cons.1 h with rfl | h
    · omega
    · have := wt_mem h; omega
theorem cnt_wt (l : List Ins) : cnt l ≤ wt l := by
  refine ind (P := fun l => cnt l ≤ wt l) (by rw [cnt_nil]; exact Nat.zero_le _) ?_ l
  intro op n al of re b e ls r hb he hr
  rw [cnt_cons, wt_cons]
  unfold wI
  simp only
  omega
theorem Sz_wt {M : Nat} (l : List Ins) : wt l ≤ M → Sz M l := by
  refine ind2 (P := fun l => wt l ≤ M → Sz M l) (fun l ih h => ?_) l
  refine Sz_of fun i hi => ?_
  have h1 := wt_mem hi
  unfold wI at h1
  have h2 := wt_len i.body
  have h3 := wt_len i.els
  exact ⟨by omega, by omega, by omega, (ih i hi).1 (by omega), (ih i hi).2 (by omega)⟩
theorem wt_le {H : Type} : ∀ (l : List Ins) (ds : List (DataW H)), l.length = ds.length → (∀ j (hj : j < l.length) (hj' : j < ds.length), wI l[j] ≤ Rows.uptoBulk ds[j]) → wt l ≤ Rows.uptoBulkAll ds
  | [], ds, _, _ => by rw [wt_nil]; exact Nat.zero_le _
  | i :: r, [], h, _ => by simp at h
  | i :: r, d :: ds, h, hw => by
    have h0 : wI i ≤ Rows.uptoBulk d := hw 0 (by simp) (by simp)
    have h1 := wt_le r ds (by simpa using h) (fun j hj hj' => hw (j + 1) (by simpa using hj) (by simpa using hj'))
    have e : Rows.uptoBulkAll (d :: ds) = Rows.uptoBulk d + Rows.uptoBulkAll ds := by rw [Rows.uptoBulkAll]
    rw [wt_cons, e]; omega
theorem bulk_pos {H : Type} (d : DataW H) : 1 ≤ Rows.uptoBulk d := by
  cases d with
  | lit l => cases l <;> simp [Rows.uptoBulk]
  | _ => simp [Rows.uptoBulk]
theorem len_bulk {H : Type} : ∀ ds : List (DataW H), ds.length ≤ Rows.uptoBulkAll ds
  | [] => by simp
  | d :: ds => by
    have e : Rows.uptoBulkAll (d :: ds) = Rows.uptoBulk d + Rows.uptoBulkAll ds := by rw [Rows.uptoBulkAll]
    have := len_bulk ds
    have := bulk_pos d
    rw [e, List.length_cons]; omega
theorem cell_at {cs : List Value} {k n : Nat} {x : Value} (hl : cs.length = n) (hk : k < n) (h : (cs.drop k).take 1 = [x]) : cs[k]? = some x := by
  have h1 : ((cs.drop k).take 1)[0]? = some x := by rw [h]; rfl
  rw [List.getElem?_take_of_lt (by omega), List.getElem?_drop] at h1
  simpa using h1
/-- labels that came in -/
theorem open_labs {H : Type} {enc : TypeId × Value → H} {w : World} {base fuel : Nat} {cs : List Value} {x : DataW H × List MemPlace}
    (h : DataW.trod enc Tryz.prog w base (fun _ => true) true fuel 61 cs = some x) : ∃ (ls : List Int) (v : Value), cs = [v] ∧ Lies (fun _ => True) ls.length (Lab w ls) v ∧ (∀ z ∈ ls, 0 ≤ z ∧ z < 4294967296) ∧ ls.length + 1 ≤ Rows.uptoBulk x.1 := by
  rcases open_ints Tryz.underlying61 Tryz.underlying59 (by kernel_rfl) h with ⟨hcs, hx⟩ | ⟨a, len, cap, zs, hcs, _, hl, hm, hz, hx, hc, hw⟩
  · exact ⟨[], _, hcs, ⟨none, 0, rfl, Nat.le_refl _, fun _ => rfl, fun h => by simp at h⟩, by simp, by have := bulk_pos x.1; simpa using this⟩
  · have hzl : zs.length = cap := by simpa using hz
    have hlt : (zs.take len).length = len := by simp; omega
    refine ⟨zs.take len, .slice (some a) len cap, hcs, ⟨some a, cap, by rw [hlt], by omega, by simp, fun h0 => ?_⟩, fun z hzm => ?_, ?_⟩
    · obtain ⟨b, off, spot⟩ := a
      have h00 := hc 0 (by omega)
      have hspot : spot = none := by simpa [Addr.add] using World.cell?_spot h00
      subst hspot
      refine ⟨b, off, rfl, trivial, fun i hi => ?_⟩
      have := hc i (by omega)
      rw [addr_add] at this
      rw [this]; simp [List.getD, show i < len by omega]
    · have := bounds_u32 (hw z (List.mem_of_mem_take hzm)); omega
    · rw [hx]
      have e : Rows.uptoBulk (DataW.slice (lits .u32 (zs.take len)) (lits .u32 (zs.drop len)) : DataW H) = Rows.uptoBulkAll (H := H) (lits .u32 (zs.take len)) + Rows.uptoBulkAll (H := H) (lits .u32 (zs.drop len)) + 1 := by rw [Rows.uptoBulk]
      have h2 := len_bulk (H := H) (lits .u32 (zs.take len))
      have h3 : (lits (H := H) .u32 (zs.take len)).length = (zs.take len).length := by simp [lits]
      rw [e]; omega
/-- what an instruction's eight cells tell -/
def CelA (w : World) (a : Addr) (op n al of re : Int) (vb ve vl : Value) : Prop :=
  w.cell? (a.add 0) = some (.int .u8 op) ∧ w.cell? (a.add 1) = some (.int .i64 n) ∧ w.cell? (a.add 2) = some (.int .u32 al) ∧ w.cell? (a.add 3) = some (.int .u32 of) ∧
  w.cell? (a.add 4) = some (.int .u8 re) ∧ w.cell? (a.add 5) = some vb ∧ w.cell? (a.add 6) = some ve ∧ w.cell? (a.add 7) = some vl
def OpenC {H : Type} (enc : TypeId × Value → H) (w : World) (base fuel : Nat) : Prop :=
  ∀ cs x, DataW.trod enc Tryz.prog w base (fun _ => true) true fuel 55 cs = some x → ∃ (l : List Ins) (v : Value), cs = [v] ∧ Code w (fun _ => True) l v ∧ Wf l ∧ wt l ≤ Rows.uptoBulk x.1
theorem bulk_at {H : Type} : ∀ {ds : List (DataW H)} {i : Nat} {d : DataW H}, ds[i]? = some d → Rows.uptoBulk d ≤ Rows.uptoBulkAll ds
  | d0 :: ds, 0, d, h => by
    have e : Rows.uptoBulkAll (d0 :: ds) = Rows.uptoBulk d0 + Rows.uptoBulkAll ds := by rw [Rows.uptoBulkAll]
    simp at h; rw [e, h]; omega
  | d0 :: ds, i + 1, d, h => by
    have e : Rows.uptoBulkAll (d0 :: ds) = Rows.uptoBulk d0 + Rows.uptoBulkAll ds := by rw [Rows.uptoBulkAll]
    have := bulk_at (ds := ds) (i := i) (d := d) (by simpa using h)
    rw [e]; omega
theorem open_ins {H : Type} {enc : TypeId × Value → H} {w : World} {base fuel : Nat} {cs : List Value} {x : DataW H × List MemPlace} (ih : ∀ m, m < fuel → OpenC enc w base m)
    (h : DataW.trod enc Tryz.prog w base (fun _ => true) true fuel 69 cs = some x) :
    ∃ (i : Ins) (vb ve vl : Value), cs.length = 8 ∧ cs[0]? = some (.int .u8 i.op) ∧ cs[1]? = some (.int .i64 i.n) ∧ cs[2]? = some (.int .u32 i.al) ∧ cs[3]? = some (.int .u32 i.of) ∧ cs[4]? = some (.int .u8 i.re) ∧ cs[5]? = some vb ∧ cs[6]? = some ve ∧ cs[7]? = some vl ∧
      Code w (fun _ => True) i.body vb ∧ Code w (fun _ => True) i.els ve ∧ Lies (fun _ => True) i.ls.length (Lab w i.ls) vl ∧ WfI i ∧ wI i ≤ Rows.uptoBulk x.1 := by
  obtain ⟨xs, n, hfn, hx, hl, hlen, hf⟩ := DataW.trod_struct Tryz.underlying69 h
  have hl8 : cs.length = 8 := hl.trans (by kernel_rfl)
  have hxl : xs.length = 8 := hlen
  have g0 := hf 0 _ rfl
  have g1 := hf 1 _ rfl
  have g2 := hf 2 _ rfl
  have g3 := hf 3 _ rfl
  have g4 := hf 4 _ rfl
  have g5 := hf 5 _ rfl
  have g6 := hf 6 _ rfl
  have g7 := hf 7 _ rfl
  rw [List.getElem?_eq_getElem (by omega)] at g0 g1 g2 g3 g4 g5 g6 g7
  obtain ⟨op, e0, _, w0⟩ := DataW.trod_int Tryz.underlying5 g0
  obtain ⟨nn, e1, _, w1⟩ := DataW.trod_int Tryz.underlying2 g1
  obtain ⟨al, e2, _, w2⟩ := DataW.trod_int Tryz.underlying59 g2
  obtain ⟨of, e3, _, w3⟩ := DataW.trod_int Tryz.underlying59 g3
  obtain ⟨re, e4, _, w4⟩ := DataW.trod_int Tryz.underlying5 g4
  obtain ⟨lb, vb, e5, hb, hbw, hbb⟩ := ih n (by omega) _ _ g5
  obtain ⟨le, ve, e6, he, hew, heb⟩ := ih n (by omega) _ _ g6
  obtain ⟨ls, vl, e7, hls, hlw, hlb⟩ := open_labs g7
  have c8 : Tryz.prog.cellsOf 5 = 1 := by kernel_rfl
  have c64 : Tryz.prog.cellsOf 2 = 1 := by kernel_rfl
  have c32 : Tryz.prog.cellsOf 59 = 1 := by kernel_rfl
  have cI : Tryz.prog.cellsOf 55 = 1 := by kernel_rfl
  have cL : Tryz.prog.cellsOf 61 = 1 := by kernel_rfl
  have f0 : (cs.drop 0).take (Tryz.prog.cellsOf 5) = [.int .u8 op] := e0
  have f1 : (cs.drop 1).take (Tryz.prog.cellsOf 2) = [.int .i64 nn] := e1
  have f2 : (cs.drop 2).take (Tryz.prog.cellsOf 59) = [.int .u32 al] := e2
  have f3 : (cs.drop 3).take (Tryz.prog.cellsOf 59) = [.int .u32 of] := e3
  have f4 : (cs.drop 4).take (Tryz.prog.cellsOf 5) = [.int .u8 re] := e4
  have f5 : (cs.drop 5).take (Tryz.prog.cellsOf 55) = [vb] := e5
  have f6 : (cs.drop 6).take (Tryz.prog.cellsOf 55) = [ve] := e6
  have f7 : (cs.drop 7).take (Tryz.prog.cellsOf 61) = [vl] := e7
  rw [c8] at f0 f4
  rw [c64] at f1
  rw [c32] at f2 f3
  rw [cI] at f5 f6
  rw [cL] at f7
  have b0 := bounds_u8 w0; have b1 := bounds_i64 w1; have b2 := bounds_u32 w2; have b3 := bounds_u32 w3; have b4 := bounds_u8 w4
  refine ⟨⟨op, nn, al, of, re, lb, le, ls⟩, vb, ve, vl, hl8, cell_at hl8 (by omega) f0, cell_at hl8 (by omega) f1, cell_at hl8 (by omega) f2, cell_at hl8 (by omega) f3, cell_at hl8 (by omega) f4, cell_at hl8 (by omega) f5, cell_at hl8 (by omega) f6, cell_at hl8 (by omega) f7, hb, he, hls, ⟨⟨⟨b0.1, ?_⟩, ⟨b1.1, ?_⟩, ⟨b2.1, ?_⟩, ⟨b3.1, ?_⟩, ⟨b4.1, ?_⟩, hlw⟩, hbw, hew⟩, ?_⟩
  · show op ≤ 255; omega
  · show nn < 9223372036854775808; omega
  · show al < 4294967296; omega
  · show of < 4294967296; omega
  · show re ≤ 255; omega
  · rw [hx]
    match xs, hxl with
    | [y0, y1, y2, y3, y4, y5, y6, y7], _ =>
      simp only [List.getElem_cons_zero, List.getElem_cons_succ] at hbb heb hlb
      have p0 := bulk_pos y0.1
      show 1 + ls.length + wt lb + wt le ≤ _
      simp only [List.map_cons, List.map_nil, Rows.uptoBulk, Rows.uptoBulkAll]
      omega
theorem open_code {H : Type} {enc : TypeId × Value → H} {w : World} {base : Nat} (fuel : Nat) : OpenC enc w base fuel := by
  induction fuel using Nat.strongRecOn with
  | ind fuel ih =>
    intro cs x h
    rcases DataW.trod_slice Tryz.underlying55 h with ⟨hcs, hx⟩ | ⟨a, len, cap, elems, rest, n, hfn, hcs, hx, _, hl, hm, hel, hE, _, _⟩
    · exact ⟨[], _, hcs, ⟨none, 0, rfl, Nat.le_refl _, fun _ => rfl, fun h => by simp at h⟩, Wf_nil, by rw [wt_nil]; exact Nat.zero_le _⟩
    · have c8 : Tryz.prog.cellsOf 69 = 8 := by kernel_rfl
      rw [c8] at hE
      haveI : Inhabited Ins := ⟨⟨0, 0, 0, 0, 0, [], [], []⟩⟩
      obtain ⟨A, hA⟩ := Go.Deep.choose_lt (α := Ins) (n := len) (p := fun j i =>
          (∃ vb ve vl, CelA w (a.add (j * 8)) i.op i.n i.al i.of i.re vb ve vl ∧ Code w (fun _ => True) i.body vb ∧ Code w (fun _ => True) i.els ve ∧ Lies (fun _ => True) i.ls.length (Lab w i.ls) vl) ∧ WfI i ∧ ∀ d, (elems.map (·.1))[j]? = some d → wI i ≤ Rows.uptoBulk d) (fun j hj => by
        have h1 := hE j hj
        rw [List.getElem?_eq_getElem (show j < elems.length by omega)] at h1
        obtain ⟨cs', h2, h3⟩ := Option.bind_eq_some_iff.1 h1
        obtain ⟨_, _, hc⟩ := World.cells?_some h2
        obtain ⟨i, vb, ve, vl, hl8, e0, e1, e2, e3, e4, e5, e6, e7, q1, q2, q3, q4, q5⟩ := open_ins (fun m hm => ih m (by omega)) h3
        refine ⟨i, ⟨vb, ve, vl, ⟨(hc 0 (by omega)).trans e0, (hc 1 (by omega)).trans e1, (hc 2 (by omega)).trans e2, (hc 3 (by omega)).trans e3, (hc 4 (by omega)).trans e4, (hc 5 (by omega)).trans e5, (hc 6 (by omega)).trans e6, (hc 7 (by omega)).trans e7⟩, q1, q2, q3⟩, q4, fun d hd => ?_⟩
        rw [List.getElem?_map, List.getElem?_eq_getElem (show j < elems.length by omega)] at hd
        simp at hd
        rw [← hd]; exact q5)
      have hll : ((List.range len).map A).length = len := by simp
      refine ⟨(List.range len).map A, .slice (some a) len cap, hcs, ⟨some a, cap, by rw [hll], by omega, by simp, fun h0 => ?_⟩, Wf_of fun i hi => ?_, ?_⟩
      · obtain ⟨b, off, spot⟩ := a
        have hsp : spot = none := by
          obtain ⟨⟨_, _, _, hc0, _⟩, _⟩ := hA 0 (by omega)
          simpa [Addr.add] using World.cell?_spot hc0.1
        subst hsp
        refine ⟨b, off, rfl, trivial, Items_of fun j hj => ?_⟩
        obtain ⟨⟨vb, ve, vl, ⟨d0, d1, d2, d3, d4, d5, d6, d7⟩, q1, q2, q3⟩, _⟩ := hA j (by omega)
        have hAj : ((List.range len).map A)[j] = A j := by simp
        rw [hAj]
        simp only [addr_add, Nat.add_zero] at d0 d1 d2 d3 d4 d5 d6 d7
        exact ⟨vb, ve, vl, ⟨d0, d1, d2, d3, d4, d5, d6, d7⟩, q1, q2, q3⟩
      · obtain ⟨j, hj, rfl⟩ := List.getElem_of_mem hi
        have hAj : ((List.range len).map A)[j] = A j := by simp
        rw [hAj]; exact (hA j (by omega)).2.1
      · rw [hx]
        have h1 := wt_le ((List.range len).map A) (elems.map (·.1)) (by simp [hel]) (fun j hj hj' => by
          have hAj : ((List.range len).map A)[j] = A j := by simp
          rw [hAj]
          exact (hA j (by omega)).2.2 _ (List.getElem?_eq_getElem hj'))
        simp only [Rows.uptoBulk]
        omega
/-- an argument that is such a list -/
theorem open_arg {H : Type} {enc : TypeId × Value → H} {w : World} {a : Option Addr} {n c : Nat} {d : DataW H} {p : List MemPlace}
    (h : DataW.Trod enc Tryz.prog w 0 (fun _ => true) true 55 (.slice a n c) d p) : ∃ l : List Ins, Code w (fun _ => True) l (.slice a n c) ∧ Wf l ∧ wt l ≤ Rows.uptoBulk d := by
  obtain ⟨fuel, hf⟩ := h
  obtain ⟨l, v, hcs, h1, h2, h3⟩ := open_code fuel _ _ hf
  simp [Value.cells] at hcs
  subst hcs
  exact ⟨l, h1, h2, h3⟩
/-- an argument of bytes -/
theorem open_row {H : Type} {enc : TypeId × Value → H} {w : World} {a : Option Addr} {n c : Nat} {d : DataW H} {p : List MemPlace}
    (h : DataW.Trod enc Tryz.prog w 0 (fun _ => true) true 54 (.slice a n c) d p) : ∃ zs : List Int, Row w a n zs ∧ n ≤ c ∧ (a = none → c = 0) := by
  obtain ⟨fuel, hf⟩ := h
  rcases open_ints Tryz.underlying54 Tryz.underlying5 (by kernel_rfl) hf with ⟨hcs, _⟩ | ⟨x, len, cap, zs, hcs, _, hl, hm, hz, _, hc, hw⟩
  · simp [Value.cells] at hcs
    obtain ⟨rfl, rfl, rfl⟩ := hcs
    exact ⟨[], ⟨rfl, by simp, by simp⟩, Nat.le_refl _, fun _ => rfl⟩
  · simp [Value.cells] at hcs
    obtain ⟨rfl, rfl, rfl⟩ := hcs
    have hzl : zs.length = c := by simpa using hz
    refine ⟨zs.take n, ⟨by simp; omega, fun z hzm => ?_, fun h0 => ?_⟩, hl, by simp⟩
    · have := bounds_u8 (hw z (List.mem_of_mem_take hzm)); omega
    · obtain ⟨b, off, spot⟩ := x
      have h00 := hc 0 (by omega)
      have hspot : spot = none := by simpa [Addr.add] using World.cell?_spot h00
      subst hspot
      have hlt : b < w.heap.size := by
        have h1 : w.cell? ⟨b, off, none⟩ = some (.int .u8 (zs.getD 0 0)) := by simpa [Addr.add] using h00
        exact block_lt_of_cell h1
      refine ⟨b, off, rfl, hlt, fun i hi => ?_⟩
      have := hc i (by omega)
      rw [addr_add] at this
      rw [this]; simp [List.getD, hi]
theorem small_of {H : Type} {ds : List (DataW H)} (h : Rows.uptoSmall H ds = true) : Rows.uptoBulkAll ds ≤ 1048576 := of_decide_eq_true h
end Ex
end Go.Proofs.YtcpknafaocdjdaaGreatDoor

/- A module that comes in, opened. -/
namespace Go.Proofs.YtcpknafaocdjdaaGreatDoor
open Go.ChangeShapes Go.WideShapes Go.ChangeAt Go.RowKit
namespace Gm
set_option linter.unusedVariables false
set_option linter.unusedSimpArgs false
theorem len8 {α : Type} {xs : List α} (h : xs.length = 8) : ∃ y0 y1 y2 y3 y4 y5 y6 y7, xs = [y0, y1, y2, y3, y4, y5, y6, y7] := by
  match xs, h with
  | [y0, y1, y2, y3, y4, y5, y6, y7], _ => exact ⟨_, _, _, _, _, _, _, _, rfl⟩
theorem list2 {cs : List Value} {x0 x1 : Value} (h : cs.length = 2) (h0 : cs[0]? = some x0) (h1 : cs[1]? = some x1) : cs = [x0, x1] := by
  match cs, h with
  | [y0, y1], _ => simp_all
theorem list3 {cs : List Value} {x0 x1 x2 : Value} (h : cs.length = 3) (h0 : cs[0]? = some x0) (h1 : cs[1]? = some x1) (h2 : cs[2]? = some x2) : cs = [x0, x1, x2] := by
  match cs, h with
  | [y0, y1, y2], _ => simp_all
theorem list8 {cs : List Value} {x0 x1 x2 x3 x4 x5 x6 x7 : Value} (h : cs.length = 8) (h0 : cs[0]? = some x0) (h1 : cs[1]? = some x1) (h2 : cs[2]? = some x2) (h3 : cs[3]? = some x3) (h4 : cs[4]? = some x4) (h5 : cs[5]? = some x5) (h6 : cs[6]? = some x6) (h7 : cs[7]? = some x7) : cs = [x0, x1, x2, x3, x4, x5, x6, x7] := by
  match cs, h with
  | [y0, y1, y2, y3, y4, y5, y6, y7], _ => simp_all
theorem list10a {cs : List Value} {x0 x1 : Value} (h : cs.length = 10) (h0 : cs[0]? = some x0) (h1 : cs[1]? = some x1) : cs = x0 :: x1 :: (cs.drop 2).take 8 := by
  match cs, h with
  | [y0, y1, y2, y3, y4, y5, y6, y7, y8, y9], _ => simp_all
theorem list10b {cs : List Value} {x0 x1 : Value} (h : cs.length = 10) (h0 : cs[0]? = some x0) (h1 : cs[9]? = some x1) : cs = x0 :: (cs.drop 1).take 8 ++ [x1] := by
  match cs, h with
  | [y0, y1, y2, y3, y4, y5, y6, y7, y8, y9], _ => simp_all
theorem szI_wt {x : Ex.Ins} {N : Nat} (h : Ex.wI x ≤ N) : Ex.SzI N x := by
  unfold Ex.wI at h
  have h2 := Ex.wt_len x.body
  have h3 := Ex.wt_len x.els
  exact ⟨by omega, by omega, by omega, Ex.Sz_wt _ (by omega), Ex.Sz_wt _ (by omega)⟩
theorem open_insC {H : Type} {enc : TypeId × Value → H} {w : World} {base fuel : Nat} {cs : List Value} {d : DataW H × List MemPlace}
    (h : DataW.trod enc Tryz.prog w base (fun _ => true) true fuel 69 cs = some d) : ∃ x : Ex.Ins, InsC w (fun _ => True) x cs ∧ Ex.WfI x ∧ Ex.wI x ≤ Rows.uptoBulk d.1 := by
  obtain ⟨i, vb, ve, vl, hl8, e0, e1, e2, e3, e4, e5, e6, e7, q1, q2, q3, q4, q5⟩ := Ex.open_ins (fun m _ => Ex.open_code m) h
  exact ⟨i, ⟨vb, ve, vl, list8 hl8 e0 e1 e2 e3 e4 e5 e6 e7, q1, q2, q3⟩, q4, q5⟩
theorem open_byts {H : Type} {enc : TypeId × Value → H} {w : World} {base fuel : Nat} {cs : List Value} {x : DataW H × List MemPlace}
    (h : DataW.trod enc Tryz.prog w base (fun _ => true) true fuel 54 cs = some x) : ∃ (ls : List Int) (v : Value), cs = [v] ∧ Ex.Lies (fun _ => True) ls.length (Byts w ls) v ∧ (∀ z ∈ ls, 0 ≤ z ∧ z ≤ 255) ∧ ls.length + 1 ≤ Rows.uptoBulk x.1 := by
  rcases open_ints Tryz.underlying54 Tryz.underlying5 (by kernel_rfl) h with ⟨hcs, hx⟩ | ⟨a, len, cap, zs, hcs, _, hl, hm, hz, hx, hc, hw⟩
  · exact ⟨[], _, hcs, ⟨none, 0, rfl, Nat.le_refl _, fun _ => rfl, fun h => by simp at h⟩, by simp, by have := Ex.bulk_pos x.1; simpa using this⟩
  · have hzl : zs.length = cap := by simpa using hz
    have hlt : (zs.take len).length = len := by simp; omega
    refine ⟨zs.take len, .slice (some a) len cap, hcs, ⟨some a, cap, by rw [hlt], by omega, by simp, fun h0 => ?_⟩, fun z hzm => ?_, ?_⟩
    · obtain ⟨b, off, spot⟩ := a
      have h00 := hc 0 (by omega)
      have hspot : spot = none := by simpa [Addr.add] using World.cell?_spot h00
      subst hspot
      refine ⟨b, off, rfl, trivial, fun i hi => ?_⟩
      have := hc i (by omega)
      rw [addr_add] at this
      rw [this]; simp [List.getD, show i < len by omega]
    · have := bounds_u8 (hw z (List.mem_of_mem_take hzm)); omega
    · rw [hx]
      have e : Rows.uptoBulk (DataW.slice (lits .u8 (zs.take len)) (lits .u8 (zs.drop len)) : DataW H) = Rows.uptoBulkAll (H := H) (lits .u8 (zs.take len)) + Rows.uptoBulkAll (H := H) (lits .u8 (zs.drop len)) + 1 := by rw [Rows.uptoBulk]
      have h2 := Ex.len_bulk (H := H) (lits .u8 (zs.take len))
      have h3 : (lits (H := H) .u8 (zs.take len)).length = (zs.take len).length := by simp [lits]
      rw [e]; omega
theorem open_list {H α : Type} [Inhabited α] {enc : TypeId × Value → H} {w : World} {base fuel : Nat} {cs : List Value} {x : DataW H × List MemPlace} {It : World → (Nat → Prop) → α → List Value → Prop} {c : Nat} {S T : TypeId} {Wf : α → Prop} {B : α → Nat}
    (hu : Tryz.prog.underlying S = some (.slice T)) (hc8 : Tryz.prog.cellsOf T = c) (hc0 : 0 < c)
    (item : ∀ m cs y, DataW.trod enc Tryz.prog w base (fun _ => true) true m T cs = some y → ∃ a : α, cs.length = c ∧ It w (fun _ => True) a cs ∧ Wf a ∧ B a ≤ Rows.uptoBulk y.1)
    (h : DataW.trod enc Tryz.prog w base (fun _ => true) true fuel S cs = some x) : ∃ (l : List α) (v : Value), cs = [v] ∧ LL It c w (fun _ => True) l v ∧ (∀ a ∈ l, Wf a ∧ B a ≤ Rows.uptoBulk x.1) ∧ l.length ≤ Rows.uptoBulk x.1 := by
  rcases DataW.trod_slice hu h with ⟨hcs, hx⟩ | ⟨a, len, cap, elems, rest, n, hfn, hcs, hx, _, hl, hm, hel, hE, _, _⟩
  · exact ⟨[], _, hcs, LL_nil _ _ _ _, by simp, Nat.zero_le _⟩
  · rw [hc8] at hE
    obtain ⟨A, hA⟩ := Go.Deep.choose_lt (α := α) (n := len) (p := fun j i => (∃ cs, cs.length = c ∧ It w (fun _ => True) i cs ∧ ∀ k u, cs[k]? = some u → w.cell? ((a.add (j * c)).add k) = some u) ∧ Wf i ∧ ∀ d, (elems.map (·.1))[j]? = some d → B i ≤ Rows.uptoBulk d) (fun j hj => by
      have h1 := hE j hj
      rw [List.getElem?_eq_getElem (show j < elems.length by omega)] at h1
      obtain ⟨cs', h2, h3⟩ := Option.bind_eq_some_iff.1 h1
      obtain ⟨_, hcl, hc⟩ := World.cells?_some h2
      obtain ⟨i, q1, q2, q3, q4⟩ := item n cs' _ h3
      refine ⟨i, ⟨cs', q1, q2, fun k u hu => ?_⟩, q3, fun d hd => ?_⟩
      · have hk := (List.getElem?_eq_some_iff.1 hu).1
        exact (hc k (by omega)).trans hu
      · rw [List.getElem?_map, List.getElem?_eq_getElem (show j < elems.length by omega)] at hd
        simp at hd
        rw [← hd]; exact q4)
    have hll : ((List.range len).map A).length = len := by simp
    have hbk : Rows.uptoBulk x.1 = Rows.uptoBulkAll (elems.map (·.1)) + Rows.uptoBulkAll (rest.map (·.1)) + 1 := by rw [hx]; simp only [Rows.uptoBulk]
    refine ⟨(List.range len).map A, .slice (some a) len cap, hcs, ⟨some a, cap, by rw [hll], by omega, by simp, fun h0 => ?_⟩, fun i hi => ?_, ?_⟩
    · obtain ⟨b, off, spot⟩ := a
      have hfirst : w.cell? ((Addr.add ⟨b, off, spot⟩ (0 * c)).add 0) ≠ none := by
        obtain ⟨⟨cs', h1, _, h2⟩, _⟩ := hA 0 (by omega)
        rw [h2 0 (cs'[0]'(by omega)) (List.getElem?_eq_getElem _)]; simp
      obtain ⟨u0, hu0⟩ := Option.ne_none_iff_exists'.1 hfirst
      have hsp : spot = none := by simpa [Addr.add] using World.cell?_spot hu0
      subst hsp
      have hblt : b < w.heap.size := by
        have : w.cell? ⟨b, off, none⟩ = some u0 := by simpa [Addr.add] using hu0
        exact block_lt_of_cell this
      refine ⟨b, off, rfl, trivial, hblt, fun j hj => ?_⟩
      obtain ⟨⟨cs', q1, q2, q3⟩, _⟩ := hA j (by omega)
      have hAj : ((List.range len).map A)[j] = A j := by simp
      rw [hAj]
      refine ⟨cs', q1, q2, fun k u hu => ?_⟩
      have := q3 k u hu
      simp only [addr_add] at this
      exact this
    · obtain ⟨j, hj, rfl⟩ := List.getElem_of_mem hi
      have hAj : ((List.range len).map A)[j] = A j := by simp
      rw [hAj]
      obtain ⟨_, q1, q2⟩ := hA j (by omega)
      have hjl : j < (elems.map (·.1)).length := by simp at hj; simp; omega
      have := q2 _ (List.getElem?_eq_getElem hjl)
      have := Ex.bulk_at (List.getElem?_eq_getElem hjl)
      exact ⟨q1, by omega⟩
    · have := Ex.len_bulk (elems.map (·.1))
      simp at this ⊢
      omega
def Typ.wf (x : Typ) : Prop := (∀ z ∈ x.ps, 0 ≤ z ∧ z ≤ 255) ∧ (0 ≤ x.re ∧ x.re ≤ 255)
def Typ.bk (x : Typ) : Nat := 0 + x.ps.length
theorem open_Typ {H : Type} {enc : TypeId × Value → H} {w : World} {base fuel : Nat} {cs : List Value} {d : DataW H × List MemPlace}
    (h : DataW.trod enc Tryz.prog w base (fun _ => true) true fuel 84 cs = some d) : ∃ x : Typ, cs.length = 2 ∧ TypC w (fun _ => True) x cs ∧ x.wf ∧ x.bk ≤ Rows.uptoBulk d.1 := by
  obtain ⟨xs, n, hfn, hx, hl, hlen, hf⟩ := DataW.trod_struct Tryz.underlying84 h
  have hl8 : cs.length = 2 := hl.trans (by kernel_rfl)
  have hxl : xs.length = 2 := hlen
  have g0 := hf 0 _ rfl
  have g1 := hf 1 _ rfl
  rw [List.getElem?_eq_getElem (by omega)] at g0 g1
  have c0 : Tryz.prog.cellsOf 54 = 1 := by kernel_rfl
  obtain ⟨z0, v0, e0, q0, w0, k0⟩ := open_byts g0
  have f0 : (cs.drop 0).take (Tryz.prog.cellsOf 54) = [v0] := e0
  rw [c0] at f0
  have a0 := Ex.cell_at hl8 (by omega) f0
  have c1 : Tryz.prog.cellsOf 5 = 1 := by kernel_rfl
  obtain ⟨z1, e1, _, w1⟩ := DataW.trod_int Tryz.underlying5 g1
  have b1 := bounds_u8 w1
  have f1 : (cs.drop 1).take (Tryz.prog.cellsOf 5) = [.int .u8 z1] := e1
  rw [c1] at f1
  have a1 := Ex.cell_at hl8 (by omega) f1
  have hcs : cs = [v0, .int .u8 z1] := list2 hl8 a0 a1
  refine ⟨⟨z0, z1⟩, hl8, ⟨_, hcs, q0⟩, ⟨w0, b1⟩, ?_⟩
  rw [hx]
  match xs, hxl with
  | [y0, y1], _ =>
    simp only [List.getElem_cons_zero, List.getElem_cons_succ] at k0
    show 0 + z0.length ≤ _
    simp only [List.map_cons, List.map_nil, Rows.uptoBulk, Rows.uptoBulkAll]
    omega
def Fnc.wf (x : Fnc) : Prop := (0 ≤ x.ty ∧ x.ty ≤ 4294967295) ∧ (∀ z ∈ x.ls, 0 ≤ z ∧ z ≤ 255) ∧ (Ex.Wf x.body)
def Fnc.bk (x : Fnc) : Nat := 0 + x.ls.length + Ex.wt x.body
theorem open_Fnc {H : Type} {enc : TypeId × Value → H} {w : World} {base fuel : Nat} {cs : List Value} {d : DataW H × List MemPlace}
    (h : DataW.trod enc Tryz.prog w base (fun _ => true) true fuel 86 cs = some d) : ∃ x : Fnc, cs.length = 3 ∧ FncC w (fun _ => True) x cs ∧ x.wf ∧ x.bk ≤ Rows.uptoBulk d.1 := by
  obtain ⟨xs, n, hfn, hx, hl, hlen, hf⟩ := DataW.trod_struct Tryz.underlying86 h
  have hl8 : cs.length = 3 := hl.trans (by kernel_rfl)
  have hxl : xs.length = 3 := hlen
  have g0 := hf 0 _ rfl
  have g1 := hf 1 _ rfl
  have g2 := hf 2 _ rfl
  rw [List.getElem?_eq_getElem (by omega)] at g0 g1 g2
  have c0 : Tryz.prog.cellsOf 59 = 1 := by kernel_rfl
  obtain ⟨z0, e0, _, w0⟩ := DataW.trod_int Tryz.underlying59 g0
  have b0 := bounds_u32 w0
  have f0 : (cs.drop 0).take (Tryz.prog.cellsOf 59) = [.int .u32 z0] := e0
  rw [c0] at f0
  have a0 := Ex.cell_at hl8 (by omega) f0
  have c1 : Tryz.prog.cellsOf 54 = 1 := by kernel_rfl
  obtain ⟨z1, v1, e1, q1, w1, k1⟩ := open_byts g1
  have f1 : (cs.drop 1).take (Tryz.prog.cellsOf 54) = [v1] := e1
  rw [c1] at f1
  have a1 := Ex.cell_at hl8 (by omega) f1
  have c2 : Tryz.prog.cellsOf 55 = 1 := by kernel_rfl
  obtain ⟨z2, v2, e2, q2, w2, k2⟩ := Ex.open_code n _ _ g2
  have f2 : (cs.drop 2).take (Tryz.prog.cellsOf 55) = [v2] := e2
  rw [c2] at f2
  have a2 := Ex.cell_at hl8 (by omega) f2
  have hcs : cs = [.int .u32 z0, v1, v2] := list3 hl8 a0 a1 a2
  refine ⟨⟨z0, z1, z2⟩, hl8, ⟨_, _, hcs, q1, q2⟩, ⟨b0, w1, w2⟩, ?_⟩
  rw [hx]
  match xs, hxl with
  | [y0, y1, y2], _ =>
    simp only [List.getElem_cons_zero, List.getElem_cons_succ] at k1 k2
    show 0 + z1.length + Ex.wt z2 ≤ _
    simp only [List.map_cons, List.map_nil, Rows.uptoBulk, Rows.uptoBulkAll]
    omega
def Lim.wf (x : Lim) : Prop := (0 ≤ x.mn ∧ x.mn ≤ 4294967295) ∧ (True) ∧ (0 ≤ x.mx ∧ x.mx ≤ 4294967295)
def Lim.bk (x : Lim) : Nat := 0
theorem open_Lim {H : Type} {enc : TypeId × Value → H} {w : World} {base fuel : Nat} {cs : List Value} {d : DataW H × List MemPlace}
    (h : DataW.trod enc Tryz.prog w base (fun _ => true) true fuel 99 cs = some d) : ∃ x : Lim, cs.length = 3 ∧ LimC w (fun _ => True) x cs ∧ x.wf ∧ x.bk ≤ Rows.uptoBulk d.1 := by
  obtain ⟨xs, n, hfn, hx, hl, hlen, hf⟩ := DataW.trod_struct Tryz.underlying99 h
  have hl8 : cs.length = 3 := hl.trans (by kernel_rfl)
  have hxl : xs.length = 3 := hlen
  have g0 := hf 0 _ rfl
  have g1 := hf 1 _ rfl
  have g2 := hf 2 _ rfl
  rw [List.getElem?_eq_getElem (by omega)] at g0 g1 g2
  have c0 : Tryz.prog.cellsOf 59 = 1 := by kernel_rfl
  obtain ⟨z0, e0, _, w0⟩ := DataW.trod_int Tryz.underlying59 g0
  have b0 := bounds_u32 w0
  have f0 : (cs.drop 0).take (Tryz.prog.cellsOf 59) = [.int .u32 z0] := e0
  rw [c0] at f0
  have a0 := Ex.cell_at hl8 (by omega) f0
  have c1 : Tryz.prog.cellsOf 4 = 1 := by kernel_rfl
  obtain ⟨z1, e1, _⟩ := DataW.trod_bool Tryz.underlying4 g1
  have f1 : (cs.drop 1).take (Tryz.prog.cellsOf 4) = [.bool z1] := e1
  rw [c1] at f1
  have a1 := Ex.cell_at hl8 (by omega) f1
  have c2 : Tryz.prog.cellsOf 59 = 1 := by kernel_rfl
  obtain ⟨z2, e2, _, w2⟩ := DataW.trod_int Tryz.underlying59 g2
  have b2 := bounds_u32 w2
  have f2 : (cs.drop 2).take (Tryz.prog.cellsOf 59) = [.int .u32 z2] := e2
  rw [c2] at f2
  have a2 := Ex.cell_at hl8 (by omega) f2
  have hcs : cs = [.int .u32 z0, .bool z1, .int .u32 z2] := list3 hl8 a0 a1 a2
  refine ⟨⟨z0, z1, z2⟩, hl8, hcs, ⟨b0, trivial, b2⟩, ?_⟩
  rw [hx]
  match xs, hxl with
  | [y0, y1, y2], _ =>
    show 0 ≤ _
    simp only [List.map_cons, List.map_nil, Rows.uptoBulk, Rows.uptoBulkAll]
    omega
def Glo.wf (x : Glo) : Prop := (0 ≤ x.kd ∧ x.kd ≤ 255) ∧ (True) ∧ (Ex.WfI x.ini)
def Glo.bk (x : Glo) : Nat := 0 + Ex.wI x.ini
theorem open_Glo {H : Type} {enc : TypeId × Value → H} {w : World} {base fuel : Nat} {cs : List Value} {d : DataW H × List MemPlace}
    (h : DataW.trod enc Tryz.prog w base (fun _ => true) true fuel 94 cs = some d) : ∃ x : Glo, cs.length = 10 ∧ GloC w (fun _ => True) x cs ∧ x.wf ∧ x.bk ≤ Rows.uptoBulk d.1 := by
  obtain ⟨xs, n, hfn, hx, hl, hlen, hf⟩ := DataW.trod_struct Tryz.underlying94 h
  have hl8 : cs.length = 10 := hl.trans (by kernel_rfl)
  have hxl : xs.length = 3 := hlen
  have g0 := hf 0 _ rfl
  have g1 := hf 1 _ rfl
  have g2 := hf 2 _ rfl
  rw [List.getElem?_eq_getElem (by omega)] at g0 g1 g2
  have c0 : Tryz.prog.cellsOf 5 = 1 := by kernel_rfl
  obtain ⟨z0, e0, _, w0⟩ := DataW.trod_int Tryz.underlying5 g0
  have b0 := bounds_u8 w0
  have f0 : (cs.drop 0).take (Tryz.prog.cellsOf 5) = [.int .u8 z0] := e0
  rw [c0] at f0
  have a0 := Ex.cell_at hl8 (by omega) f0
  have c1 : Tryz.prog.cellsOf 4 = 1 := by kernel_rfl
  obtain ⟨z1, e1, _⟩ := DataW.trod_bool Tryz.underlying4 g1
  have f1 : (cs.drop 1).take (Tryz.prog.cellsOf 4) = [.bool z1] := e1
  rw [c1] at f1
  have a1 := Ex.cell_at hl8 (by omega) f1
  have c2 : Tryz.prog.cellsOf 69 = 8 := by kernel_rfl
  obtain ⟨z2, q2, w2, k2⟩ := open_insC g2
  have q2 : InsC w (fun _ => True) z2 ((cs.drop 2).take (Tryz.prog.cellsOf 69)) := q2
  rw [c2] at q2
  have hcs := list10a hl8 a0 a1
  refine ⟨⟨z0, z1, z2⟩, hl8, ⟨_, hcs, q2⟩, ⟨b0, trivial, w2⟩, ?_⟩
  rw [hx]
  match xs, hxl with
  | [y0, y1, y2], _ =>
    simp only [List.getElem_cons_zero, List.getElem_cons_succ] at k2
    show 0 + Ex.wI z2 ≤ _
    simp only [List.map_cons, List.map_nil, Rows.uptoBulk, Rows.uptoBulkAll]
    omega
def Exo.wf (x : Exo) : Prop := (x.nm.size ≤ maxLen) ∧ (0 ≤ x.wh ∧ x.wh ≤ 255) ∧ (0 ≤ x.ix ∧ x.ix ≤ 4294967295)
def Exo.bk (x : Exo) : Nat := 0
theorem open_Exo {H : Type} {enc : TypeId × Value → H} {w : World} {base fuel : Nat} {cs : List Value} {d : DataW H × List MemPlace}
    (h : DataW.trod enc Tryz.prog w base (fun _ => true) true fuel 88 cs = some d) : ∃ x : Exo, cs.length = 3 ∧ ExoC w (fun _ => True) x cs ∧ x.wf ∧ x.bk ≤ Rows.uptoBulk d.1 := by
  obtain ⟨xs, n, hfn, hx, hl, hlen, hf⟩ := DataW.trod_struct Tryz.underlying88 h
  have hl8 : cs.length = 3 := hl.trans (by kernel_rfl)
  have hxl : xs.length = 3 := hlen
  have g0 := hf 0 _ rfl
  have g1 := hf 1 _ rfl
  have g2 := hf 2 _ rfl
  rw [List.getElem?_eq_getElem (by omega)] at g0 g1 g2
  have c0 : Tryz.prog.cellsOf 9 = 1 := by kernel_rfl
  obtain ⟨z0, e0, _, w0⟩ := DataW.trod_string Tryz.underlying9 g0
  have f0 : (cs.drop 0).take (Tryz.prog.cellsOf 9) = [.string z0] := e0
  rw [c0] at f0
  have a0 := Ex.cell_at hl8 (by omega) f0
  have c1 : Tryz.prog.cellsOf 5 = 1 := by kernel_rfl
  obtain ⟨z1, e1, _, w1⟩ := DataW.trod_int Tryz.underlying5 g1
  have b1 := bounds_u8 w1
  have f1 : (cs.drop 1).take (Tryz.prog.cellsOf 5) = [.int .u8 z1] := e1
  rw [c1] at f1
  have a1 := Ex.cell_at hl8 (by omega) f1
  have c2 : Tryz.prog.cellsOf 59 = 1 := by kernel_rfl
  obtain ⟨z2, e2, _, w2⟩ := DataW.trod_int Tryz.underlying59 g2
  have b2 := bounds_u32 w2
  have f2 : (cs.drop 2).take (Tryz.prog.cellsOf 59) = [.int .u32 z2] := e2
  rw [c2] at f2
  have a2 := Ex.cell_at hl8 (by omega) f2
  have hcs : cs = [.string z0, .int .u8 z1, .int .u32 z2] := list3 hl8 a0 a1 a2
  refine ⟨⟨z0, z1, z2⟩, hl8, hcs, ⟨w0, b1, b2⟩, ?_⟩
  rw [hx]
  match xs, hxl with
  | [y0, y1, y2], _ =>
    show 0 ≤ _
    simp only [List.map_cons, List.map_nil, Rows.uptoBulk, Rows.uptoBulkAll]
    omega
def Elm.wf (x : Elm) : Prop := (0 ≤ x.tb ∧ x.tb ≤ 4294967295) ∧ (Ex.WfI x.off) ∧ (∀ z ∈ x.fs, 0 ≤ z ∧ z < 4294967296)
def Elm.bk (x : Elm) : Nat := 0 + Ex.wI x.off + x.fs.length
theorem open_Elm {H : Type} {enc : TypeId × Value → H} {w : World} {base fuel : Nat} {cs : List Value} {d : DataW H × List MemPlace}
    (h : DataW.trod enc Tryz.prog w base (fun _ => true) true fuel 90 cs = some d) : ∃ x : Elm, cs.length = 10 ∧ ElmC w (fun _ => True) x cs ∧ x.wf ∧ x.bk ≤ Rows.uptoBulk d.1 := by
  obtain ⟨xs, n, hfn, hx, hl, hlen, hf⟩ := DataW.trod_struct Tryz.underlying90 h
  have hl8 : cs.length = 10 := hl.trans (by kernel_rfl)
  have hxl : xs.length = 3 := hlen
  have g0 := hf 0 _ rfl
  have g1 := hf 1 _ rfl
  have g2 := hf 2 _ rfl
  rw [List.getElem?_eq_getElem (by omega)] at g0 g1 g2
  have c0 : Tryz.prog.cellsOf 59 = 1 := by kernel_rfl
  obtain ⟨z0, e0, _, w0⟩ := DataW.trod_int Tryz.underlying59 g0
  have b0 := bounds_u32 w0
  have f0 : (cs.drop 0).take (Tryz.prog.cellsOf 59) = [.int .u32 z0] := e0
  rw [c0] at f0
  have a0 := Ex.cell_at hl8 (by omega) f0
  have c1 : Tryz.prog.cellsOf 69 = 8 := by kernel_rfl
  obtain ⟨z1, q1, w1, k1⟩ := open_insC g1
  have q1 : InsC w (fun _ => True) z1 ((cs.drop 1).take (Tryz.prog.cellsOf 69)) := q1
  rw [c1] at q1
  have c2 : Tryz.prog.cellsOf 61 = 1 := by kernel_rfl
  obtain ⟨z2, v2, e2, q2, w2, k2⟩ := Ex.open_labs g2
  have f2 : (cs.drop 9).take (Tryz.prog.cellsOf 61) = [v2] := e2
  rw [c2] at f2
  have a2 := Ex.cell_at hl8 (by omega) f2
  have hcs := list10b hl8 a0 a2
  refine ⟨⟨z0, z1, z2⟩, hl8, ⟨_, _, hcs, q1, q2⟩, ⟨b0, w1, w2⟩, ?_⟩
  rw [hx]
  match xs, hxl with
  | [y0, y1, y2], _ =>
    simp only [List.getElem_cons_zero, List.getElem_cons_succ] at k1 k2
    show 0 + Ex.wI z1 + z2.length ≤ _
    simp only [List.map_cons, List.map_nil, Rows.uptoBulk, Rows.uptoBulkAll]
    omega
def Dat.wf (x : Dat) : Prop := (0 ≤ x.tb ∧ x.tb ≤ 4294967295) ∧ (Ex.WfI x.off) ∧ (∀ z ∈ x.bs, 0 ≤ z ∧ z ≤ 255)
def Dat.bk (x : Dat) : Nat := 0 + Ex.wI x.off + x.bs.length
theorem open_Dat {H : Type} {enc : TypeId × Value → H} {w : World} {base fuel : Nat} {cs : List Value} {d : DataW H × List MemPlace}
    (h : DataW.trod enc Tryz.prog w base (fun _ => true) true fuel 92 cs = some d) : ∃ x : Dat, cs.length = 10 ∧ DatC w (fun _ => True) x cs ∧ x.wf ∧ x.bk ≤ Rows.uptoBulk d.1 := by
  obtain ⟨xs, n, hfn, hx, hl, hlen, hf⟩ := DataW.trod_struct Tryz.underlying92 h
  have hl8 : cs.length = 10 := hl.trans (by kernel_rfl)
  have hxl : xs.length = 3 := hlen
  have g0 := hf 0 _ rfl
  have g1 := hf 1 _ rfl
  have g2 := hf 2 _ rfl
  rw [List.getElem?_eq_getElem (by omega)] at g0 g1 g2
  have c0 : Tryz.prog.cellsOf 59 = 1 := by kernel_rfl
  obtain ⟨z0, e0, _, w0⟩ := DataW.trod_int Tryz.underlying59 g0
  have b0 := bounds_u32 w0
  have f0 : (cs.drop 0).take (Tryz.prog.cellsOf 59) = [.int .u32 z0] := e0
  rw [c0] at f0
  have a0 := Ex.cell_at hl8 (by omega) f0
  have c1 : Tryz.prog.cellsOf 69 = 8 := by kernel_rfl
  obtain ⟨z1, q1, w1, k1⟩ := open_insC g1
  have q1 : InsC w (fun _ => True) z1 ((cs.drop 1).take (Tryz.prog.cellsOf 69)) := q1
  rw [c1] at q1
  have c2 : Tryz.prog.cellsOf 54 = 1 := by kernel_rfl
  obtain ⟨z2, v2, e2, q2, w2, k2⟩ := open_byts g2
  have f2 : (cs.drop 9).take (Tryz.prog.cellsOf 54) = [v2] := e2
  rw [c2] at f2
  have a2 := Ex.cell_at hl8 (by omega) f2
  have hcs := list10b hl8 a0 a2
  refine ⟨⟨z0, z1, z2⟩, hl8, ⟨_, _, hcs, q1, q2⟩, ⟨b0, w1, w2⟩, ?_⟩
  rw [hx]
  match xs, hxl with
  | [y0, y1, y2], _ =>
    simp only [List.getElem_cons_zero, List.getElem_cons_succ] at k1 k2
    show 0 + Ex.wI z1 + z2.length ≤ _
    simp only [List.map_cons, List.map_nil, Rows.uptoBulk, Rows.uptoBulkAll]
    omega
def WfM (M : Mod) : Prop := (∀ x ∈ M.types, Typ.wf x) ∧ (∀ x ∈ M.funcs, Fnc.wf x) ∧ (∀ x ∈ M.tables, Lim.wf x) ∧ (∀ x ∈ M.mems, Lim.wf x) ∧ (∀ x ∈ M.globs, Glo.wf x) ∧ (∀ x ∈ M.exps, Exo.wf x) ∧ (∀ x ∈ M.elems, Elm.wf x) ∧ (∀ x ∈ M.datas, Dat.wf x)
/-- what a bulk bounds beside SzM -/
structure SzX (M : Mod) : Prop where
  cn : ∀ x ∈ M.funcs, Ex.cnt x.body ≤ 1048576
  fs : ∀ x ∈ M.elems, x.fs.length ≤ 1048576
  ds : ∀ x ∈ M.datas, x.bs.length ≤ 1048576
theorem open_modX {H : Type} {enc : TypeId × Value → H} {w : World} {v : Value} {d : DataW H} {p : List MemPlace} {cs : Array Value} (hv : v = .agg cs)
    (h : DataW.Trod enc Tryz.prog w 0 (fun _ => true) true 30 v d p) : ∃ (M : Mod) (v0 v1 v2 v3 v4 v5 v6 v7 : Value), v = .agg #[v0, v1, v2, v3, v4, v5, v6, v7] ∧ ModL w (fun _ => True) M v0 v1 v2 v3 v4 v5 v6 v7 ∧ WfM M ∧ (Rows.uptoBulk d ≤ 1048576 → SzM M ∧ SzX M) := by
  subst hv
  obtain ⟨fuel, hfu⟩ := h
  obtain ⟨xs, n, hfn, hx, hl, hlen, hf⟩ := DataW.trod_struct Tryz.underlying30 hfu
  have hcsl : (Value.agg cs).cells = cs := by simp [Value.cells]
  rw [hcsl] at hl hf
  have hl8 : cs.toList.length = 8 := hl.trans (by kernel_rfl)
  have hxl : xs.length = 8 := hlen
  have g0 := hf 0 _ rfl
  have g1 := hf 1 _ rfl
  have g2 := hf 2 _ rfl
  have g3 := hf 3 _ rfl
  have g4 := hf 4 _ rfl
  have g5 := hf 5 _ rfl
  have g6 := hf 6 _ rfl
  have g7 := hf 7 _ rfl
  rw [List.getElem?_eq_getElem (by omega)] at g0 g1 g2 g3 g4 g5 g6 g7
  have c0 : Tryz.prog.cellsOf 22 = 1 := by kernel_rfl
  haveI : Inhabited Typ := ⟨⟨[], 0⟩⟩
  obtain ⟨l0, v0, e0, q0, w0, n0⟩ := open_list (It := TypC) (c := 2) (Wf := Typ.wf) (B := Typ.bk) Tryz.underlying22 (by kernel_rfl) (by omega) (fun m cs x hh => open_Typ hh) g0
  have f0 : (cs.toList.drop 0).take (Tryz.prog.cellsOf 22) = [v0] := e0
  rw [c0] at f0
  have a0 := Ex.cell_at hl8 (by omega) f0
  have c1 : Tryz.prog.cellsOf 23 = 1 := by kernel_rfl
  haveI : Inhabited Fnc := ⟨⟨0, [], []⟩⟩
  obtain ⟨l1, v1, e1, q1, w1, n1⟩ := open_list (It := FncC) (c := 3) (Wf := Fnc.wf) (B := Fnc.bk) Tryz.underlying23 (by kernel_rfl) (by omega) (fun m cs x hh => open_Fnc hh) g1
  have f1 : (cs.toList.drop 1).take (Tryz.prog.cellsOf 23) = [v1] := e1
  rw [c1] at f1
  have a1 := Ex.cell_at hl8 (by omega) f1
  have c2 : Tryz.prog.cellsOf 24 = 1 := by kernel_rfl
  haveI : Inhabited Lim := ⟨⟨0, false, 0⟩⟩
  obtain ⟨l2, v2, e2, q2, w2, n2⟩ := open_list (It := LimC) (c := 3) (Wf := Lim.wf) (B := Lim.bk) Tryz.underlying24 (by kernel_rfl) (by omega) (fun m cs x hh => open_Lim hh) g2
  have f2 : (cs.toList.drop 2).take (Tryz.prog.cellsOf 24) = [v2] := e2
  rw [c2] at f2
  have a2 := Ex.cell_at hl8 (by omega) f2
  have c3 : Tryz.prog.cellsOf 24 = 1 := by kernel_rfl
  haveI : Inhabited Lim := ⟨⟨0, false, 0⟩⟩
  obtain ⟨l3, v3, e3, q3, w3, n3⟩ := open_list (It := LimC) (c := 3) (Wf := Lim.wf) (B := Lim.bk) Tryz.underlying24 (by kernel_rfl) (by omega) (fun m cs x hh => open_Lim hh) g3
  have f3 : (cs.toList.drop 3).take (Tryz.prog.cellsOf 24) = [v3] := e3
  rw [c3] at f3
  have a3 := Ex.cell_at hl8 (by omega) f3
  have c4 : Tryz.prog.cellsOf 25 = 1 := by kernel_rfl
  haveI : Inhabited Glo := ⟨⟨0, false, ⟨0, 0, 0, 0, 0, [], [], []⟩⟩⟩
  obtain ⟨l4, v4, e4, q4, w4, n4⟩ := open_list (It := GloC) (c := 10) (Wf := Glo.wf) (B := Glo.bk) Tryz.underlying25 (by kernel_rfl) (by omega) (fun m cs x hh => open_Glo hh) g4
  have f4 : (cs.toList.drop 4).take (Tryz.prog.cellsOf 25) = [v4] := e4
  rw [c4] at f4
  have a4 := Ex.cell_at hl8 (by omega) f4
  have c5 : Tryz.prog.cellsOf 26 = 1 := by kernel_rfl
  haveI : Inhabited Exo := ⟨⟨⟨#[]⟩, 0, 0⟩⟩
  obtain ⟨l5, v5, e5, q5, w5, n5⟩ := open_list (It := ExoC) (c := 3) (Wf := Exo.wf) (B := Exo.bk) Tryz.underlying26 (by kernel_rfl) (by omega) (fun m cs x hh => open_Exo hh) g5
  have f5 : (cs.toList.drop 5).take (Tryz.prog.cellsOf 26) = [v5] := e5
  rw [c5] at f5
  have a5 := Ex.cell_at hl8 (by omega) f5
  have c6 : Tryz.prog.cellsOf 27 = 1 := by kernel_rfl
  haveI : Inhabited Elm := ⟨⟨0, ⟨0, 0, 0, 0, 0, [], [], []⟩, []⟩⟩
  obtain ⟨l6, v6, e6, q6, w6, n6⟩ := open_list (It := ElmC) (c := 10) (Wf := Elm.wf) (B := Elm.bk) Tryz.underlying27 (by kernel_rfl) (by omega) (fun m cs x hh => open_Elm hh) g6
  have f6 : (cs.toList.drop 6).take (Tryz.prog.cellsOf 27) = [v6] := e6
  rw [c6] at f6
  have a6 := Ex.cell_at hl8 (by omega) f6
  have c7 : Tryz.prog.cellsOf 28 = 1 := by kernel_rfl
  haveI : Inhabited Dat := ⟨⟨0, ⟨0, 0, 0, 0, 0, [], [], []⟩, []⟩⟩
  obtain ⟨l7, v7, e7, q7, w7, n7⟩ := open_list (It := DatC) (c := 10) (Wf := Dat.wf) (B := Dat.bk) Tryz.underlying28 (by kernel_rfl) (by omega) (fun m cs x hh => open_Dat hh) g7
  have f7 : (cs.toList.drop 7).take (Tryz.prog.cellsOf 28) = [v7] := e7
  rw [c7] at f7
  have a7 := Ex.cell_at hl8 (by omega) f7
  have hcs : cs = #[v0, v1, v2, v3, v4, v5, v6, v7] := by
    have := list8 hl8 a0 a1 a2 a3 a4 a5 a6 a7
    apply Array.toList_inj.1; simpa using this
  subst hcs
  refine ⟨⟨l0, l1, l2, l3, l4, l5, l6, l7⟩, v0, v1, v2, v3, v4, v5, v6, v7, rfl, ⟨q0, q1, q2, q3, q4, q5, q6, q7⟩, ⟨fun x hx => (w0 x hx).1, fun x hx => (w1 x hx).1, fun x hx => (w2 x hx).1, fun x hx => (w3 x hx).1, fun x hx => (w4 x hx).1, fun x hx => (w5 x hx).1, fun x hx => (w6 x hx).1, fun x hx => (w7 x hx).1⟩, fun hb => ?_⟩
  have hx1 : d = .agg (xs.map (·.1)) := congrArg Prod.fst hx
  rw [hx1] at hb
  · obtain ⟨y0, y1, y2, y3, y4, y5, y6, y7, rfl⟩ := len8 hxl
    simp only [List.getElem_cons_zero, List.getElem_cons_succ] at w0 n0 w1 n1 w2 n2 w3 n3 w4 n4 w5 n5 w6 n6 w7 n7
    simp only [List.map_cons, List.map_nil, Rows.uptoBulk, Rows.uptoBulkAll] at hb
    refine ⟨?smm, ⟨fun x hx => ?x1, fun x hx => ?x6, fun x hx => ?x7⟩⟩
    case x1 => have := w1 x hx; have h2 := this.2; unfold Fnc.bk at h2; have h3 := Ex.cnt_wt x.body; omega
    case x6 => have := w6 x hx; have h2 := this.2; unfold Elm.bk at h2; omega
    case x7 => have := w7 x hx; have h2 := this.2; unfold Dat.bk at h2; omega
    refine ⟨by show l0.length ≤ _; omega, by show l1.length ≤ _; omega, by show l2.length ≤ _; omega, by show l3.length ≤ _; omega, by show l4.length ≤ _; omega, by show l5.length ≤ _; omega, by show l6.length ≤ _; omega, by show l7.length ≤ _; omega, fun x hx => ?s0, fun x hx => ?s1, fun x hx => ?s2, fun x hx => ?s3, fun x hx => ?s4, fun x hx => ?s5, fun x hx => ?s6, fun x hx => ?s7⟩
    case s0 => have := w0 x hx; have h2 := this.2; unfold Typ.bk at h2; exact ⟨this.1.1, by omega⟩
    case s1 => have := w1 x hx; have h2 := this.2; unfold Fnc.bk at h2; have h3 := Ex.wt_len x.body; exact ⟨this.1.2.1, by omega, by omega, Ex.Sz_wt _ (by omega)⟩
    case s2 => trivial
    case s3 => trivial
    case s4 => have := w4 x hx; have h2 := this.2; unfold Glo.bk at h2; exact szI_wt (by omega)
    case s5 => trivial
    case s6 => have := w6 x hx; have h2 := this.2; unfold Elm.bk at h2; exact szI_wt (by omega)
    case s7 => have := w7 x hx; have h2 := this.2; unfold Dat.bk at h2; exact szI_wt (by omega)
theorem open_mod {H : Type} {enc : TypeId × Value → H} {w : World} {v : Value} {d : DataW H} {p : List MemPlace} {cs : Array Value} (hv : v = .agg cs)
    (h : DataW.Trod enc Tryz.prog w 0 (fun _ => true) true 30 v d p) : ∃ (M : Mod) (v0 v1 v2 v3 v4 v5 v6 v7 : Value), v = .agg #[v0, v1, v2, v3, v4, v5, v6, v7] ∧ ModL w (fun _ => True) M v0 v1 v2 v3 v4 v5 v6 v7 ∧ WfM M ∧ (Rows.uptoBulk d ≤ 1048576 → SzM M) := by
  obtain ⟨M, v0, v1, v2, v3, v4, v5, v6, v7, h1, h2, h3, h4⟩ := open_modX hv h
  exact ⟨M, v0, v1, v2, v3, v4, v5, v6, v7, h1, h2, h3, fun hb => (h4 hb).1⟩
end Gm
end Go.Proofs.YtcpknafaocdjdaaGreatDoor

/- The statements' count and large: a number, whatever the list; nothing old turns. -/
namespace Go.Proofs.YtcpknafaocdjdaaGreatDoor
open Go.RowKit
namespace Ex
set_option linter.unusedVariables false
attribute [local go_sem ↓] Go.wp_at_zero Go.wp_at_succ

def CtP (l : List Ins) : Prop := ∀ (g : Nat → Prop) (v : Value) (m d : Int) (w : World), Code w g l v → l.length ≤ 1099511627776 →  Sz 1099511627776 l →
  Calls Tryz.prog 19 #[v, .int .i64 m, .int .i64 d] w fun e w' => ∃ n, e = .returned (.int .i64 n) ∧ Below w.heap.size w w'

set_option maxRecDepth 100000 in
set_option maxHeartbeats 3200000 in
theorem ct_any (l : List Ins) : CtP l := by
  refine ind2 (P := CtP) (fun l ih => ?_) l
  intro g v m d w hv hm hsz
  obtain ⟨a, ca, rfl, hca, _, hA⟩ := hv
  have HA := hide hA; have HIh := hide ih; have HSz := hide (Sz_get hsz)
  clear hA ih hsz
  generalize hn : l.length = n at *
  have HN := hide hn; clear hn
  go_enter Tryz.func19, Tryz.ntmps19
  by_cases h1 : (n : Int) > m
  · go_wp2
    go_ret
    first | exact ⟨⟨_, rfl⟩, Below.refl _ _⟩ | exact ⟨_, rfl, Below.refl _ _⟩ | exact Below.refl _ _
  by_cases h2 : d > 80
  · go_wp2
    go_ret
    first | exact ⟨⟨_, rfl⟩, Below.refl _ _⟩ | exact ⟨_, rfl, Below.refl _ _⟩ | exact Below.refl _ _
  go_wp2_with fail
  clear h1 h2
  go_loopw [7, 8] (fun s c wr => ∃ (j : Nat) (k : Int), c = .int .i64 j ∧ s = .int .i64 k ∧ (j : Int) ≤ n ∧ Below w.heap.size w wr) (fun _ c _ => n - (intOf c).toNat)
  case atStart => exact ⟨0, n, rfl, rfl, by omega, Below.refl _ _⟩
  case round =>
    obtain ⟨j, k, rfl, rfl, hj, hbel⟩ := hrel
    have HBel := hide hbel
    by_cases hlt : (j : Int) < n
    · by_cases hk : k < m
      · have ja : j < l.length := by have := unhide HN; omega
        obtain ⟨ba, oa, rfl, hga, hla⟩ := unhide HA (by have := unhide HN; omega)
        have hmA : Moves w wr g g := moves_below hbel (fun _ _ h => h)
        have hba : ba < wr.heap.size := by have := Items_lt hla (by omega); have := hbel.size; omega
        have iA := ItemAt.move hmA (hbel.block ba (Items_lt hla (by omega))) (Items_get hla j ja)
        have hI := unhide HIh l[j] (List.getElem_mem ja)
        have hZ := unhide HSz l[j] (List.getElem_mem ja)
        generalize l[j] = x at *
        obtain ⟨vb, ve, vl, hc, h1, h2, h3⟩ := iA
        have H1 := hide h1; have H2 := hide h2
        obtain ⟨c1, cb1, rfl, _⟩ := h1
        obtain ⟨c2, cb2, rfl, _⟩ := h2
        obtain ⟨c3, cb3, rfl, _⟩ := h3
        obtain ⟨e0, e1, e2, e3, e4, e5, e6, e7⟩ := hc
        have qb : ∀ wx m d, Below wr.heap.size wr wx → Calls Tryz.prog 19 #[.slice c1 x.body.length cb1, .int .i64 m, .int .i64 d] wx fun e w' => ∃ n, e = .returned (.int .i64 n) ∧ Below wx.heap.size wx w' := fun wx m d hwx =>
          hI.1 g _ m d wx ((unhide H1).below hwx) hZ.1 hZ.2.2.2.1
        have qe : ∀ wx m d, Below wr.heap.size wr wx → Calls Tryz.prog 19 #[.slice c2 x.els.length cb2, .int .i64 m, .int .i64 d] wx fun e w' => ∃ n, e = .returned (.int .i64 n) ∧ Below wx.heap.size wx w' := fun wx m d hwx =>
          hI.2 g _ m d wx ((unhide H2).below hwx) hZ.2.1 hZ.2.2.2.2
        have QB := hide qb; have QE := hide qe; have HBa := hide hba
        have hll := hZ.2.2.1
        clear hmA hla hga hI hZ hbel qb qe hba e0 e1 e2 e3 e4 H1 H2
        generalize x.body.length = lb at *
        generalize x.els.length = le at *
        generalize x.ls.length = ll at *
        by_cases hmn : m < (ll : Int)
        · have hmn4 : ¬ (ll : Int) ≤ m := by omega
          go_wp2_with fail
          go_region_held3 (fun w' => w'.cell? ⟨ba, oa + j * 8 + 5, none⟩ = some (.slice c1 lb cb1) ∧ w'.cell? ⟨ba, oa + j * 8 + 6, none⟩ = some (.slice c2 le cb2) ∧ w'.cell? ⟨ba, oa + j * 8 + 7, none⟩ = some (.slice c3 ll cb3))
            (first | go_keep | exact ⟨(hk2 _).trans e5, (hk2 _).trans e6, (hk2 _).trans e7⟩)
            (first
              | (go_at_call_of 19 (Value.slice c1 lb cb1); refine (unhide QB _ _ _ (below_drew wr)).mono ?_; rintro e w3 ⟨k1, rfl, hb3⟩; have HB3 := hide (Below.on (below_drew wr) hb3); clear hb3; have hk2 : ∀ o, w3.cell? ⟨ba, o, none⟩ = wr.cell? ⟨ba, o, none⟩ := fun o => fin_cell (unhide HB3) (unhide HBa) o)
              | (go_at_call_of 19 (Value.slice c2 le cb2); refine (unhide QE _ _ _ (unhide HB3)).mono ?_; rintro e w4 ⟨k2, rfl, hb4⟩; have HB4 := hide (Below.on (unhide HB3) hb4); clear hb4; have hk2 : ∀ o, w4.cell? ⟨ba, o, none⟩ = wr.cell? ⟨ba, o, none⟩ := fun o => fin_cell (unhide HB4) (unhide HBa) o))
          all_goals (
            have HBB := hide (Below.on (unhide HBel) (unhide HB4))
            clear hk2 e5 e6 e7 HB3 HB4
            go_wp2
            go_roundw
            case rel => exact ⟨j + 1, _, by go_num, rfl, by omega, unhide HBB⟩
            case measure => simp [intOf]; omega)
        · have hmn4 : (ll : Int) ≤ m := by omega
          go_wp2_with fail
          go_region_held3 (fun w' => w'.cell? ⟨ba, oa + j * 8 + 5, none⟩ = some (.slice c1 lb cb1) ∧ w'.cell? ⟨ba, oa + j * 8 + 6, none⟩ = some (.slice c2 le cb2) ∧ w'.cell? ⟨ba, oa + j * 8 + 7, none⟩ = some (.slice c3 ll cb3))
            (first | go_keep | exact ⟨(hk2 _).trans e5, (hk2 _).trans e6, (hk2 _).trans e7⟩)
            (first
              | (go_at_call_of 19 (Value.slice c1 lb cb1); refine (unhide QB _ _ _ (below_drew wr)).mono ?_; rintro e w3 ⟨k1, rfl, hb3⟩; have HB3 := hide (Below.on (below_drew wr) hb3); clear hb3; have hk2 : ∀ o, w3.cell? ⟨ba, o, none⟩ = wr.cell? ⟨ba, o, none⟩ := fun o => fin_cell (unhide HB3) (unhide HBa) o)
              | (go_at_call_of 19 (Value.slice c2 le cb2); refine (unhide QE _ _ _ (unhide HB3)).mono ?_; rintro e w4 ⟨k2, rfl, hb4⟩; have HB4 := hide (Below.on (unhide HB3) hb4); clear hb4; have hk2 : ∀ o, w4.cell? ⟨ba, o, none⟩ = wr.cell? ⟨ba, o, none⟩ := fun o => fin_cell (unhide HB4) (unhide HBa) o))
          all_goals (
            have HBB := hide (Below.on (unhide HBel) (unhide HB4))
            clear hk2 e5 e6 e7 HB3 HB4
            go_wp2
            go_roundw
            case rel => exact ⟨j + 1, _, by go_num, rfl, by omega, unhide HBB⟩
            case measure => simp [intOf]; omega)
      · go_wp2
        go_ret
        first | exact ⟨⟨_, rfl⟩, unhide HBel⟩ | exact ⟨_, rfl, unhide HBel⟩ | exact unhide HBel
    · go_wp2
      go_ret
      first | exact ⟨⟨_, rfl⟩, unhide HBel⟩ | exact ⟨_, rfl, unhide HBel⟩ | exact unhide HBel
end Ex
end Go.Proofs.YtcpknafaocdjdaaGreatDoor

/- The statements' bigModule. -/
namespace Go.Proofs.YtcpknafaocdjdaaGreatDoor
open Go.RowKit
namespace Gm
set_option linter.unusedVariables false
set_option linter.unusedSimpArgs false
attribute [local go_sem ↓] Go.wp_at_zero Go.wp_at_succ
def IsB (e : Ending) : Prop := ∃ b, e = .returned (.bool b)
theorem new_below9 (w : World) (o : Obj) : Below w.heap.size w (w.drew.alloc o) := (drew_below9 w).alloc (Nat.le_refl _) o
theorem new_below0 (w : World) (o : Obj) : Below w.heap.size w (w.alloc o) := (Below.refl _ _).alloc (Nat.le_refl _) o
theorem new_at0 (w : World) (cs : Array Value) (t : TypeId) : (w.alloc (.cells cs t)).heap[w.heap.size]? = some (.cells cs t (0, 0)) := heap_alloc_new w (.cells cs t)
theorem new_at9 (w : World) (cs : Array Value) (t : TypeId) : (w.drew.alloc (.cells cs t)).heap[w.heap.size]? = some (.cells cs t (0, 0)) := heap_alloc_new w.drew (.cells cs t)
theorem Below.on0 {B : Nat} {w W W' : World} (h : Below B w W) (h2 : Below W.heap.size W W') (hB : B ≤ W.heap.size) : Below B w W' := h.trans (h2.mono hB)
theorem count_one {x : Ex.Ins} {g : Nat → Prop} {vb ve vl : Value} {W : World} {b t : Nat} {m d : Int} (hb : W.heap[b]? = some (.cells #[.int .u8 x.op, .int .i64 x.n, .int .u32 x.al, .int .u32 x.of, .int .u8 x.re, vb, ve, vl] t (0, 0)))
    (h1 : Ex.Code W g x.body vb) (h2 : Ex.Code W g x.els ve) (h3 : Ex.Lies g x.ls.length (Ex.Lab W x.ls) vl) (hs : Ex.SzI 1099511627776 x) :
    Calls Tryz.prog 19 #[.slice (some ⟨b, 0, none⟩) 1 1, .int .i64 m, .int .i64 d] W fun e w' => ∃ n, e = .returned (.int .i64 n) ∧ Below W.heap.size W w' := by
  refine Ex.ct_any [x] (fun k => g k ∨ k = b) _ m d W ?_ (by simp) (by rw [Ex.Sz_cons]; exact ⟨hs, Ex.Sz_nil _⟩)
  refine ⟨_, _, rfl, by simp, by simp, fun _ => ⟨_, _, rfl, .inr rfl, ?_⟩⟩
  rw [Ex.Items_cons]
  exact ⟨⟨_, _, _, Ex.cel8 hb, h1.any fun k _ h => .inl h, h2.any fun k _ h => .inl h, Ex.Labs.any h3 fun k _ h => .inl h⟩, Ex.Items_nil _ _ _ _⟩
set_option maxRecDepth 1000000 in
set_option maxHeartbeats 6400000 in
theorem big_any (M : Mod) (g : Nat → Prop) (v0 v1 v2 v3 v4 v5 v6 v7 : Value) (w : World) (hM : ModL w g M v0 v1 v2 v3 v4 v5 v6 v7) (hs : SzM M) :
    Calls Tryz.prog 9 #[.agg #[v0, v1, v2, v3, v4, v5, v6, v7]] w fun e w' => IsB e ∧ Below w.heap.size w w' := by
  have HM0 := hide hM; have HSz := hide hs
  obtain ⟨h0, h1, h2, h3, h4, h5, h6, h7⟩ := hM
  obtain ⟨sa0, sc0, rfl, -⟩ := h0
  obtain ⟨sa1, sc1, rfl, -⟩ := h1
  obtain ⟨sa2, sc2, rfl, -⟩ := h2
  obtain ⟨sa3, sc3, rfl, -⟩ := h3
  obtain ⟨sa4, sc4, rfl, -⟩ := h4
  obtain ⟨sa5, sc5, rfl, -⟩ := h5
  obtain ⟨sa6, sc6, rfl, -⟩ := h6
  obtain ⟨sa7, sc7, rfl, -⟩ := h7
  clear hs
  by_cases c0 : (M.types.length : Int) > 300
  · skip
    go_enter Tryz.func9, Tryz.ntmps9
    go_wp2
    go_ret
    first | exact ⟨⟨true, rfl⟩, (Below.refl w.heap.size w).alloc (Nat.le_refl _) _⟩ | exact ⟨_, rfl, (Below.refl w.heap.size w).alloc (Nat.le_refl _) _⟩ | exact (Below.refl w.heap.size w).alloc (Nat.le_refl _) _
  by_cases c1 : (M.funcs.length : Int) > 300
  · skip
    go_enter Tryz.func9, Tryz.ntmps9
    go_wp2
    go_ret
    first | exact ⟨⟨true, rfl⟩, (Below.refl w.heap.size w).alloc (Nat.le_refl _) _⟩ | exact ⟨_, rfl, (Below.refl w.heap.size w).alloc (Nat.le_refl _) _⟩ | exact (Below.refl w.heap.size w).alloc (Nat.le_refl _) _
  by_cases c2 : (M.tables.length : Int) > 300
  · skip
    go_enter Tryz.func9, Tryz.ntmps9
    go_wp2
    go_ret
    first | exact ⟨⟨true, rfl⟩, (Below.refl w.heap.size w).alloc (Nat.le_refl _) _⟩ | exact ⟨_, rfl, (Below.refl w.heap.size w).alloc (Nat.le_refl _) _⟩ | exact (Below.refl w.heap.size w).alloc (Nat.le_refl _) _
  by_cases c3 : (M.mems.length : Int) > 300
  · skip
    go_enter Tryz.func9, Tryz.ntmps9
    go_wp2
    go_ret
    first | exact ⟨⟨true, rfl⟩, (Below.refl w.heap.size w).alloc (Nat.le_refl _) _⟩ | exact ⟨_, rfl, (Below.refl w.heap.size w).alloc (Nat.le_refl _) _⟩ | exact (Below.refl w.heap.size w).alloc (Nat.le_refl _) _
  by_cases c4 : (M.globs.length : Int) > 300
  · skip
    go_enter Tryz.func9, Tryz.ntmps9
    go_wp2
    go_ret
    first | exact ⟨⟨true, rfl⟩, (Below.refl w.heap.size w).alloc (Nat.le_refl _) _⟩ | exact ⟨_, rfl, (Below.refl w.heap.size w).alloc (Nat.le_refl _) _⟩ | exact (Below.refl w.heap.size w).alloc (Nat.le_refl _) _
  by_cases c5 : (M.exps.length : Int) > 300
  · skip
    go_enter Tryz.func9, Tryz.ntmps9
    go_wp2
    go_ret
    first | exact ⟨⟨true, rfl⟩, (Below.refl w.heap.size w).alloc (Nat.le_refl _) _⟩ | exact ⟨_, rfl, (Below.refl w.heap.size w).alloc (Nat.le_refl _) _⟩ | exact (Below.refl w.heap.size w).alloc (Nat.le_refl _) _
  by_cases c6 : (M.elems.length : Int) > 300
  · skip
    go_enter Tryz.func9, Tryz.ntmps9
    go_wp2
    go_ret
    first | exact ⟨⟨true, rfl⟩, (Below.refl w.heap.size w).alloc (Nat.le_refl _) _⟩ | exact ⟨_, rfl, (Below.refl w.heap.size w).alloc (Nat.le_refl _) _⟩ | exact (Below.refl w.heap.size w).alloc (Nat.le_refl _) _
  by_cases c7 : (M.datas.length : Int) > 300
  · skip
    go_enter Tryz.func9, Tryz.ntmps9
    go_wp2
    go_ret
    first | exact ⟨⟨true, rfl⟩, (Below.refl w.heap.size w).alloc (Nat.le_refl _) _⟩ | exact ⟨_, rfl, (Below.refl w.heap.size w).alloc (Nat.le_refl _) _⟩ | exact (Below.refl w.heap.size w).alloc (Nat.le_refl _) _
  have HM := hide ((unhide HM0).moved (Mv.below (g' := g) ((Below.refl _ _).alloc (Nat.le_refl _) (.cells #[.slice sa0 M.types.length sc0, .slice sa1 M.funcs.length sc1, .slice sa2 M.tables.length sc2, .slice sa3 M.mems.length sc3, .slice sa4 M.globs.length sc4, .slice sa5 M.exps.length sc5, .slice sa6 M.elems.length sc6, .slice sa7 M.datas.length sc7] 30)) (fun _ _ h => h)) (by simp))
  have HMb := hide (heap_alloc_new w (.cells #[.slice sa0 M.types.length sc0, .slice sa1 M.funcs.length sc1, .slice sa2 M.tables.length sc2, .slice sa3 M.mems.length sc3, .slice sa4 M.globs.length sc4, .slice sa5 M.exps.length sc5, .slice sa6 M.elems.length sc6, .slice sa7 M.datas.length sc7] 30))
  have HBW := hide ((Below.refl w.heap.size w).alloc (Nat.le_refl _) (.cells #[.slice sa0 M.types.length sc0, .slice sa1 M.funcs.length sc1, .slice sa2 M.tables.length sc2, .slice sa3 M.mems.length sc3, .slice sa4 M.globs.length sc4, .slice sa5 M.exps.length sc5, .slice sa6 M.elems.length sc6, .slice sa7 M.datas.length sc7] 30))
  have HS0 := hide (show w.heap.size < (w.alloc (.cells #[.slice sa0 M.types.length sc0, .slice sa1 M.funcs.length sc1, .slice sa2 M.tables.length sc2, .slice sa3 M.mems.length sc3, .slice sa4 M.globs.length sc4, .slice sa5 M.exps.length sc5, .slice sa6 M.elems.length sc6, .slice sa7 M.datas.length sc7] 30)).heap.size by simp)
  clear HM0
  go_enter Tryz.func9, Tryz.ntmps9
  go_wp2_with fail
  clear c0 c1 c2 c3 c4 c5 c6 c7
  generalize w.alloc (.cells #[.slice sa0 M.types.length sc0, .slice sa1 M.funcs.length sc1, .slice sa2 M.tables.length sc2, .slice sa3 M.mems.length sc3, .slice sa4 M.globs.length sc4, .slice sa5 M.exps.length sc5, .slice sa6 M.elems.length sc6, .slice sa7 M.datas.length sc7] 30) = W0 at *
  go_loopw [3, 4] (fun s c wr => ∃ (j : Nat) (k : Int), c = .int .i64 j ∧ s = .int .i64 k ∧ (j : Int) ≤ (M.types.length : Int) ∧ Below W0.heap.size W0 wr) (fun _ c _ => M.types.length - (intOf c).toNat)
  case atStart => exact ⟨0, _, rfl, rfl, by omega, Below.refl _ _⟩
  case round =>
    obtain ⟨j, k, rfl, rfl, hj, hbel⟩ := hrel
    have HBel := hide hbel
    have hnn : (M.types.length : Int) ≤ 1048576 := by have := (unhide HSz).n0; omega
    have hmc : wr.cell? ⟨w.heap.size, 0, none⟩ = some (.slice sa0 M.types.length sc0) := by rw [cell_of_row wr _ 0 _ _ _ ((hbel.block _ (unhide HS0)).trans (unhide HMb))]; rfl
    have hmlt : w.heap.size < wr.heap.size := by have := hbel.size; have := unhide HS0; omega
    by_cases hlt : (j : Int) < (M.types.length : Int)
    · have jl : j < M.types.length := by omega
      have hsw := (unhide HM).l0.moved (Mv.below (g' := g) hbel (fun _ _ h => h)) hbel.size (fun _ _ q => TypC.moved (Mv.below (g' := g) hbel (fun _ _ h => h)) q)
      obtain ⟨sa', cp', es, hcpl, _, hsr⟩ := hsw
      simp only [Value.slice.injEq] at es
      obtain ⟨rfl, _, rfl⟩ := es
      obtain ⟨ba, oa, rfl, hgb, hblt, hits⟩ := hsr (by omega)
      obtain ⟨cs, hcl, hit, hcs⟩ := hits j jl
      have hokx := (unhide HSz).s0 M.types[j] (List.getElem_mem jl)
      generalize M.types[j] = x at *
      obtain ⟨vp, rfl, hp⟩ := hit
      obtain ⟨pa, pc, rfl, -⟩ := hp
      have d0 : wr.cell? ⟨ba, oa + j * 2, none⟩ = some (.slice pa x.ps.length pc) := hcs 0 _ rfl
      skip
      clear hbel hgb hits hcs hcl hokx hsr 
      generalize x.ps.length = ll at *
      by_cases hmn : (5000 : Int) < (ll : Int)
      · have hmn4 : ¬ (ll : Int) ≤ 5000 := by omega
        go_wp2
        go_roundw
        case rel => exact ⟨j + 1, _, by go_num, rfl, by omega, unhide HBel⟩
        case measure => simp [intOf]; omega
      · have hmn4 : (ll : Int) ≤ 5000 := by omega
        go_wp2
        go_roundw
        case rel => exact ⟨j + 1, _, by go_num, rfl, by omega, unhide HBel⟩
        case measure => simp [intOf]; omega
    · have hj2 : (j : Int) = (M.types.length : Int) := by omega
      clear hj hbel
      have HB1 := HBel
      clear HBel
      go_wp2_with fail
      go_loopw [3, 5] (fun s c wr => ∃ (j : Nat) (k : Int), c = .int .i64 j ∧ s = .int .i64 k ∧ (j : Int) ≤ (M.funcs.length : Int) ∧ Below W0.heap.size W0 wr) (fun _ c _ => M.funcs.length - (intOf c).toNat)
      case atStart => exact ⟨0, _, rfl, rfl, by omega, unhide HB1⟩
      case round =>
        obtain ⟨j, k, rfl, rfl, hj, hbel⟩ := hrel
        have HBel := hide hbel
        have hnn : (M.funcs.length : Int) ≤ 1048576 := by have := (unhide HSz).n1; omega
        have hmc : wr.cell? ⟨w.heap.size, 1, none⟩ = some (.slice sa1 M.funcs.length sc1) := by rw [cell_of_row wr _ 1 _ _ _ ((hbel.block _ (unhide HS0)).trans (unhide HMb))]; rfl
        have hmlt : w.heap.size < wr.heap.size := by have := hbel.size; have := unhide HS0; omega
        by_cases hlt : (j : Int) < (M.funcs.length : Int)
        · have jl : j < M.funcs.length := by omega
          have hsw := (unhide HM).l1.moved (Mv.below (g' := g) hbel (fun _ _ h => h)) hbel.size (fun _ _ q => FncC.moved (Mv.below (g' := g) hbel (fun _ _ h => h)) q)
          obtain ⟨sa', cp', es, hcpl, _, hsr⟩ := hsw
          simp only [Value.slice.injEq] at es
          obtain ⟨rfl, _, rfl⟩ := es
          obtain ⟨ba, oa, rfl, hgb, hblt, hits⟩ := hsr (by omega)
          obtain ⟨cs, hcl, hit, hcs⟩ := hits j jl
          have hokx := (unhide HSz).s1 M.funcs[j] (List.getElem_mem jl)
          generalize M.funcs[j] = x at *
          obtain ⟨vp, vq, rfl, hp, hq⟩ := hit
          have HQ := hide hq
          obtain ⟨pa, pc, rfl, -⟩ := hp
          obtain ⟨qa, qc, rfl, -⟩ := hq
          have d1 : wr.cell? ⟨ba, oa + j * 3 + 1, none⟩ = some (.slice pa x.ls.length pc) := hcs 1 _ rfl
          have d2 : wr.cell? ⟨ba, oa + j * 3 + 2, none⟩ = some (.slice qa x.body.length qc) := hcs 2 _ rfl
          have hc : ∀ W, Below wr.heap.size wr W → Calls Tryz.prog 19 #[.slice qa x.body.length qc, .int .i64 3000, .int .i64 0] W fun e w' => ∃ n, e = .returned (.int .i64 n) ∧ Below W.heap.size W w' := fun W hW =>
            Ex.ct_any x.body g _ _ _ W ((unhide HQ).move (Mv.below (g' := g) hW (fun _ _ h => h)).moves) (by have := hokx.2.2.1; omega) (Ex.Sz_mono (by omega) _ hokx.2.2.2)
          have HC := hide hc
          clear hbel hgb hits hcs hcl hokx hsr hc
          generalize x.ls.length = ll at *
          by_cases hmn : (5000 : Int) < (ll : Int)
          · have hmn4 : ¬ (ll : Int) ≤ 5000 := by omega
            go_wp2_with fail
            go_region_held3 (fun w' => w'.cell? ⟨w.heap.size, 1, none⟩ = some (.slice (some ⟨ba, oa, none⟩) M.funcs.length sc1) ∧ w'.cell? ⟨ba, oa + j * 3 + 1, none⟩ = some (.slice pa ll pc) ∧ w'.cell? ⟨ba, oa + j * 3 + 2, none⟩ = some (.slice qa x.body.length qc))
              (first | go_keep | exact ⟨hmc, d1, d2⟩ | exact ⟨(hk2 _ _ hmlt).trans hmc, (hk2 _ _ hblt).trans d1, (hk2 _ _ hblt).trans d2⟩)
              (first | (go_at_call 19; refine (unhide HC _ (drew_below9 wr)).mono ?_; rintro e w3 ⟨k1, rfl, hb3⟩; have HB3 := hide (Below.on (drew_below9 wr) hb3); clear hb3; have hk2 : ∀ b o, b < wr.heap.size → w3.cell? ⟨b, o, none⟩ = wr.cell? ⟨b, o, none⟩ := fun b o hlt => (unhide HB3).cell (p := ⟨b, o, none⟩) hlt))
            all_goals (
              have HBB := hide (Below.on (unhide HBel) (unhide HB3))
              clear hk2 HB3
              go_wp2
              go_roundw
              case rel => exact ⟨j + 1, _, by go_num, rfl, by omega, unhide HBB⟩
              case measure => simp [intOf]; omega)
          · have hmn4 : (ll : Int) ≤ 5000 := by omega
            go_wp2_with fail
            go_region_held3 (fun w' => w'.cell? ⟨w.heap.size, 1, none⟩ = some (.slice (some ⟨ba, oa, none⟩) M.funcs.length sc1) ∧ w'.cell? ⟨ba, oa + j * 3 + 1, none⟩ = some (.slice pa ll pc) ∧ w'.cell? ⟨ba, oa + j * 3 + 2, none⟩ = some (.slice qa x.body.length qc))
              (first | go_keep | exact ⟨hmc, d1, d2⟩ | exact ⟨(hk2 _ _ hmlt).trans hmc, (hk2 _ _ hblt).trans d1, (hk2 _ _ hblt).trans d2⟩)
              (first | (go_at_call 19; refine (unhide HC _ (drew_below9 wr)).mono ?_; rintro e w3 ⟨k1, rfl, hb3⟩; have HB3 := hide (Below.on (drew_below9 wr) hb3); clear hb3; have hk2 : ∀ b o, b < wr.heap.size → w3.cell? ⟨b, o, none⟩ = wr.cell? ⟨b, o, none⟩ := fun b o hlt => (unhide HB3).cell (p := ⟨b, o, none⟩) hlt))
            all_goals (
              have HBB := hide (Below.on (unhide HBel) (unhide HB3))
              clear hk2 HB3
              go_wp2
              go_roundw
              case rel => exact ⟨j + 1, _, by go_num, rfl, by omega, unhide HBB⟩
              case measure => simp [intOf]; omega)
        · have hj2 : (j : Int) = (M.funcs.length : Int) := by omega
          clear hj hbel
          have HB2 := HBel
          clear HBel HB1
          go_wp2_with fail
          go_loopw [3, 6] (fun s c wr => ∃ (j : Nat) (k : Int), c = .int .i64 j ∧ s = .int .i64 k ∧ (j : Int) ≤ (M.exps.length : Int) ∧ Below W0.heap.size W0 wr) (fun _ c _ => M.exps.length - (intOf c).toNat)
          case atStart => exact ⟨0, _, rfl, rfl, by omega, unhide HB2⟩
          case round =>
            obtain ⟨j, k, rfl, rfl, hj, hbel⟩ := hrel
            have HBel := hide hbel
            have hnn : (M.exps.length : Int) ≤ 1048576 := by have := (unhide HSz).n5; omega
            have hmc : wr.cell? ⟨w.heap.size, 5, none⟩ = some (.slice sa5 M.exps.length sc5) := by rw [cell_of_row wr _ 5 _ _ _ ((hbel.block _ (unhide HS0)).trans (unhide HMb))]; rfl
            have hmlt : w.heap.size < wr.heap.size := by have := hbel.size; have := unhide HS0; omega
            by_cases hlt : (j : Int) < (M.exps.length : Int)
            · have jl : j < M.exps.length := by omega
              have hsw := (unhide HM).l5.moved (Mv.below (g' := g) hbel (fun _ _ h => h)) hbel.size (fun _ _ q => ExoC.moved (Mv.below (g' := g) hbel (fun _ _ h => h)) q)
              obtain ⟨sa', cp', es, hcpl, _, hsr⟩ := hsw
              simp only [Value.slice.injEq] at es
              obtain ⟨rfl, _, rfl⟩ := es
              obtain ⟨ba, oa, rfl, hgb, hblt, hits⟩ := hsr (by omega)
              obtain ⟨cs, hcl, hit, hcs⟩ := hits j jl
              have hokx := (unhide HSz).s5 M.exps[j] (List.getElem_mem jl)
              generalize M.exps[j] = x at *
              obtain rfl : cs = [.string x.nm, .int .u8 x.wh, .int .u32 x.ix] := hit
              have d0 : wr.cell? ⟨ba, oa + j * 3, none⟩ = some (.string x.nm) := hcs 0 _ rfl
              skip
              clear hbel hgb hits hcs hcl hokx hsr 
              generalize x.nm.size = ll at *
              by_cases hmn : (5000 : Int) < (ll : Int)
              · have hmn4 : ¬ (ll : Int) ≤ 5000 := by omega
                go_wp2
                go_roundw
                case rel => exact ⟨j + 1, _, by go_num, rfl, by omega, unhide HBel⟩
                case measure => simp [intOf]; omega
              · have hmn4 : (ll : Int) ≤ 5000 := by omega
                go_wp2
                go_roundw
                case rel => exact ⟨j + 1, _, by go_num, rfl, by omega, unhide HBel⟩
                case measure => simp [intOf]; omega
            · have hj2 : (j : Int) = (M.exps.length : Int) := by omega
              clear hj hbel
              have HB3 := HBel
              clear HBel HB2
              go_wp2_with fail
              go_loopw [3, 7] (fun s c wr => ∃ (j : Nat) (k : Int), c = .int .i64 j ∧ s = .int .i64 k ∧ (j : Int) ≤ (M.elems.length : Int) ∧ Below W0.heap.size W0 wr) (fun _ c _ => M.elems.length - (intOf c).toNat)
              case atStart => exact ⟨0, _, rfl, rfl, by omega, unhide HB3⟩
              case round =>
                obtain ⟨j, k, rfl, rfl, hj, hbel⟩ := hrel
                have HBel := hide hbel
                have hnn : (M.elems.length : Int) ≤ 1048576 := by have := (unhide HSz).n6; omega
                have hmc : wr.cell? ⟨w.heap.size, 6, none⟩ = some (.slice sa6 M.elems.length sc6) := by rw [cell_of_row wr _ 6 _ _ _ ((hbel.block _ (unhide HS0)).trans (unhide HMb))]; rfl
                have hmlt : w.heap.size < wr.heap.size := by have := hbel.size; have := unhide HS0; omega
                by_cases hlt : (j : Int) < (M.elems.length : Int)
                · have jl : j < M.elems.length := by omega
                  have hsw := (unhide HM).l6.moved (Mv.below (g' := g) hbel (fun _ _ h => h)) hbel.size (fun _ _ q => ElmC.moved (Mv.below (g' := g) hbel (fun _ _ h => h)) q)
                  obtain ⟨sa', cp', es, hcpl, _, hsr⟩ := hsw
                  simp only [Value.slice.injEq] at es
                  obtain ⟨rfl, _, rfl⟩ := es
                  obtain ⟨ba, oa, rfl, hgb, hblt, hits⟩ := hsr (by omega)
                  obtain ⟨cs, hcl, hit, hcs⟩ := hits j jl
                  have hokx := (unhide HSz).s6 M.elems[j] (List.getElem_mem jl)
                  generalize M.elems[j] = x at *
                  obtain ⟨ds, vf, rfl, ⟨vb, ve, vl, rfl, h1, h2, h3⟩, hf⟩ := hit
                  have H1 := hide h1; have H2 := hide h2; have H3 := hide h3
                  obtain ⟨iba, ibc, rfl, -⟩ := h1
                  obtain ⟨iea, iec, rfl, -⟩ := h2
                  obtain ⟨ila, ilc, rfl, -⟩ := h3
                  obtain ⟨fa, fc, rfl, -⟩ := hf
                  have d1 : wr.cell? ⟨ba, oa + j * 10 + 1, none⟩ = some (.int .u8 x.off.op) := hcs 1 _ rfl
                  have d2 : wr.cell? ⟨ba, oa + j * 10 + 2, none⟩ = some (.int .i64 x.off.n) := hcs 2 _ rfl
                  have d3 : wr.cell? ⟨ba, oa + j * 10 + 3, none⟩ = some (.int .u32 x.off.al) := hcs 3 _ rfl
                  have d4 : wr.cell? ⟨ba, oa + j * 10 + 4, none⟩ = some (.int .u32 x.off.of) := hcs 4 _ rfl
                  have d5 : wr.cell? ⟨ba, oa + j * 10 + 5, none⟩ = some (.int .u8 x.off.re) := hcs 5 _ rfl
                  have d6 : wr.cell? ⟨ba, oa + j * 10 + 6, none⟩ = some (.slice iba x.off.body.length ibc) := hcs 6 _ rfl
                  have d7 : wr.cell? ⟨ba, oa + j * 10 + 7, none⟩ = some (.slice iea x.off.els.length iec) := hcs 7 _ rfl
                  have d8 : wr.cell? ⟨ba, oa + j * 10 + 8, none⟩ = some (.slice ila x.off.ls.length ilc) := hcs 8 _ rfl
                  have d9 : wr.cell? ⟨ba, oa + j * 10 + 9, none⟩ = some (.slice fa x.fs.length fc) := hcs 9 _ rfl
                  have hc : ∀ W, Below wr.heap.size wr W → ∀ b t, W.heap[b]? = some (.cells #[.int .u8 x.off.op, .int .i64 x.off.n, .int .u32 x.off.al, .int .u32 x.off.of, .int .u8 x.off.re, .slice iba x.off.body.length ibc, .slice iea x.off.els.length iec, .slice ila x.off.ls.length ilc] t (0, 0)) → Calls Tryz.prog 19 #[.slice (some ⟨b, 0, none⟩) 1 1, .int .i64 3000, .int .i64 0] W fun e w' => ∃ n, e = .returned (.int .i64 n) ∧ Below W.heap.size W w' := fun W hW b t hb =>
                    count_one hb ((unhide H1).move (Mv.below (g' := g) hW (fun _ _ h => h)).moves) ((unhide H2).move (Mv.below (g' := g) hW (fun _ _ h => h)).moves) (Ex.Labs.move (Mv.below (g' := g) hW (fun _ _ h => h)).moves (unhide H3)) (szI_mono hokx)
                  have HC := hide hc
                  clear hbel hgb hits hcs hcl hokx hsr hc
                  generalize x.fs.length = ll at *
                  by_cases hmn : (5000 : Int) < (ll : Int)
                  · have hmn4 : ¬ (ll : Int) ≤ 5000 := by omega
                    go_wp2_with fail
                    go_region_held3 (fun w' => w'.cell? ⟨w.heap.size, 6, none⟩ = some (.slice (some ⟨ba, oa, none⟩) M.elems.length sc6) ∧ w'.cell? ⟨ba, oa + j * 10 + 1, none⟩ = some (.int .u8 x.off.op) ∧ w'.cell? ⟨ba, oa + j * 10 + 2, none⟩ = some (.int .i64 x.off.n) ∧ w'.cell? ⟨ba, oa + j * 10 + 3, none⟩ = some (.int .u32 x.off.al) ∧ w'.cell? ⟨ba, oa + j * 10 + 4, none⟩ = some (.int .u32 x.off.of) ∧ w'.cell? ⟨ba, oa + j * 10 + 5, none⟩ = some (.int .u8 x.off.re) ∧ w'.cell? ⟨ba, oa + j * 10 + 6, none⟩ = some (.slice iba x.off.body.length ibc) ∧ w'.cell? ⟨ba, oa + j * 10 + 7, none⟩ = some (.slice iea x.off.els.length iec) ∧ w'.cell? ⟨ba, oa + j * 10 + 8, none⟩ = some (.slice ila x.off.ls.length ilc) ∧ w'.cell? ⟨ba, oa + j * 10 + 9, none⟩ = some (.slice fa ll fc))
                      (first | go_keep | exact ⟨hmc, d1, d2, d3, d4, d5, d6, d7, d8, d9⟩ | exact ⟨(hk2 _ _ hmlt).trans hmc, (hk2 _ _ hblt).trans d1, (hk2 _ _ hblt).trans d2, (hk2 _ _ hblt).trans d3, (hk2 _ _ hblt).trans d4, (hk2 _ _ hblt).trans d5, (hk2 _ _ hblt).trans d6, (hk2 _ _ hblt).trans d7, (hk2 _ _ hblt).trans d8, (hk2 _ _ hblt).trans d9⟩)
                      (first | (go_at_call 19; refine (unhide HC _ (new_below9 wr _) _ _ (new_at9 wr _ _)).mono ?_; rintro e w3 ⟨k1, rfl, hb3⟩; have HB3 := hide (Below.on (new_below9 wr _) hb3); clear hb3; have hk2 : ∀ b o, b < wr.heap.size → w3.cell? ⟨b, o, none⟩ = wr.cell? ⟨b, o, none⟩ := fun b o hlt => (unhide HB3).cell (p := ⟨b, o, none⟩) hlt))
                    all_goals (
                      have HBB := hide (Below.on (unhide HBel) (unhide HB3))
                      clear hk2 HB3
                      go_wp2
                      go_roundw
                      case rel => exact ⟨j + 1, _, by go_num, rfl, by omega, unhide HBB⟩
                      case measure => simp [intOf]; omega)
                  · have hmn4 : (ll : Int) ≤ 5000 := by omega
                    go_wp2_with fail
                    go_region_held3 (fun w' => w'.cell? ⟨w.heap.size, 6, none⟩ = some (.slice (some ⟨ba, oa, none⟩) M.elems.length sc6) ∧ w'.cell? ⟨ba, oa + j * 10 + 1, none⟩ = some (.int .u8 x.off.op) ∧ w'.cell? ⟨ba, oa + j * 10 + 2, none⟩ = some (.int .i64 x.off.n) ∧ w'.cell? ⟨ba, oa + j * 10 + 3, none⟩ = some (.int .u32 x.off.al) ∧ w'.cell? ⟨ba, oa + j * 10 + 4, none⟩ = some (.int .u32 x.off.of) ∧ w'.cell? ⟨ba, oa + j * 10 + 5, none⟩ = some (.int .u8 x.off.re) ∧ w'.cell? ⟨ba, oa + j * 10 + 6, none⟩ = some (.slice iba x.off.body.length ibc) ∧ w'.cell? ⟨ba, oa + j * 10 + 7, none⟩ = some (.slice iea x.off.els.length iec) ∧ w'.cell? ⟨ba, oa + j * 10 + 8, none⟩ = some (.slice ila x.off.ls.length ilc) ∧ w'.cell? ⟨ba, oa + j * 10 + 9, none⟩ = some (.slice fa ll fc))
                      (first | go_keep | exact ⟨hmc, d1, d2, d3, d4, d5, d6, d7, d8, d9⟩ | exact ⟨(hk2 _ _ hmlt).trans hmc, (hk2 _ _ hblt).trans d1, (hk2 _ _ hblt).trans d2, (hk2 _ _ hblt).trans d3, (hk2 _ _ hblt).trans d4, (hk2 _ _ hblt).trans d5, (hk2 _ _ hblt).trans d6, (hk2 _ _ hblt).trans d7, (hk2 _ _ hblt).trans d8, (hk2 _ _ hblt).trans d9⟩)
                      (first | (go_at_call 19; refine (unhide HC _ (new_below9 wr _) _ _ (new_at9 wr _ _)).mono ?_; rintro e w3 ⟨k1, rfl, hb3⟩; have HB3 := hide (Below.on (new_below9 wr _) hb3); clear hb3; have hk2 : ∀ b o, b < wr.heap.size → w3.cell? ⟨b, o, none⟩ = wr.cell? ⟨b, o, none⟩ := fun b o hlt => (unhide HB3).cell (p := ⟨b, o, none⟩) hlt))
                    all_goals (
                      have HBB := hide (Below.on (unhide HBel) (unhide HB3))
                      clear hk2 HB3
                      go_wp2
                      go_roundw
                      case rel => exact ⟨j + 1, _, by go_num, rfl, by omega, unhide HBB⟩
                      case measure => simp [intOf]; omega)
                · have hj2 : (j : Int) = (M.elems.length : Int) := by omega
                  clear hj hbel
                  have HB4 := HBel
                  clear HBel HB3
                  go_wp2_with fail
                  go_loopw [3, 8] (fun s c wr => ∃ (j : Nat) (k : Int), c = .int .i64 j ∧ s = .int .i64 k ∧ (j : Int) ≤ (M.datas.length : Int) ∧ Below W0.heap.size W0 wr) (fun _ c _ => M.datas.length - (intOf c).toNat)
                  case atStart => exact ⟨0, _, rfl, rfl, by omega, unhide HB4⟩
                  case round =>
                    obtain ⟨j, k, rfl, rfl, hj, hbel⟩ := hrel
                    have HBel := hide hbel
                    have hnn : (M.datas.length : Int) ≤ 1048576 := by have := (unhide HSz).n7; omega
                    have hmc : wr.cell? ⟨w.heap.size, 7, none⟩ = some (.slice sa7 M.datas.length sc7) := by rw [cell_of_row wr _ 7 _ _ _ ((hbel.block _ (unhide HS0)).trans (unhide HMb))]; rfl
                    have hmlt : w.heap.size < wr.heap.size := by have := hbel.size; have := unhide HS0; omega
                    by_cases hlt : (j : Int) < (M.datas.length : Int)
                    · have jl : j < M.datas.length := by omega
                      have hsw := (unhide HM).l7.moved (Mv.below (g' := g) hbel (fun _ _ h => h)) hbel.size (fun _ _ q => DatC.moved (Mv.below (g' := g) hbel (fun _ _ h => h)) q)
                      obtain ⟨sa', cp', es, hcpl, _, hsr⟩ := hsw
                      simp only [Value.slice.injEq] at es
                      obtain ⟨rfl, _, rfl⟩ := es
                      obtain ⟨ba, oa, rfl, hgb, hblt, hits⟩ := hsr (by omega)
                      obtain ⟨cs, hcl, hit, hcs⟩ := hits j jl
                      have hokx := (unhide HSz).s7 M.datas[j] (List.getElem_mem jl)
                      generalize M.datas[j] = x at *
                      obtain ⟨ds, vf, rfl, ⟨vb, ve, vl, rfl, h1, h2, h3⟩, hf⟩ := hit
                      have H1 := hide h1; have H2 := hide h2; have H3 := hide h3
                      obtain ⟨iba, ibc, rfl, -⟩ := h1
                      obtain ⟨iea, iec, rfl, -⟩ := h2
                      obtain ⟨ila, ilc, rfl, -⟩ := h3
                      obtain ⟨fa, fc, rfl, -⟩ := hf
                      have d1 : wr.cell? ⟨ba, oa + j * 10 + 1, none⟩ = some (.int .u8 x.off.op) := hcs 1 _ rfl
                      have d2 : wr.cell? ⟨ba, oa + j * 10 + 2, none⟩ = some (.int .i64 x.off.n) := hcs 2 _ rfl
                      have d3 : wr.cell? ⟨ba, oa + j * 10 + 3, none⟩ = some (.int .u32 x.off.al) := hcs 3 _ rfl
                      have d4 : wr.cell? ⟨ba, oa + j * 10 + 4, none⟩ = some (.int .u32 x.off.of) := hcs 4 _ rfl
                      have d5 : wr.cell? ⟨ba, oa + j * 10 + 5, none⟩ = some (.int .u8 x.off.re) := hcs 5 _ rfl
                      have d6 : wr.cell? ⟨ba, oa + j * 10 + 6, none⟩ = some (.slice iba x.off.body.length ibc) := hcs 6 _ rfl
                      have d7 : wr.cell? ⟨ba, oa + j * 10 + 7, none⟩ = some (.slice iea x.off.els.length iec) := hcs 7 _ rfl
                      have d8 : wr.cell? ⟨ba, oa + j * 10 + 8, none⟩ = some (.slice ila x.off.ls.length ilc) := hcs 8 _ rfl
                      have d9 : wr.cell? ⟨ba, oa + j * 10 + 9, none⟩ = some (.slice fa x.bs.length fc) := hcs 9 _ rfl
                      have hc : ∀ W, Below wr.heap.size wr W → ∀ b t, W.heap[b]? = some (.cells #[.int .u8 x.off.op, .int .i64 x.off.n, .int .u32 x.off.al, .int .u32 x.off.of, .int .u8 x.off.re, .slice iba x.off.body.length ibc, .slice iea x.off.els.length iec, .slice ila x.off.ls.length ilc] t (0, 0)) → Calls Tryz.prog 19 #[.slice (some ⟨b, 0, none⟩) 1 1, .int .i64 3000, .int .i64 0] W fun e w' => ∃ n, e = .returned (.int .i64 n) ∧ Below W.heap.size W w' := fun W hW b t hb =>
                        count_one hb ((unhide H1).move (Mv.below (g' := g) hW (fun _ _ h => h)).moves) ((unhide H2).move (Mv.below (g' := g) hW (fun _ _ h => h)).moves) (Ex.Labs.move (Mv.below (g' := g) hW (fun _ _ h => h)).moves (unhide H3)) (szI_mono hokx)
                      have HC := hide hc
                      clear hbel hgb hits hcs hcl hokx hsr hc
                      generalize x.bs.length = ll at *
                      by_cases hmn : (5000 : Int) < (ll : Int)
                      · have hmn4 : ¬ (ll : Int) ≤ 5000 := by omega
                        go_wp2_with fail
                        go_region_held3 (fun w' => w'.cell? ⟨w.heap.size, 7, none⟩ = some (.slice (some ⟨ba, oa, none⟩) M.datas.length sc7) ∧ w'.cell? ⟨ba, oa + j * 10 + 1, none⟩ = some (.int .u8 x.off.op) ∧ w'.cell? ⟨ba, oa + j * 10 + 2, none⟩ = some (.int .i64 x.off.n) ∧ w'.cell? ⟨ba, oa + j * 10 + 3, none⟩ = some (.int .u32 x.off.al) ∧ w'.cell? ⟨ba, oa + j * 10 + 4, none⟩ = some (.int .u32 x.off.of) ∧ w'.cell? ⟨ba, oa + j * 10 + 5, none⟩ = some (.int .u8 x.off.re) ∧ w'.cell? ⟨ba, oa + j * 10 + 6, none⟩ = some (.slice iba x.off.body.length ibc) ∧ w'.cell? ⟨ba, oa + j * 10 + 7, none⟩ = some (.slice iea x.off.els.length iec) ∧ w'.cell? ⟨ba, oa + j * 10 + 8, none⟩ = some (.slice ila x.off.ls.length ilc) ∧ w'.cell? ⟨ba, oa + j * 10 + 9, none⟩ = some (.slice fa ll fc))
                          (first | go_keep | exact ⟨hmc, d1, d2, d3, d4, d5, d6, d7, d8, d9⟩ | exact ⟨(hk2 _ _ hmlt).trans hmc, (hk2 _ _ hblt).trans d1, (hk2 _ _ hblt).trans d2, (hk2 _ _ hblt).trans d3, (hk2 _ _ hblt).trans d4, (hk2 _ _ hblt).trans d5, (hk2 _ _ hblt).trans d6, (hk2 _ _ hblt).trans d7, (hk2 _ _ hblt).trans d8, (hk2 _ _ hblt).trans d9⟩)
                          (first | (go_at_call 19; refine (unhide HC _ (new_below9 wr _) _ _ (new_at9 wr _ _)).mono ?_; rintro e w3 ⟨k1, rfl, hb3⟩; have HB3 := hide (Below.on (new_below9 wr _) hb3); clear hb3; have hk2 : ∀ b o, b < wr.heap.size → w3.cell? ⟨b, o, none⟩ = wr.cell? ⟨b, o, none⟩ := fun b o hlt => (unhide HB3).cell (p := ⟨b, o, none⟩) hlt))
                        all_goals (
                          have HBB := hide (Below.on (unhide HBel) (unhide HB3))
                          clear hk2 HB3
                          go_wp2
                          go_roundw
                          case rel => exact ⟨j + 1, _, by go_num, rfl, by omega, unhide HBB⟩
                          case measure => simp [intOf]; omega)
                      · have hmn4 : (ll : Int) ≤ 5000 := by omega
                        go_wp2_with fail
                        go_region_held3 (fun w' => w'.cell? ⟨w.heap.size, 7, none⟩ = some (.slice (some ⟨ba, oa, none⟩) M.datas.length sc7) ∧ w'.cell? ⟨ba, oa + j * 10 + 1, none⟩ = some (.int .u8 x.off.op) ∧ w'.cell? ⟨ba, oa + j * 10 + 2, none⟩ = some (.int .i64 x.off.n) ∧ w'.cell? ⟨ba, oa + j * 10 + 3, none⟩ = some (.int .u32 x.off.al) ∧ w'.cell? ⟨ba, oa + j * 10 + 4, none⟩ = some (.int .u32 x.off.of) ∧ w'.cell? ⟨ba, oa + j * 10 + 5, none⟩ = some (.int .u8 x.off.re) ∧ w'.cell? ⟨ba, oa + j * 10 + 6, none⟩ = some (.slice iba x.off.body.length ibc) ∧ w'.cell? ⟨ba, oa + j * 10 + 7, none⟩ = some (.slice iea x.off.els.length iec) ∧ w'.cell? ⟨ba, oa + j * 10 + 8, none⟩ = some (.slice ila x.off.ls.length ilc) ∧ w'.cell? ⟨ba, oa + j * 10 + 9, none⟩ = some (.slice fa ll fc))
                          (first | go_keep | exact ⟨hmc, d1, d2, d3, d4, d5, d6, d7, d8, d9⟩ | exact ⟨(hk2 _ _ hmlt).trans hmc, (hk2 _ _ hblt).trans d1, (hk2 _ _ hblt).trans d2, (hk2 _ _ hblt).trans d3, (hk2 _ _ hblt).trans d4, (hk2 _ _ hblt).trans d5, (hk2 _ _ hblt).trans d6, (hk2 _ _ hblt).trans d7, (hk2 _ _ hblt).trans d8, (hk2 _ _ hblt).trans d9⟩)
                          (first | (go_at_call 19; refine (unhide HC _ (new_below9 wr _) _ _ (new_at9 wr _ _)).mono ?_; rintro e w3 ⟨k1, rfl, hb3⟩; have HB3 := hide (Below.on (new_below9 wr _) hb3); clear hb3; have hk2 : ∀ b o, b < wr.heap.size → w3.cell? ⟨b, o, none⟩ = wr.cell? ⟨b, o, none⟩ := fun b o hlt => (unhide HB3).cell (p := ⟨b, o, none⟩) hlt))
                        all_goals (
                          have HBB := hide (Below.on (unhide HBel) (unhide HB3))
                          clear hk2 HB3
                          go_wp2
                          go_roundw
                          case rel => exact ⟨j + 1, _, by go_num, rfl, by omega, unhide HBB⟩
                          case measure => simp [intOf]; omega)
                    · have hj2 : (j : Int) = (M.datas.length : Int) := by omega
                      clear hj hbel
                      have HB5 := HBel
                      clear HBel HB4
                      go_wp2_with fail
                      go_loopw [3, 9] (fun s c wr => ∃ (j : Nat) (k : Int), c = .int .i64 j ∧ s = .int .i64 k ∧ (j : Int) ≤ (M.globs.length : Int) ∧ Below W0.heap.size W0 wr) (fun _ c _ => M.globs.length - (intOf c).toNat)
                      case atStart => exact ⟨0, _, rfl, rfl, by omega, unhide HB5⟩
                      case round =>
                        obtain ⟨j, k, rfl, rfl, hj, hbel⟩ := hrel
                        have HBel := hide hbel
                        have hnn : (M.globs.length : Int) ≤ 1048576 := by have := (unhide HSz).n4; omega
                        have hmc : wr.cell? ⟨w.heap.size, 4, none⟩ = some (.slice sa4 M.globs.length sc4) := by rw [cell_of_row wr _ 4 _ _ _ ((hbel.block _ (unhide HS0)).trans (unhide HMb))]; rfl
                        have hmlt : w.heap.size < wr.heap.size := by have := hbel.size; have := unhide HS0; omega
                        by_cases hlt : (j : Int) < (M.globs.length : Int)
                        · have jl : j < M.globs.length := by omega
                          have hsw := (unhide HM).l4.moved (Mv.below (g' := g) hbel (fun _ _ h => h)) hbel.size (fun _ _ q => GloC.moved (Mv.below (g' := g) hbel (fun _ _ h => h)) q)
                          obtain ⟨sa', cp', es, hcpl, _, hsr⟩ := hsw
                          simp only [Value.slice.injEq] at es
                          obtain ⟨rfl, _, rfl⟩ := es
                          obtain ⟨ba, oa, rfl, hgb, hblt, hits⟩ := hsr (by omega)
                          obtain ⟨cs, hcl, hit, hcs⟩ := hits j jl
                          have hokx := (unhide HSz).s4 M.globs[j] (List.getElem_mem jl)
                          generalize M.globs[j] = x at *
                          obtain ⟨ds, rfl, vb, ve, vl, rfl, h1, h2, h3⟩ := hit
                          have H1 := hide h1; have H2 := hide h2; have H3 := hide h3
                          obtain ⟨iba, ibc, rfl, -⟩ := h1
                          obtain ⟨iea, iec, rfl, -⟩ := h2
                          obtain ⟨ila, ilc, rfl, -⟩ := h3
                          have d2 : wr.cell? ⟨ba, oa + j * 10 + 2, none⟩ = some (.int .u8 x.ini.op) := hcs 2 _ rfl
                          have d3 : wr.cell? ⟨ba, oa + j * 10 + 3, none⟩ = some (.int .i64 x.ini.n) := hcs 3 _ rfl
                          have d4 : wr.cell? ⟨ba, oa + j * 10 + 4, none⟩ = some (.int .u32 x.ini.al) := hcs 4 _ rfl
                          have d5 : wr.cell? ⟨ba, oa + j * 10 + 5, none⟩ = some (.int .u32 x.ini.of) := hcs 5 _ rfl
                          have d6 : wr.cell? ⟨ba, oa + j * 10 + 6, none⟩ = some (.int .u8 x.ini.re) := hcs 6 _ rfl
                          have d7 : wr.cell? ⟨ba, oa + j * 10 + 7, none⟩ = some (.slice iba x.ini.body.length ibc) := hcs 7 _ rfl
                          have d8 : wr.cell? ⟨ba, oa + j * 10 + 8, none⟩ = some (.slice iea x.ini.els.length iec) := hcs 8 _ rfl
                          have d9 : wr.cell? ⟨ba, oa + j * 10 + 9, none⟩ = some (.slice ila x.ini.ls.length ilc) := hcs 9 _ rfl
                          have hc : ∀ W, Below wr.heap.size wr W → ∀ b t, W.heap[b]? = some (.cells #[.int .u8 x.ini.op, .int .i64 x.ini.n, .int .u32 x.ini.al, .int .u32 x.ini.of, .int .u8 x.ini.re, .slice iba x.ini.body.length ibc, .slice iea x.ini.els.length iec, .slice ila x.ini.ls.length ilc] t (0, 0)) → Calls Tryz.prog 19 #[.slice (some ⟨b, 0, none⟩) 1 1, .int .i64 3000, .int .i64 0] W fun e w' => ∃ n, e = .returned (.int .i64 n) ∧ Below W.heap.size W w' := fun W hW b t hb =>
                            count_one hb ((unhide H1).move (Mv.below (g' := g) hW (fun _ _ h => h)).moves) ((unhide H2).move (Mv.below (g' := g) hW (fun _ _ h => h)).moves) (Ex.Labs.move (Mv.below (g' := g) hW (fun _ _ h => h)).moves (unhide H3)) (szI_mono hokx)
                          have HC := hide hc
                          clear hbel hgb hits hcs hcl hokx hsr hc
                          go_wp2_with (go_at_call 19; refine (unhide HC _ (new_below0 wr _) _ _ (new_at0 wr _ _)).mono ?_; rintro e w3 ⟨k1, rfl, hb3⟩; have HB3 := hide (Below.on (new_below0 wr _) hb3); clear hb3; have hk2 : ∀ b o, b < wr.heap.size → w3.cell? ⟨b, o, none⟩ = wr.cell? ⟨b, o, none⟩ := fun b o hlt => (unhide HB3).cell (p := ⟨b, o, none⟩) hlt)
                          have HBB := hide (Below.on (unhide HBel) (unhide HB3))
                          clear hk2 HB3
                          go_wp2
                          go_roundw
                          case rel => exact ⟨j + 1, _, by go_num, rfl, by omega, unhide HBB⟩
                          case measure => simp [intOf]; omega
                        · have hj2 : (j : Int) = (M.globs.length : Int) := by omega
                          clear hj hbel
                          have HB6 := HBel
                          clear HBel HB5
                          by_cases hgt : (k : Int) > 1000
                          · go_wp2
                            go_ret
                            first | exact Below.on0 (unhide HBW) (unhide HB6) (unhide HBW).size | exact ⟨⟨_, rfl⟩, Below.on0 (unhide HBW) (unhide HB6) (unhide HBW).size⟩ | exact ⟨_, rfl, Below.on0 (unhide HBW) (unhide HB6) (unhide HBW).size⟩
                          · go_wp2
                            go_ret
                            first | exact Below.on0 (unhide HBW) (unhide HB6) (unhide HBW).size | exact ⟨⟨_, rfl⟩, Below.on0 (unhide HBW) (unhide HB6) (unhide HBW).size⟩ | exact ⟨_, rfl, Below.on0 (unhide HBW) (unhide HB6) (unhide HBW).size⟩
end Gm
end Go.Proofs.YtcpknafaocdjdaaGreatDoor

/- inst: item, typeOf; the type of a function as the reference gives it. -/
namespace Go.Proofs.YtcpknafaocdjdaaGreatDoor
open Go.RowKit
namespace Gm
set_option linter.unusedVariables false
set_option linter.unusedSimpArgs false
open Ex (Lies)

def ty? (M : Mod) (f : Int) : Option Typ := if f < 0 then none else (M.funcs[f.toNat]?).bind fun fn => M.types[fn.ty.toNat]?
theorem ty_neg {M : Mod} {f : Int} (h : f < 0) : ty? M f = none := by unfold ty?; rw [if_pos h]
theorem ty_big {M : Mod} {f : Int} (h : (M.funcs.length : Int) ≤ f) : ty? M f = none := by
  unfold ty?; rw [if_neg (by omega), List.getElem?_eq_none (by omega)]; rfl
theorem ty_at {M : Mod} {j : Nat} (h : j < M.funcs.length) : ty? M j = M.types[(M.funcs[j]).ty.toNat]? := by
  unfold ty?; rw [if_neg (by omega), Int.toNat_natCast, List.getElem?_eq_getElem h]; rfl

/-- an item of a list, its cells -/
theorem LL.at {α : Type} {It : World → (Nat → Prop) → α → List Value → Prop} {c : Nat} {w : World} {g : Nat → Prop} {l : List α} {v : Value} (h : LL It c w g l v) {j : Nat} (hj : j < l.length) :
    ∃ b o cp, v = .slice (some ⟨b, o, none⟩) l.length cp ∧ l.length ≤ cp ∧ b < w.heap.size ∧ g b ∧ ∃ cs, cs.length = c ∧ It w g l[j] cs ∧ ∀ k u, cs[k]? = some u → w.cell? ⟨b, o + j * c + k, none⟩ = some u := by
  obtain ⟨a, cp, rfl, hc, _, hr⟩ := h
  obtain ⟨b, o, rfl, hg, hb, hi⟩ := hr (by omega)
  exact ⟨b, o, cp, rfl, hc, hb, hg, hi j hj⟩
theorem LL.sl {α : Type} {It : World → (Nat → Prop) → α → List Value → Prop} {c : Nat} {w : World} {g : Nat → Prop} {l : List α} {v : Value} (h : LL It c w g l v) : ∃ a cp, v = .slice a l.length cp := by
  obtain ⟨a, cp, rfl, _⟩ := h; exact ⟨a, cp, rfl⟩

def TyYes (fn : Nat) (ag : Value) (w : World) (g : Nat → Prop) (f : Int) (t : Typ) : Prop :=
  Calls Tryz.prog fn #[ag, .int .i64 f] w fun e w' => ∃ pa pc, e = .returned (.tuple #[.agg #[.slice pa t.ps.length pc, .int .u8 t.re], .bool true]) ∧ Lies g t.ps.length (Byts w t.ps) (.slice pa t.ps.length pc) ∧ Below w.heap.size w w'
def TyNo (fn : Nat) (ag : Value) (w : World) (f : Int) : Prop :=
  Calls Tryz.prog fn #[ag, .int .i64 f] w fun e w' => e = .returned (.tuple #[.agg #[.slice none 0 0, .int .u8 0], .bool false]) ∧ Below w.heap.size w w'

theorem res2 {w w1 : World} {m : Obj} {x0 x1 : Value} {t : TypeId} (hb : Below ((w.alloc m).alloc (.cells #[x0, x1] t)).heap.size ((w.alloc m).alloc (.cells #[x0, x1] t)) w1) :
    w1.heap[w.heap.size + 1]? = some (.cells #[x0, x1] t (0, 0)) ∧ w.heap.size + 1 < w1.heap.size ∧ Below w.heap.size w w1 ∧ (∀ i, i < w.heap.size + 1 → w1.heap[i]? = (w.alloc m).heap[i]?) := by
  have e1 : ((w.alloc m).alloc (.cells #[x0, x1] t)).heap.size = w.heap.size + 2 := by simp
  have e2 : (w.alloc m).heap.size = w.heap.size + 1 := by simp
  have h1 : Below w.heap.size w ((w.alloc m).alloc (.cells #[x0, x1] t)) := ((Below.refl _ _).alloc (Nat.le_refl _) _).alloc (by simp) _
  have hn := heap_alloc_new (w.alloc m) (.cells #[x0, x1] t)
  rw [e2] at hn
  refine ⟨(hb.block _ (by omega)).trans hn, by have := hb.size; omega, h1.trans (hb.mono (by omega)), fun i hi => (hb.block i (by omega)).trans (Below.heap_alloc _ _ _ (by omega))⟩
theorem cel2 {w : World} {B : Nat} {t : TypeId} {x0 x1 : Value} (h : w.heap[B]? = some (.cells #[x0, x1] t (0, 0))) : w.cell? ⟨B, 0, none⟩ = some x0 ∧ w.cell? ⟨B, 1, none⟩ = some x1 := by
  refine ⟨?_, ?_⟩ <;> (rw [cell_of_row w B _ _ _ _ h]; rfl)

theorem set2 {w : World} {B : Nat} {t : TypeId} {x0 x1 : Value} (h : w.heap[B]? = some (.cells #[x0, x1] t (0, 0))) (y0 y1 : Value) : ((w.setCell ⟨B, 0, none⟩ y0).setCell ⟨B, 1, none⟩ y1).heap[B]? = some (.cells #[y0, y1] t (0, 0)) := by
  have h0 : (w.setCell ⟨B, 0, none⟩ y0).heap[B]? = some (.cells #[y0, x1] t (0, 0)) := (heap_setCell_same _ B 0 _ _ y0 h).trans rfl
  exact (heap_setCell_same _ B 1 _ _ y1 h0).trans rfl
theorem fin2 {w w1 : World} {S B : Nat} {t : TypeId} {x0 x1 : Value} (hr : w1.heap[B]? = some (.cells #[x0, x1] t (0, 0))) (hb : Below S w w1) (hS : S ≤ B) (y0 y1 : Value) :
    ((w1.setCell ⟨B, 0, none⟩ y0).setCell ⟨B, 1, none⟩ y1).cell? ⟨B, 0, none⟩ = some y0 ∧ ((w1.setCell ⟨B, 0, none⟩ y0).setCell ⟨B, 1, none⟩ y1).cell? ⟨B, 1, none⟩ = some y1 ∧ Below S w ((w1.setCell ⟨B, 0, none⟩ y0).setCell ⟨B, 1, none⟩ y1) := by
  obtain ⟨q0, q1⟩ := cel2 (set2 hr y0 y1)
  exact ⟨q0, q1, (hb.setCell (p := ⟨B, 0, none⟩) hS y0).setCell (p := ⟨B, 1, none⟩) hS y1⟩
theorem fin2a {w w1 : World} {S B : Nat} {t : TypeId} {x0 x1 : Value} (hr : w1.heap[B]? = some (.cells #[x0, x1] t (0, 0))) (hb : Below S w w1) (hS : S ≤ B) (y0 y1 : Value) (o : Obj) :
    (((w1.setCell ⟨B, 0, none⟩ y0).setCell ⟨B, 1, none⟩ y1).alloc o).cell? ⟨B, 0, none⟩ = some y0 ∧ (((w1.setCell ⟨B, 0, none⟩ y0).setCell ⟨B, 1, none⟩ y1).alloc o).cell? ⟨B, 1, none⟩ = some y1 ∧ Below S w (((w1.setCell ⟨B, 0, none⟩ y0).setCell ⟨B, 1, none⟩ y1).alloc o) := by
  obtain ⟨q0, q1, q2⟩ := fin2 hr hb hS y0 y1
  have hB := (Array.getElem?_eq_some_iff.1 hr).1
  have hs : ((w1.setCell ⟨B, 0, none⟩ y0).setCell ⟨B, 1, none⟩ y1).heap.size = w1.heap.size := by simp
  have ha : Below w1.heap.size ((w1.setCell ⟨B, 0, none⟩ y0).setCell ⟨B, 1, none⟩ y1) (((w1.setCell ⟨B, 0, none⟩ y0).setCell ⟨B, 1, none⟩ y1).alloc o) := (Below.refl _ _).alloc (by omega) o
  exact ⟨(ha.cell (p := ⟨B, 0, none⟩) hB).trans q0, (ha.cell (p := ⟨B, 1, none⟩) hB).trans q1, q2.alloc (by omega) o⟩

end Gm
end Go.Proofs.YtcpknafaocdjdaaGreatDoor
