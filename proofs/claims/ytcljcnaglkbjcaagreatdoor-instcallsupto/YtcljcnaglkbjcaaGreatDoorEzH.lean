/- Instructions that come in, one within another: opened into a list that lies in memory; how much it holds against the reading's own bulk. -/
import Derived.Test.YtcljcnaglkbjcaaGreatDoorRows
import Derived.Test.YtcljcnaglkbjcaaGreatDoorAux9
import Derived.WalkKit
import Derived.ProofKit
import Derived.OpenShut
import Derived.ShutString
import Derived.Deep.Slices
namespace Go.Proofs.YtcljcnaglkbjcaaGreatDoor
open Go.ChangeShapes Go.WideShapes Go.ChangeAt Go.RowKit
namespace Ex
set_option linter.unusedVariables false

/-- how much there is: instructions and labels -/
def wt : List Ins → Nat
  | [] => 0
  | ⟨_, _, _, _, _, b, e, ls⟩ :: r => 1 + ls.length + wt b + wt e + wt r
def wI (i : Ins) : Nat := 1 + i.ls.length + wt i.body + wt i.els
theorem wt_nil : wt [] = 0 := by rw [wt]
theorem wt_cons (i : Ins) (r : List Ins) : wt (i :: r) = wI i + wt r := by obtain ⟨op, n, al, of, re, b, e, ls⟩ := i; rw [wt]; rfl
theorem wt_len : ∀ l : List Ins, l.length ≤ wt l
  | [] => by simp
  | i :: r => by have := wt_len r; rw [wt_cons, List.length_cons]; unfold wI; omega
theorem wt_mem {i : Ins} : ∀ {l : List Ins}, i ∈ l → wI i ≤ wt l
  | x :: r, h => by
    rw [wt_cons]
    rcases List.mem_cons.1 h with rfl | h
    · omega
    · have := wt_mem h; omega
theorem cnt_wt (l : List Ins) : cnt l ≤ wt l := by
  refine ind (P := fun l => cnt l ≤ wt l) (by rw [cnt_nil]; exact Nat.zero_le _) ?_ l
  intro op n al of re b e ls r hb he hr
  rw [cnt_cons, wt_cons]
  unfold wI
  simp only
  omega
theorem Sz_wt {M : Nat} (l : List Ins) : wt l ≤ M → Sz M l := by
  refine ind2 (P := fun l => wt l ≤ M → Sz M l) (fun l ih h => ?_) l
  refine Sz_of fun i hi => ?_
  have h1 := wt_mem hi
  unfold wI at h1
  have h2 := wt_len i.body
  have h3 := wt_len i.els
  exact ⟨by omega, by omega, by omega, (ih i hi).1 (by omega), (ih i hi).2 (by omega)⟩
theorem wt_le {H : Type} : ∀ (l : List Ins) (ds : List (DataW H)), l.length = ds.length → (∀ j (hj : j < l.length) (hj' : j < ds.length), wI l[j] ≤ Rows.uptoBulk ds[j]) → wt l ≤ Rows.uptoBulkAll ds
  | [], ds, _, _ => by rw [wt_nil]; exact Nat.zero_le _
  | i :: r, [], h, _ => by simp at h
  | i :: r, d :: ds, h, hw => by
    have h0 : wI i ≤ Rows.uptoBulk d := hw 0 (by simp) (by simp)
    have h1 := wt_le r ds (by simpa using h) (fun j hj hj' => hw (j + 1) (by simpa using hj) (by simpa using hj'))
    have e : Rows.uptoBulkAll (d :: ds) = Rows.uptoBulk d + Rows.uptoBulkAll ds := by rw [Rows.uptoBulkAll]
    rw [wt_cons, e]; omega
theorem bulk_pos {H : Type} (d : DataW H) : 1 ≤ Rows.uptoBulk d := by
  cases d with
  | lit l => cases l <;> simp [Rows.uptoBulk]
  | _ => simp [Rows.uptoBulk]
theorem len_bulk {H : Type} : ∀ ds : List (DataW H), ds.length ≤ Rows.uptoBulkAll ds
  | [] => by simp
  | d :: ds => by
    have e : Rows.uptoBulkAll (d :: ds) = Rows.uptoBulk d + Rows.uptoBulkAll ds := by rw [Rows.uptoBulkAll]
    have := len_bulk ds
    have := bulk_pos d
    rw [e, List.length_cons]; omega
theorem cell_at {cs : List Value} {k n : Nat} {x : Value} (hl : cs.length = n) (hk : k < n) (h : (cs.drop k).take 1 = [x]) : cs[k]? = some x := by
  have h1 : ((cs.drop k).take 1)[0]? = some x := by rw [h]; rfl
  rw [List.getElem?_take_of_lt (by omega), List.getElem?_drop] at h1
  simpa using h1
/-- labels that came in -/
theorem open_labs {H : Type} {enc : TypeId × Value → H} {w : World} {base fuel : Nat} {cs : List Value} {x : DataW H × List MemPlace}
    (h : DataW.trod enc Tryz.prog w base (fun _ => true) true fuel 112 cs = some x) : ∃ (ls : List Int) (v : Value), cs = [v] ∧ Lies (fun _ => True) ls.length (Lab w ls) v ∧ (∀ z ∈ ls, 0 ≤ z ∧ z < 4294967296) ∧ ls.length + 1 ≤ Rows.uptoBulk x.1 := by
  rcases open_ints Tryz.underlying112 Tryz.underlying62 (by kernel_rfl) h with ⟨hcs, hx⟩ | ⟨a, len, cap, zs, hcs, _, hl, hm, hz, hx, hc, hw⟩
  · exact ⟨[], _, hcs, ⟨none, 0, rfl, Nat.le_refl _, fun _ => rfl, fun h => by simp at h⟩, by simp, by have := bulk_pos x.1; simpa using this⟩
  · have hzl : zs.length = cap := by simpa using hz
    have hlt : (zs.take len).length = len := by simp; omega
    refine ⟨zs.take len, .slice (some a) len cap, hcs, ⟨some a, cap, by rw [hlt], by omega, by simp, fun h0 => ?_⟩, fun z hzm => ?_, ?_⟩
    · obtain ⟨b, off, spot⟩ := a
      have h00 := hc 0 (by omega)
      have hspot : spot = none := by simpa [Addr.add] using World.cell?_spot h00
      subst hspot
      refine ⟨b, off, rfl, trivial, fun i hi => ?_⟩
      have := hc i (by omega)
      rw [addr_add] at this
      rw [this]; simp [List.getD, show i < len by omega]
    · have := bounds_u32 (hw z (List.mem_of_mem_take hzm)); omega
    · rw [hx]
      have e : Rows.uptoBulk (DataW.slice (lits .u32 (zs.take len)) (lits .u32 (zs.drop len)) : DataW H) = Rows.uptoBulkAll (H := H) (lits .u32 (zs.take len)) + Rows.uptoBulkAll (H := H) (lits .u32 (zs.drop len)) + 1 := by rw [Rows.uptoBulk]
      have h2 := len_bulk (H := H) (lits .u32 (zs.take len))
      have h3 : (lits (H := H) .u32 (zs.take len)).length = (zs.take len).length := by simp [lits]
      rw [e]; omega
/-- what an instruction's eight cells tell -/
def CelA (w : World) (a : Addr) (op n al of re : Int) (vb ve vl : Value) : Prop :=
  w.cell? (a.add 0) = some (.int .u8 op) ∧ w.cell? (a.add 1) = some (.int .i64 n) ∧ w.cell? (a.add 2) = some (.int .u32 al) ∧ w.cell? (a.add 3) = some (.int .u32 of) ∧
  w.cell? (a.add 4) = some (.int .u8 re) ∧ w.cell? (a.add 5) = some vb ∧ w.cell? (a.add 6) = some ve ∧ w.cell? (a.add 7) = some vl
def OpenC {H : Type} (enc : TypeId × Value → H) (w : World) (base fuel : Nat) : Prop :=
  ∀ cs x, DataW.trod enc Tryz.prog w base (fun _ => true) true fuel 108 cs = some x → ∃ (l : List Ins) (v : Value), cs = [v] ∧ Code w (fun _ => True) l v ∧ Wf l ∧ wt l ≤ Rows.uptoBulk x.1
theorem bulk_at {H : Type} : ∀ {ds : List (DataW H)} {i : Nat} {d : DataW H}, ds[i]? = some d → Rows.uptoBulk d ≤ Rows.uptoBulkAll ds
  | d0 :: ds, 0, d, h => by
    have e : Rows.uptoBulkAll (d0 :: ds) = Rows.uptoBulk d0 + Rows.uptoBulkAll ds := by rw [Rows.uptoBulkAll]
    simp at h; rw [e, h]; omega
  | d0 :: ds, i + 1, d, h => by
    have e : Rows.uptoBulkAll (d0 :: ds) = Rows.uptoBulk d0 + Rows.uptoBulkAll ds := by rw [Rows.uptoBulkAll]
    have := bulk_at (ds := ds) (i := i) (d := d) (by simpa using h)
    rw [e]; omega
theorem open_ins {H : Type} {enc : TypeId × Value → H} {w : World} {base fuel : Nat} {cs : List Value} {x : DataW H × List MemPlace} (ih : ∀ m, m < fuel → OpenC enc w base m)
    (h : DataW.trod enc Tryz.prog w base (fun _ => true) true fuel 114 cs = some x) :
    ∃ (i : Ins) (vb ve vl : Value), cs.length = 8 ∧ cs[0]? = some (.int .u8 i.op) ∧ cs[1]? = some (.int .i64 i.n) ∧ cs[2]? = some (.int .u32 i.al) ∧ cs[3]? = some (.int .u32 i.of) ∧ cs[4]? = some (.int .u8 i.re) ∧ cs[5]? = some vb ∧ cs[6]? = some ve ∧ cs[7]? = some vl ∧
      Code w (fun _ => True) i.body vb ∧ Code w (fun _ => True) i.els ve ∧ Lies (fun _ => True) i.ls.length (Lab w i.ls) vl ∧ WfI i ∧ wI i ≤ Rows.uptoBulk x.1 := by
  obtain ⟨xs, n, hfn, hx, hl, hlen, hf⟩ := DataW.trod_struct Tryz.underlying114 h
  have hl8 : cs.length = 8 := hl.trans (by kernel_rfl)
  have hxl : xs.length = 8 := hlen
  have g0 := hf 0 _ rfl
  have g1 := hf 1 _ rfl
  have g2 := hf 2 _ rfl
  have g3 := hf 3 _ rfl
  have g4 := hf 4 _ rfl
  have g5 := hf 5 _ rfl
  have g6 := hf 6 _ rfl
  have g7 := hf 7 _ rfl
  rw [List.getElem?_eq_getElem (by omega)] at g0 g1 g2 g3 g4 g5 g6 g7
  obtain ⟨op, e0, _, w0⟩ := DataW.trod_int Tryz.underlying5 g0
  obtain ⟨nn, e1, _, w1⟩ := DataW.trod_int Tryz.underlying2 g1
  obtain ⟨al, e2, _, w2⟩ := DataW.trod_int Tryz.underlying62 g2
  obtain ⟨of, e3, _, w3⟩ := DataW.trod_int Tryz.underlying62 g3
  obtain ⟨re, e4, _, w4⟩ := DataW.trod_int Tryz.underlying5 g4
  obtain ⟨lb, vb, e5, hb, hbw, hbb⟩ := ih n (by omega) _ _ g5
  obtain ⟨le, ve, e6, he, hew, heb⟩ := ih n (by omega) _ _ g6
  obtain ⟨ls, vl, e7, hls, hlw, hlb⟩ := open_labs g7
  have c8 : Tryz.prog.cellsOf 5 = 1 := by kernel_rfl
  have c64 : Tryz.prog.cellsOf 2 = 1 := by kernel_rfl
  have c32 : Tryz.prog.cellsOf 62 = 1 := by kernel_rfl
  have cI : Tryz.prog.cellsOf 108 = 1 := by kernel_rfl
  have cL : Tryz.prog.cellsOf 112 = 1 := by kernel_rfl
  have f0 : (cs.drop 0).take (Tryz.prog.cellsOf 5) = [.int .u8 op] := e0
  have f1 : (cs.drop 1).take (Tryz.prog.cellsOf 2) = [.int .i64 nn] := e1
  have f2 : (cs.drop 2).take (Tryz.prog.cellsOf 62) = [.int .u32 al] := e2
  have f3 : (cs.drop 3).take (Tryz.prog.cellsOf 62) = [.int .u32 of] := e3
  have f4 : (cs.drop 4).take (Tryz.prog.cellsOf 5) = [.int .u8 re] := e4
  have f5 : (cs.drop 5).take (Tryz.prog.cellsOf 108) = [vb] := e5
  have f6 : (cs.drop 6).take (Tryz.prog.cellsOf 108) = [ve] := e6
  have f7 : (cs.drop 7).take (Tryz.prog.cellsOf 112) = [vl] := e7
  rw [c8] at f0 f4
  rw [c64] at f1
  rw [c32] at f2 f3
  rw [cI] at f5 f6
  rw [cL] at f7
  have b0 := bounds_u8 w0; have b1 := bounds_i64 w1; have b2 := bounds_u32 w2; have b3 := bounds_u32 w3; have b4 := bounds_u8 w4
  refine ⟨⟨op, nn, al, of, re, lb, le, ls⟩, vb, ve, vl, hl8, cell_at hl8 (by omega) f0, cell_at hl8 (by omega) f1, cell_at hl8 (by omega) f2, cell_at hl8 (by omega) f3, cell_at hl8 (by omega) f4, cell_at hl8 (by omega) f5, cell_at hl8 (by omega) f6, cell_at hl8 (by omega) f7, hb, he, hls, ⟨⟨⟨b0.1, ?_⟩, ⟨b1.1, ?_⟩, ⟨b2.1, ?_⟩, ⟨b3.1, ?_⟩, ⟨b4.1, ?_⟩, hlw⟩, hbw, hew⟩, ?_⟩
  · show op ≤ 255; omega
  · show nn < 9223372036854775808; omega
  · show al < 4294967296; omega
  · show of < 4294967296; omega
  · show re ≤ 255; omega
  · rw [hx]
    match xs, hxl with
    | [y0, y1, y2, y3, y4, y5, y6, y7], _ =>
      simp only [List.getElem_cons_zero, List.getElem_cons_succ] at hbb heb hlb
      have p0 := bulk_pos y0.1
      show 1 + ls.length + wt lb + wt le ≤ _
      simp only [List.map_cons, List.map_nil, Rows.uptoBulk, Rows.uptoBulkAll]
      omega
theorem open_code {H : Type} {enc : TypeId × Value → H} {w : World} {base : Nat} (fuel : Nat) : OpenC enc w base fuel := by
  induction fuel using Nat.strongRecOn with
  | ind fuel ih =>
    intro cs x h
    rcases DataW.trod_slice Tryz.underlying108 h with ⟨hcs, hx⟩ | ⟨a, len, cap, elems, rest, n, hfn, hcs, hx, _, hl, hm, hel, hE, _, _⟩
    · exact ⟨[], _, hcs, ⟨none, 0, rfl, Nat.le_refl _, fun _ => rfl, fun h => by simp at h⟩, Wf_nil, by rw [wt_nil]; exact Nat.zero_le _⟩
    · have c8 : Tryz.prog.cellsOf 114 = 8 := by kernel_rfl
      rw [c8] at hE
      haveI : Inhabited Ins := ⟨⟨0, 0, 0, 0, 0, [], [], []⟩⟩
      obtain ⟨A, hA⟩ := Go.Deep.choose_lt (α := Ins) (n := len) (p := fun j i =>
          (∃ vb ve vl, CelA w (a.add (j * 8)) i.op i.n i.al i.of i.re vb ve vl ∧ Code w (fun _ => True) i.body vb ∧ Code w (fun _ => True) i.els ve ∧ Lies (fun _ => True) i.ls.length (Lab w i.ls) vl) ∧ WfI i ∧ ∀ d, (elems.map (·.1))[j]? = some d → wI i ≤ Rows.uptoBulk d) (fun j hj => by
        have h1 := hE j hj
        rw [List.getElem?_eq_getElem (show j < elems.length by omega)] at h1
        obtain ⟨cs', h2, h3⟩ := Option.bind_eq_some_iff.1 h1
        obtain ⟨_, _, hc⟩ := World.cells?_some h2
        obtain ⟨i, vb, ve, vl, hl8, e0, e1, e2, e3, e4, e5, e6, e7, q1, q2, q3, q4, q5⟩ := open_ins (fun m hm => ih m (by omega)) h3
        refine ⟨i, ⟨vb, ve, vl, ⟨(hc 0 (by omega)).trans e0, (hc 1 (by omega)).trans e1, (hc 2 (by omega)).trans e2, (hc 3 (by omega)).trans e3, (hc 4 (by omega)).trans e4, (hc 5 (by omega)).trans e5, (hc 6 (by omega)).trans e6, (hc 7 (by omega)).trans e7⟩, q1, q2, q3⟩, q4, fun d hd => ?_⟩
        rw [List.getElem?_map, List.getElem?_eq_getElem (show j < elems.length by omega)] at hd
        simp at hd
        rw [← hd]; exact q5)
      have hll : ((List.range len).map A).length = len := by simp
      refine ⟨(List.range len).map A, .slice (some a) len cap, hcs, ⟨some a, cap, by rw [hll], by omega, by simp, fun h0 => ?_⟩, Wf_of fun i hi => ?_, ?_⟩
      · obtain ⟨b, off, spot⟩ := a
        have hsp : spot = none := by
          obtain ⟨⟨_, _, _, hc0, _⟩, _⟩ := hA 0 (by omega)
          simpa [Addr.add] using World.cell?_spot hc0.1
        subst hsp
        refine ⟨b, off, rfl, trivial, Items_of fun j hj => ?_⟩
        obtain ⟨⟨vb, ve, vl, ⟨d0, d1, d2, d3, d4, d5, d6, d7⟩, q1, q2, q3⟩, _⟩ := hA j (by omega)
        have hAj : ((List.range len).map A)[j] = A j := by simp
        rw [hAj]
        simp only [addr_add, Nat.add_zero] at d0 d1 d2 d3 d4 d5 d6 d7
        exact ⟨vb, ve, vl, ⟨d0, d1, d2, d3, d4, d5, d6, d7⟩, q1, q2, q3⟩
      · obtain ⟨j, hj, rfl⟩ := List.getElem_of_mem hi
        have hAj : ((List.range len).map A)[j] = A j := by simp
        rw [hAj]; exact (hA j (by omega)).2.1
      · rw [hx]
        have h1 := wt_le ((List.range len).map A) (elems.map (·.1)) (by simp [hel]) (fun j hj hj' => by
          have hAj : ((List.range len).map A)[j] = A j := by simp
          rw [hAj]
          exact (hA j (by omega)).2.2 _ (List.getElem?_eq_getElem hj'))
        simp only [Rows.uptoBulk]
        omega
/-- an argument that is such a list -/
theorem open_arg {H : Type} {enc : TypeId × Value → H} {w : World} {a : Option Addr} {n c : Nat} {d : DataW H} {p : List MemPlace}
    (h : DataW.Trod enc Tryz.prog w 0 (fun _ => true) true 108 (.slice a n c) d p) : ∃ l : List Ins, Code w (fun _ => True) l (.slice a n c) ∧ Wf l ∧ wt l ≤ Rows.uptoBulk d := by
  obtain ⟨fuel, hf⟩ := h
  obtain ⟨l, v, hcs, h1, h2, h3⟩ := open_code fuel _ _ hf
  simp [Value.cells] at hcs
  subst hcs
  exact ⟨l, h1, h2, h3⟩
/-- an argument of bytes -/
theorem open_row {H : Type} {enc : TypeId × Value → H} {w : World} {a : Option Addr} {n c : Nat} {d : DataW H} {p : List MemPlace}
    (h : DataW.Trod enc Tryz.prog w 0 (fun _ => true) true 105 (.slice a n c) d p) : ∃ zs : List Int, Row w a n zs ∧ n ≤ c ∧ (a = none → c = 0) := by
  obtain ⟨fuel, hf⟩ := h
  rcases open_ints Tryz.underlying105 Tryz.underlying5 (by kernel_rfl) hf with ⟨hcs, _⟩ | ⟨x, len, cap, zs, hcs, _, hl, hm, hz, _, hc, hw⟩
  · simp [Value.cells] at hcs
    obtain ⟨rfl, rfl, rfl⟩ := hcs
    exact ⟨[], ⟨rfl, by simp, by simp⟩, Nat.le_refl _, fun _ => rfl⟩
  · simp [Value.cells] at hcs
    obtain ⟨rfl, rfl, rfl⟩ := hcs
    have hzl : zs.length = c := by simpa using hz
    refine ⟨zs.take n, ⟨by simp; omega, fun z hzm => ?_, fun h0 => ?_⟩, hl, by simp⟩
    · have := bounds_u8 (hw z (List.mem_of_mem_take hzm)); omega
    · obtain ⟨b, off, spot⟩ := x
      have h00 := hc 0 (by omega)
      have hspot : spot = none := by simpa [Addr.add] using World.cell?_spot h00
      subst hspot
      have hlt : b < w.heap.size := by
        have h1 : w.cell? ⟨b, off, none⟩ = some (.int .u8 (zs.getD 0 0)) := by simpa [Addr.add] using h00
        exact block_lt_of_cell h1
      refine ⟨b, off, rfl, hlt, fun i hi => ?_⟩
      have := hc i (by omega)
      rw [addr_add] at this
      rw [this]; simp [List.getD, hi]
theorem small_of {H : Type} {ds : List (DataW H)} (h : Rows.uptoSmall H ds = true) : Rows.uptoBulkAll ds ≤ 1048576 := of_decide_eq_true h
end Ex
end Go.Proofs.YtcljcnaglkbjcaaGreatDoor
