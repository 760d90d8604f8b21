/- One item of a list of the call's own turned: what stands there behind it. -/
import Derived.Test.YtjhmglefejclpaaDoorRows
import Derived.Test.YtjhmglefejclpaaDoorGB
import Derived.WalkKit
import Derived.ProofKit
import Derived.OpenShut
import Derived.ShutString
import Derived.Deep.Slices
import Derived.Test.YtjhmglefejclpaaDoorE1
import Derived.Deep.RegionHeld3
import Derived.Deep.AppendLies

/- Instructions that come in, one within another: opened into a list that lies in memory; how much it holds against the reading's own bulk. -/
namespace Go.Proofs.YtjhmglefejclpaaDoor
open Go.ChangeShapes Go.WideShapes Go.ChangeAt Go.RowKit
namespace Ex
set_option linter.unusedVariables false

/-- how much there is: instructions and labels -/
def wt : List Ins → Nat
  | [] => 0
  | ⟨_, _, _, _, _, b, e, ls⟩ :: r => 1 + ls.length + wt b + wt e + wt r
def wI (i : Ins) : Nat := 1 + i.ls.length + wt i.body + wt i.els
theorem wt_nil : wt [] = 0 := by rw [wt]
theorem wt_cons (i : Ins) (r : List Ins) : wt (i :: r) = wI i + wt r := by obtain ⟨op, n, al, of, re, b, e, ls⟩ := i; rw [wt]; rfl
theorem wt_len : ∀ l : List Ins, l.length ≤ wt l
  | [] => by simp
  | i :: r => by have := wt_len r; rw [wt_cons, List.length_cons]; unfold wI; omega
theorem wt_mem {i : Ins} : ∀ {l : List Ins}, i ∈ l → wI i ≤ wt l
  | x :: r, h => by
    rw [wt_cons]
    rcases List.mem_cons.1 h with rfl | h
    · omega
    · have := wt_mem h; omega
theorem cnt_wt (l : List Ins) : cnt l ≤ wt l := by
  refine ind (P := fun l => cnt l ≤ wt l) (by rw [cnt_nil]; exact Nat.zero_le _) ?_ l
  intro op n al of re b e ls r hb he hr
  rw [cnt_cons, wt_cons]
  unfold wI
  simp only
  omega
theorem Sz_wt {M : Nat} (l : List Ins) : wt l ≤ M → Sz M l := by
  refine ind2 (P := fun l => wt l ≤ M → Sz M l) (fun l ih h => ?_) l
  refine Sz_of fun i hi => ?_
  have h1 := wt_mem hi
  unfold wI at h1
  have h2 := wt_len i.body
  have h3 := wt_len i.els
  exact ⟨by omega, by omega, by omega, (ih i hi).1 (by omega), (ih i hi).2 (by omega)⟩
theorem wt_le {H : Type} : ∀ (l : List Ins) (ds : List (DataW H)), l.length = ds.length → (∀ j (hj : j < l.length) (hj' : j < ds.length), wI l[j] ≤ Rows.uptoBulk ds[j]) → wt l ≤ Rows.uptoBulkAll ds
  | [], ds, _, _ => by rw [wt_nil]; exact Nat.zero_le _
  | i :: r, [], h, _ => by simp at h
  | i :: r, d :: ds, h, hw => by
    have h0 : wI i ≤ Rows.uptoBulk d := hw 0 (by simp) (by simp)
    have h1 := wt_le r ds (by simpa using h) (fun j hj hj' => hw (j + 1) (by simpa using hj) (by simpa using hj'))
    have e : Rows.uptoBulkAll (d :: ds) = Rows.uptoBulk d + Rows.uptoBulkAll ds := by rw [Rows.uptoBulkAll]
    rw [wt_cons, e]; omega
theorem bulk_pos {H : Type} (d : DataW H) : 1 ≤ Rows.uptoBulk d := by
  cases d with
  | lit l => cases l <;> simp [Rows.uptoBulk]
  | _ => simp [Rows.uptoBulk]
theorem len_bulk {H : Type} : ∀ ds : List (DataW H), ds.length ≤ Rows.uptoBulkAll ds
  | [] => by simp
  | d :: ds => by
    have e : Rows.uptoBulkAll (d :: ds) = Rows.uptoBulk d + Rows.uptoBulkAll ds := by rw [Rows.uptoBulkAll]
    have := len_bulk ds
    have := bulk_pos d
    rw [e, List.length_cons]; omega
theorem cell_at {cs : List Value} {k n : Nat} {x : Value} (hl : cs.length = n) (hk : k < n) (h : (cs.drop k).take 1 = [x]) : cs[k]? = some x := by
  have h1 : ((cs.drop k).take 1)[0]? = some x := by rw [h]; rfl
  rw [List.getElem?_take_of_lt (by omega), List.getElem?_drop] at h1
  simpa using h1
/-- labels that came in -/
theorem open_labs {H : Type} {enc : TypeId × Value → H} {w : World} {base fuel : Nat} {cs : List Value} {x : DataW H × List MemPlace}
    (h : DataW.trod enc Tryd.prog w base (fun _ => true) true fuel 48 cs = some x) : ∃ (ls : List Int) (v : Value), cs = [v] ∧ Lies (fun _ => True) ls.length (Lab w ls) v ∧ (∀ z ∈ ls, 0 ≤ z ∧ z < 4294967296) ∧ ls.length + 1 ≤ Rows.uptoBulk x.1 := by
  rcases open_ints Tryd.underlying48 Tryd.underlying46 (by kernel_rfl) h with ⟨hcs, hx⟩ | ⟨a, len, cap, zs, hcs, _, hl, hm, hz, hx, hc, hw⟩
  · exact ⟨[], _, hcs, ⟨none, 0, rfl, Nat.le_refl _, fun _ => rfl, fun h => by simp at h⟩, by simp, by have := bulk_pos x.1; simpa using this⟩
  · have hzl : zs.length = cap := by simpa using hz
    have hlt : (zs.take len).length = len := by simp; omega
    refine ⟨zs.take len, .slice (some a) len cap, hcs, ⟨some a, cap, by rw [hlt], by omega, by simp, fun h0 => ?_⟩, fun z hzm => ?_, ?_⟩
    · obtain ⟨b, off, spot⟩ := a
      have h00 := hc 0 (by omega)
      have hspot : spot = none := by simpa [Addr.add] using World.cell?_spot h00
      subst hspot
      refine ⟨b, off, rfl, trivial, fun i hi => ?_⟩
      have := hc i (by omega)
      rw [addr_add] at this
      rw [this]; simp [List.getD, show i < len by omega]
    · have := bounds_u32 (hw z (List.mem_of_mem_take hzm)); omega
    · rw [hx]
      have e : Rows.uptoBulk (DataW.slice (lits .u32 (zs.take len)) (lits .u32 (zs.drop len)) : DataW H) = Rows.uptoBulkAll (H := H) (lits .u32 (zs.take len)) + Rows.uptoBulkAll (H := H) (lits .u32 (zs.drop len)) + 1 := by rw [Rows.uptoBulk]
      have h2 := len_bulk (H := H) (lits .u32 (zs.take len))
      have h3 : (lits (H := H) .u32 (zs.take len)).length = (zs.take len).length := by simp [lits]
      rw [e]; omega
/-- what an instruction's eight cells tell -/
def CelA (w : World) (a : Addr) (op n al of re : Int) (vb ve vl : Value) : Prop :=
  w.cell? (a.add 0) = some (.int .u8 op) ∧ w.cell? (a.add 1) = some (.int .i64 n) ∧ w.cell? (a.add 2) = some (.int .u32 al) ∧ w.cell? (a.add 3) = some (.int .u32 of) ∧
  w.cell? (a.add 4) = some (.int .u8 re) ∧ w.cell? (a.add 5) = some vb ∧ w.cell? (a.add 6) = some ve ∧ w.cell? (a.add 7) = some vl
def OpenC {H : Type} (enc : TypeId × Value → H) (w : World) (base fuel : Nat) : Prop :=
  ∀ cs x, DataW.trod enc Tryd.prog w base (fun _ => true) true fuel 22 cs = some x → ∃ (l : List Ins) (v : Value), cs = [v] ∧ Code w (fun _ => True) l v ∧ Wf l ∧ wt l ≤ Rows.uptoBulk x.1
theorem bulk_at {H : Type} : ∀ {ds : List (DataW H)} {i : Nat} {d : DataW H}, ds[i]? = some d → Rows.uptoBulk d ≤ Rows.uptoBulkAll ds
  | d0 :: ds, 0, d, h => by
    have e : Rows.uptoBulkAll (d0 :: ds) = Rows.uptoBulk d0 + Rows.uptoBulkAll ds := by rw [Rows.uptoBulkAll]
    simp at h; rw [e, h]; omega
  | d0 :: ds, i + 1, d, h => by
    have e : Rows.uptoBulkAll (d0 :: ds) = Rows.uptoBulk d0 + Rows.uptoBulkAll ds := by rw [Rows.uptoBulkAll]
    have := bulk_at (ds := ds) (i := i) (d := d) (by simpa using h)
    rw [e]; omega
theorem open_ins {H : Type} {enc : TypeId × Value → H} {w : World} {base fuel : Nat} {cs : List Value} {x : DataW H × List MemPlace} (ih : ∀ m, m < fuel → OpenC enc w base m)
    (h : DataW.trod enc Tryd.prog w base (fun _ => true) true fuel 55 cs = some x) :
    ∃ (i : Ins) (vb ve vl : Value), cs.length = 8 ∧ cs[0]? = some (.int .u8 i.op) ∧ cs[1]? = some (.int .i64 i.n) ∧ cs[2]? = some (.int .u32 i.al) ∧ cs[3]? = some (.int .u32 i.of) ∧ cs[4]? = some (.int .u8 i.re) ∧ cs[5]? = some vb ∧ cs[6]? = some ve ∧ cs[7]? = some vl ∧
      Code w (fun _ => True) i.body vb ∧ Code w (fun _ => True) i.els ve ∧ Lies (fun _ => True) i.ls.length (Lab w i.ls) vl ∧ WfI i ∧ wI i ≤ Rows.uptoBulk x.1 := by
  obtain ⟨xs, n, hfn, hx, hl, hlen, hf⟩ := DataW.trod_struct Tryd.underlying55 h
  have hl8 : cs.length = 8 := hl.trans (by kernel_rfl)
  have hxl : xs.length = 8 := hlen
  have g0 := hf 0 _ rfl
  have g1 := hf 1 _ rfl
  have g2 := hf 2 _ rfl
  have g3 := hf 3 _ rfl
  have g4 := hf 4 _ rfl
  have g5 := hf 5 _ rfl
  have g6 := hf 6 _ rfl
  have g7 := hf 7 _ rfl
  rw [List.getElem?_eq_getElem (by omega)] at g0 g1 g2 g3 g4 g5 g6 g7
  obtain ⟨op, e0, _, w0⟩ := DataW.trod_int Tryd.underlying5 g0
  obtain ⟨nn, e1, _, w1⟩ := DataW.trod_int Tryd.underlying2 g1
  obtain ⟨al, e2, _, w2⟩ := DataW.trod_int Tryd.underlying46 g2
  obtain ⟨of, e3, _, w3⟩ := DataW.trod_int Tryd.underlying46 g3
  obtain ⟨re, e4, _, w4⟩ := DataW.trod_int Tryd.underlying5 g4
  obtain ⟨lb, vb, e5, hb, hbw, hbb⟩ := ih n (by omega) _ _ g5
  obtain ⟨le, ve, e6, he, hew, heb⟩ := ih n (by omega) _ _ g6
  obtain ⟨ls, vl, e7, hls, hlw, hlb⟩ := open_labs g7
  have c8 : Tryd.prog.cellsOf 5 = 1 := by kernel_rfl
  have c64 : Tryd.prog.cellsOf 2 = 1 := by kernel_rfl
  have c32 : Tryd.prog.cellsOf 46 = 1 := by kernel_rfl
  have cI : Tryd.prog.cellsOf 22 = 1 := by kernel_rfl
  have cL : Tryd.prog.cellsOf 48 = 1 := by kernel_rfl
  have f0 : (cs.drop 0).take (Tryd.prog.cellsOf 5) = [.int .u8 op] := e0
  have f1 : (cs.drop 1).take (Tryd.prog.cellsOf 2) = [.int .i64 nn] := e1
  have f2 : (cs.drop 2).take (Tryd.prog.cellsOf 46) = [.int .u32 al] := e2
  have f3 : (cs.drop 3).take (Tryd.prog.cellsOf 46) = [.int .u32 of] := e3
  have f4 : (cs.drop 4).take (Tryd.prog.cellsOf 5) = [.int .u8 re] := e4
  have f5 : (cs.drop 5).take (Tryd.prog.cellsOf 22) = [vb] := e5
  have f6 : (cs.drop 6).take (Tryd.prog.cellsOf 22) = [ve] := e6
  have f7 : (cs.drop 7).take (Tryd.prog.cellsOf 48) = [vl] := e7
  rw [c8] at f0 f4
  rw [c64] at f1
  rw [c32] at f2 f3
  rw [cI] at f5 f6
  rw [cL] at f7
  have b0 := bounds_u8 w0; have b1 := bounds_i64 w1; have b2 := bounds_u32 w2; have b3 := bounds_u32 w3; have b4 := bounds_u8 w4
  refine ⟨⟨op, nn, al, of, re, lb, le, ls⟩, vb, ve, vl, hl8, cell_at hl8 (by omega) f0, cell_at hl8 (by omega) f1, cell_at hl8 (by omega) f2, cell_at hl8 (by omega) f3, cell_at hl8 (by omega) f4, cell_at hl8 (by omega) f5, cell_at hl8 (by omega) f6, cell_at hl8 (by omega) f7, hb, he, hls, ⟨⟨⟨b0.1, ?_⟩, ⟨b1.1, ?_⟩, ⟨b2.1, ?_⟩, ⟨b3.1, ?_⟩, ⟨b4.1, ?_⟩, hlw⟩, hbw, hew⟩, ?_⟩
  · show op ≤ 255; omega
  · show nn < 9223372036854775808; omega
  · show al < 4294967296; omega
  · show of < 4294967296; omega
  · show re ≤ 255; omega
  · rw [hx]
    match xs, hxl with
    | [y0, y1, y2, y3, y4, y5, y6, y7], _ =>
      simp only [List.getElem_cons_zero, List.getElem_cons_succ] at hbb heb hlb
      have p0 := bulk_pos y0.1
      show 1 + ls.length + wt lb + wt le ≤ _
      simp only [List.map_cons, List.map_nil, Rows.uptoBulk, Rows.uptoBulkAll]
      omega
theorem open_code {H : Type} {enc : TypeId × Value → H} {w : World} {base : Nat} (fuel : Nat) : OpenC enc w base fuel := by
  induction fuel using Nat.strongRecOn with
  | ind fuel ih =>
    intro cs x h
    rcases DataW.trod_slice Tryd.underlying22 h with ⟨hcs, hx⟩ | ⟨a, len, cap, elems, rest, n, hfn, hcs, hx, _, hl, hm, hel, hE, _, _⟩
    · exact ⟨[], _, hcs, ⟨none, 0, rfl, Nat.le_refl _, fun _ => rfl, fun h => by simp at h⟩, Wf_nil, by rw [wt_nil]; exact Nat.zero_le _⟩
    · have c8 : Tryd.prog.cellsOf 55 = 8 := by kernel_rfl
      rw [c8] at hE
      haveI : Inhabited Ins := ⟨⟨0, 0, 0, 0, 0, [], [], []⟩⟩
      obtain ⟨A, hA⟩ := Go.Deep.choose_lt (α := Ins) (n := len) (p := fun j i =>
          (∃ vb ve vl, CelA w (a.add (j * 8)) i.op i.n i.al i.of i.re vb ve vl ∧ Code w (fun _ => True) i.body vb ∧ Code w (fun _ => True) i.els ve ∧ Lies (fun _ => True) i.ls.length (Lab w i.ls) vl) ∧ WfI i ∧ ∀ d, (elems.map (·.1))[j]? = some d → wI i ≤ Rows.uptoBulk d) (fun j hj => by
        have h1 := hE j hj
        rw [List.getElem?_eq_getElem (show j < elems.length by omega)] at h1
        obtain ⟨cs', h2, h3⟩ := Option.bind_eq_some_iff.1 h1
        obtain ⟨_, _, hc⟩ := World.cells?_some h2
        obtain ⟨i, vb, ve, vl, hl8, e0, e1, e2, e3, e4, e5, e6, e7, q1, q2, q3, q4, q5⟩ := open_ins (fun m hm => ih m (by omega)) h3
        refine ⟨i, ⟨vb, ve, vl, ⟨(hc 0 (by omega)).trans e0, (hc 1 (by omega)).trans e1, (hc 2 (by omega)).trans e2, (hc 3 (by omega)).trans e3, (hc 4 (by omega)).trans e4, (hc 5 (by omega)).trans e5, (hc 6 (by omega)).trans e6, (hc 7 (by omega)).trans e7⟩, q1, q2, q3⟩, q4, fun d hd => ?_⟩
        rw [List.getElem?_map, List.getElem?_eq_getElem (show j < elems.length by omega)] at hd
        simp at hd
        rw [← hd]; exact q5)
      have hll : ((List.range len).map A).length = len := by simp
      refine ⟨(List.range len).map A, .slice (some a) len cap, hcs, ⟨some a, cap, by rw [hll], by omega, by simp, fun h0 => ?_⟩, Wf_of fun i hi => ?_, ?_⟩
      · obtain ⟨b, off, spot⟩ := a
        have hsp : spot = none := by
          obtain ⟨⟨_, _, _, hc0, _⟩, _⟩ := hA 0 (by omega)
          simpa [Addr.add] using World.cell?_spot hc0.1
        subst hsp
        refine ⟨b, off, rfl, trivial, Items_of fun j hj => ?_⟩
        obtain ⟨⟨vb, ve, vl, ⟨d0, d1, d2, d3, d4, d5, d6, d7⟩, q1, q2, q3⟩, _⟩ := hA j (by omega)
        have hAj : ((List.range len).map A)[j] = A j := by simp
        rw [hAj]
        simp only [addr_add, Nat.add_zero] at d0 d1 d2 d3 d4 d5 d6 d7
        exact ⟨vb, ve, vl, ⟨d0, d1, d2, d3, d4, d5, d6, d7⟩, q1, q2, q3⟩
      · obtain ⟨j, hj, rfl⟩ := List.getElem_of_mem hi
        have hAj : ((List.range len).map A)[j] = A j := by simp
        rw [hAj]; exact (hA j (by omega)).2.1
      · rw [hx]
        have h1 := wt_le ((List.range len).map A) (elems.map (·.1)) (by simp [hel]) (fun j hj hj' => by
          have hAj : ((List.range len).map A)[j] = A j := by simp
          rw [hAj]
          exact (hA j (by omega)).2.2 _ (List.getElem?_eq_getElem hj'))
        simp only [Rows.uptoBulk]
        omega
/-- an argument that is such a list -/
theorem open_arg {H : Type} {enc : TypeId × Value → H} {w : World} {a : Option Addr} {n c : Nat} {d : DataW H} {p : List MemPlace}
    (h : DataW.Trod enc Tryd.prog w 0 (fun _ => true) true 22 (.slice a n c) d p) : ∃ l : List Ins, Code w (fun _ => True) l (.slice a n c) ∧ Wf l ∧ wt l ≤ Rows.uptoBulk d := by
  obtain ⟨fuel, hf⟩ := h
  obtain ⟨l, v, hcs, h1, h2, h3⟩ := open_code fuel _ _ hf
  simp [Value.cells] at hcs
  subst hcs
  exact ⟨l, h1, h2, h3⟩
/-- an argument of bytes -/
theorem open_row {H : Type} {enc : TypeId × Value → H} {w : World} {a : Option Addr} {n c : Nat} {d : DataW H} {p : List MemPlace}
    (h : DataW.Trod enc Tryd.prog w 0 (fun _ => true) true 27 (.slice a n c) d p) : ∃ zs : List Int, Row w a n zs ∧ n ≤ c ∧ (a = none → c = 0) := by
  obtain ⟨fuel, hf⟩ := h
  rcases open_ints Tryd.underlying27 Tryd.underlying5 (by kernel_rfl) hf with ⟨hcs, _⟩ | ⟨x, len, cap, zs, hcs, _, hl, hm, hz, _, hc, hw⟩
  · simp [Value.cells] at hcs
    obtain ⟨rfl, rfl, rfl⟩ := hcs
    exact ⟨[], ⟨rfl, by simp, by simp⟩, Nat.le_refl _, fun _ => rfl⟩
  · simp [Value.cells] at hcs
    obtain ⟨rfl, rfl, rfl⟩ := hcs
    have hzl : zs.length = c := by simpa using hz
    refine ⟨zs.take n, ⟨by simp; omega, fun z hzm => ?_, fun h0 => ?_⟩, hl, by simp⟩
    · have := bounds_u8 (hw z (List.mem_of_mem_take hzm)); omega
    · obtain ⟨b, off, spot⟩ := x
      have h00 := hc 0 (by omega)
      have hspot : spot = none := by simpa [Addr.add] using World.cell?_spot h00
      subst hspot
      have hlt : b < w.heap.size := by
        have h1 : w.cell? ⟨b, off, none⟩ = some (.int .u8 (zs.getD 0 0)) := by simpa [Addr.add] using h00
        exact block_lt_of_cell h1
      refine ⟨b, off, rfl, hlt, fun i hi => ?_⟩
      have := hc i (by omega)
      rw [addr_add] at this
      rw [this]; simp [List.getD, hi]
theorem small_of {H : Type} {ds : List (DataW H)} (h : Rows.uptoSmall H ds = true) : Rows.uptoBulkAll ds ≤ 1048576 := of_decide_eq_true h
end Ex
end Go.Proofs.YtjhmglefejclpaaDoor

/- The statements' give: what stands in one item's own blocks. -/
namespace Go.Proofs.YtjhmglefejclpaaDoor
open Go.RowKit
namespace Ex
set_option linter.unusedVariables false
set_option linter.unusedSimpArgs false
attribute [local go_sem ↓] Go.wp_at_zero Go.wp_at_succ

def GStep (l : List Ins) (g : Nat → Prop) (w : World) (I : Nat → Value → World → List Value → Prop) : Prop :=
  ∀ (j : Nat) (hj : j < l.length) (wr w3 w4 w5 : World) (s v1 v2 vl : Value) (xs : List Value) (B3 blk cap : Nat), I j s wr xs → wr.ownsRow w.heap.size 50 8 s j xs → Below w.heap.size w wr → Below wr.heap.size wr w3 → Below w3.heap.size w3 w4 → wr.heap.size ≤ B3 → B3 ≤ w3.heap.size →
      OwnC w3 B3 (gor g B3) v1 l[j].body → OwnC w4 w3.heap.size (gor g w3.heap.size) v2 l[j].els → Lies g l[j].ls.length (Lab wr l[j].ls) vl →
      w5.ownsRow w.heap.size 50 8 (.slice (some ⟨blk, 0, none⟩) (j + 1) cap) (j + 1) (xs ++ cel l[j] v1 v2 vl) → (w4.alloc (.cells (cel l[j] v1 v2 vl).toArray 50)).grownBy w5 s.ownBlock → (s.ownBlock = some blk ∨ blk = w4.heap.size + 1) → w4.heap.size < w5.heap.size →
      I (j + 1) (.slice (some ⟨blk, 0, none⟩) (j + 1) cap) w5 (xs ++ cel l[j] v1 v2 vl)

set_option maxRecDepth 100000 in
set_option maxHeartbeats 3200000 in
theorem give_gen (l : List Ins) (g : Nat → Prop) (v : Value) (w : World) (hgS : ∀ k, g k → k < w.heap.size) (hv : Code w g l v) (hm : l.length ≤ 1099511627776) (hsz : Sz 1099511627776 l)
    (I : Nat → Value → World → List Value → Prop) (h0 : I 0 (.slice none 0 0) w [])
    (hst : GStep l g w I) :
    Calls Tryd.prog 11 #[v] w fun e w' => ∃ v' xs, e = .returned v' ∧ Below w.heap.size w w' ∧ w'.ownsRow w.heap.size 50 8 v' l.length xs ∧ I l.length v' w' xs := by
  have ih : ∀ i ∈ l, GiveP i.body ∧ GiveP i.els := fun i _ => ⟨give_any i.body, give_any i.els⟩
  obtain ⟨i0, hi, hz0, hz1, hz2⟩ := info_parts infoI
  obtain ⟨a, ca, rfl, hca, _, hA⟩ := hv
  have HA := hide hA; have HIh := hide ih; have HSz := hide (Sz_get hsz); have HG := hide hgS
  have HI0 := hide h0; have HStp := hide hst
  clear hA ih hsz hgS h0 hst
  generalize hn : l.length = n at *
  have HN := hide hn; clear hn
  go_enter Tryd.func11, Tryd.ntmps11
  go_wp2_with fail
  go_loopw [3, 4] (fun s c wr => ∃ j : Nat, c = .int .i64 j ∧ (j : Int) ≤ n ∧ (∃ xs, wr.ownsRow w.heap.size 50 8 s j xs ∧ I j s wr xs) ∧ Below w.heap.size w wr) (fun _ c _ => n - (intOf c).toNat)
  case atStart => exact ⟨0, rfl, by omega, ⟨[], World.ownsRow_nil _ _ _ _, unhide HI0⟩, Below.refl _ _⟩
  case round =>
    obtain ⟨j, rfl, hj, hown, hbel⟩ := hrel
    have HBel := hide hbel; have HOwn := hide hown
    by_cases hlt : (j : Int) < n
    · have ja : j < l.length := by have := unhide HN; omega
      obtain ⟨ba, oa, rfl, hga, hla⟩ := unhide HA (by have := unhide HN; omega)
      have hmA : Moves w wr g g := moves_below hbel (fun _ _ h => h)
      have iA := ItemAt.move hmA (hbel.block ba (Items_lt hla (by omega))) (Items_get hla j ja)
      have hI := unhide HIh l[j] (List.getElem_mem ja)
      have hZ := unhide HSz l[j] (List.getElem_mem ja)
      have hstj := unhide HStp j ja
      obtain ⟨xs, hx, hit⟩ := hown
      obtain ⟨sa, sc, rfl⟩ := own_isSl hx
      have hs := hx.lt
      generalize hxx : l[j] = x at *
      obtain ⟨vb, ve, vl, hc, h1, h2, h3⟩ := iA
      have H1 := hide h1; have H2 := hide h2; have H3 := hide h3; have HSj := hide hstj; have HX := hide hx; have HIt := hide hit; have HI := hide hI; have HZ := hide hZ; have HS := hide hs
      obtain ⟨c1, cb1, rfl, _⟩ := h1
      obtain ⟨c2, cb2, rfl, _⟩ := h2
      obtain ⟨c3, cb3, rfl, _⟩ := h3
      obtain ⟨e0, e1, e2, e3, e4, e5, e6, e7⟩ := hc
      have hb0 := one_alloc wr (.cells #[.int .u8 x.op, .int .i64 x.n, .int .u32 x.al, .int .u32 x.of, .int .u8 x.re, .slice c1 x.body.length cb1, .slice c2 x.els.length cb2, .slice c3 x.ls.length cb3] 55)
      have HB0 := hide hb0
      have HW := hide hbel.size
      clear hmA hla hga hI hZ hstj hx hit hs hbel hb0 hxx
      have hl0 : x.body.length ≤ 1099511627776 ∧ x.els.length ≤ 1099511627776 := ⟨(unhide HZ).1, (unhide HZ).2.1⟩
      go_wp2_with fail
      generalize hw2 : wr.alloc (.cells #[.int .u8 x.op, .int .i64 x.n, .int .u32 x.al, .int .u32 x.of, .int .u8 x.re, .slice c1 x.body.length cb1, .slice c2 x.els.length cb2, .slice c3 x.ls.length cb3] 55) = w2 at *
      have g0 : w2.cell? ⟨wr.heap.size, 0, none⟩ = some (.int .u8 x.op) := by rw [← hw2]; simp
      have g1 : w2.cell? ⟨wr.heap.size, 1, none⟩ = some (.int .i64 x.n) := by rw [← hw2]; simp
      have g2 : w2.cell? ⟨wr.heap.size, 2, none⟩ = some (.int .u32 x.al) := by rw [← hw2]; simp
      have g3 : w2.cell? ⟨wr.heap.size, 3, none⟩ = some (.int .u32 x.of) := by rw [← hw2]; simp
      have g4 : w2.cell? ⟨wr.heap.size, 4, none⟩ = some (.int .u8 x.re) := by rw [← hw2]; simp
      have g5 : w2.cell? ⟨wr.heap.size, 5, none⟩ = some (.slice c1 x.body.length cb1) := by rw [← hw2]; simp
      have g6 : w2.cell? ⟨wr.heap.size, 6, none⟩ = some (.slice c2 x.els.length cb2) := by rw [← hw2]; simp
      have g7 : w2.cell? ⟨wr.heap.size, 7, none⟩ = some (.slice c3 x.ls.length cb3) := by rw [← hw2]; simp
      have hz : w2.heap.size = wr.heap.size + 1 := by rw [← hw2]; simp
      have HZ2 := hide hz
      clear hw2 e0 e1 e2 e3 e4 e5 e6 e7 hz
      have qb : ∀ wx, Below w2.heap.size w2 wx → Calls Tryd.prog 11 #[.slice c1 x.body.length cb1] wx fun e w' => ∃ v', e = .returned v' ∧ Below wx.heap.size wx w' ∧ OwnC w' wx.heap.size (gor g wx.heap.size) v' x.body := fun wx hwx =>
        (unhide HI).1 g _ wx (fun k hk => by have := unhide HG k hk; have := hwx.size; have := unhide HZ2; have := unhide HW; omega) ((unhide H1).below (Below.on (unhide HB0) hwx)) (unhide HZ).1 (unhide HZ).2.2.2.1
      have qe : ∀ wx, Below w2.heap.size w2 wx → Calls Tryd.prog 11 #[.slice c2 x.els.length cb2] wx fun e w' => ∃ v', e = .returned v' ∧ Below wx.heap.size wx w' ∧ OwnC w' wx.heap.size (gor g wx.heap.size) v' x.els := fun wx hwx =>
        (unhide HI).2 g _ wx (fun k hk => by have := unhide HG k hk; have := hwx.size; have := unhide HZ2; have := unhide HW; omega) ((unhide H2).below (Below.on (unhide HB0) hwx)) (unhide HZ).2.1 (unhide HZ).2.2.2.2
      have QB := hide qb; have QE := hide qe
      clear qb qe
      generalize hN : wr.heap.size = N at g0 g1 g2 g3 g4 g5 g6 g7 HZ2 ⊢
      have HNN := hide hN; clear hN
      go_region_held3 (fun w' => w'.cell? ⟨N, 0, none⟩ = some (.int .u8 x.op) ∧ w'.cell? ⟨N, 1, none⟩ = some (.int .i64 x.n) ∧ w'.cell? ⟨N, 2, none⟩ = some (.int .u32 x.al) ∧ w'.cell? ⟨N, 3, none⟩ = some (.int .u32 x.of) ∧ w'.cell? ⟨N, 4, none⟩ = some (.int .u8 x.re) ∧ w'.cell? ⟨N, 5, none⟩ = some (.slice c1 x.body.length cb1) ∧ w'.cell? ⟨N, 6, none⟩ = some (.slice c2 x.els.length cb2) ∧ w'.cell? ⟨N, 7, none⟩ = some (.slice c3 x.ls.length cb3))
        (first | go_keep | exact ⟨(hk 0).trans g0, (hk 1).trans g1, (hk 2).trans g2, (hk 3).trans g3, (hk 4).trans g4, (hk 5).trans g5, (hk 6).trans g6, (hk 7).trans g7⟩)
        (first
          | (go_at_call_of 11 (Value.slice c1 x.body.length cb1); refine (unhide QB _ (below_drew w2)).mono ?_; rintro e w3 ⟨v1, rfl, hb3, ho3⟩; obtain ⟨s1, t1, rfl, _⟩ := ho3.shape; have HB3 := hide (Below.on (below_drew w2) hb3); have HO3 := hide ho3; clear ho3 hb3; have hk : ∀ o, w3.cell? ⟨N, o, none⟩ = w2.cell? ⟨N, o, none⟩ := fun o => fin_cell (unhide HB3) (by have := unhide HZ2; omega) o)
          | (go_at_call_of 11 (Value.slice c2 x.els.length cb2); refine (unhide QE _ (unhide HB3)).mono ?_; rintro e w4 ⟨v2, rfl, hb4, ho4⟩; obtain ⟨s2, t2, rfl, _⟩ := ho4.shape; have HB34 := hide hb4; have HB4 := hide (Below.on (unhide HB3) hb4); have HB5 := hide (Below.on (unhide HB0) (Below.on (unhide HB4) (one_alloc w4 (.cells (cel x (.slice s1 x.body.length t1) (.slice s2 x.els.length t2) (.slice c3 x.ls.length cb3)).toArray 50)))); have HO4 := hide ho4; clear ho4 hb4; have hk : ∀ o, w4.cell? ⟨N, o, none⟩ = w2.cell? ⟨N, o, none⟩ := fun o => fin_cell (unhide HB4) (by have := unhide HZ2; omega) o)
          | (refine step_append_lies _ (by rfl) _ _ _ (by rfl) w.heap.size 50 i0 (.agg #[.int .u8 0, .int .i64 0, .int .u32 0, .int .u32 0, .int .u8 0, .slice none 0 0, .slice none 0 0, .slice none 0 0]) 8 104 Tryd.underlying25 hi hz0 hz1 hz2 rfl (by decide) (.slice sa j sc) j xs (by rfl) (ownsRow_below (unhide HX) (unhide HB5)) ⟨w4.heap.size, 0, none⟩ 1 1 (cel x (.slice s1 x.body.length t1) (.slice s2 x.els.length t2) (.slice c3 x.ls.length cb3)) (by rfl) (by rfl) (new_cel w4 x _ _ _ _) (cel_one x ⟨_, _, _, rfl⟩ ⟨_, _, _, rfl⟩ ⟨_, _, _, rfl⟩) (by omega) (by unfold maxLen; omega) (by omega) (Nat.le_trans (unhide HW) (unhide HB5).size) (w4.heap.size + 1) (by simp) ?_; intro gg capn w5 hown5 hgrow hat5 hlt5; have hk : ∀ o, w5.cell? ⟨N, o, none⟩ = w2.cell? ⟨N, o, none⟩ := fun o => (World.cell?_of_block (a := ⟨N, o, none⟩) (hgrow.block N (by have := (unhide HB5).size; have := unhide HNN; have := (unhide HB4).size; have := unhide HZ2; simp; omega) (fun e => by have := (unhide HS N e.symm).2; have := unhide HNN; omega))).trans ((fin_cell (one_alloc w4 _) (by have := (unhide HB4).size; have := unhide HZ2; omega) o).trans (fin_cell (unhide HB4) (by have := unhide HZ2; omega) o))))
      have hst := unhide HSj wr w3 w4 w5 (.slice sa j sc) _ _ _ xs _ gg capn (unhide HIt) (unhide HX) (unhide HBel) (Below.on (unhide HB0) (unhide HB3)) (unhide HB34) (by have := (unhide HB0).size; exact this) (by have := (unhide HB3).size; exact this) (unhide HO3) (unhide HO4) (Labs.below (unhide H3) (Below.refl _ _)) hown5 hgrow hat5 (by have h1 := (unhide HB4).size; have h2 := hgrow.size; simp at h2; omega)
      have hbb : Below w.heap.size w w5 := (Below.on (unhide HBel) (unhide HB5)).grown hgrow (Below.on (unhide HBel) (unhide HB5)).size fun k hk => (unhide HS k hk).1
      have HSt := hide (And.intro hown5 hst); have HBB := hide hbb
      clear hown5
      clear hst hbb hk hgrow hat5 hlt5 g0 g1 g2 g3 g4 g5 g6 g7
      go_wp2
      go_roundw
      case rel => exact ⟨j + 1, by go_num, by omega, ⟨_, (unhide HSt).1, (unhide HSt).2⟩, unhide HBB⟩
      case measure => simp [intOf]; omega
    · obtain rfl : j = n := by omega
      clear hj hlt
      obtain ⟨xs, hx, hit⟩ := hown
      obtain ⟨sa, sc, rfl⟩ := own_isSl hx
      have HX := hide hx; have HIt := hide hit
      clear hx hit hbel
      go_wp2
      go_ret
      exact ⟨.slice sa j sc, xs, rfl, unhide HBel, unhide HX, unhide HIt⟩

/-- blocks within -/
def btw (p q : Nat) : Nat → Prop := fun b => p ≤ b ∧ b < q
/-- the blocks of all items but one -/
def Gk (g : Nat → Prop) (S p r : Nat) : Nat → Prop := fun b => gor g S b ∧ ¬ btw p r b
/-- a list of the call's own, of which one item stands in blocks of its own -/
structure OwnK (w : World) (S : Nat) (g : Nat → Prop) (v : Value) (k : Nat) (x : Ins) (la lb : List Ins) (ys zs : List Value) (p q r : Nat) (v1 v2 vl : Value) : Prop where
  pq : p ≤ q
  qr : q ≤ r
  Sp : S ≤ p
  lt : r ≤ w.heap.size
  row : ∀ b, v.ownBlock = some b → ¬ btw p r b
  r1 : ∀ b, v1.ownBlock = some b → btw p q b
  r2 : ∀ b, v2.ownBlock = some b → btw q r b
  ha : Its w (own (Gk g S p r) v) la ys
  hb : Its w (own (Gk g S p r) v) lb zs
  o1 : OwnC w p (fun b => g b ∨ btw p q b) v1 x.body
  o2 : OwnC w q (fun b => g b ∨ btw q r b) v2 x.els
  ls : Lies g x.ls.length (Lab w x.ls) vl
theorem Its.old {w : World} {G G' : Nat → Prop} {l : List Ins} {xs : List Value} (h : Its w G l xs) (hg : ∀ b, b < w.heap.size → G b → G' b) : Its w G' l xs := Its.move (moves_below (Below.refl _ _) hg) h
/-- what nested calls gave lies in blocks that are there -/
theorem OwnC.inn {w : World} {B : Nat} {g : Nat → Prop} {v : Value} {l : List Ins} (h : OwnC w B (gor g B) v l) : OwnC w B (fun b => g b ∨ btw B w.heap.size b) v l := by
  obtain ⟨xs, hx, hi⟩ := h
  refine ⟨xs, hx, hi.old fun b hb hg => ⟨hg.1, ?_⟩⟩
  rcases hg.2 with h | h
  · exact .inl h
  · exact .inr ⟨h, hb⟩
def InvK (l : List Ins) (k : Nat) (hk : k < l.length) (w : World) (g : Nat → Prop) (j : Nat) (s : Value) (wr : World) (xs : List Value) : Prop :=
  (j ≤ k ∧ Its wr (own (gor g w.heap.size) s) (l.take j) xs) ∨
  (k < j ∧ ∃ ys zs p q r v1 v2 vl, xs = ys ++ cel l[k] v1 v2 vl ++ zs ∧ OwnK wr w.heap.size g s k l[k] (l.take k) ((l.take j).drop (k + 1)) ys zs p q r v1 v2 vl)
theorem givek_any (l : List Ins) (k : Nat) (hk : k < l.length) (g : Nat → Prop) (v : Value) (w : World) (hgS : ∀ k, g k → k < w.heap.size) (hv : Code w g l v) (hm : l.length ≤ 1099511627776) (hsz : Sz 1099511627776 l) :
    Calls Tryd.prog 11 #[v] w fun e w' => ∃ v' ys zs p q r v1 v2 vl, e = .returned v' ∧ Below w.heap.size w w' ∧ w'.ownsRow w.heap.size 50 8 v' l.length (ys ++ cel l[k] v1 v2 vl ++ zs) ∧ OwnK w' w.heap.size g v' k l[k] (l.take k) (l.drop (k + 1)) ys zs p q r v1 v2 vl := by
  have h := give_gen l g v w hgS hv hm hsz (InvK l k hk w g) (.inl ⟨by omega, rfl⟩) ?_
  · refine h.mono ?_
    rintro e w' ⟨v', xs, rfl, hb, hx, hI⟩
    rcases hI with ⟨h1, _⟩ | ⟨_, ys, zs, p, q, r, v1, v2, vl, rfl, hO⟩
    · omega
    · rw [List.take_length] at hO
      exact ⟨v', ys, zs, p, q, r, v1, v2, vl, rfl, hb, hx, hO⟩
  · intro j hj wr w3 w4 w5 s v1 v2 vl xs B3 blk cap hI hx hbel h13 h34 hB3 hB33 o3 o4 hl hown hgrow hat hlt
    have h14 := Below.on h13 h34
    have hal := one_alloc w4 (.cells (cel l[j] v1 v2 vl).toArray 50)
    have h1a := Below.on h14 hal
    have hs := hx.lt
    have hSw := hbel.size
    have z34 := h34.size
    have z13 := h13.size
    have hz : (w4.alloc (.cells (cel l[j] v1 v2 vl).toArray 50)).heap.size = w4.heap.size + 1 := by simp
    have c3 : ∀ b, (g b ∨ btw B3 w3.heap.size b) → own (gor g w.heap.size) s b := fun b hb => by
      rcases hb with h | h
      · exact ⟨fun e => by have := (hs b e).1; have := hgS b h; omega, .inl h⟩
      · have := h.1; exact ⟨fun e => by have := (hs b e).2; omega, .inr (by omega)⟩
    -- blocks that are kept, from here to the end
    have kp : ∀ b, b < w4.heap.size → s.ownBlock ≠ some b → w5.heap[b]? = w4.heap[b]? := fun b hb hne => (hgrow.block b (by omega) (fun e => hne e.symm)).trans (hal.block b hb)
    have nb : ∀ b, b < w4.heap.size → s.ownBlock ≠ some b → (Value.slice (some ⟨blk, 0, none⟩) (j + 1) cap).ownBlock ≠ some b := fun b hb hne e => by
      simp only [Value.ownBlock, Option.some.injEq] at e
      subst e
      rcases hat with e | e
      · exact hne e
      · omega
    have mvA : ∀ (G : Nat → Prop), (∀ b, G b → s.ownBlock ≠ some b) → ∀ {L : List Ins} {zs : List Value}, Its wr G L zs → Its w5 (fun b => G b ∧ (Value.slice (some ⟨blk, 0, none⟩) (j + 1) cap).ownBlock ≠ some b ∧ b < wr.heap.size) L zs := fun G hG L zs h =>
      Its.move (fun b hb _ hg => ⟨⟨hg, nb b (by omega) (hG b hg), hb⟩, (kp b (by omega) (hG b hg)).trans (h14.block b hb)⟩) h
    have mv3 : ∀ (G : Nat → Prop), (∀ b, G b → s.ownBlock ≠ some b) → ∀ {L : List Ins} {u : Value}, Code w3 G L u → Code w5 (fun b => G b ∧ (Value.slice (some ⟨blk, 0, none⟩) (j + 1) cap).ownBlock ≠ some b ∧ b < w3.heap.size) L u := fun G hG L u h =>
      Code.move (fun b hb _ hg => ⟨⟨hg, nb b (by omega) (hG b hg), hb⟩, (kp b (by omega) (hG b hg)).trans (h34.block b hb)⟩) h
    have mv4 : ∀ (G : Nat → Prop), (∀ b, G b → s.ownBlock ≠ some b) → ∀ {L : List Ins} {u : Value}, Code w4 G L u → Code w5 (fun b => G b ∧ (Value.slice (some ⟨blk, 0, none⟩) (j + 1) cap).ownBlock ≠ some b ∧ b < w4.heap.size) L u := fun G hG L u h =>
      Code.move (fun b hb _ hg => ⟨⟨hg, nb b hb (hG b hg), hb⟩, kp b hb (hG b hg)⟩) h
    have sne : ∀ b, wr.heap.size ≤ b → s.ownBlock ≠ some b := fun b hb e => by have := (hs b e).2; omega
    have gne : ∀ b, g b → s.ownBlock ≠ some b := fun b hb e => by have := (hs b e).1; have := hgS b hb; omega
    have hlab : Lies (fun b => g b ∧ (Value.slice (some ⟨blk, 0, none⟩) (j + 1) cap).ownBlock ≠ some b ∧ b < wr.heap.size) l[j].ls.length (Lab w5 l[j].ls) vl := Labs.move (fun b hb _ hg => ⟨⟨hg, nb b (by omega) (gne b hg), hb⟩, (kp b (by omega) (gne b hg)).trans (h14.block b hb)⟩) hl
    have hc1 : Code w5 (fun b => (g b ∨ btw B3 w3.heap.size b) ∧ (Value.slice (some ⟨blk, 0, none⟩) (j + 1) cap).ownBlock ≠ some b ∧ b < w3.heap.size) l[j].body v1 := mv3 _ (fun b hb => by rcases hb with h | h; exact gne b h; exact sne b (by have := h.1; omega)) (o3.inn.code fun b hb hg => by
      rcases hg with h | h
      · exact h
      · exact .inr ⟨h, hb⟩)
    have hc2 : Code w5 (fun b => (g b ∨ btw w3.heap.size w4.heap.size b) ∧ (Value.slice (some ⟨blk, 0, none⟩) (j + 1) cap).ownBlock ≠ some b ∧ b < w4.heap.size) l[j].els v2 := mv4 _ (fun b hb => by rcases hb with h | h; exact gne b h; exact sne b (by have := h.1; omega)) (o4.inn.code fun b hb hg => by
      rcases hg with h | h
      · exact h
      · exact .inr ⟨h, hb⟩)
    have htk : l.take (j + 1) = l.take j ++ [l[j]] := List.take_succ_eq_append_getElem hj
    rcases hI with ⟨hjk, hi⟩ | ⟨hkj, ys, zs, p, q, r, u1, u2, ul, rfl, hO⟩
    · have hi5 := mvA (own (gor g w.heap.size) s) (fun b hb => hb.1) hi
      by_cases hjk2 : j = k
      · subst hjk2
        refine .inr ⟨by omega, xs, [], B3, w3.heap.size, w4.heap.size, v1, v2, vl, by simp, ⟨hB33, z34, by omega, by omega, fun b hb hbt => ?_, fun b hb => o3.lt b hb, fun b hb => o4.lt b hb, ?_, ?_, ?_, ?_, ?_⟩⟩
        · simp only [Value.ownBlock, Option.some.injEq] at hb
          subst hb
          rcases hat with e | e
          · have := (hs blk e).2; have := hbt.1; omega
          · have := hbt.2; omega
        · exact hi5.old fun b _ hb => ⟨hb.2.1, hb.1.2, fun hbt => by have := hbt.1; have := hb.2.2; omega⟩
        · have : (l.take (j + 1)).drop (j + 1) = [] := by simp
          rw [this]; rfl
        · exact (o3.inn.move (fun b hb => (kp b (by have := (o3.lt b hb).2; omega) (sne b (by have := (o3.lt b hb).1; omega))).trans (h34.block b (o3.lt b hb).2)) (fun b hb _ hg => ⟨hg, (kp b (by omega) (by rcases hg.2 with h | h; exact gne b h; exact sne b (by have := h.1; omega))).trans (h34.block b hb)⟩))
        · exact (o4.inn.move (fun b hb => kp b (o4.lt b hb).2 (sne b (by have := (o4.lt b hb).1; omega))) (fun b hb _ hg => ⟨hg, kp b hb (by rcases hg.2 with h | h; exact gne b h; exact sne b (by have := h.1; omega))⟩))
        · exact Labs.any hlab fun b _ hb => hb.1
      · refine .inl ⟨by omega, ?_⟩
        rw [htk]
        refine Its.snoc ?_ ?_ ?_ (hi5.old fun b _ hb => ⟨hb.2.1, hb.1.2⟩)
        · exact hc1.any fun b _ hb => ⟨hb.2.1, by rcases hb.1 with h | h; exact .inl h; exact .inr (by have := h.1; omega)⟩
        · exact hc2.any fun b _ hb => ⟨hb.2.1, by rcases hb.1 with h | h; exact .inl h; exact .inr (by have := h.1; omega)⟩
        · exact Labs.any hlab fun b _ hb => ⟨hb.2.1, .inl hb.1⟩
    · have hrw := hO.lt
      have lift : ∀ b, Gk g w.heap.size p r b ∧ (Value.slice (some ⟨blk, 0, none⟩) (j + 1) cap).ownBlock ≠ some b → own (Gk g w.heap.size p r) (.slice (some ⟨blk, 0, none⟩) (j + 1) cap) b := fun b hb => ⟨hb.2, hb.1⟩
      have hdr : (l.take (j + 1)).drop (k + 1) = (l.take j).drop (k + 1) ++ [l[j]] := by
        rw [htk, List.drop_append_of_le_length (by simp; omega)]
      have a5 := mvA _ (fun b hb => hb.1) hO.ha
      have b5 := mvA _ (fun b hb => hb.1) hO.hb
      refine .inr ⟨by omega, ys, zs ++ cel l[j] v1 v2 vl, p, q, r, u1, u2, ul, by simp, ⟨hO.pq, hO.qr, hO.Sp, by omega, fun b hb hbt => ?_, hO.r1, hO.r2, ?_, ?_, ?_, ?_, ?_⟩⟩
      · simp only [Value.ownBlock, Option.some.injEq] at hb
        subst hb
        rcases hat with e | e
        · exact hO.row blk e hbt
        · have := hbt.2; omega
      · exact a5.old fun b _ hb => ⟨hb.2.1, hb.1.2⟩
      · rw [hdr]
        have far : ∀ b, wr.heap.size ≤ b → Gk g w.heap.size p r b := fun b hb => ⟨.inr (by omega), fun hbt => by have := hbt.2; omega⟩
        have gg : ∀ b, g b → Gk g w.heap.size p r b := fun b hb => ⟨.inl hb, fun hbt => by have := hbt.1; have := hO.Sp; have := hgS b hb; omega⟩
        refine Its.snoc ?_ ?_ ?_ (b5.old fun b _ hb => ⟨hb.2.1, hb.1.2⟩)
        · exact hc1.any fun b _ hb => ⟨hb.2.1, by rcases hb.1 with h | h; exact gg b h; exact far b (by have := h.1; omega)⟩
        · exact hc2.any fun b _ hb => ⟨hb.2.1, by rcases hb.1 with h | h; exact gg b h; exact far b (by have := h.1; omega)⟩
        · exact Labs.any hlab fun b _ hb => ⟨hb.2.1, gg b hb.1⟩
      · exact hO.o1.move (fun b hb => by
          have hl1 := hO.o1.lt b hb
          have hne : s.ownBlock ≠ some b := fun e => hO.row b e ⟨hl1.1, by have := (hO.r1 b hb).2; have := hO.qr; omega⟩
          exact (kp b (by omega) hne).trans (h14.block b hl1.2)) (fun b hb _ hg => ⟨hg, by
          have hne : s.ownBlock ≠ some b := by
            rcases hg.2 with h | h
            · exact gne b h
            · exact fun e => hO.row b e ⟨h.1, by have := h.2; have := hO.qr; omega⟩
          exact (kp b (by omega) hne).trans (h14.block b hb)⟩)
      · exact hO.o2.move (fun b hb => by
          have hl1 := hO.o2.lt b hb
          have hne : s.ownBlock ≠ some b := fun e => hO.row b e ⟨by have := (hO.r2 b hb).1; have := hO.pq; omega, (hO.r2 b hb).2⟩
          exact (kp b (by omega) hne).trans (h14.block b hl1.2)) (fun b hb _ hg => ⟨hg, by
          have hne : s.ownBlock ≠ some b := by
            rcases hg.2 with h | h
            · exact gne b h
            · exact fun e => hO.row b e ⟨by have := h.1; have := hO.pq; omega, h.2⟩
          exact (kp b (by omega) hne).trans (h14.block b hb)⟩)
      · exact Labs.any (Labs.move (fun b hb _ hg => ⟨hg, (kp b (by omega) (gne b hg)).trans (h14.block b hb)⟩) hO.ls) fun b _ hb => hb
end Ex
end Go.Proofs.YtjhmglefejclpaaDoor

/- One item of a list of the call's own turned: what stands there behind it. -/
namespace Go.Proofs.YtjhmglefejclpaaDoor
open Go.RowKit
namespace Ex
set_option linter.unusedVariables false
set_option linter.unusedSimpArgs false

theorem Its.app {w : World} {G : Nat → Prop} : ∀ {l1 : List Ins} {xs1 : List Value}, Its w G l1 xs1 → ∀ {l2 : List Ins} {xs2 : List Value}, Its w G l2 xs2 → Its w G (l1 ++ l2) (xs1 ++ xs2) := by
  intro l1
  induction l1 with
  | nil => intro xs1 h l2 xs2 h2; cases (show xs1 = [] from h); exact h2
  | cons x r ih =>
    rintro xs1 ⟨vb, ve, vl, ys, rfl, a1, a2, a3, a4⟩ l2 xs2 h2
    exact ⟨vb, ve, vl, ys ++ xs2, by simp, a1, a2, a3, ih a4 h2⟩
/-- a slice that is a row of the call's own, with its block -/
theorem own_blk {w : World} {B e z n : Nat} {v : Value} {xs : List Value} (h : w.ownsRow B e z v n xs) (hn : 0 < n) : ∃ b c, v = .slice (some ⟨b, 0, none⟩) n c ∧ B ≤ b ∧ b < w.heap.size ∧ n ≤ c ∧ (∀ j u, xs[j]? = some u → w.cell? ⟨b, j, none⟩ = some u) ∧ (∀ i, w.frozen? ⟨b, i, none⟩ = false) := by
  have h0 := h
  rcases h.2 with ⟨_, h2⟩ | ⟨g, cap, cur, rfl, h2, h3, h4, _⟩
  · omega
  · exact ⟨g, cap, rfl, h2, (Array.getElem?_eq_some_iff.1 h3).1, h4, row_cells h0, fun i => by simp [World.frozen?, h3]⟩
theorem row_set {w : World} {b : Nat} {L : List Value} (h : ∀ j u, L[j]? = some u → w.cell? ⟨b, j, none⟩ = some u) (m : Nat) (u : Value) : ∀ j u', (L.set m u)[j]? = some u' → (w.setCell ⟨b, m, none⟩ u).cell? ⟨b, j, none⟩ = some u' := by
  intro j u' hj
  by_cases hjm : j = m
  · subst hjm
    rw [List.getElem?_set_self'] at hj
    cases hL : L[j]? with
    | none => rw [hL] at hj; simp at hj
    | some y =>
      rw [hL] at hj
      simp at hj
      subst hj
      exact World.cell?_setCell_same _ _ _ (h j y hL)
  · rw [List.getElem?_set_ne (fun e => hjm e.symm)] at hj
    rw [World.cell?_setCell_other _ _ _ _ (by intro e; cases e; exact hjm rfl)]
    exact h j u' hj
/-- the list, with that item another one -/
theorem OwnK.turned {w w2 : World} {S : Nat} {g : Nat → Prop} {k n c b : Nat} {x x' : Ins} {la lb : List Ins} {ys zs : List Value} {p q r : Nat} {v1 v2 vl u1 u2 ul : Value}
    (hO : OwnK w S g (.slice (some ⟨b, 0, none⟩) n c) k x la lb ys zs p q r v1 v2 vl) (hn : n = (la ++ [x'] ++ lb).length) (hc : n ≤ c)
    (hrow : ∀ j u, (ys ++ cel x' u1 u2 ul ++ zs)[j]? = some u → w2.cell? ⟨b, j, none⟩ = some u)
    (hkeep : ∀ d, d < w.heap.size → own (Gk g S p r) (.slice (some ⟨b, 0, none⟩) n c) d → w2.heap[d]? = w.heap[d]?)
    (c1 : Code w2 (fun _ => True) x'.body u1) (c2 : Code w2 (fun _ => True) x'.els u2) (c3 : Lies (fun _ => True) x'.ls.length (Lab w2 x'.ls) ul) :
    Code w2 (fun _ => True) (la ++ [x'] ++ lb) (.slice (some ⟨b, 0, none⟩) n c) := by
  have mv : Moves w w2 (own (Gk g S p r) (.slice (some ⟨b, 0, none⟩) n c)) (fun _ => True) := fun d hd _ hg => ⟨trivial, hkeep d hd hg⟩
  have hone : Its w2 (fun _ => True) [x'] (cel x' u1 u2 ul) := ⟨u1, u2, ul, [], by simp, c1, c2, c3, rfl⟩
  have hi : Its w2 (fun _ => True) (la ++ [x'] ++ lb) (ys ++ cel x' u1 u2 ul ++ zs) := Its.app (Its.app (Its.move mv hO.ha) hone) (Its.move mv hO.hb)
  subst hn
  exact ⟨_, c, rfl, hc, by simp, fun _ => ⟨b, 0, rfl, trivial, Its.items hi fun j u hj => by rw [Nat.zero_add]; exact hrow j u hj⟩⟩
theorem cel_at {ys zs : List Value} {x : Ins} {v1 v2 vl : Value} {k : Nat} (hy : ys.length = k * 8) (i : Nat) (hi : i < 8) : (ys ++ cel x v1 v2 vl ++ zs)[k * 8 + i]? = (cel x v1 v2 vl)[i]? := by
  rw [List.append_assoc, List.getElem?_append_right (by omega), hy, Nat.add_sub_cancel_left, List.getElem?_append_left (by simp [cel]; omega)]
theorem cel_set {ys zs : List Value} {x : Ins} {v1 v2 vl : Value} {k : Nat} (hy : ys.length = k * 8) (i : Nat) (hi : i < 8) (u : Value) : (ys ++ cel x v1 v2 vl ++ zs).set (k * 8 + i) u = ys ++ (cel x v1 v2 vl).set i u ++ zs := by
  rw [List.append_assoc, List.set_append_right _ _ (by omega), hy, Nat.add_sub_cancel_left, List.set_append_left _ _ (by simp [cel]; omega), List.append_assoc]
theorem set_parts {l : List Ins} {k : Nat} (hk : k < l.length) (x' : Ins) : l.take k ++ [x'] ++ l.drop (k + 1) = l.set k x' := by
  rw [List.set_eq_take_append_cons_drop, if_pos hk]; simp
theorem set_ne' {l : List Ins} {k : Nat} (hk : k < l.length) {x' : Ins} (hx : x' ≠ l[k]) : same l (l.set k x') = false := by
  refine same_ne fun e => hx ?_
  have h := congrArg (fun m => m[k]?) e
  simp only [List.getElem?_set_self hk, List.getElem?_eq_getElem hk, Option.some.injEq] at h
  exact h.symm
theorem same_shorter {l : List Ins} (hl : 0 < l.length) : same l (l.take (l.length - 1)) = false := same_len (by simp; omega)
theorem Code.short {w : World} {g : Nat → Prop} {l : List Ins} {a : Option Addr} {n c : Nat} (h : Code w g l (.slice a n c)) (m : Nat) (hm : m ≤ l.length) : Code w g (l.take m) (.slice a m c) := by
  obtain ⟨a', c', e, h2, h3, h4⟩ := h
  cases e
  have hl : (l.take m).length = m := by simp; omega
  refine ⟨a, c, by rw [hl], by rw [hl]; omega, h3, fun h0 => ?_⟩
  rw [hl] at h0
  obtain ⟨b, o, rfl, hg, hp⟩ := h4 (by omega)
  refine ⟨b, o, rfl, hg, Items_of fun j hj => ?_⟩
  have := Items_get hp j (by rw [hl] at hj; omega)
  simpa using this
end Ex
end Go.Proofs.YtjhmglefejclpaaDoor
