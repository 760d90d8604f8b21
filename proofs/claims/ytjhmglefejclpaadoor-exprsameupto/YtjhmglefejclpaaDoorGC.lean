/- GC: what follows, part by part: each part tells what it holds. -/
import Derived.Test.YtjhmglefejclpaaDoorGB
import Derived.Deep.OwnRows
import Derived.Laws.OwnMore
import Derived.Deep.LoopGhost
import Derived.Deep.AppendLies
import Derived.Test.YtjhmglefejclpaaDoorGA

/- The reader's labels. -/
namespace Go.Proofs.YtjhmglefejclpaaDoor
open Go.RowKit
namespace Ex
set_option linter.unusedVariables false

theorem pL_snoc (zs : List Int) : ∀ (m a k : Nat), pL zs (m + 1) a k = (pL zs m a k).on [] fun a2 k2 ls => (pU zs a2 4294967295).on k2 [] fun a3 v => ⟨0, a3, k2, ls ++ [v]⟩
  | 0, a, k => by
    rw [pL, pL, Out.on_ok rfl]
    by_cases h : (pU zs a 4294967295).e = 0
    · rw [Part.on_ok h, Part.on_ok h, pL, Out.on_ok rfl]; rfl
    · rw [Part.on_no h, Part.on_no h]
  | m + 1, a, k => by
    rw [pL]
    by_cases h : (pU zs a 4294967295).e = 0
    · rw [Part.on_ok h, pL_snoc zs m, pL, Part.on_ok h]
      generalize pL zs m (pU zs a 4294967295).at_ k = R
      by_cases hR : R.e = 0
      · rw [Out.on_ok hR, Out.on_ok (x := R) hR, Out.on_ok (x := ⟨0, R.at_, R.k, (pU zs a 4294967295).v :: R.v⟩) rfl]
        by_cases h2 : (pU zs R.at_ 4294967295).e = 0
        · rw [Part.on_ok h2, Part.on_ok h2, Out.on_ok rfl]; rfl
        · rw [Part.on_no h2, Part.on_no h2, Out.on_no (by exact h2)]
      · rw [Out.on_no hR, Out.on_no (x := R) hR, Out.on_no (by exact hR), Out.on_no (by exact hR)]
    · rw [Part.on_no h, pL, Part.on_no h, Out.on_no (by exact h)]
theorem pL_k (zs : List Int) : ∀ (m a k : Nat), (pL zs m a k).k = k
  | 0, a, k => by rw [pL]
  | m + 1, a, k => by
    rw [pL]
    by_cases h : (pU zs a 4294967295).e = 0
    · rw [Part.on_ok h]
      by_cases h2 : (pL zs m (pU zs a 4294967295).at_ k).e = 0
      · rw [Out.on_ok h2]; exact pL_k zs m _ k
      · rw [Out.on_no h2]; exact pL_k zs m _ k
    · rw [Part.on_no h]
theorem pL_len (zs : List Int) : ∀ (m a k : Nat), (pL zs m a k).e = 0 → (pL zs m a k).v.length = m
  | 0, a, k, _ => by rw [pL]; rfl
  | m + 1, a, k, he => by
    rw [pL] at he ⊢
    by_cases h : (pU zs a 4294967295).e = 0
    · rw [Part.on_ok h] at he ⊢
      by_cases h2 : (pL zs m (pU zs a 4294967295).at_ k).e = 0
      · rw [Out.on_ok h2]; simp [pL_len zs m _ k h2]
      · rw [Out.on_no h2] at he; exact absurd he h2
    · rw [Part.on_no h] at he; exact absurd he h
/-- what labels tell -/
def pT (zs : List Int) (p k : Nat) : Out (List Int) := (pU zs p 256).on k [] fun a1 v => pL zs (v.toNat + 1) a1 k

theorem infoU32 : (Tryd.prog.info? 46).map (fun i => (i.zero, i.size, i.bytes)) = some (some (.int .u32 0), 1, 4) := by kernel_rfl
def u32s (vs : List Int) : Array Value := (vs.map (Value.int .u32)).toArray
theorem made_u32 (n : Nat) : madeCells #[Value.int .u32 0] n = u32s (List.replicate n 0) := by
  apply Array.toList_inj.1
  rw [toList_madeCells_one]; simp [u32s]
theorem u32s_rep (n : Nat) : (List.replicate n (Value.int .u32 0)).toArray = u32s (List.replicate n 0) := by simp [u32s]
theorem u32s_set {w : World} {M : Nat} {vs : List Int} (h : w.heap[M]? = some (.cells (u32s vs) 46 (0, 0))) (j : Nat) (v : Int) (hj : j < vs.length) : (w.setCell ⟨M, j, none⟩ (.int .u32 v)).heap[M]? = some (.cells (u32s (vs.set j v)) 46 (0, 0)) := by
  rw [heap_setCell_same w M j _ _ _ h]
  simp [u32s, List.map_set]
theorem u32s_lab {w : World} {M : Nat} {vs : List Int} (h : w.heap[M]? = some (.cells (u32s vs) 46 (0, 0))) : Lab w vs M 0 := fun j hj => by
  rw [cell_of_row w M (0 + j) _ _ _ h]
  simp [u32s, List.getD, hj]
/-- a row written, the reader's box stays -/
theorem Rd.other {w : World} {N : Nat} {a : Option Addr} {len cap : Nat} {zs : List Int} {p k : Nat} {e : Int} (h : Rd w N a len cap zs p k e) {M : Nat} (hM : M ≠ N) (hr : ∀ b o, a = some ⟨b, o, none⟩ → 0 < len → b ≠ M) (i : Nat) (v : Value) : Rd (w.setCell ⟨M, i, none⟩ v) N a len cap zs p k e := by
  refine ⟨(heap_setCell_other w ⟨M, i, none⟩ N v (fun e => hM e.symm)).trans h.box, ?_, h.ne, h.nil, h.cap, h.at_, h.len, h.k⟩
  refine ⟨h.row.1, h.row.2.1, fun hl => ?_⟩
  obtain ⟨b, off, rfl, hlt, hc⟩ := h.row.2.2 hl
  have hb := heap_setCell_other w ⟨M, i, none⟩ b v (hr b off rfl hl)
  refine ⟨b, off, rfl, Nat.lt_of_lt_of_le hlt ?_, fun i' hi => (World.cell?_of_block (a := ⟨b, off + i', none⟩) hb).trans (hc i' hi)⟩
  exact ((Below.refl M w).setCell (p := ⟨M, i, none⟩) (Nat.le_refl _) v).size

def LRel (w : World) (N : Nat) (a : Option Addr) (len cap : Nat) (zs : List Int) (k M n : Nat) (R : Nat → Out (List Int)) (j : Nat) (wr : World) : Prop :=
  Rd wr N a len cap zs (R j).at_ k (R j).e ∧ Tn N w wr ∧ ∃ vs : List Int, vs.length = n + 1 ∧ wr.heap[M]? = some (.cells (u32s vs) 46 (0, 0)) ∧ ((R j).e = 0 → vs.take j = (R j).v)
theorem lrel_step {w : World} {N : Nat} {a : Option Addr} {len cap : Nat} {zs : List Int} {k M n : Nat} {R : Nat → Out (List Int)} {j : Nat} {wr w1 : World} {x : Int}
    (h : LRel w N a len cap zs k M n R j wr) (hM : w.heap.size ≤ M) (hMN : M ≠ N) (hw : N < w.heap.size) (hrow : ∀ b o, a = some ⟨b, o, none⟩ → 0 < len → b < w.heap.size)
    (hj : j < n + 1) (h1 : Rd w1 N a len cap zs (R (j + 1)).at_ k (R (j + 1)).e) (ht : Tn N wr w1) (hv : (R (j + 1)).e = 0 → (R j).e = 0 ∧ (R (j + 1)).v = (R j).v ++ [x]) :
    LRel w N a len cap zs k M n R (j + 1) (w1.setCell ⟨M, j, none⟩ (.int .u32 x)) := by
  obtain ⟨h2, h3, vs, h4, h5, h6⟩ := h
  have hMl : M < wr.heap.size := (Array.getElem?_eq_some_iff.1 h5).1
  have h5' := (ht.block M hMl (fun e => hMN (Option.some.inj e))).trans h5
  refine ⟨h1.other hMN (fun b o e hl => by have := hrow b o e hl; omega) _ _, ?_, vs.set j x, by simpa using h4, u32s_set h5' j x (by omega), fun he => ?_⟩
  · have hT := Tn.on h3 ht
    refine ⟨hT.os, hT.tape, hT.output, Nat.le_trans hT.size (((Below.refl M w1).setCell (p := ⟨M, j, none⟩) (Nat.le_refl _) _).size), fun q hq hne => ?_⟩
    rw [heap_setCell_other w1 ⟨M, j, none⟩ q _ (by simp only; omega)]
    exact hT.block q hq hne
  · have := hv he
    rw [this.2, ← h6 this.1, List.take_succ_eq_append_getElem (by simp; omega)]
    simp [List.take_set_of_le]
set_option maxRecDepth 100000 in
set_option maxHeartbeats 1600000 in
theorem lb_any {N len cap p k : Nat} {a : Option Addr} {zs : List Int} {w : World} (h : Rd w N a len cap zs p k 0) :
    Calls Tryd.prog 68 #[.pointer (some ⟨N, 0, none⟩)] w fun e w' => ∃ v, e = .returned v ∧ Rd w' N a len cap zs (pT zs p k).at_ k (pT zs p k).e ∧ Tn N w w' ∧
      (∃ a' l' c', v = .slice a' l' c') ∧ ((pT zs p k).e = 0 → Lies (w.heap.size ≤ ·) (pT zs p k).v.length (Lab w' (pT zs p k).v) v) := by
  have hu := ut_any h 256
  have hbd := pU_bd zs p 256 (by rw [h.zlen]; exact h.at_)
  have hN := h.lt
  have hrow : ∀ b o, a = some ⟨b, o, none⟩ → 0 < len → b < w.heap.size := fun b o e hl => by
    obtain ⟨b', o', e', hlt, _⟩ := h.row.2.2 hl
    rw [e] at e'; simp at e'; omega
  -- what comes, as one function of how many labels were read
  obtain ⟨n, hn, hn2, R, hR0, hRs, hRe, hend⟩ : ∃ n : Nat, (pU zs p 256).v = (n : Int) ∧ n ≤ 256 ∧ ∃ R : Nat → Out (List Int), (R 0).at_ = (pU zs p 256).at_ ∧ (∀ j, (R j).e = 0 → (R (j + 1)).at_ = (pU zs (R j).at_ 4294967295).at_ ∧ (R (j + 1)).e = (pU zs (R j).at_ 4294967295).e ∧ ((R (j + 1)).e = 0 → (R (j + 1)).v = (R j).v ++ [(pU zs (R j).at_ 4294967295).v])) ∧
      (∀ j, ¬ (R j).e = 0 → (R (j + 1)).at_ = (R j).at_ ∧ (R (j + 1)).e = (R j).e) ∧ ((R 0).e = (pU zs p 256).e ∧ (R 0).v = [] ∧ (R (n + 1)).e = (pT zs p k).e ∧ (R (n + 1)).at_ = (pT zs p k).at_ ∧ ((pT zs p k).e = 0 → (R (n + 1)).v = (pT zs p k).v ∧ (pT zs p k).v.length = n + 1)) := by
    by_cases he : (pU zs p 256).e = 0
    · have hv := hbd.2.2 he
      have hv0 : 0 ≤ (pU zs p 256).v := by
        by_cases ht : Leb.tuE (zs.drop p) 32 = 0
        · have hq := tuV_32 (fun z hz => h.row.2.1 z (List.mem_of_mem_drop hz)) ht
          by_cases hm : 256 < Leb.tuV (zs.drop p) 32
          · rw [pU_lim ht hm]; exact Int.le_refl 0
          · rw [pU_ok ht hm]; exact hq.1
        · rw [pU_bad ht]; exact Int.le_refl 0
      refine ⟨(pU zs p 256).v.toNat, by omega, by omega, fun j => pL zs j (pU zs p 256).at_ k, by simp [pL], fun j hj => ?_, fun j hj => ?_, ?_⟩
      · simp only at hj ⊢
        rw [pL_snoc, Out.on_ok hj]
        by_cases h2 : (pU zs (pL zs j (pU zs p 256).at_ k).at_ 4294967295).e = 0
        · rw [Part.on_ok h2]; exact ⟨rfl, h2.symm, fun _ => rfl⟩
        · rw [Part.on_no h2]; exact ⟨rfl, rfl, fun e => absurd e h2⟩
      · simp only at hj ⊢
        rw [pL_snoc, Out.on_no hj]; exact ⟨rfl, rfl⟩
      · have : pT zs p k = pL zs ((pU zs p 256).v.toNat + 1) (pU zs p 256).at_ k := by unfold pT; rw [Part.on_ok he]
        rw [this]
        exact ⟨by simp only [pL]; exact he.symm, by simp [pL], rfl, rfl, fun e => ⟨rfl, pL_len zs _ _ _ e⟩⟩
    · have hv : (pU zs p 256).v = 0 := by
        by_cases ht : Leb.tuE (zs.drop p) 32 = 0
        · by_cases hm : 256 < Leb.tuV (zs.drop p) 32
          · rw [pU_lim ht hm]
          · rw [pU_ok ht hm] at he; exact absurd rfl he
        · rw [pU_bad ht]
      refine ⟨0, by rw [hv]; rfl, by omega, fun j => ⟨(pU zs p 256).e, (pU zs p 256).at_, k, []⟩, rfl, fun j hj => absurd hj he, fun j hj => ⟨rfl, rfl⟩, rfl, rfl, ?_, ?_, fun e => ?_⟩
      · unfold pT; rw [Part.on_no he]
      · unfold pT; rw [Part.on_no he]
      · unfold pT at e; rw [Part.on_no he] at e; exact absurd e he
  rw [hn] at hu
  rw [← hend.2.2.1, ← hend.2.2.2.1]
  have HU := hide hu; have HEnd := hide hend; have HRs := hide hRs; have HRe := hide hRe; have HR0 := hide hR0; have HRow := hide hrow
  have hmk := fun wx => run_make_row' (P := Tryd.prog) 48 46 (.int .u32 0) 4 Tryd.underlying48 infoU32 rfl .u32 .u32 (n + 1) (by omega) (by omega) wx
  have hnz : IntKind.u32.wrap ((n : Int) + 1) = (n : Int) + 1 := by rw [IntKind.wrap_u32]; omega
  rw [show (((n + 1 : Nat)) : Int) = (n : Int) + 1 by omega] at hmk
  clear hu hend hRs hRe hR0 hbd hn h hrow
  go_enter Tryd.func68, Tryd.ntmps68
  go_wp2_with fail
  refine (unhide HU).mono ?_
  rintro e w1 ⟨rfl, hr1, ht1⟩
  have HR1 := hide hr1; have HT1 := hide ht1; clear hr1 ht1 HU
  go_wp2_with fail
  have hz1 := (unhide HT1).size
  have HB := hide (show Below w1.heap.size w1 (w1.alloc (.cells (madeCells #[Value.int .u32 0] (n + 1)) 46)) from one_alloc _ _)
  have hrow1 : (w1.alloc (.cells (madeCells #[Value.int .u32 0] (n + 1)) 46)).heap[w1.heap.size]? = some (.cells (u32s (List.replicate (n + 1) 0)) 46 (0, 0)) := by
    rw [heap_alloc_new, made_u32]
  have HRow1 := hide hrow1; clear hrow1
  have hMN : w1.heap.size ≠ N := by omega
  have hR1 := (unhide HR1).below (unhide HB)
  have hT1 := Tn.on (unhide HT1) (Tn.of (N := N) (unhide HB))
  generalize w1.alloc (.cells (madeCells #[Value.int .u32 0] (n + 1)) 46) = w2 at *
  generalize w1.heap.size = M at *
  have HR2 := hide hR1; have HT2 := hide hT1
  clear hR1 hT1 HR1 HT1 HB hmk
  go_loopw [13] (fun c wr => ∃ j : Nat, c = .int .i64 j ∧ (j : Int) ≤ (n : Int) + 1 ∧ LRel w N a len cap zs k M n R j wr) (fun c _ => n + 1 - (intOf c).toNat)
  case atStart =>
    refine ⟨0, rfl, by omega, ?_, unhide HT2, List.replicate (n + 1) 0, by simp, unhide HRow1, fun _ => by rw [(unhide HEnd).2.1]; rfl⟩
    rw [unhide HR0, (unhide HEnd).1]; exact unhide HR2
  case round =>
    obtain ⟨j, rfl, hj, hrel⟩ := hrel
    by_cases hlt : (j : Int) < (n : Int) + 1
    · have hrel0 := hrel
      obtain ⟨q1, q2, vs, q3, q4, q5⟩ := hrel
      by_cases he : (R j).e = 0
      · rw [he] at q1
        have hu := un_any q1
        have hs := unhide HRs j he
        rw [← hs.1, ← hs.2.1] at hu
        have hv := hs.2.2
        generalize (pU zs (R j).at_ 4294967295).v = x at *
        have HU := hide hu; have HRel := hide hrel0; have HV := hide hv; have HE := hide he
        clear hu hrel0 hv hs he q1 q2 q3 q4 q5 hj
        go_wp2_with fail
        refine (unhide HU).mono ?_
        rintro e w3 ⟨rfl, hr3, ht3⟩
        have hstep := lrel_step (x := x) (unhide HRel) (by omega) hMN hN (unhide HRow) (by omega) hr3 ht3 (fun e => ⟨unhide HE, unhide HV e⟩)
        obtain ⟨q1, q2, vs, q3, q4, q5⟩ := unhide HRel
        have hMl : M < wr.heap.size := (Array.getElem?_eq_some_iff.1 q4).1
        have q6 := (ht3.block M hMl (fun e => hMN (Option.some.inj e))).trans q4
        have c0 : w3.cell? ⟨M, j, none⟩ = some (.int .u32 (vs.getD j 0)) := by rw [cell_of_row w3 M j _ _ _ q6]; simp [u32s, List.getD, show j < vs.length by omega]
        have f0 : w3.frozen? ⟨M, j, none⟩ = false := by simp [World.frozen?, q6]
        have HS := hide hstep
        clear hstep q1 q2 q3 q4 q5 q6 hr3 ht3 hMl
        go_wp2
        go_roundw
        case rel => exact ⟨j + 1, by go_num, by omega, unhide HS⟩
        case measure => simp [intOf]; omega
      · have hu := un_err q1 he
        have hs := unhide HRe j he
        rw [← hs.1, ← hs.2] at hu
        have HU := hide hu; have HRel := hide hrel0; have HE := hide (show ¬ (R (j + 1)).e = 0 by rw [hs.2]; exact he)
        clear hu hrel0 hs he q1 q2 q3 q4 q5 hj
        go_wp2_with fail
        refine (unhide HU).mono ?_
        rintro e w3 ⟨rfl, hr3, ht3⟩
        have hstep := lrel_step (x := 0) (unhide HRel) (by omega) hMN hN (unhide HRow) (by omega) hr3 ht3 (fun e => absurd e (unhide HE))
        obtain ⟨q1, q2, vs, q3, q4, q5⟩ := unhide HRel
        have hMl : M < wr.heap.size := (Array.getElem?_eq_some_iff.1 q4).1
        have q6 := (ht3.block M hMl (fun e => hMN (Option.some.inj e))).trans q4
        have c0 : w3.cell? ⟨M, j, none⟩ = some (.int .u32 (vs.getD j 0)) := by rw [cell_of_row w3 M j _ _ _ q6]; simp [u32s, List.getD, show j < vs.length by omega]
        have f0 : w3.frozen? ⟨M, j, none⟩ = false := by simp [World.frozen?, q6]
        have HS := hide hstep
        clear hstep q1 q2 q3 q4 q5 q6 hr3 ht3 hMl
        go_wp2
        go_roundw
        case rel => exact ⟨j + 1, by go_num, by omega, unhide HS⟩
        case measure => simp [intOf]; omega
    · obtain rfl : j = n + 1 := by omega
      have HRel := hide hrel
      clear hrel hj hlt
      rw [show (((n + 1 : Nat)) : Int) = (n : Int) + 1 by omega]
      go_wp2
      go_ret
      obtain ⟨q1, q2, vs, q3, q4, q5⟩ := unhide HRel
      refine ⟨_, rfl, q1, q2, ⟨_, _, _, rfl⟩, fun he => ?_⟩
      have hE := unhide HEnd
      have hv := hE.2.2.2.2 (by rw [← hE.2.2.1]; exact he)
      have hvs : vs = (pT zs p k).v := by rw [← hv.1, ← q5 he, ← q3, List.take_length]
      refine ⟨_, n + 1, by rw [hv.2]; rfl, by omega, by simp, fun _ => ⟨M, 0, rfl, by omega, ?_⟩⟩
      rw [← hvs]
      exact u32s_lab q4
end Ex
end Go.Proofs.YtjhmglefejclpaaDoor

/- Boxes of an instruction; the reader beside other blocks that turn. -/
namespace Go.Proofs.YtjhmglefejclpaaDoor
open Go.RowKit
namespace Ex
set_option linter.unusedVariables false

def Bx (w : World) (Q : Nat) (x0 x1 x2 x3 x4 x5 x6 x7 : Value) : Prop := w.heap[Q]? = some (.cells #[x0, x1, x2, x3, x4, x5, x6, x7] 50 (0, 0))
namespace Bx
variable {w : World} {Q : Nat} {x0 x1 x2 x3 x4 x5 x6 x7 : Value}
theorem cs (h : Bx w Q x0 x1 x2 x3 x4 x5 x6 x7) : w.cell? ⟨Q, 0, none⟩ = some x0 ∧ w.cell? ⟨Q, 1, none⟩ = some x1 ∧ w.cell? ⟨Q, 2, none⟩ = some x2 ∧ w.cell? ⟨Q, 3, none⟩ = some x3 ∧ w.cell? ⟨Q, 4, none⟩ = some x4 ∧ w.cell? ⟨Q, 5, none⟩ = some x5 ∧ w.cell? ⟨Q, 6, none⟩ = some x6 ∧ w.cell? ⟨Q, 7, none⟩ = some x7 := by
  have hc := fun j => cell_of_row w Q j _ _ _ h
  exact ⟨hc 0, hc 1, hc 2, hc 3, hc 4, hc 5, hc 6, hc 7⟩
theorem fz (h : Bx w Q x0 x1 x2 x3 x4 x5 x6 x7) (i : Nat) : w.frozen? ⟨Q, i, none⟩ = false := by unfold Bx at h; simp [World.frozen?, h]
theorem lt (h : Bx w Q x0 x1 x2 x3 x4 x5 x6 x7) : Q < w.heap.size := (Array.getElem?_eq_some_iff.1 h).1
theorem below (h : Bx w Q x0 x1 x2 x3 x4 x5 x6 x7) {w' : World} (hb : Below w.heap.size w w') : Bx w' Q x0 x1 x2 x3 x4 x5 x6 x7 := (hb.block Q h.lt).trans h
theorem tn (h : Bx w Q x0 x1 x2 x3 x4 x5 x6 x7) {N : Nat} {w' : World} (ht : Tn N w w') (hq : Q ≠ N) : Bx w' Q x0 x1 x2 x3 x4 x5 x6 x7 := (ht.block Q h.lt (fun e => hq (Option.some.inj e))).trans h
theorem set1 (h : Bx w Q x0 x1 x2 x3 x4 x5 x6 x7) (v : Value) : Bx (w.setCell ⟨Q, 1, none⟩ v) Q x0 v x2 x3 x4 x5 x6 x7 := heap_setCell_same w Q 1 _ _ v h
theorem set2 (h : Bx w Q x0 x1 x2 x3 x4 x5 x6 x7) (v : Value) : Bx (w.setCell ⟨Q, 2, none⟩ v) Q x0 x1 v x3 x4 x5 x6 x7 := heap_setCell_same w Q 2 _ _ v h
theorem set3 (h : Bx w Q x0 x1 x2 x3 x4 x5 x6 x7) (v : Value) : Bx (w.setCell ⟨Q, 3, none⟩ v) Q x0 x1 x2 v x4 x5 x6 x7 := heap_setCell_same w Q 3 _ _ v h
theorem set4 (h : Bx w Q x0 x1 x2 x3 x4 x5 x6 x7) (v : Value) : Bx (w.setCell ⟨Q, 4, none⟩ v) Q x0 x1 x2 x3 v x5 x6 x7 := heap_setCell_same w Q 4 _ _ v h
theorem set5 (h : Bx w Q x0 x1 x2 x3 x4 x5 x6 x7) (v : Value) : Bx (w.setCell ⟨Q, 5, none⟩ v) Q x0 x1 x2 x3 x4 v x6 x7 := heap_setCell_same w Q 5 _ _ v h
theorem set6 (h : Bx w Q x0 x1 x2 x3 x4 x5 x6 x7) (v : Value) : Bx (w.setCell ⟨Q, 6, none⟩ v) Q x0 x1 x2 x3 x4 x5 v x7 := heap_setCell_same w Q 6 _ _ v h
theorem set7 (h : Bx w Q x0 x1 x2 x3 x4 x5 x6 x7) (v : Value) : Bx (w.setCell ⟨Q, 7, none⟩ v) Q x0 x1 x2 x3 x4 x5 x6 v := heap_setCell_same w Q 7 _ _ v h
end Bx
/-- all eight written -/
def put8 (w : World) (Q : Nat) (v0 v1 v2 v3 v4 v5 v6 v7 : Value) : World :=
  (((((((w.setCell ⟨Q, 0, none⟩ v0).setCell ⟨Q, 1, none⟩ v1).setCell ⟨Q, 2, none⟩ v2).setCell ⟨Q, 3, none⟩ v3).setCell ⟨Q, 4, none⟩ v4).setCell ⟨Q, 5, none⟩ v5).setCell ⟨Q, 6, none⟩ v6).setCell ⟨Q, 7, none⟩ v7
theorem put8_bx {w : World} {Q : Nat} {x0 x1 x2 x3 x4 x5 x6 x7 : Value} (h : Bx w Q x0 x1 x2 x3 x4 x5 x6 x7) (v0 v1 v2 v3 v4 v5 v6 v7 : Value) : Bx (put8 w Q v0 v1 v2 v3 v4 v5 v6 v7) Q v0 v1 v2 v3 v4 v5 v6 v7 :=
  (((((((show Bx (w.setCell ⟨Q, 0, none⟩ v0) Q v0 x1 x2 x3 x4 x5 x6 x7 from heap_setCell_same w Q 0 _ _ v0 h).set1 v1).set2 v2).set3 v3).set4 v4).set5 v5).set6 v6).set7 v7
theorem put8_tn (w : World) (Q : Nat) (v0 v1 v2 v3 v4 v5 v6 v7 : Value) : Tn Q w (put8 w Q v0 v1 v2 v3 v4 v5 v6 v7) :=
  Tn.on (Tn.on (Tn.on (Tn.on (Tn.on (Tn.on (Tn.on (Tn.set Q 0 w v0) (Tn.set Q 1 _ v1)) (Tn.set Q 2 _ v2)) (Tn.set Q 3 _ v3)) (Tn.set Q 4 _ v4)) (Tn.set Q 5 _ v5)) (Tn.set Q 6 _ v6)) (Tn.set Q 7 _ v7)
/-- the reader stays where another block turns -/
theorem Rd.tn {w : World} {N : Nat} {a : Option Addr} {len cap : Nat} {zs : List Int} {p k : Nat} {e : Int} (h : Rd w N a len cap zs p k e) {M : Nat} {w' : World} (ht : Tn M w w') (hM : N ≠ M) (hr : ∀ b o, a = some ⟨b, o, none⟩ → 0 < len → b ≠ M) : Rd w' N a len cap zs p k e := by
  refine ⟨(ht.block N h.lt (fun e => hM (Option.some.inj e))).trans h.box, ?_, h.ne, h.nil, h.cap, h.at_, h.len, h.k⟩
  refine ⟨h.row.1, h.row.2.1, fun hl => ?_⟩
  obtain ⟨b, off, rfl, hlt, hc⟩ := h.row.2.2 hl
  have hb := ht.block b hlt (fun e => hr b off rfl hl (Option.some.inj e))
  exact ⟨b, off, rfl, Nat.lt_of_lt_of_le hlt ht.size, fun i' hi => (World.cell?_of_block (a := ⟨b, off + i', none⟩) hb).trans (hc i' hi)⟩
/-- where the bytes lie -/
theorem Rd.old {w : World} {N : Nat} {a : Option Addr} {len cap : Nat} {zs : List Int} {p k : Nat} {e : Int} (h : Rd w N a len cap zs p k e) : ∀ b o, a = some ⟨b, o, none⟩ → 0 < len → b < w.heap.size := fun b o e hl => by
  obtain ⟨b', o', e', hlt, _⟩ := h.row.2.2 hl
  rw [e] at e'; simp at e'; omega
/-- one that turns a new block turns nothing old -/
theorem Tn.new {N M : Nat} {w w1 w2 : World} (h : Tn N w w1) (h2 : Tn M w1 w2) (hM : w.heap.size ≤ M) : Tn N w w2 :=
  ⟨h2.os.trans h.os, h2.tape.trans h.tape, h2.output.trans h.output, Nat.le_trans h.size h2.size, fun k hk hne => (h2.block k (Nat.lt_of_lt_of_le hk h.size) (fun e => by cases e; omega)).trans (h.block k hk hne)⟩
theorem Moves.tn {w w' : World} {M : Nat} (ht : Tn M w w') {g g' : Nat → Prop} (h : ∀ k, g k → k ≠ M ∧ g' k) : Moves w w' g g' := fun k hk _ hg => ⟨(h k hg).2, ht.block k hk (fun e => (h k hg).1 (Option.some.inj e))⟩
/-- the tables stay where the reader turns -/
theorem Tb.turn {w w' : World} {N : Nat} {a : Option Addr} {len cap : Nat} {zs : List Int} {p k : Nat} {e : Int} (h : Tb w) (hr : Rd w N a len cap zs p k e) (ht : Tn N w w') : Tb w' := by
  obtain ⟨⟨h1, t1, f1, e1⟩, ⟨h2, t2, f2, e2⟩⟩ := h
  have n1 : 2 ≠ N := by
    rintro rfl
    have := e1.symm.trans hr.box
    simp only [Option.some.injEq, Obj.cells.injEq] at this
    have h := congrArg Array.size this.1
    have hla : fmV.toArray.size = 192 := rfl
    rw [hla] at h; simp at h
  have n2 : 1 ≠ N := by
    rintro rfl
    have := e2.symm.trans hr.box
    simp only [Option.some.injEq, Obj.cells.injEq] at this
    have h := congrArg Array.size this.1
    have hla : flV.toArray.size = 14 := rfl
    rw [hla] at h; simp at h
  exact ⟨⟨Nat.lt_of_lt_of_le h1 ht.size, t1, f1, (ht.block _ h1 (fun e => n1 (Option.some.inj e))).trans e1⟩, ⟨Nat.lt_of_lt_of_le h2 ht.size, t2, f2, (ht.block _ h2 (fun e => n2 (Option.some.inj e))).trans e2⟩⟩
/-- the reader's block is none of instructions -/
theorem Rd.kin {w : World} {N : Nat} {a : Option Addr} {len cap : Nat} {zs : List Int} {p k : Nat} {e : Int} (hr : Rd w N a len cap zs p k e) : ¬ Kin w N := by
  rintro ⟨o, x, h | h⟩
  all_goals
    rw [cell_of_row w N o _ _ _ hr.box] at h
    rcases o with _ | _ | _ | _ | o
    · simp at h
    · simp at h
    · simp at h
    · simp [errV] at h; split at h <;> simp at h
    · simp at h
theorem moves_turn {w w' : World} {N : Nat} {a : Option Addr} {len cap : Nat} {zs : List Int} {p k : Nat} {e : Int} (hr : Rd w N a len cap zs p k e) (ht : Tn N w w') (g : Nat → Prop) : Moves w w' g g := fun q hq hk hg =>
  ⟨hg, ht.block q hq (fun e => hr.kin (by cases e; exact hk))⟩
theorem OwnC.turn {w w' : World} {N : Nat} {a : Option Addr} {len cap : Nat} {zs : List Int} {p k : Nat} {e : Int} (hr : Rd w N a len cap zs p k e) (ht : Tn N w w') {B : Nat} {G : Nat → Prop} {v : Value} {l : List Ins} (h : OwnC w B G v l) : OwnC w' B G v l := by
  refine h.move (fun q hq => ?_) (moves_turn hr ht _)
  obtain ⟨cur, hc⟩ := h.block q hq
  refine ht.block q (h.lt q hq).2 (fun e => ?_)
  cases e
  have := hc.symm.trans hr.box
  simp at this
end Ex
end Go.Proofs.YtjhmglefejclpaaDoor

/- The reader's instr: of each form but those of blocks. -/
namespace Go.Proofs.YtjhmglefejclpaaDoor
open Go.RowKit
namespace Ex
set_option linter.unusedVariables false

def IsSl (v : Value) : Prop := ∃ a l c, v = .slice a l c
/-- how instr comes back -/
def InsPost (w : World) (N : Nat) (a : Option Addr) (len cap : Nat) (zs : List Int) (R : Out Ins) (e : Ending) (w' : World) : Prop :=
  ∃ (i : Ins) (vb ve vl : Value), e = .returned (.agg #[.int .u8 i.op, .int .i64 i.n, .int .u32 i.al, .int .u32 i.of, .int .u8 i.re, vb, ve, vl]) ∧ Rd w' N a len cap zs R.at_ R.k R.e ∧ Tn N w w' ∧ (IsSl vb ∧ IsSl ve ∧ IsSl vl) ∧
    (R.e = 0 → i = R.v ∧ Code w' (w.heap.size ≤ ·) i.body vb ∧ Code w' (w.heap.size ≤ ·) i.els ve ∧ Lies (w.heap.size ≤ ·) i.ls.length (Lab w' i.ls) vl)
theorem part_f {β : Type} (p : Part) (k : Nat) (d : β) (F : Int → β) : (p.on k d fun a v => ⟨0, a, k, F v⟩).e = p.e ∧ (p.on k d fun a v => ⟨0, a, k, F v⟩).at_ = p.at_ ∧ (p.on k d fun a v => ⟨0, a, k, F v⟩).k = k ∧ (p.e = 0 → (p.on k d fun a v => ⟨0, a, k, F v⟩).v = F p.v) := by
  by_cases h : p.e = 0
  · rw [Part.on_ok h]; exact ⟨h.symm, rfl, rfl, fun _ => rfl⟩
  · rw [Part.on_no h]; exact ⟨rfl, rfl, rfl, fun e => absurd e h⟩
theorem fr_of {op : Int} {x1 x2 o x4 x5 x6 : Int} (h : fam op = some ⟨x1, x2, o, x4, x5, x6⟩) : fr op = o := by simp [fr, frm, h]
theorem bx_two (w : World) (x0 x1 x2 x3 x4 x5 x6 x7 y0 y1 y2 y3 y4 y5 y6 y7 : Value) :
    Below w.heap.size w ((w.alloc (.cells #[x0, x1, x2, x3, x4, x5, x6, x7] 50)).alloc (.cells #[y0, y1, y2, y3, y4, y5, y6, y7] 50)) ∧
    Bx ((w.alloc (.cells #[x0, x1, x2, x3, x4, x5, x6, x7] 50)).alloc (.cells #[y0, y1, y2, y3, y4, y5, y6, y7] 50)) w.heap.size x0 x1 x2 x3 x4 x5 x6 x7 ∧
    Bx ((w.alloc (.cells #[x0, x1, x2, x3, x4, x5, x6, x7] 50)).alloc (.cells #[y0, y1, y2, y3, y4, y5, y6, y7] 50)) (w.heap.size + 1) y0 y1 y2 y3 y4 y5 y6 y7 ∧
    ((w.alloc (.cells #[x0, x1, x2, x3, x4, x5, x6, x7] 50)).alloc (.cells #[y0, y1, y2, y3, y4, y5, y6, y7] 50)).heap.size = w.heap.size + 2 := by
  refine ⟨two_allocs _ _ _, ?_, ?_, by simp⟩
  · have h1 : Bx (w.alloc (.cells #[x0, x1, x2, x3, x4, x5, x6, x7] 50)) w.heap.size x0 x1 x2 x3 x4 x5 x6 x7 := heap_alloc_new w _
    exact h1.below (one_alloc _ _)
  · have h1 := heap_alloc_new (w.alloc (.cells #[x0, x1, x2, x3, x4, x5, x6, x7] 50)) (.cells #[y0, y1, y2, y3, y4, y5, y6, y7] 50)
    have h2 : (w.alloc (.cells #[x0, x1, x2, x3, x4, x5, x6, x7] 50)).heap.size = w.heap.size + 1 := by simp
    rw [h2] at h1
    exact h1
theorem pU_v {zs : List Int} (hz : ∀ z ∈ zs, 0 ≤ z ∧ z ≤ 255) (p : Nat) (m : Int) : 0 ≤ (pU zs p m).v ∧ (pU zs p m).v < 4294967296 := by
  by_cases ht : Leb.tuE (zs.drop p) 32 = 0
  · have hq := tuV_32 (fun z h => hz z (List.mem_of_mem_drop h)) ht
    by_cases hm : m < Leb.tuV (zs.drop p) 32
    · rw [pU_lim ht hm]; exact ⟨Int.le_refl 0, show (0 : Int) < 4294967296 by decide⟩
    · rw [pU_ok ht hm]; exact hq
  · rw [pU_bad ht]; exact ⟨Int.le_refl 0, show (0 : Int) < 4294967296 by decide⟩
theorem pT_ins (zs : List Int) (p k : Nat) (op : Int) : ((pU zs p 256).on k (plain op) fun a1 v => (pL zs (v.toNat + 1) a1 k).on (plain op) fun a2 k2 ls => ⟨0, a2, k2, { plain op with ls := ls }⟩).e = (pT zs p k).e ∧
    ((pU zs p 256).on k (plain op) fun a1 v => (pL zs (v.toNat + 1) a1 k).on (plain op) fun a2 k2 ls => ⟨0, a2, k2, { plain op with ls := ls }⟩).at_ = (pT zs p k).at_ ∧
    ((pU zs p 256).on k (plain op) fun a1 v => (pL zs (v.toNat + 1) a1 k).on (plain op) fun a2 k2 ls => ⟨0, a2, k2, { plain op with ls := ls }⟩).k = k ∧
    ((pT zs p k).e = 0 → ((pU zs p 256).on k (plain op) fun a1 v => (pL zs (v.toNat + 1) a1 k).on (plain op) fun a2 k2 ls => ⟨0, a2, k2, { plain op with ls := ls }⟩).v = { plain op with ls := (pT zs p k).v }) := by
  unfold pT
  by_cases h : (pU zs p 256).e = 0
  · rw [Part.on_ok h, Part.on_ok h]
    have hk := pL_k zs ((pU zs p 256).v.toNat + 1) (pU zs p 256).at_ k
    generalize pL zs ((pU zs p 256).v.toNat + 1) (pU zs p 256).at_ k = R at *
    by_cases h2 : R.e = 0
    · rw [Out.on_ok h2]; exact ⟨h2.symm, rfl, hk, fun _ => rfl⟩
    · rw [Out.on_no h2]; exact ⟨rfl, rfl, hk, fun e => absurd e h2⟩
  · rw [Part.on_no h, Part.on_no h]; exact ⟨rfl, rfl, rfl, fun e => absurd e h⟩
/-- where it ends: the answer's box is written, and the reader stays -/
theorem ins_end {w wl : World} {N : Nat} {a : Option Addr} {len cap : Nat} {zs : List Int} {p k : Nat} {e : Int} (Q : Nat) (hr : Rd wl N a len cap zs p k e) (ht : Tn N w wl) (hQ : w.heap.size ≤ Q) (hN : N < w.heap.size) (hold : ∀ b o, a = some ⟨b, o, none⟩ → 0 < len → b < w.heap.size) {wf : World} (hf : Tn Q wl wf) :
    Rd wf N a len cap zs p k e ∧ Tn N w wf := ⟨hr.tn hf (by omega) (fun b o e hl => by have := hold b o e hl; omega), ht.new hf hQ⟩

set_option maxRecDepth 100000 in
set_option maxHeartbeats 3200000 in
theorem ins_0 {N len cap p k nest : Nat} {a : Option Addr} {zs : List Int} {w : World} (op : Nat) (hop : op < 256) (x : Fam) (hx : fam op = some x) (ho : x.o = 0) (h : Rd w N a len cap zs p k 0) (hT : Tb w) :
    Calls Tryd.prog 49 #[.pointer (some ⟨N, 0, none⟩), .int .u8 op, .int .i64 nest] w (InsPost w N a len cap zs (pI (D zs) zs p k nest op)) := by
  obtain ⟨x1, x2, o, x4, x5, x6⟩ := x
  simp only at ho
  subst ho
  have hfr := fr_of hx
  have hfm := fun wx hx => form_any op hop wx hx
  simp only [hx, formR, errV_0] at hfm
  obtain ⟨R, hR, hRe⟩ : ∃ R, pI (D zs) zs p k nest op = R ∧ R.e = 0 ∧ R.at_ = p ∧ R.k = k ∧ R.v = plain op := ⟨⟨0, p, k, plain op⟩, by unfold pI; rw [hfr]; rfl, rfl, rfl, rfl, rfl⟩
  rw [hR]
  have HE : Hid (R.e = 0) ∧ Hid (R.at_ = p) ∧ Hid (R.k = k) ∧ Hid (R.v = plain op) := hRe
  clear hRe
  have HF := hide hfm; have HR := hide h; have HT := hide hT; clear hfm h hT hx hR hfr
  go_enter Tryd.func49, Tryd.ntmps49
  go_wp2_with fail
  obtain ⟨hb0, b0, b1, hz⟩ := bx_two w (.int .u8 0) (.int .i64 0) (.int .u32 0) (.int .u32 0) (.int .u8 0) (.slice none 0 0) (.slice none 0 0) (.slice none 0 0) (.int .u8 op) (.int .i64 0) (.int .u32 0) (.int .u32 0) (.int .u8 0) (.slice none 0 0) (.slice none 0 0) (.slice none 0 0)
  generalize (w.alloc (.cells #[.int .u8 0, .int .i64 0, .int .u32 0, .int .u32 0, .int .u8 0, .slice none 0 0, .slice none 0 0, .slice none 0 0] 50)).alloc (.cells #[.int .u8 op, .int .i64 0, .int .u32 0, .int .u32 0, .int .u8 0, .slice none 0 0, .slice none 0 0, .slice none 0 0] 50) = w2 at *
  refine (unhide HF _ ((unhide HT).1.below hb0)).mono ?_
  rintro e w3 ⟨rfl, hb3⟩
  have hb := Below.on hb0 hb3
  have hr := (unhide HR).below hb
  have ht := Tn.of (N := N) hb
  have hT := (unhide HT).below hb
  have hN := (unhide HR).lt
  have hold := (unhide HR).old
  replace b0 := b0.below hb3
  replace b1 := b1.below hb3
  have hz3 : w.heap.size + 2 ≤ w3.heap.size := by have := hb3.size; omega
  clear hb0 hb3 hz hb HF HR HT w2
  have HR := hide hr; have HT := hide ht; have HTb := hide hT; have B0 := hide b0; have B1 := hide b1; have HN := hide hN; have HO := hide hold; have HZ := hide hz3
  clear hr ht hT b0 b1 hN hold hz3
  generalize hQ : w.heap.size = Q at *
  have HQ := hide hQ; clear hQ
  obtain ⟨c0, c1, c2, c3, c4, c5, c6, c7⟩ := (unhide B1).cs
  obtain ⟨d0, d1, d2, d3, d4, d5, d6, d7⟩ := (unhide B0).cs
  have cz := (unhide B0).fz
  have hq : Q < w3.heap.size := (unhide B0).lt
  go_wp2
  have hb := put8_bx (unhide B0) (.int .u8 op) (.int .i64 0) (.int .u32 0) (.int .u32 0) (.int .u8 0) (.slice none 0 0) (.slice none 0 0) (.slice none 0 0)
  have hf := put8_tn w3 Q (.int .u8 op) (.int .i64 0) (.int .u32 0) (.int .u32 0) (.int .u8 0) (.slice none 0 0) (.slice none 0 0) (.slice none 0 0)
  unfold put8 at hb hf
  clear c0 c1 c2 c3 c4 c5 c6 c7 d0 d1 d2 d3 d4 d5 d6 d7 cz hq
  generalize ((((((((w3.setCell ⟨Q, 0, none⟩ (.int .u8 op)).setCell ⟨Q, 1, none⟩ (.int .i64 0)).setCell ⟨Q, 2, none⟩ (.int .u32 0)).setCell ⟨Q, 3, none⟩ (.int .u32 0)).setCell ⟨Q, 4, none⟩ (.int .u8 0)).setCell ⟨Q, 5, none⟩ (.slice none 0 0)).setCell ⟨Q, 6, none⟩ (.slice none 0 0)).setCell ⟨Q, 7, none⟩ (.slice none 0 0)) = wf at *
  obtain ⟨c0, c1, c2, c3, c4, c5, c6, c7⟩ := hb.cs
  obtain ⟨g1, g2⟩ := ins_end Q (unhide HR) (unhide HT) (by have := unhide HQ; omega) (by have := unhide HN; have := unhide HQ; omega) (fun b o e hl => by have := unhide HO b o e hl; have := unhide HQ; omega) hf
  refine bodyPost_ret (v := .agg #[.int .u8 op, .int .i64 0, .int .u32 0, .int .u32 0, .int .u8 0, .slice none 0 0, .slice none 0 0, .slice none 0 0]) (by simp [results, Tryd.results49, go_sem, c0, c1, c2, c3, c4, c5, c6, c7]) rfl ?_
  refine ⟨⟨op, 0, 0, 0, 0, [], [], []⟩, .slice none 0 0, .slice none 0 0, .slice none 0 0, rfl, ?_, g2, ⟨⟨_, _, _, rfl⟩, ⟨_, _, _, rfl⟩, ⟨_, _, _, rfl⟩⟩, fun he => ?_⟩
  · rw [unhide HE.1, unhide HE.2.1, unhide HE.2.2.1]; exact g1
  · exact ⟨(unhide HE.2.2.2).symm, Code_nil _ _, Code_nil _ _, Labs_nil _ _⟩

set_option maxRecDepth 100000 in
set_option maxHeartbeats 3200000 in
theorem ins_1 {N len cap p k nest : Nat} {a : Option Addr} {zs : List Int} {w : World} (op : Nat) (hop : op < 256) (x : Fam) (hx : fam op = some x) (ho : x.o = 1) (h : Rd w N a len cap zs p k 0) (hT : Tb w) :
    Calls Tryd.prog 49 #[.pointer (some ⟨N, 0, none⟩), .int .u8 op, .int .i64 nest] w (InsPost w N a len cap zs (pI (D zs) zs p k nest op)) := by
  obtain ⟨x1, x2, o, x4, x5, x6⟩ := x
  simp only at ho
  subst ho
  have hfr := fr_of hx
  have hfm := fun wx hx => form_any op hop wx hx
  simp only [hx, formR, errV_0] at hfm
  have hR : _ ∧ _ ∧ _ ∧ _ := part_f (pS zs p 32) k (plain op) (fun v => { plain op with n := v })
  have hI : pI (D zs) zs p k nest op = (pS zs p 32).on k (plain op) (fun a1 v => ⟨0, a1, k, { plain op with n := v }⟩) := by unfold pI; rw [hfr]; rfl
  rw [hI]
  generalize (pS zs p 32).on k (plain op) (fun a1 v => ⟨0, a1, k, { plain op with n := v }⟩) = R at *
  have HE : Hid (R.e = ((pS zs p 32)).e) ∧ Hid (R.at_ = ((pS zs p 32)).at_) ∧ Hid (R.k = k) ∧ Hid (((pS zs p 32)).e = 0 → R.v = { plain op with n := (pS zs p 32).v }) := hR
  clear hI
  have HF := hide hfm; have HR := hide h; have HT := hide hT; clear hfm h hT hx hR hfr
  go_enter Tryd.func49, Tryd.ntmps49
  go_wp2_with fail
  obtain ⟨hb0, b0, b1, hz⟩ := bx_two w (.int .u8 0) (.int .i64 0) (.int .u32 0) (.int .u32 0) (.int .u8 0) (.slice none 0 0) (.slice none 0 0) (.slice none 0 0) (.int .u8 op) (.int .i64 0) (.int .u32 0) (.int .u32 0) (.int .u8 0) (.slice none 0 0) (.slice none 0 0) (.slice none 0 0)
  generalize (w.alloc (.cells #[.int .u8 0, .int .i64 0, .int .u32 0, .int .u32 0, .int .u8 0, .slice none 0 0, .slice none 0 0, .slice none 0 0] 50)).alloc (.cells #[.int .u8 op, .int .i64 0, .int .u32 0, .int .u32 0, .int .u8 0, .slice none 0 0, .slice none 0 0, .slice none 0 0] 50) = w2 at *
  refine (unhide HF _ ((unhide HT).1.below hb0)).mono ?_
  rintro e w3 ⟨rfl, hb3⟩
  have hb := Below.on hb0 hb3
  have hr := (unhide HR).below hb
  have ht := Tn.of (N := N) hb
  have hT := (unhide HT).below hb
  have hN := (unhide HR).lt
  have hold := (unhide HR).old
  replace b0 := b0.below hb3
  replace b1 := b1.below hb3
  have hz3 : w.heap.size + 2 ≤ w3.heap.size := by have := hb3.size; omega
  clear hb0 hb3 hz hb HF HR HT w2
  have HR := hide hr; have HT := hide ht; have HTb := hide hT; have B0 := hide b0; have B1 := hide b1; have HN := hide hN; have HO := hide hold; have HZ := hide hz3
  clear hr ht hT b0 b1 hN hold hz3
  generalize hQ : w.heap.size = Q at *
  have HQ := hide hQ; clear hQ
  go_wp2_with fail
  refine (sg_any (unhide HR) 32 (by omega) (by omega)).mono ?_
  rintro e w4 ⟨rfl, hr, ht⟩
  have b0 := (unhide B0).tn ht (by have := unhide HN; omega)
  have b1 := (unhide B1).tn ht (by have := unhide HN; omega)
  have ht2 := Tn.on (unhide HT) ht
  clear HR HT B0 B1
  have HR := hide hr; have HT := hide ht2; have B0 := hide b0; have B1 := hide b1
  clear hr ht ht2 b0 b1
  obtain ⟨p0, p1, p2, p3, p4, p5, p6, p7⟩ := (unhide B1).cs
  have pz := (unhide B1).fz
  have hr := (unhide HR).tn (Tn.set (Q + 1) 1 w4 (.int .i64 (pS zs p 32).v)) (by have := unhide HN; omega) (fun b o e hl => by have := unhide HO b o e hl; have := unhide HQ; omega)
  have ht := (unhide HT).new (Tn.set (Q + 1) 1 w4 (.int .i64 (pS zs p 32).v)) (by have := unhide HQ; omega)
  have b1 := (unhide B1).set1 (.int .i64 (pS zs p 32).v)
  have b0 := (unhide B0).tn (Tn.set (Q + 1) 1 w4 (.int .i64 (pS zs p 32).v)) (by omega)
  clear HR HT B0 B1
  have HR := hide hr; have HT := hide ht; have B0 := hide b0; have B1 := hide b1
  clear hr ht b0 b1
  obtain ⟨c0, c1, c2, c3, c4, c5, c6, c7⟩ := (unhide B1).cs
  obtain ⟨d0, d1, d2, d3, d4, d5, d6, d7⟩ := (unhide B0).cs
  have cz := (unhide B0).fz
  have hq : Q < (w4.setCell ⟨Q + 1, 1, none⟩ (.int .i64 (pS zs p 32).v)).heap.size := (unhide B0).lt
  go_wp2
  have hb := put8_bx (unhide B0) (.int .u8 op) (.int .i64 (pS zs p 32).v) (.int .u32 0) (.int .u32 0) (.int .u8 0) (.slice none 0 0) (.slice none 0 0) (.slice none 0 0)
  have hf := put8_tn (w4.setCell ⟨Q + 1, 1, none⟩ (.int .i64 (pS zs p 32).v)) Q (.int .u8 op) (.int .i64 (pS zs p 32).v) (.int .u32 0) (.int .u32 0) (.int .u8 0) (.slice none 0 0) (.slice none 0 0) (.slice none 0 0)
  unfold put8 at hb hf
  clear c0 c1 c2 c3 c4 c5 c6 c7 d0 d1 d2 d3 d4 d5 d6 d7 cz hq p0 p1 p2 p3 p4 p5 p6 p7 pz
  generalize (((((((((w4.setCell ⟨Q + 1, 1, none⟩ (.int .i64 (pS zs p 32).v)).setCell ⟨Q, 0, none⟩ (.int .u8 op)).setCell ⟨Q, 1, none⟩ (.int .i64 (pS zs p 32).v)).setCell ⟨Q, 2, none⟩ (.int .u32 0)).setCell ⟨Q, 3, none⟩ (.int .u32 0)).setCell ⟨Q, 4, none⟩ (.int .u8 0)).setCell ⟨Q, 5, none⟩ (.slice none 0 0)).setCell ⟨Q, 6, none⟩ (.slice none 0 0)).setCell ⟨Q, 7, none⟩ (.slice none 0 0)) = wf at *
  obtain ⟨c0, c1, c2, c3, c4, c5, c6, c7⟩ := hb.cs
  obtain ⟨g1, g2⟩ := ins_end Q (unhide HR) (unhide HT) (by have := unhide HQ; omega) (by have := unhide HN; have := unhide HQ; omega) (fun b o e hl => by have := unhide HO b o e hl; have := unhide HQ; omega) hf
  refine bodyPost_ret (v := .agg #[.int .u8 op, .int .i64 (pS zs p 32).v, .int .u32 0, .int .u32 0, .int .u8 0, .slice none 0 0, .slice none 0 0, .slice none 0 0]) (by simp [results, Tryd.results49, go_sem, c0, c1, c2, c3, c4, c5, c6, c7]) rfl ?_
  refine ⟨⟨op, (pS zs p 32).v, 0, 0, 0, [], [], []⟩, .slice none 0 0, .slice none 0 0, .slice none 0 0, rfl, ?_, g2, ⟨⟨_, _, _, rfl⟩, ⟨_, _, _, rfl⟩, ⟨_, _, _, rfl⟩⟩, fun he => ?_⟩
  · rw [unhide HE.1, unhide HE.2.1, unhide HE.2.2.1]; exact g1
  · exact ⟨(unhide HE.2.2.2 (by rw [← unhide HE.1]; exact he)).symm, Code_nil _ _, Code_nil _ _, Labs_nil _ _⟩

set_option maxRecDepth 100000 in
set_option maxHeartbeats 3200000 in
theorem ins_2 {N len cap p k nest : Nat} {a : Option Addr} {zs : List Int} {w : World} (op : Nat) (hop : op < 256) (x : Fam) (hx : fam op = some x) (ho : x.o = 2) (h : Rd w N a len cap zs p k 0) (hT : Tb w) :
    Calls Tryd.prog 49 #[.pointer (some ⟨N, 0, none⟩), .int .u8 op, .int .i64 nest] w (InsPost w N a len cap zs (pI (D zs) zs p k nest op)) := by
  obtain ⟨x1, x2, o, x4, x5, x6⟩ := x
  simp only at ho
  subst ho
  have hfr := fr_of hx
  have hfm := fun wx hx => form_any op hop wx hx
  simp only [hx, formR, errV_0] at hfm
  have hR : _ ∧ _ ∧ _ ∧ _ := part_f (pS zs p 64) k (plain op) (fun v => { plain op with n := v })
  have hI : pI (D zs) zs p k nest op = (pS zs p 64).on k (plain op) (fun a1 v => ⟨0, a1, k, { plain op with n := v }⟩) := by unfold pI; rw [hfr]; rfl
  rw [hI]
  generalize (pS zs p 64).on k (plain op) (fun a1 v => ⟨0, a1, k, { plain op with n := v }⟩) = R at *
  have HE : Hid (R.e = ((pS zs p 64)).e) ∧ Hid (R.at_ = ((pS zs p 64)).at_) ∧ Hid (R.k = k) ∧ Hid (((pS zs p 64)).e = 0 → R.v = { plain op with n := (pS zs p 64).v }) := hR
  clear hI
  have HF := hide hfm; have HR := hide h; have HT := hide hT; clear hfm h hT hx hR hfr
  go_enter Tryd.func49, Tryd.ntmps49
  go_wp2_with fail
  obtain ⟨hb0, b0, b1, hz⟩ := bx_two w (.int .u8 0) (.int .i64 0) (.int .u32 0) (.int .u32 0) (.int .u8 0) (.slice none 0 0) (.slice none 0 0) (.slice none 0 0) (.int .u8 op) (.int .i64 0) (.int .u32 0) (.int .u32 0) (.int .u8 0) (.slice none 0 0) (.slice none 0 0) (.slice none 0 0)
  generalize (w.alloc (.cells #[.int .u8 0, .int .i64 0, .int .u32 0, .int .u32 0, .int .u8 0, .slice none 0 0, .slice none 0 0, .slice none 0 0] 50)).alloc (.cells #[.int .u8 op, .int .i64 0, .int .u32 0, .int .u32 0, .int .u8 0, .slice none 0 0, .slice none 0 0, .slice none 0 0] 50) = w2 at *
  refine (unhide HF _ ((unhide HT).1.below hb0)).mono ?_
  rintro e w3 ⟨rfl, hb3⟩
  have hb := Below.on hb0 hb3
  have hr := (unhide HR).below hb
  have ht := Tn.of (N := N) hb
  have hT := (unhide HT).below hb
  have hN := (unhide HR).lt
  have hold := (unhide HR).old
  replace b0 := b0.below hb3
  replace b1 := b1.below hb3
  have hz3 : w.heap.size + 2 ≤ w3.heap.size := by have := hb3.size; omega
  clear hb0 hb3 hz hb HF HR HT w2
  have HR := hide hr; have HT := hide ht; have HTb := hide hT; have B0 := hide b0; have B1 := hide b1; have HN := hide hN; have HO := hide hold; have HZ := hide hz3
  clear hr ht hT b0 b1 hN hold hz3
  generalize hQ : w.heap.size = Q at *
  have HQ := hide hQ; clear hQ
  go_wp2_with fail
  refine (sg_any (unhide HR) 64 (by omega) (by omega)).mono ?_
  rintro e w4 ⟨rfl, hr, ht⟩
  have b0 := (unhide B0).tn ht (by have := unhide HN; omega)
  have b1 := (unhide B1).tn ht (by have := unhide HN; omega)
  have ht2 := Tn.on (unhide HT) ht
  clear HR HT B0 B1
  have HR := hide hr; have HT := hide ht2; have B0 := hide b0; have B1 := hide b1
  clear hr ht ht2 b0 b1
  obtain ⟨p0, p1, p2, p3, p4, p5, p6, p7⟩ := (unhide B1).cs
  have pz := (unhide B1).fz
  have hr := (unhide HR).tn (Tn.set (Q + 1) 1 w4 (.int .i64 (pS zs p 64).v)) (by have := unhide HN; omega) (fun b o e hl => by have := unhide HO b o e hl; have := unhide HQ; omega)
  have ht := (unhide HT).new (Tn.set (Q + 1) 1 w4 (.int .i64 (pS zs p 64).v)) (by have := unhide HQ; omega)
  have b1 := (unhide B1).set1 (.int .i64 (pS zs p 64).v)
  have b0 := (unhide B0).tn (Tn.set (Q + 1) 1 w4 (.int .i64 (pS zs p 64).v)) (by omega)
  clear HR HT B0 B1
  have HR := hide hr; have HT := hide ht; have B0 := hide b0; have B1 := hide b1
  clear hr ht b0 b1
  obtain ⟨c0, c1, c2, c3, c4, c5, c6, c7⟩ := (unhide B1).cs
  obtain ⟨d0, d1, d2, d3, d4, d5, d6, d7⟩ := (unhide B0).cs
  have cz := (unhide B0).fz
  have hq : Q < (w4.setCell ⟨Q + 1, 1, none⟩ (.int .i64 (pS zs p 64).v)).heap.size := (unhide B0).lt
  go_wp2
  have hb := put8_bx (unhide B0) (.int .u8 op) (.int .i64 (pS zs p 64).v) (.int .u32 0) (.int .u32 0) (.int .u8 0) (.slice none 0 0) (.slice none 0 0) (.slice none 0 0)
  have hf := put8_tn (w4.setCell ⟨Q + 1, 1, none⟩ (.int .i64 (pS zs p 64).v)) Q (.int .u8 op) (.int .i64 (pS zs p 64).v) (.int .u32 0) (.int .u32 0) (.int .u8 0) (.slice none 0 0) (.slice none 0 0) (.slice none 0 0)
  unfold put8 at hb hf
  clear c0 c1 c2 c3 c4 c5 c6 c7 d0 d1 d2 d3 d4 d5 d6 d7 cz hq p0 p1 p2 p3 p4 p5 p6 p7 pz
  generalize (((((((((w4.setCell ⟨Q + 1, 1, none⟩ (.int .i64 (pS zs p 64).v)).setCell ⟨Q, 0, none⟩ (.int .u8 op)).setCell ⟨Q, 1, none⟩ (.int .i64 (pS zs p 64).v)).setCell ⟨Q, 2, none⟩ (.int .u32 0)).setCell ⟨Q, 3, none⟩ (.int .u32 0)).setCell ⟨Q, 4, none⟩ (.int .u8 0)).setCell ⟨Q, 5, none⟩ (.slice none 0 0)).setCell ⟨Q, 6, none⟩ (.slice none 0 0)).setCell ⟨Q, 7, none⟩ (.slice none 0 0)) = wf at *
  obtain ⟨c0, c1, c2, c3, c4, c5, c6, c7⟩ := hb.cs
  obtain ⟨g1, g2⟩ := ins_end Q (unhide HR) (unhide HT) (by have := unhide HQ; omega) (by have := unhide HN; have := unhide HQ; omega) (fun b o e hl => by have := unhide HO b o e hl; have := unhide HQ; omega) hf
  refine bodyPost_ret (v := .agg #[.int .u8 op, .int .i64 (pS zs p 64).v, .int .u32 0, .int .u32 0, .int .u8 0, .slice none 0 0, .slice none 0 0, .slice none 0 0]) (by simp [results, Tryd.results49, go_sem, c0, c1, c2, c3, c4, c5, c6, c7]) rfl ?_
  refine ⟨⟨op, (pS zs p 64).v, 0, 0, 0, [], [], []⟩, .slice none 0 0, .slice none 0 0, .slice none 0 0, rfl, ?_, g2, ⟨⟨_, _, _, rfl⟩, ⟨_, _, _, rfl⟩, ⟨_, _, _, rfl⟩⟩, fun he => ?_⟩
  · rw [unhide HE.1, unhide HE.2.1, unhide HE.2.2.1]; exact g1
  · exact ⟨(unhide HE.2.2.2 (by rw [← unhide HE.1]; exact he)).symm, Code_nil _ _, Code_nil _ _, Labs_nil _ _⟩

set_option maxRecDepth 100000 in
set_option maxHeartbeats 3200000 in
theorem ins_3 {N len cap p k nest : Nat} {a : Option Addr} {zs : List Int} {w : World} (op : Nat) (hop : op < 256) (x : Fam) (hx : fam op = some x) (ho : x.o = 3) (h : Rd w N a len cap zs p k 0) (hT : Tb w) :
    Calls Tryd.prog 49 #[.pointer (some ⟨N, 0, none⟩), .int .u8 op, .int .i64 nest] w (InsPost w N a len cap zs (pI (D zs) zs p k nest op)) := by
  obtain ⟨x1, x2, o, x4, x5, x6⟩ := x
  simp only at ho
  subst ho
  have hfr := fr_of hx
  have hfm := fun wx hx => form_any op hop wx hx
  simp only [hx, formR, errV_0] at hfm
  have hR : _ ∧ _ ∧ _ ∧ _ := part_f (pU zs p 4294967295) k (plain op) (fun v => { plain op with n := v })
  have hI : pI (D zs) zs p k nest op = (pU zs p 4294967295).on k (plain op) (fun a1 v => ⟨0, a1, k, { plain op with n := v }⟩) := by unfold pI; rw [hfr]; rfl
  rw [hI]
  generalize (pU zs p 4294967295).on k (plain op) (fun a1 v => ⟨0, a1, k, { plain op with n := v }⟩) = R at *
  have HE : Hid (R.e = ((pU zs p 4294967295)).e) ∧ Hid (R.at_ = ((pU zs p 4294967295)).at_) ∧ Hid (R.k = k) ∧ Hid (((pU zs p 4294967295)).e = 0 → R.v = { plain op with n := (pU zs p 4294967295).v }) := hR
  clear hI
  have hpv := pU_v h.row.2.1 p 4294967295
  obtain ⟨pv0, pv1⟩ := hpv
  have HF := hide hfm; have HR := hide h; have HT := hide hT; clear hfm h hT hx hR hfr
  go_enter Tryd.func49, Tryd.ntmps49
  go_wp2_with fail
  obtain ⟨hb0, b0, b1, hz⟩ := bx_two w (.int .u8 0) (.int .i64 0) (.int .u32 0) (.int .u32 0) (.int .u8 0) (.slice none 0 0) (.slice none 0 0) (.slice none 0 0) (.int .u8 op) (.int .i64 0) (.int .u32 0) (.int .u32 0) (.int .u8 0) (.slice none 0 0) (.slice none 0 0) (.slice none 0 0)
  generalize (w.alloc (.cells #[.int .u8 0, .int .i64 0, .int .u32 0, .int .u32 0, .int .u8 0, .slice none 0 0, .slice none 0 0, .slice none 0 0] 50)).alloc (.cells #[.int .u8 op, .int .i64 0, .int .u32 0, .int .u32 0, .int .u8 0, .slice none 0 0, .slice none 0 0, .slice none 0 0] 50) = w2 at *
  refine (unhide HF _ ((unhide HT).1.below hb0)).mono ?_
  rintro e w3 ⟨rfl, hb3⟩
  have hb := Below.on hb0 hb3
  have hr := (unhide HR).below hb
  have ht := Tn.of (N := N) hb
  have hT := (unhide HT).below hb
  have hN := (unhide HR).lt
  have hold := (unhide HR).old
  replace b0 := b0.below hb3
  replace b1 := b1.below hb3
  have hz3 : w.heap.size + 2 ≤ w3.heap.size := by have := hb3.size; omega
  clear hb0 hb3 hz hb HF HR HT w2
  have HR := hide hr; have HT := hide ht; have HTb := hide hT; have B0 := hide b0; have B1 := hide b1; have HN := hide hN; have HO := hide hold; have HZ := hide hz3
  clear hr ht hT b0 b1 hN hold hz3
  generalize hQ : w.heap.size = Q at *
  have HQ := hide hQ; clear hQ
  go_wp2_with fail
  refine (un_any (unhide HR)).mono ?_
  rintro e w4 ⟨rfl, hr, ht⟩
  have b0 := (unhide B0).tn ht (by have := unhide HN; omega)
  have b1 := (unhide B1).tn ht (by have := unhide HN; omega)
  have ht2 := Tn.on (unhide HT) ht
  clear HR HT B0 B1
  have HR := hide hr; have HT := hide ht2; have B0 := hide b0; have B1 := hide b1
  clear hr ht ht2 b0 b1
  obtain ⟨p0, p1, p2, p3, p4, p5, p6, p7⟩ := (unhide B1).cs
  have pz := (unhide B1).fz
  have hr := (unhide HR).tn (Tn.set (Q + 1) 1 w4 (.int .i64 (pU zs p 4294967295).v)) (by have := unhide HN; omega) (fun b o e hl => by have := unhide HO b o e hl; have := unhide HQ; omega)
  have ht := (unhide HT).new (Tn.set (Q + 1) 1 w4 (.int .i64 (pU zs p 4294967295).v)) (by have := unhide HQ; omega)
  have b1 := (unhide B1).set1 (.int .i64 (pU zs p 4294967295).v)
  have b0 := (unhide B0).tn (Tn.set (Q + 1) 1 w4 (.int .i64 (pU zs p 4294967295).v)) (by omega)
  clear HR HT B0 B1
  have HR := hide hr; have HT := hide ht; have B0 := hide b0; have B1 := hide b1
  clear hr ht b0 b1
  obtain ⟨c0, c1, c2, c3, c4, c5, c6, c7⟩ := (unhide B1).cs
  obtain ⟨d0, d1, d2, d3, d4, d5, d6, d7⟩ := (unhide B0).cs
  have cz := (unhide B0).fz
  have hq : Q < (w4.setCell ⟨Q + 1, 1, none⟩ (.int .i64 (pU zs p 4294967295).v)).heap.size := (unhide B0).lt
  go_wp2
  have hb := put8_bx (unhide B0) (.int .u8 op) (.int .i64 (pU zs p 4294967295).v) (.int .u32 0) (.int .u32 0) (.int .u8 0) (.slice none 0 0) (.slice none 0 0) (.slice none 0 0)
  have hf := put8_tn (w4.setCell ⟨Q + 1, 1, none⟩ (.int .i64 (pU zs p 4294967295).v)) Q (.int .u8 op) (.int .i64 (pU zs p 4294967295).v) (.int .u32 0) (.int .u32 0) (.int .u8 0) (.slice none 0 0) (.slice none 0 0) (.slice none 0 0)
  unfold put8 at hb hf
  clear c0 c1 c2 c3 c4 c5 c6 c7 d0 d1 d2 d3 d4 d5 d6 d7 cz hq p0 p1 p2 p3 p4 p5 p6 p7 pz
  generalize (((((((((w4.setCell ⟨Q + 1, 1, none⟩ (.int .i64 (pU zs p 4294967295).v)).setCell ⟨Q, 0, none⟩ (.int .u8 op)).setCell ⟨Q, 1, none⟩ (.int .i64 (pU zs p 4294967295).v)).setCell ⟨Q, 2, none⟩ (.int .u32 0)).setCell ⟨Q, 3, none⟩ (.int .u32 0)).setCell ⟨Q, 4, none⟩ (.int .u8 0)).setCell ⟨Q, 5, none⟩ (.slice none 0 0)).setCell ⟨Q, 6, none⟩ (.slice none 0 0)).setCell ⟨Q, 7, none⟩ (.slice none 0 0)) = wf at *
  obtain ⟨c0, c1, c2, c3, c4, c5, c6, c7⟩ := hb.cs
  obtain ⟨g1, g2⟩ := ins_end Q (unhide HR) (unhide HT) (by have := unhide HQ; omega) (by have := unhide HN; have := unhide HQ; omega) (fun b o e hl => by have := unhide HO b o e hl; have := unhide HQ; omega) hf
  refine bodyPost_ret (v := .agg #[.int .u8 op, .int .i64 (pU zs p 4294967295).v, .int .u32 0, .int .u32 0, .int .u8 0, .slice none 0 0, .slice none 0 0, .slice none 0 0]) (by simp [results, Tryd.results49, go_sem, c0, c1, c2, c3, c4, c5, c6, c7]) rfl ?_
  refine ⟨⟨op, (pU zs p 4294967295).v, 0, 0, 0, [], [], []⟩, .slice none 0 0, .slice none 0 0, .slice none 0 0, rfl, ?_, g2, ⟨⟨_, _, _, rfl⟩, ⟨_, _, _, rfl⟩, ⟨_, _, _, rfl⟩⟩, fun he => ?_⟩
  · rw [unhide HE.1, unhide HE.2.1, unhide HE.2.2.1]; exact g1
  · exact ⟨(unhide HE.2.2.2 (by rw [← unhide HE.1]; exact he)).symm, Code_nil _ _, Code_nil _ _, Labs_nil _ _⟩

set_option maxRecDepth 100000 in
set_option maxHeartbeats 3200000 in
theorem ins_5 {N len cap p k nest : Nat} {a : Option Addr} {zs : List Int} {w : World} (op : Nat) (hop : op < 256) (x : Fam) (hx : fam op = some x) (ho : x.o = 5) (h : Rd w N a len cap zs p k 0) (hT : Tb w) :
    Calls Tryd.prog 49 #[.pointer (some ⟨N, 0, none⟩), .int .u8 op, .int .i64 nest] w (InsPost w N a len cap zs (pI (D zs) zs p k nest op)) := by
  obtain ⟨x1, x2, o, x4, x5, x6⟩ := x
  simp only at ho
  subst ho
  have hfr := fr_of hx
  have hfm := fun wx hx => form_any op hop wx hx
  simp only [hx, formR, errV_0] at hfm
  have hR : _ ∧ _ ∧ _ ∧ _ := part_f (pB zs p jZ) k (plain op) (fun _ => plain op)
  have hI : pI (D zs) zs p k nest op = (pB zs p jZ).on k (plain op) (fun a1 _ => ⟨0, a1, k, plain op⟩) := by unfold pI; rw [hfr]; rfl
  rw [hI]
  generalize (pB zs p jZ).on k (plain op) (fun a1 _ => ⟨0, a1, k, plain op⟩) = R at *
  have HE : Hid (R.e = ((pB zs p jZ)).e) ∧ Hid (R.at_ = ((pB zs p jZ)).at_) ∧ Hid (R.k = k) ∧ Hid (((pB zs p jZ)).e = 0 → R.v = plain op) := hR
  clear hI
  have HF := hide hfm; have HR := hide h; have HT := hide hT; clear hfm h hT hx hR hfr
  go_enter Tryd.func49, Tryd.ntmps49
  go_wp2_with fail
  obtain ⟨hb0, b0, b1, hz⟩ := bx_two w (.int .u8 0) (.int .i64 0) (.int .u32 0) (.int .u32 0) (.int .u8 0) (.slice none 0 0) (.slice none 0 0) (.slice none 0 0) (.int .u8 op) (.int .i64 0) (.int .u32 0) (.int .u32 0) (.int .u8 0) (.slice none 0 0) (.slice none 0 0) (.slice none 0 0)
  generalize (w.alloc (.cells #[.int .u8 0, .int .i64 0, .int .u32 0, .int .u32 0, .int .u8 0, .slice none 0 0, .slice none 0 0, .slice none 0 0] 50)).alloc (.cells #[.int .u8 op, .int .i64 0, .int .u32 0, .int .u32 0, .int .u8 0, .slice none 0 0, .slice none 0 0, .slice none 0 0] 50) = w2 at *
  refine (unhide HF _ ((unhide HT).1.below hb0)).mono ?_
  rintro e w3 ⟨rfl, hb3⟩
  have hb := Below.on hb0 hb3
  have hr := (unhide HR).below hb
  have ht := Tn.of (N := N) hb
  have hT := (unhide HT).below hb
  have hN := (unhide HR).lt
  have hold := (unhide HR).old
  replace b0 := b0.below hb3
  replace b1 := b1.below hb3
  have hz3 : w.heap.size + 2 ≤ w3.heap.size := by have := hb3.size; omega
  clear hb0 hb3 hz hb HF HR HT w2
  have HR := hide hr; have HT := hide ht; have HTb := hide hT; have B0 := hide b0; have B1 := hide b1; have HN := hide hN; have HO := hide hold; have HZ := hide hz3
  clear hr ht hT b0 b1 hN hold hz3
  generalize hQ : w.heap.size = Q at *
  have HQ := hide hQ; clear hQ
  go_wp2_with fail
  refine (obZ_any (unhide HR)).mono ?_
  rintro e w4 ⟨rfl, hr, ht⟩
  have b0 := (unhide B0).tn ht (by have := unhide HN; omega)
  have b1 := (unhide B1).tn ht (by have := unhide HN; omega)
  have ht2 := Tn.on (unhide HT) ht
  clear HR HT B0 B1
  have HR := hide hr; have HT := hide ht2; have B0 := hide b0; have B1 := hide b1
  clear hr ht ht2 b0 b1
  obtain ⟨c0, c1, c2, c3, c4, c5, c6, c7⟩ := (unhide B1).cs
  obtain ⟨d0, d1, d2, d3, d4, d5, d6, d7⟩ := (unhide B0).cs
  have cz := (unhide B0).fz
  have hq : Q < w4.heap.size := (unhide B0).lt
  go_wp2
  have hb := put8_bx (unhide B0) (.int .u8 op) (.int .i64 0) (.int .u32 0) (.int .u32 0) (.int .u8 0) (.slice none 0 0) (.slice none 0 0) (.slice none 0 0)
  have hf := put8_tn w4 Q (.int .u8 op) (.int .i64 0) (.int .u32 0) (.int .u32 0) (.int .u8 0) (.slice none 0 0) (.slice none 0 0) (.slice none 0 0)
  unfold put8 at hb hf
  clear c0 c1 c2 c3 c4 c5 c6 c7 d0 d1 d2 d3 d4 d5 d6 d7 cz hq
  generalize ((((((((w4.setCell ⟨Q, 0, none⟩ (.int .u8 op)).setCell ⟨Q, 1, none⟩ (.int .i64 0)).setCell ⟨Q, 2, none⟩ (.int .u32 0)).setCell ⟨Q, 3, none⟩ (.int .u32 0)).setCell ⟨Q, 4, none⟩ (.int .u8 0)).setCell ⟨Q, 5, none⟩ (.slice none 0 0)).setCell ⟨Q, 6, none⟩ (.slice none 0 0)).setCell ⟨Q, 7, none⟩ (.slice none 0 0)) = wf at *
  obtain ⟨c0, c1, c2, c3, c4, c5, c6, c7⟩ := hb.cs
  obtain ⟨g1, g2⟩ := ins_end Q (unhide HR) (unhide HT) (by have := unhide HQ; omega) (by have := unhide HN; have := unhide HQ; omega) (fun b o e hl => by have := unhide HO b o e hl; have := unhide HQ; omega) hf
  refine bodyPost_ret (v := .agg #[.int .u8 op, .int .i64 0, .int .u32 0, .int .u32 0, .int .u8 0, .slice none 0 0, .slice none 0 0, .slice none 0 0]) (by simp [results, Tryd.results49, go_sem, c0, c1, c2, c3, c4, c5, c6, c7]) rfl ?_
  refine ⟨⟨op, 0, 0, 0, 0, [], [], []⟩, .slice none 0 0, .slice none 0 0, .slice none 0 0, rfl, ?_, g2, ⟨⟨_, _, _, rfl⟩, ⟨_, _, _, rfl⟩, ⟨_, _, _, rfl⟩⟩, fun he => ?_⟩
  · rw [unhide HE.1, unhide HE.2.1, unhide HE.2.2.1]; exact g1
  · exact ⟨(unhide HE.2.2.2 (by rw [← unhide HE.1]; exact he)).symm, Code_nil _ _, Code_nil _ _, Labs_nil _ _⟩

set_option maxRecDepth 100000 in
set_option maxHeartbeats 3200000 in
theorem ins_4_ok {N len cap p k nest : Nat} {a : Option Addr} {zs : List Int} {w : World} (op : Nat) (hop : op < 256) (x : Fam) (hx : fam op = some x) (ho : x.o = 4) (h : Rd w N a len cap zs p k 0) (hT : Tb w) (hP : (pU zs p 4294967295).e = 0) :
    Calls Tryd.prog 49 #[.pointer (some ⟨N, 0, none⟩), .int .u8 op, .int .i64 nest] w (InsPost w N a len cap zs (pI (D zs) zs p k nest op)) := by
  obtain ⟨x1, x2, o, x4, x5, x6⟩ := x
  simp only at ho
  subst ho
  have hfr := fr_of hx
  have hfm := fun wx hx => form_any op hop wx hx
  simp only [hx, formR, errV_0] at hfm
  have hR := part_f (pU zs (pU zs p 4294967295).at_ 4294967295) k (plain op) (fun u => { plain op with al := (pU zs p 4294967295).v, of := u })
  have hI : pI (D zs) zs p k nest op = (pU zs (pU zs p 4294967295).at_ 4294967295).on k (plain op) (fun a2 u => ⟨0, a2, k, { plain op with al := (pU zs p 4294967295).v, of := u }⟩) := by unfold pI; rw [hfr, if_neg (by decide), if_neg (by decide), if_neg (by decide), if_pos rfl, Part.on_ok hP]
  rw [hI]
  generalize (pU zs (pU zs p 4294967295).at_ 4294967295).on k (plain op) (fun a2 u => ⟨0, a2, k, { plain op with al := (pU zs p 4294967295).v, of := u }⟩) = R at *
  have HE : Hid (R.e = (pU zs (pU zs p 4294967295).at_ 4294967295).e) ∧ Hid (R.at_ = (pU zs (pU zs p 4294967295).at_ 4294967295).at_) ∧ Hid (R.k = k) ∧ Hid ((pU zs (pU zs p 4294967295).at_ 4294967295).e = 0 → R.v = { plain op with al := (pU zs p 4294967295).v, of := (pU zs (pU zs p 4294967295).at_ 4294967295).v }) := hR
  clear hI
  have HP := hide hP; clear hP
  have HF := hide hfm; have HR := hide h; have HT := hide hT; clear hfm h hT hx hR hfr
  go_enter Tryd.func49, Tryd.ntmps49
  go_wp2_with fail
  obtain ⟨hb0, b0, b1, hz⟩ := bx_two w (.int .u8 0) (.int .i64 0) (.int .u32 0) (.int .u32 0) (.int .u8 0) (.slice none 0 0) (.slice none 0 0) (.slice none 0 0) (.int .u8 op) (.int .i64 0) (.int .u32 0) (.int .u32 0) (.int .u8 0) (.slice none 0 0) (.slice none 0 0) (.slice none 0 0)
  generalize (w.alloc (.cells #[.int .u8 0, .int .i64 0, .int .u32 0, .int .u32 0, .int .u8 0, .slice none 0 0, .slice none 0 0, .slice none 0 0] 50)).alloc (.cells #[.int .u8 op, .int .i64 0, .int .u32 0, .int .u32 0, .int .u8 0, .slice none 0 0, .slice none 0 0, .slice none 0 0] 50) = w2 at *
  refine (unhide HF _ ((unhide HT).1.below hb0)).mono ?_
  rintro e w3 ⟨rfl, hb3⟩
  have hb := Below.on hb0 hb3
  have hr := (unhide HR).below hb
  have ht := Tn.of (N := N) hb
  have hT := (unhide HT).below hb
  have hN := (unhide HR).lt
  have hold := (unhide HR).old
  replace b0 := b0.below hb3
  replace b1 := b1.below hb3
  have hz3 : w.heap.size + 2 ≤ w3.heap.size := by have := hb3.size; omega
  clear hb0 hb3 hz hb HF HR HT w2
  have HR := hide hr; have HT := hide ht; have HTb := hide hT; have B0 := hide b0; have B1 := hide b1; have HN := hide hN; have HO := hide hold; have HZ := hide hz3
  clear hr ht hT b0 b1 hN hold hz3
  generalize hQ : w.heap.size = Q at *
  have HQ := hide hQ; clear hQ
  go_wp2_with fail
  refine (un_any (unhide HR)).mono ?_
  rintro e w4 ⟨rfl, hr, ht⟩
  rw [unhide HP] at hr
  have b0 := (unhide B0).tn ht (by have := unhide HN; omega)
  have b1 := (unhide B1).tn ht (by have := unhide HN; omega)
  have ht2 := Tn.on (unhide HT) ht
  clear HR HT B0 B1
  have HR := hide hr; have HT := hide ht2; have B0 := hide b0; have B1 := hide b1
  clear hr ht ht2 b0 b1
  obtain ⟨p0, p1, p2, p3, p4, p5, p6, p7⟩ := (unhide B1).cs
  have pz := (unhide B1).fz
  have hr := (unhide HR).tn (Tn.set (Q + 1) 2 w4 (.int .u32 (pU zs p 4294967295).v)) (by have := unhide HN; omega) (fun b o e hl => by have := unhide HO b o e hl; have := unhide HQ; omega)
  have ht := (unhide HT).new (Tn.set (Q + 1) 2 w4 (.int .u32 (pU zs p 4294967295).v)) (by have := unhide HQ; omega)
  have b1 := (unhide B1).set2 (.int .u32 (pU zs p 4294967295).v)
  have b0 := (unhide B0).tn (Tn.set (Q + 1) 2 w4 (.int .u32 (pU zs p 4294967295).v)) (by omega)
  clear HR HT B0 B1
  have HR := hide hr; have HT := hide ht; have B0 := hide b0; have B1 := hide b1
  clear hr ht b0 b1
  go_wp2_with fail
  generalize w4.setCell ⟨Q + 1, 2, none⟩ (.int .u32 (pU zs p 4294967295).v) = w5 at *
  clear p0 p1 p2 p3 p4 p5 p6 p7 pz
  go_wp2_with fail
  refine (un_any (unhide HR)).mono ?_
  rintro e w6 ⟨rfl, hr, ht⟩
  have b0 := (unhide B0).tn ht (by have := unhide HN; omega)
  have b1 := (unhide B1).tn ht (by have := unhide HN; omega)
  have ht2 := Tn.on (unhide HT) ht
  clear HR HT B0 B1
  have HR := hide hr; have HT := hide ht2; have B0 := hide b0; have B1 := hide b1
  clear hr ht ht2 b0 b1
  obtain ⟨p0, p1, p2, p3, p4, p5, p6, p7⟩ := (unhide B1).cs
  have pz := (unhide B1).fz
  have hr := (unhide HR).tn (Tn.set (Q + 1) 3 w6 (.int .u32 (pU zs (pU zs p 4294967295).at_ 4294967295).v)) (by have := unhide HN; omega) (fun b o e hl => by have := unhide HO b o e hl; have := unhide HQ; omega)
  have ht := (unhide HT).new (Tn.set (Q + 1) 3 w6 (.int .u32 (pU zs (pU zs p 4294967295).at_ 4294967295).v)) (by have := unhide HQ; omega)
  have b1 := (unhide B1).set3 (.int .u32 (pU zs (pU zs p 4294967295).at_ 4294967295).v)
  have b0 := (unhide B0).tn (Tn.set (Q + 1) 3 w6 (.int .u32 (pU zs (pU zs p 4294967295).at_ 4294967295).v)) (by omega)
  clear HR HT B0 B1
  have HR := hide hr; have HT := hide ht; have B0 := hide b0; have B1 := hide b1
  clear hr ht b0 b1
  obtain ⟨c0, c1, c2, c3, c4, c5, c6, c7⟩ := (unhide B1).cs
  obtain ⟨d0, d1, d2, d3, d4, d5, d6, d7⟩ := (unhide B0).cs
  have cz := (unhide B0).fz
  have hq : Q < (w6.setCell ⟨Q + 1, 3, none⟩ (.int .u32 (pU zs (pU zs p 4294967295).at_ 4294967295).v)).heap.size := (unhide B0).lt
  go_wp2
  have hb := put8_bx (unhide B0) (.int .u8 op) (.int .i64 0) (.int .u32 (pU zs p 4294967295).v) (.int .u32 (pU zs (pU zs p 4294967295).at_ 4294967295).v) (.int .u8 0) (.slice none 0 0) (.slice none 0 0) (.slice none 0 0)
  have hf := put8_tn (w6.setCell ⟨Q + 1, 3, none⟩ (.int .u32 (pU zs (pU zs p 4294967295).at_ 4294967295).v)) Q (.int .u8 op) (.int .i64 0) (.int .u32 (pU zs p 4294967295).v) (.int .u32 (pU zs (pU zs p 4294967295).at_ 4294967295).v) (.int .u8 0) (.slice none 0 0) (.slice none 0 0) (.slice none 0 0)
  unfold put8 at hb hf
  clear c0 c1 c2 c3 c4 c5 c6 c7 d0 d1 d2 d3 d4 d5 d6 d7 cz hq p0 p1 p2 p3 p4 p5 p6 p7 pz
  generalize (((((((((w6.setCell ⟨Q + 1, 3, none⟩ (.int .u32 (pU zs (pU zs p 4294967295).at_ 4294967295).v)).setCell ⟨Q, 0, none⟩ (.int .u8 op)).setCell ⟨Q, 1, none⟩ (.int .i64 0)).setCell ⟨Q, 2, none⟩ (.int .u32 (pU zs p 4294967295).v)).setCell ⟨Q, 3, none⟩ (.int .u32 (pU zs (pU zs p 4294967295).at_ 4294967295).v)).setCell ⟨Q, 4, none⟩ (.int .u8 0)).setCell ⟨Q, 5, none⟩ (.slice none 0 0)).setCell ⟨Q, 6, none⟩ (.slice none 0 0)).setCell ⟨Q, 7, none⟩ (.slice none 0 0)) = wf at *
  obtain ⟨c0, c1, c2, c3, c4, c5, c6, c7⟩ := hb.cs
  obtain ⟨g1, g2⟩ := ins_end Q (unhide HR) (unhide HT) (by have := unhide HQ; omega) (by have := unhide HN; have := unhide HQ; omega) (fun b o e hl => by have := unhide HO b o e hl; have := unhide HQ; omega) hf
  refine bodyPost_ret (v := .agg #[.int .u8 op, .int .i64 0, .int .u32 (pU zs p 4294967295).v, .int .u32 (pU zs (pU zs p 4294967295).at_ 4294967295).v, .int .u8 0, .slice none 0 0, .slice none 0 0, .slice none 0 0]) (by simp [results, Tryd.results49, go_sem, c0, c1, c2, c3, c4, c5, c6, c7]) rfl ?_
  refine ⟨⟨op, 0, (pU zs p 4294967295).v, (pU zs (pU zs p 4294967295).at_ 4294967295).v, 0, [], [], []⟩, .slice none 0 0, .slice none 0 0, .slice none 0 0, rfl, ?_, g2, ⟨⟨_, _, _, rfl⟩, ⟨_, _, _, rfl⟩, ⟨_, _, _, rfl⟩⟩, fun he => ?_⟩
  · rw [unhide HE.1, unhide HE.2.1, unhide HE.2.2.1]; exact g1
  · exact ⟨(unhide HE.2.2.2 (by rw [← unhide HE.1]; exact he)).symm, Code_nil _ _, Code_nil _ _, Labs_nil _ _⟩

set_option maxRecDepth 100000 in
set_option maxHeartbeats 3200000 in
theorem ins_4_no {N len cap p k nest : Nat} {a : Option Addr} {zs : List Int} {w : World} (op : Nat) (hop : op < 256) (x : Fam) (hx : fam op = some x) (ho : x.o = 4) (h : Rd w N a len cap zs p k 0) (hT : Tb w) (hP : ¬ (pU zs p 4294967295).e = 0) :
    Calls Tryd.prog 49 #[.pointer (some ⟨N, 0, none⟩), .int .u8 op, .int .i64 nest] w (InsPost w N a len cap zs (pI (D zs) zs p k nest op)) := by
  obtain ⟨x1, x2, o, x4, x5, x6⟩ := x
  simp only at ho
  subst ho
  have hfr := fr_of hx
  have hfm := fun wx hx => form_any op hop wx hx
  simp only [hx, formR, errV_0] at hfm
  obtain ⟨R, hR, hRe⟩ : ∃ R, pI (D zs) zs p k nest op = R ∧ R.e = (pU zs p 4294967295).e ∧ R.at_ = (pU zs p 4294967295).at_ ∧ R.k = k ∧ True := ⟨⟨(pU zs p 4294967295).e, (pU zs p 4294967295).at_, k, plain op⟩, by unfold pI; rw [hfr, if_neg (by decide), if_neg (by decide), if_neg (by decide), if_pos rfl, Part.on_no hP], rfl, rfl, rfl, trivial⟩
  rw [hR]
  have HE : Hid (R.e = (pU zs p 4294967295).e) ∧ Hid (R.at_ = (pU zs p 4294967295).at_) ∧ Hid (R.k = k) ∧ Hid True := hRe
  clear hRe
  have HP := hide hP; clear hP
  have HF := hide hfm; have HR := hide h; have HT := hide hT; clear hfm h hT hx hR hfr
  go_enter Tryd.func49, Tryd.ntmps49
  go_wp2_with fail
  obtain ⟨hb0, b0, b1, hz⟩ := bx_two w (.int .u8 0) (.int .i64 0) (.int .u32 0) (.int .u32 0) (.int .u8 0) (.slice none 0 0) (.slice none 0 0) (.slice none 0 0) (.int .u8 op) (.int .i64 0) (.int .u32 0) (.int .u32 0) (.int .u8 0) (.slice none 0 0) (.slice none 0 0) (.slice none 0 0)
  generalize (w.alloc (.cells #[.int .u8 0, .int .i64 0, .int .u32 0, .int .u32 0, .int .u8 0, .slice none 0 0, .slice none 0 0, .slice none 0 0] 50)).alloc (.cells #[.int .u8 op, .int .i64 0, .int .u32 0, .int .u32 0, .int .u8 0, .slice none 0 0, .slice none 0 0, .slice none 0 0] 50) = w2 at *
  refine (unhide HF _ ((unhide HT).1.below hb0)).mono ?_
  rintro e w3 ⟨rfl, hb3⟩
  have hb := Below.on hb0 hb3
  have hr := (unhide HR).below hb
  have ht := Tn.of (N := N) hb
  have hT := (unhide HT).below hb
  have hN := (unhide HR).lt
  have hold := (unhide HR).old
  replace b0 := b0.below hb3
  replace b1 := b1.below hb3
  have hz3 : w.heap.size + 2 ≤ w3.heap.size := by have := hb3.size; omega
  clear hb0 hb3 hz hb HF HR HT w2
  have HR := hide hr; have HT := hide ht; have HTb := hide hT; have B0 := hide b0; have B1 := hide b1; have HN := hide hN; have HO := hide hold; have HZ := hide hz3
  clear hr ht hT b0 b1 hN hold hz3
  generalize hQ : w.heap.size = Q at *
  have HQ := hide hQ; clear hQ
  go_wp2_with fail
  refine (un_any (unhide HR)).mono ?_
  rintro e w4 ⟨rfl, hr, ht⟩
  have b0 := (unhide B0).tn ht (by have := unhide HN; omega)
  have b1 := (unhide B1).tn ht (by have := unhide HN; omega)
  have ht2 := Tn.on (unhide HT) ht
  clear HR HT B0 B1
  have HR := hide hr; have HT := hide ht2; have B0 := hide b0; have B1 := hide b1
  clear hr ht ht2 b0 b1
  obtain ⟨p0, p1, p2, p3, p4, p5, p6, p7⟩ := (unhide B1).cs
  have pz := (unhide B1).fz
  have hr := (unhide HR).tn (Tn.set (Q + 1) 2 w4 (.int .u32 (pU zs p 4294967295).v)) (by have := unhide HN; omega) (fun b o e hl => by have := unhide HO b o e hl; have := unhide HQ; omega)
  have ht := (unhide HT).new (Tn.set (Q + 1) 2 w4 (.int .u32 (pU zs p 4294967295).v)) (by have := unhide HQ; omega)
  have b1 := (unhide B1).set2 (.int .u32 (pU zs p 4294967295).v)
  have b0 := (unhide B0).tn (Tn.set (Q + 1) 2 w4 (.int .u32 (pU zs p 4294967295).v)) (by omega)
  clear HR HT B0 B1
  have HR := hide hr; have HT := hide ht; have B0 := hide b0; have B1 := hide b1
  clear hr ht b0 b1
  go_wp2_with fail
  generalize w4.setCell ⟨Q + 1, 2, none⟩ (.int .u32 (pU zs p 4294967295).v) = w5 at *
  clear p0 p1 p2 p3 p4 p5 p6 p7 pz
  go_wp2_with fail
  refine (un_err (unhide HR) (unhide HP)).mono ?_
  rintro e w6 ⟨rfl, hr, ht⟩
  have b0 := (unhide B0).tn ht (by have := unhide HN; omega)
  have b1 := (unhide B1).tn ht (by have := unhide HN; omega)
  have ht2 := Tn.on (unhide HT) ht
  clear HR HT B0 B1
  have HR := hide hr; have HT := hide ht2; have B0 := hide b0; have B1 := hide b1
  clear hr ht ht2 b0 b1
  obtain ⟨p0, p1, p2, p3, p4, p5, p6, p7⟩ := (unhide B1).cs
  have pz := (unhide B1).fz
  have hr := (unhide HR).tn (Tn.set (Q + 1) 3 w6 (.int .u32 0)) (by have := unhide HN; omega) (fun b o e hl => by have := unhide HO b o e hl; have := unhide HQ; omega)
  have ht := (unhide HT).new (Tn.set (Q + 1) 3 w6 (.int .u32 0)) (by have := unhide HQ; omega)
  have b1 := (unhide B1).set3 (.int .u32 0)
  have b0 := (unhide B0).tn (Tn.set (Q + 1) 3 w6 (.int .u32 0)) (by omega)
  clear HR HT B0 B1
  have HR := hide hr; have HT := hide ht; have B0 := hide b0; have B1 := hide b1
  clear hr ht b0 b1
  obtain ⟨c0, c1, c2, c3, c4, c5, c6, c7⟩ := (unhide B1).cs
  obtain ⟨d0, d1, d2, d3, d4, d5, d6, d7⟩ := (unhide B0).cs
  have cz := (unhide B0).fz
  have hq : Q < (w6.setCell ⟨Q + 1, 3, none⟩ (.int .u32 0)).heap.size := (unhide B0).lt
  go_wp2
  have hb := put8_bx (unhide B0) (.int .u8 op) (.int .i64 0) (.int .u32 (pU zs p 4294967295).v) (.int .u32 0) (.int .u8 0) (.slice none 0 0) (.slice none 0 0) (.slice none 0 0)
  have hf := put8_tn (w6.setCell ⟨Q + 1, 3, none⟩ (.int .u32 0)) Q (.int .u8 op) (.int .i64 0) (.int .u32 (pU zs p 4294967295).v) (.int .u32 0) (.int .u8 0) (.slice none 0 0) (.slice none 0 0) (.slice none 0 0)
  unfold put8 at hb hf
  clear c0 c1 c2 c3 c4 c5 c6 c7 d0 d1 d2 d3 d4 d5 d6 d7 cz hq p0 p1 p2 p3 p4 p5 p6 p7 pz
  generalize (((((((((w6.setCell ⟨Q + 1, 3, none⟩ (.int .u32 0)).setCell ⟨Q, 0, none⟩ (.int .u8 op)).setCell ⟨Q, 1, none⟩ (.int .i64 0)).setCell ⟨Q, 2, none⟩ (.int .u32 (pU zs p 4294967295).v)).setCell ⟨Q, 3, none⟩ (.int .u32 0)).setCell ⟨Q, 4, none⟩ (.int .u8 0)).setCell ⟨Q, 5, none⟩ (.slice none 0 0)).setCell ⟨Q, 6, none⟩ (.slice none 0 0)).setCell ⟨Q, 7, none⟩ (.slice none 0 0)) = wf at *
  obtain ⟨c0, c1, c2, c3, c4, c5, c6, c7⟩ := hb.cs
  obtain ⟨g1, g2⟩ := ins_end Q (unhide HR) (unhide HT) (by have := unhide HQ; omega) (by have := unhide HN; have := unhide HQ; omega) (fun b o e hl => by have := unhide HO b o e hl; have := unhide HQ; omega) hf
  refine bodyPost_ret (v := .agg #[.int .u8 op, .int .i64 0, .int .u32 (pU zs p 4294967295).v, .int .u32 0, .int .u8 0, .slice none 0 0, .slice none 0 0, .slice none 0 0]) (by simp [results, Tryd.results49, go_sem, c0, c1, c2, c3, c4, c5, c6, c7]) rfl ?_
  refine ⟨⟨op, 0, (pU zs p 4294967295).v, 0, 0, [], [], []⟩, .slice none 0 0, .slice none 0 0, .slice none 0 0, rfl, ?_, g2, ⟨⟨_, _, _, rfl⟩, ⟨_, _, _, rfl⟩, ⟨_, _, _, rfl⟩⟩, fun he => ?_⟩
  · rw [unhide HE.1, unhide HE.2.1, unhide HE.2.2.1]; exact g1
  · exact absurd (by rw [← unhide HE.1]; exact he) (unhide HP)

set_option maxRecDepth 100000 in
set_option maxHeartbeats 3200000 in
theorem ins_9_ok {N len cap p k nest : Nat} {a : Option Addr} {zs : List Int} {w : World} (op : Nat) (hop : op < 256) (x : Fam) (hx : fam op = some x) (ho : x.o = 9) (h : Rd w N a len cap zs p k 0) (hT : Tb w) (hP : (pU zs p 4294967295).e = 0) :
    Calls Tryd.prog 49 #[.pointer (some ⟨N, 0, none⟩), .int .u8 op, .int .i64 nest] w (InsPost w N a len cap zs (pI (D zs) zs p k nest op)) := by
  obtain ⟨x1, x2, o, x4, x5, x6⟩ := x
  simp only at ho
  subst ho
  have hfr := fr_of hx
  have hfm := fun wx hx => form_any op hop wx hx
  simp only [hx, formR, errV_0] at hfm
  have hR := part_f (pB zs (pU zs p 4294967295).at_ jZ) k (plain op) (fun _ => { plain op with n := (pU zs p 4294967295).v })
  have hI : pI (D zs) zs p k nest op = (pB zs (pU zs p 4294967295).at_ jZ).on k (plain op) (fun a2 _ => ⟨0, a2, k, { plain op with n := (pU zs p 4294967295).v }⟩) := by unfold pI; rw [hfr, if_neg (by decide), if_neg (by decide), if_neg (by decide), if_neg (by decide), if_neg (by decide), if_neg (by decide), if_pos rfl, Part.on_ok hP]
  rw [hI]
  generalize (pB zs (pU zs p 4294967295).at_ jZ).on k (plain op) (fun a2 _ => ⟨0, a2, k, { plain op with n := (pU zs p 4294967295).v }⟩) = R at *
  have HE : Hid (R.e = (pB zs (pU zs p 4294967295).at_ jZ).e) ∧ Hid (R.at_ = (pB zs (pU zs p 4294967295).at_ jZ).at_) ∧ Hid (R.k = k) ∧ Hid ((pB zs (pU zs p 4294967295).at_ jZ).e = 0 → R.v = { plain op with n := (pU zs p 4294967295).v }) := hR
  clear hI
  have HP := hide hP; clear hP
  have hpv := pU_v h.row.2.1 p 4294967295
  obtain ⟨pv0, pv1⟩ := hpv
  have HF := hide hfm; have HR := hide h; have HT := hide hT; clear hfm h hT hx hR hfr
  go_enter Tryd.func49, Tryd.ntmps49
  go_wp2_with fail
  obtain ⟨hb0, b0, b1, hz⟩ := bx_two w (.int .u8 0) (.int .i64 0) (.int .u32 0) (.int .u32 0) (.int .u8 0) (.slice none 0 0) (.slice none 0 0) (.slice none 0 0) (.int .u8 op) (.int .i64 0) (.int .u32 0) (.int .u32 0) (.int .u8 0) (.slice none 0 0) (.slice none 0 0) (.slice none 0 0)
  generalize (w.alloc (.cells #[.int .u8 0, .int .i64 0, .int .u32 0, .int .u32 0, .int .u8 0, .slice none 0 0, .slice none 0 0, .slice none 0 0] 50)).alloc (.cells #[.int .u8 op, .int .i64 0, .int .u32 0, .int .u32 0, .int .u8 0, .slice none 0 0, .slice none 0 0, .slice none 0 0] 50) = w2 at *
  refine (unhide HF _ ((unhide HT).1.below hb0)).mono ?_
  rintro e w3 ⟨rfl, hb3⟩
  have hb := Below.on hb0 hb3
  have hr := (unhide HR).below hb
  have ht := Tn.of (N := N) hb
  have hT := (unhide HT).below hb
  have hN := (unhide HR).lt
  have hold := (unhide HR).old
  replace b0 := b0.below hb3
  replace b1 := b1.below hb3
  have hz3 : w.heap.size + 2 ≤ w3.heap.size := by have := hb3.size; omega
  clear hb0 hb3 hz hb HF HR HT w2
  have HR := hide hr; have HT := hide ht; have HTb := hide hT; have B0 := hide b0; have B1 := hide b1; have HN := hide hN; have HO := hide hold; have HZ := hide hz3
  clear hr ht hT b0 b1 hN hold hz3
  generalize hQ : w.heap.size = Q at *
  have HQ := hide hQ; clear hQ
  go_wp2_with fail
  refine (un_any (unhide HR)).mono ?_
  rintro e w4 ⟨rfl, hr, ht⟩
  rw [unhide HP] at hr
  have b0 := (unhide B0).tn ht (by have := unhide HN; omega)
  have b1 := (unhide B1).tn ht (by have := unhide HN; omega)
  have ht2 := Tn.on (unhide HT) ht
  clear HR HT B0 B1
  have HR := hide hr; have HT := hide ht2; have B0 := hide b0; have B1 := hide b1
  clear hr ht ht2 b0 b1
  obtain ⟨p0, p1, p2, p3, p4, p5, p6, p7⟩ := (unhide B1).cs
  have pz := (unhide B1).fz
  have hr := (unhide HR).tn (Tn.set (Q + 1) 1 w4 (.int .i64 (pU zs p 4294967295).v)) (by have := unhide HN; omega) (fun b o e hl => by have := unhide HO b o e hl; have := unhide HQ; omega)
  have ht := (unhide HT).new (Tn.set (Q + 1) 1 w4 (.int .i64 (pU zs p 4294967295).v)) (by have := unhide HQ; omega)
  have b1 := (unhide B1).set1 (.int .i64 (pU zs p 4294967295).v)
  have b0 := (unhide B0).tn (Tn.set (Q + 1) 1 w4 (.int .i64 (pU zs p 4294967295).v)) (by omega)
  clear HR HT B0 B1
  have HR := hide hr; have HT := hide ht; have B0 := hide b0; have B1 := hide b1
  clear hr ht b0 b1
  go_wp2_with fail
  generalize w4.setCell ⟨Q + 1, 1, none⟩ (.int .i64 (pU zs p 4294967295).v) = w5 at *
  clear p0 p1 p2 p3 p4 p5 p6 p7 pz
  go_wp2_with fail
  refine (obZ_any (unhide HR)).mono ?_
  rintro e w6 ⟨rfl, hr, ht⟩
  have b0 := (unhide B0).tn ht (by have := unhide HN; omega)
  have b1 := (unhide B1).tn ht (by have := unhide HN; omega)
  have ht2 := Tn.on (unhide HT) ht
  clear HR HT B0 B1
  have HR := hide hr; have HT := hide ht2; have B0 := hide b0; have B1 := hide b1
  clear hr ht ht2 b0 b1
  obtain ⟨c0, c1, c2, c3, c4, c5, c6, c7⟩ := (unhide B1).cs
  obtain ⟨d0, d1, d2, d3, d4, d5, d6, d7⟩ := (unhide B0).cs
  have cz := (unhide B0).fz
  have hq : Q < w6.heap.size := (unhide B0).lt
  go_wp2
  have hb := put8_bx (unhide B0) (.int .u8 op) (.int .i64 (pU zs p 4294967295).v) (.int .u32 0) (.int .u32 0) (.int .u8 0) (.slice none 0 0) (.slice none 0 0) (.slice none 0 0)
  have hf := put8_tn w6 Q (.int .u8 op) (.int .i64 (pU zs p 4294967295).v) (.int .u32 0) (.int .u32 0) (.int .u8 0) (.slice none 0 0) (.slice none 0 0) (.slice none 0 0)
  unfold put8 at hb hf
  clear c0 c1 c2 c3 c4 c5 c6 c7 d0 d1 d2 d3 d4 d5 d6 d7 cz hq
  generalize ((((((((w6.setCell ⟨Q, 0, none⟩ (.int .u8 op)).setCell ⟨Q, 1, none⟩ (.int .i64 (pU zs p 4294967295).v)).setCell ⟨Q, 2, none⟩ (.int .u32 0)).setCell ⟨Q, 3, none⟩ (.int .u32 0)).setCell ⟨Q, 4, none⟩ (.int .u8 0)).setCell ⟨Q, 5, none⟩ (.slice none 0 0)).setCell ⟨Q, 6, none⟩ (.slice none 0 0)).setCell ⟨Q, 7, none⟩ (.slice none 0 0)) = wf at *
  obtain ⟨c0, c1, c2, c3, c4, c5, c6, c7⟩ := hb.cs
  obtain ⟨g1, g2⟩ := ins_end Q (unhide HR) (unhide HT) (by have := unhide HQ; omega) (by have := unhide HN; have := unhide HQ; omega) (fun b o e hl => by have := unhide HO b o e hl; have := unhide HQ; omega) hf
  refine bodyPost_ret (v := .agg #[.int .u8 op, .int .i64 (pU zs p 4294967295).v, .int .u32 0, .int .u32 0, .int .u8 0, .slice none 0 0, .slice none 0 0, .slice none 0 0]) (by simp [results, Tryd.results49, go_sem, c0, c1, c2, c3, c4, c5, c6, c7]) rfl ?_
  refine ⟨⟨op, (pU zs p 4294967295).v, 0, 0, 0, [], [], []⟩, .slice none 0 0, .slice none 0 0, .slice none 0 0, rfl, ?_, g2, ⟨⟨_, _, _, rfl⟩, ⟨_, _, _, rfl⟩, ⟨_, _, _, rfl⟩⟩, fun he => ?_⟩
  · rw [unhide HE.1, unhide HE.2.1, unhide HE.2.2.1]; exact g1
  · exact ⟨(unhide HE.2.2.2 (by rw [← unhide HE.1]; exact he)).symm, Code_nil _ _, Code_nil _ _, Labs_nil _ _⟩

set_option maxRecDepth 100000 in
set_option maxHeartbeats 3200000 in
theorem ins_9_no {N len cap p k nest : Nat} {a : Option Addr} {zs : List Int} {w : World} (op : Nat) (hop : op < 256) (x : Fam) (hx : fam op = some x) (ho : x.o = 9) (h : Rd w N a len cap zs p k 0) (hT : Tb w) (hP : ¬ (pU zs p 4294967295).e = 0) :
    Calls Tryd.prog 49 #[.pointer (some ⟨N, 0, none⟩), .int .u8 op, .int .i64 nest] w (InsPost w N a len cap zs (pI (D zs) zs p k nest op)) := by
  obtain ⟨x1, x2, o, x4, x5, x6⟩ := x
  simp only at ho
  subst ho
  have hfr := fr_of hx
  have hfm := fun wx hx => form_any op hop wx hx
  simp only [hx, formR, errV_0] at hfm
  obtain ⟨R, hR, hRe⟩ : ∃ R, pI (D zs) zs p k nest op = R ∧ R.e = (pU zs p 4294967295).e ∧ R.at_ = (pU zs p 4294967295).at_ ∧ R.k = k ∧ True := ⟨⟨(pU zs p 4294967295).e, (pU zs p 4294967295).at_, k, plain op⟩, by unfold pI; rw [hfr, if_neg (by decide), if_neg (by decide), if_neg (by decide), if_neg (by decide), if_neg (by decide), if_neg (by decide), if_pos rfl, Part.on_no hP], rfl, rfl, rfl, trivial⟩
  rw [hR]
  have HE : Hid (R.e = (pU zs p 4294967295).e) ∧ Hid (R.at_ = (pU zs p 4294967295).at_) ∧ Hid (R.k = k) ∧ Hid True := hRe
  clear hRe
  have HP := hide hP; clear hP
  have hpv := pU_v h.row.2.1 p 4294967295
  obtain ⟨pv0, pv1⟩ := hpv
  have HF := hide hfm; have HR := hide h; have HT := hide hT; clear hfm h hT hx hR hfr
  go_enter Tryd.func49, Tryd.ntmps49
  go_wp2_with fail
  obtain ⟨hb0, b0, b1, hz⟩ := bx_two w (.int .u8 0) (.int .i64 0) (.int .u32 0) (.int .u32 0) (.int .u8 0) (.slice none 0 0) (.slice none 0 0) (.slice none 0 0) (.int .u8 op) (.int .i64 0) (.int .u32 0) (.int .u32 0) (.int .u8 0) (.slice none 0 0) (.slice none 0 0) (.slice none 0 0)
  generalize (w.alloc (.cells #[.int .u8 0, .int .i64 0, .int .u32 0, .int .u32 0, .int .u8 0, .slice none 0 0, .slice none 0 0, .slice none 0 0] 50)).alloc (.cells #[.int .u8 op, .int .i64 0, .int .u32 0, .int .u32 0, .int .u8 0, .slice none 0 0, .slice none 0 0, .slice none 0 0] 50) = w2 at *
  refine (unhide HF _ ((unhide HT).1.below hb0)).mono ?_
  rintro e w3 ⟨rfl, hb3⟩
  have hb := Below.on hb0 hb3
  have hr := (unhide HR).below hb
  have ht := Tn.of (N := N) hb
  have hT := (unhide HT).below hb
  have hN := (unhide HR).lt
  have hold := (unhide HR).old
  replace b0 := b0.below hb3
  replace b1 := b1.below hb3
  have hz3 : w.heap.size + 2 ≤ w3.heap.size := by have := hb3.size; omega
  clear hb0 hb3 hz hb HF HR HT w2
  have HR := hide hr; have HT := hide ht; have HTb := hide hT; have B0 := hide b0; have B1 := hide b1; have HN := hide hN; have HO := hide hold; have HZ := hide hz3
  clear hr ht hT b0 b1 hN hold hz3
  generalize hQ : w.heap.size = Q at *
  have HQ := hide hQ; clear hQ
  go_wp2_with fail
  refine (un_any (unhide HR)).mono ?_
  rintro e w4 ⟨rfl, hr, ht⟩
  have b0 := (unhide B0).tn ht (by have := unhide HN; omega)
  have b1 := (unhide B1).tn ht (by have := unhide HN; omega)
  have ht2 := Tn.on (unhide HT) ht
  clear HR HT B0 B1
  have HR := hide hr; have HT := hide ht2; have B0 := hide b0; have B1 := hide b1
  clear hr ht ht2 b0 b1
  obtain ⟨p0, p1, p2, p3, p4, p5, p6, p7⟩ := (unhide B1).cs
  have pz := (unhide B1).fz
  have hr := (unhide HR).tn (Tn.set (Q + 1) 1 w4 (.int .i64 (pU zs p 4294967295).v)) (by have := unhide HN; omega) (fun b o e hl => by have := unhide HO b o e hl; have := unhide HQ; omega)
  have ht := (unhide HT).new (Tn.set (Q + 1) 1 w4 (.int .i64 (pU zs p 4294967295).v)) (by have := unhide HQ; omega)
  have b1 := (unhide B1).set1 (.int .i64 (pU zs p 4294967295).v)
  have b0 := (unhide B0).tn (Tn.set (Q + 1) 1 w4 (.int .i64 (pU zs p 4294967295).v)) (by omega)
  clear HR HT B0 B1
  have HR := hide hr; have HT := hide ht; have B0 := hide b0; have B1 := hide b1
  clear hr ht b0 b1
  go_wp2_with fail
  generalize w4.setCell ⟨Q + 1, 1, none⟩ (.int .i64 (pU zs p 4294967295).v) = w5 at *
  clear p0 p1 p2 p3 p4 p5 p6 p7 pz
  go_wp2_with fail
  refine (obZ_err (unhide HR) (unhide HP)).mono ?_
  rintro e w6 ⟨rfl, hr, ht⟩
  have b0 := (unhide B0).tn ht (by have := unhide HN; omega)
  have b1 := (unhide B1).tn ht (by have := unhide HN; omega)
  have ht2 := Tn.on (unhide HT) ht
  clear HR HT B0 B1
  have HR := hide hr; have HT := hide ht2; have B0 := hide b0; have B1 := hide b1
  clear hr ht ht2 b0 b1
  obtain ⟨c0, c1, c2, c3, c4, c5, c6, c7⟩ := (unhide B1).cs
  obtain ⟨d0, d1, d2, d3, d4, d5, d6, d7⟩ := (unhide B0).cs
  have cz := (unhide B0).fz
  have hq : Q < w6.heap.size := (unhide B0).lt
  go_wp2
  have hb := put8_bx (unhide B0) (.int .u8 op) (.int .i64 (pU zs p 4294967295).v) (.int .u32 0) (.int .u32 0) (.int .u8 0) (.slice none 0 0) (.slice none 0 0) (.slice none 0 0)
  have hf := put8_tn w6 Q (.int .u8 op) (.int .i64 (pU zs p 4294967295).v) (.int .u32 0) (.int .u32 0) (.int .u8 0) (.slice none 0 0) (.slice none 0 0) (.slice none 0 0)
  unfold put8 at hb hf
  clear c0 c1 c2 c3 c4 c5 c6 c7 d0 d1 d2 d3 d4 d5 d6 d7 cz hq
  generalize ((((((((w6.setCell ⟨Q, 0, none⟩ (.int .u8 op)).setCell ⟨Q, 1, none⟩ (.int .i64 (pU zs p 4294967295).v)).setCell ⟨Q, 2, none⟩ (.int .u32 0)).setCell ⟨Q, 3, none⟩ (.int .u32 0)).setCell ⟨Q, 4, none⟩ (.int .u8 0)).setCell ⟨Q, 5, none⟩ (.slice none 0 0)).setCell ⟨Q, 6, none⟩ (.slice none 0 0)).setCell ⟨Q, 7, none⟩ (.slice none 0 0)) = wf at *
  obtain ⟨c0, c1, c2, c3, c4, c5, c6, c7⟩ := hb.cs
  obtain ⟨g1, g2⟩ := ins_end Q (unhide HR) (unhide HT) (by have := unhide HQ; omega) (by have := unhide HN; have := unhide HQ; omega) (fun b o e hl => by have := unhide HO b o e hl; have := unhide HQ; omega) hf
  refine bodyPost_ret (v := .agg #[.int .u8 op, .int .i64 (pU zs p 4294967295).v, .int .u32 0, .int .u32 0, .int .u8 0, .slice none 0 0, .slice none 0 0, .slice none 0 0]) (by simp [results, Tryd.results49, go_sem, c0, c1, c2, c3, c4, c5, c6, c7]) rfl ?_
  refine ⟨⟨op, (pU zs p 4294967295).v, 0, 0, 0, [], [], []⟩, .slice none 0 0, .slice none 0 0, .slice none 0 0, rfl, ?_, g2, ⟨⟨_, _, _, rfl⟩, ⟨_, _, _, rfl⟩, ⟨_, _, _, rfl⟩⟩, fun he => ?_⟩
  · rw [unhide HE.1, unhide HE.2.1, unhide HE.2.2.1]; exact g1
  · exact absurd (by rw [← unhide HE.1]; exact he) (unhide HP)

set_option maxRecDepth 100000 in
set_option maxHeartbeats 3200000 in
theorem ins_8 {N len cap p k nest : Nat} {a : Option Addr} {zs : List Int} {w : World} (op : Nat) (hop : op < 256) (x : Fam) (hx : fam op = some x) (ho : x.o = 8) (h : Rd w N a len cap zs p k 0) (hT : Tb w) :
    Calls Tryd.prog 49 #[.pointer (some ⟨N, 0, none⟩), .int .u8 op, .int .i64 nest] w (InsPost w N a len cap zs (pI (D zs) zs p k nest op)) := by
  obtain ⟨x1, x2, o, x4, x5, x6⟩ := x
  simp only at ho
  subst ho
  have hfr := fr_of hx
  have hfm := fun wx hx => form_any op hop wx hx
  simp only [hx, formR, errV_0] at hfm
  have hR : _ ∧ _ ∧ _ ∧ _ := pT_ins zs p k op
  have hI : pI (D zs) zs p k nest op = ((pU zs p 256).on k (plain op) fun a1 v => (pL zs (v.toNat + 1) a1 k).on (plain op) fun a2 k2 ls => ⟨0, a2, k2, { plain op with ls := ls }⟩) := by unfold pI; rw [hfr]; rfl
  rw [hI]
  generalize ((pU zs p 256).on k (plain op) fun a1 v => (pL zs (v.toNat + 1) a1 k).on (plain op) fun a2 k2 ls => ⟨0, a2, k2, { plain op with ls := ls }⟩) = R at *
  have HE : Hid (R.e = ((pT zs p k)).e) ∧ Hid (R.at_ = ((pT zs p k)).at_) ∧ Hid (R.k = k) ∧ Hid (((pT zs p k)).e = 0 → R.v = { plain op with ls := (pT zs p k).v }) := hR
  clear hI
  have HF := hide hfm; have HR := hide h; have HT := hide hT; clear hfm h hT hx hR hfr
  go_enter Tryd.func49, Tryd.ntmps49
  go_wp2_with fail
  obtain ⟨hb0, b0, b1, hz⟩ := bx_two w (.int .u8 0) (.int .i64 0) (.int .u32 0) (.int .u32 0) (.int .u8 0) (.slice none 0 0) (.slice none 0 0) (.slice none 0 0) (.int .u8 op) (.int .i64 0) (.int .u32 0) (.int .u32 0) (.int .u8 0) (.slice none 0 0) (.slice none 0 0) (.slice none 0 0)
  generalize (w.alloc (.cells #[.int .u8 0, .int .i64 0, .int .u32 0, .int .u32 0, .int .u8 0, .slice none 0 0, .slice none 0 0, .slice none 0 0] 50)).alloc (.cells #[.int .u8 op, .int .i64 0, .int .u32 0, .int .u32 0, .int .u8 0, .slice none 0 0, .slice none 0 0, .slice none 0 0] 50) = w2 at *
  refine (unhide HF _ ((unhide HT).1.below hb0)).mono ?_
  rintro e w3 ⟨rfl, hb3⟩
  have hb := Below.on hb0 hb3
  have hr := (unhide HR).below hb
  have ht := Tn.of (N := N) hb
  have hT := (unhide HT).below hb
  have hN := (unhide HR).lt
  have hold := (unhide HR).old
  replace b0 := b0.below hb3
  replace b1 := b1.below hb3
  have hz3 : w.heap.size + 2 ≤ w3.heap.size := by have := hb3.size; omega
  clear hb0 hb3 hz hb HF HR HT w2
  have HR := hide hr; have HT := hide ht; have HTb := hide hT; have B0 := hide b0; have B1 := hide b1; have HN := hide hN; have HO := hide hold; have HZ := hide hz3
  clear hr ht hT b0 b1 hN hold hz3
  generalize hQ : w.heap.size = Q at *
  have HQ := hide hQ; clear hQ
  go_wp2_with fail
  refine (lb_any (unhide HR)).mono ?_
  rintro e w4 ⟨v, rfl, hr, ht, ⟨la, ll, lc, rfl⟩, hlab⟩
  have HLab := hide hlab
  have b0 := (unhide B0).tn ht (by have := unhide HN; omega)
  have b1 := (unhide B1).tn ht (by have := unhide HN; omega)
  have ht2 := Tn.on (unhide HT) ht
  clear HR HT B0 B1
  have HR := hide hr; have HT := hide ht2; have B0 := hide b0; have B1 := hide b1
  clear hr ht ht2 b0 b1 hlab
  obtain ⟨p0, p1, p2, p3, p4, p5, p6, p7⟩ := (unhide B1).cs
  have pz := (unhide B1).fz
  have hr := (unhide HR).tn (Tn.set (Q + 1) 7 w4 (.slice la ll lc)) (by have := unhide HN; omega) (fun b o e hl => by have := unhide HO b o e hl; have := unhide HQ; omega)
  have ht := (unhide HT).new (Tn.set (Q + 1) 7 w4 (.slice la ll lc)) (by have := unhide HQ; omega)
  have b1 := (unhide B1).set7 (.slice la ll lc)
  have b0 := (unhide B0).tn (Tn.set (Q + 1) 7 w4 (.slice la ll lc)) (by omega)
  clear HR HT B0 B1
  have HR := hide hr; have HT := hide ht; have B0 := hide b0; have B1 := hide b1
  clear hr ht b0 b1
  obtain ⟨c0, c1, c2, c3, c4, c5, c6, c7⟩ := (unhide B1).cs
  obtain ⟨d0, d1, d2, d3, d4, d5, d6, d7⟩ := (unhide B0).cs
  have cz := (unhide B0).fz
  have hq : Q < (w4.setCell ⟨Q + 1, 7, none⟩ (.slice la ll lc)).heap.size := (unhide B0).lt
  go_wp2
  have hb := put8_bx (unhide B0) (.int .u8 op) (.int .i64 0) (.int .u32 0) (.int .u32 0) (.int .u8 0) (.slice none 0 0) (.slice none 0 0) (.slice la ll lc)
  have hf := put8_tn (w4.setCell ⟨Q + 1, 7, none⟩ (.slice la ll lc)) Q (.int .u8 op) (.int .i64 0) (.int .u32 0) (.int .u32 0) (.int .u8 0) (.slice none 0 0) (.slice none 0 0) (.slice la ll lc)
  unfold put8 at hb hf
  clear c0 c1 c2 c3 c4 c5 c6 c7 d0 d1 d2 d3 d4 d5 d6 d7 cz hq p0 p1 p2 p3 p4 p5 p6 p7 pz
  generalize (((((((((w4.setCell ⟨Q + 1, 7, none⟩ (.slice la ll lc)).setCell ⟨Q, 0, none⟩ (.int .u8 op)).setCell ⟨Q, 1, none⟩ (.int .i64 0)).setCell ⟨Q, 2, none⟩ (.int .u32 0)).setCell ⟨Q, 3, none⟩ (.int .u32 0)).setCell ⟨Q, 4, none⟩ (.int .u8 0)).setCell ⟨Q, 5, none⟩ (.slice none 0 0)).setCell ⟨Q, 6, none⟩ (.slice none 0 0)).setCell ⟨Q, 7, none⟩ (.slice la ll lc)) = wf at *
  obtain ⟨c0, c1, c2, c3, c4, c5, c6, c7⟩ := hb.cs
  obtain ⟨g1, g2⟩ := ins_end Q (unhide HR) (unhide HT) (by have := unhide HQ; omega) (by have := unhide HN; have := unhide HQ; omega) (fun b o e hl => by have := unhide HO b o e hl; have := unhide HQ; omega) hf
  refine bodyPost_ret (v := .agg #[.int .u8 op, .int .i64 0, .int .u32 0, .int .u32 0, .int .u8 0, .slice none 0 0, .slice none 0 0, .slice la ll lc]) (by simp [results, Tryd.results49, go_sem, c0, c1, c2, c3, c4, c5, c6, c7]) rfl ?_
  refine ⟨⟨op, 0, 0, 0, 0, [], [], (pT zs p k).v⟩, .slice none 0 0, .slice none 0 0, .slice la ll lc, rfl, ?_, g2, ⟨⟨_, _, _, rfl⟩, ⟨_, _, _, rfl⟩, ⟨_, _, _, rfl⟩⟩, fun he => ?_⟩
  · rw [unhide HE.1, unhide HE.2.1, unhide HE.2.2.1]; exact g1
  · have hv := unhide HE.2.2.2 (by rw [← unhide HE.1]; exact he)
    have hl := unhide HLab (by rw [← unhide HE.1]; exact he)
    refine ⟨hv.symm, Code_nil _ _, Code_nil _ _, ?_⟩
    have h1 := Labs.move (Moves.tn (Tn.set (Q + 1) 7 w4 (.slice la ll lc)) (g' := (w3.heap.size ≤ ·)) (fun k hk => ⟨by have := unhide HZ; omega, hk⟩)) hl
    exact Labs.move (Moves.tn hf (fun k hk => ⟨by have := unhide HZ; have : w3.heap.size ≤ k := hk; omega, by have := unhide HZ; have := unhide HQ; have : w3.heap.size ≤ k := hk; show w.heap.size ≤ k; omega⟩)) h1
end Ex
end Go.Proofs.YtjhmglefejclpaaDoor

/- The reader's list where something was wrong already; bodies; instr of the forms of blocks. -/
namespace Go.Proofs.YtjhmglefejclpaaDoor
open Go.RowKit
namespace Ex
set_option linter.unusedVariables false

/-- what the list's closure holds -/
structure LBox (w : World) (S N nest : Nat) (me : Bool) : Prop where
  x0 : w.heap[S]? = some (.cells #[.pointer (some ⟨N, 0, none⟩)] 102 (0, 0))
  x1 : w.heap[S + 1]? = some (.cells #[.int .i64 nest] 3 (0, 0))
  x2 : w.heap[S + 2]? = some (.cells #[.bool me] 4 (0, 0))
namespace LBox
variable {w : World} {S N nest : Nat} {me : Bool}
theorem c0 (h : LBox w S N nest me) : w.cell? ⟨S, 0, none⟩ = some (.pointer (some ⟨N, 0, none⟩)) := cell_of_row w S 0 _ _ _ h.x0
theorem c1 (h : LBox w S N nest me) : w.cell? ⟨S + 1, 0, none⟩ = some (.int .i64 nest) := cell_of_row w (S + 1) 0 _ _ _ h.x1
theorem c2 (h : LBox w S N nest me) : w.cell? ⟨S + 2, 0, none⟩ = some (.bool me) := cell_of_row w (S + 2) 0 _ _ _ h.x2
theorem keep (h : LBox w S N nest me) {w' : World} (hk : ∀ k, S ≤ k → k < S + 3 → w'.heap[k]? = w.heap[k]?) : LBox w' S N nest me :=
  ⟨(hk S (by omega) (by omega)).trans h.x0, (hk (S + 1) (by omega) (by omega)).trans h.x1, (hk (S + 2) (by omega) (by omega)).trans h.x2⟩
theorem lt (h : LBox w S N nest me) : S + 2 < w.heap.size := (Array.getElem?_eq_some_iff.1 h.x2).1
theorem tn (h : LBox w S N nest me) {w' : World} (ht : Tn N w w') (hN : N < S) : LBox w' S N nest me :=
  h.keep fun k h1 h2 => ht.block k (by have := h.lt; omega) (fun e => by cases e; omega)
theorem below (h : LBox w S N nest me) {w' : World} (hb : Below w.heap.size w w') : LBox w' S N nest me := h.keep fun k h1 h2 => hb.block k (by have := h.lt; omega)
end LBox
theorem three_boxes (w : World) (N nest : Nat) (me : Bool) :
    Below w.heap.size w (((w.alloc (.cells #[.pointer (some ⟨N, 0, none⟩)] 102)).alloc (.cells #[.int .i64 nest] 3)).alloc (.cells #[.bool me] 4)) ∧
    LBox (((w.alloc (.cells #[.pointer (some ⟨N, 0, none⟩)] 102)).alloc (.cells #[.int .i64 nest] 3)).alloc (.cells #[.bool me] 4)) w.heap.size N nest me ∧
    (((w.alloc (.cells #[.pointer (some ⟨N, 0, none⟩)] 102)).alloc (.cells #[.int .i64 nest] 3)).alloc (.cells #[.bool me] 4)).heap.size = w.heap.size + 3 := by
  refine ⟨Below.on (two_allocs _ _ _) (one_alloc _ _), ⟨?_, ?_, ?_⟩, by simp⟩
  · exact ((Below.on (one_alloc _ _) (one_alloc _ _)).block w.heap.size (by simp)).trans (heap_alloc_new w _)
  · have h1 := heap_alloc_new (w.alloc (.cells #[.pointer (some ⟨N, 0, none⟩)] 102)) (.cells #[.int .i64 nest] 3)
    have h2 : (w.alloc (.cells #[.pointer (some ⟨N, 0, none⟩)] 102)).heap.size = w.heap.size + 1 := by simp
    rw [h2] at h1
    exact ((one_alloc _ _).block (w.heap.size + 1) (by simp)).trans h1
  · have h1 := heap_alloc_new ((w.alloc (.cells #[.pointer (some ⟨N, 0, none⟩)] 102)).alloc (.cells #[.int .i64 nest] 3)) (.cells #[.bool me] 4)
    have h2 : ((w.alloc (.cells #[.pointer (some ⟨N, 0, none⟩)] 102)).alloc (.cells #[.int .i64 nest] 3)).heap.size = w.heap.size + 2 := by simp
    rw [h2] at h1
    exact h1

set_option maxRecDepth 100000 in
set_option maxHeartbeats 1600000 in
theorem list_err {N len cap p k nest : Nat} {a : Option Addr} {zs : List Int} {er : Int} {me : Bool} {w : World} (h : Rd w N a len cap zs p k er) (he : ¬ er = 0) :
    Calls Tryd.prog 35 #[.pointer (some ⟨N, 0, none⟩), .int .i64 nest, .bool me] w fun e w' => e = .returned (.tuple #[.slice none 0 0, .int .u8 0]) ∧ Rd w' N a len cap zs p k er ∧ Tn N w w' := by
  have HR := hide h; have HE := hide he; have HN := hide h.lt; clear h he
  go_enter Tryd.func35, Tryd.ntmps35
  go_wp2_with fail
  obtain ⟨hb0, hbx, hz⟩ := three_boxes w N nest me
  generalize ((w.alloc (.cells #[.pointer (some ⟨N, 0, none⟩)] 102)).alloc (.cells #[.int .i64 nest] 3)).alloc (.cells #[.bool me] 4) = w2 at *
  have hr := (unhide HR).below hb0
  have HR2 := hide hr; have HT2 := hide (Tn.of (N := N) hb0); have HX := hide hbx
  clear hr hb0 hbx hz HR
  generalize hS : w.heap.size = S at *
  go_loopw [8] (fun s wr => s = .slice none 0 0 ∧ wr = w2) (fun _ _ => 0)
  case atStart => exact ⟨rfl, rfl⟩
  case round =>
    obtain ⟨rfl, rfl⟩ := hrel
    have q0 := (unhide HX).c0; have q1 := (unhide HX).c1; have q2 := (unhide HX).c2
    go_wp2_with fail
    refine (obO_err (nest := nest) (me := me) (unhide HR2) (unhide HE)).mono ?_
    rintro e w3 ⟨rfl, hr3, ht3⟩
    have hx := (unhide HX).tn ht3 (by have := unhide HN; omega)
    have q0 := hx.c0
    have c3 := hr3.c3
    rw [errV_pos (unhide HE)] at c3
    have HR3 := hide hr3; have HT3 := hide (Tn.on (unhide HT2) ht3)
    clear hr3 ht3 hx q1 q2
    go_wp2
    go_ret2
    exact ⟨rfl, unhide HR3, unhide HT3⟩
theorem bod_err {N len cap p k nest : Nat} {a : Option Addr} {zs : List Int} {er : Int} {me : Bool} {w : World} (h : Rd w N a len cap zs p k er) (he : ¬ er = 0) :
    Calls Tryd.prog 70 #[.pointer (some ⟨N, 0, none⟩), .int .i64 nest, .bool me] w fun e w' => e = .returned (.tuple #[.slice none 0 0, .slice none 0 0]) ∧ Rd w' N a len cap zs p k er ∧ Tn N w w' := by
  have hl := list_err (nest := nest) (me := me) h he
  have HL := hide hl; clear hl h he
  go_enter Tryd.func70, Tryd.ntmps70
  go_wp2_with fail
  refine (unhide HL).mono ?_
  rintro e w1 ⟨rfl, hb⟩
  have HB := hide hb; clear hb
  go_wp2
  go_ret2
  exact ⟨rfl, unhide HB⟩

/-- how list comes back -/
def ListPost (w : World) (N : Nat) (a : Option Addr) (len cap : Nat) (zs : List Int) (R : Out (List Ins × Int)) (e : Ending) (w' : World) : Prop :=
  ∃ (v : Value) (c : Int), e = .returned (.tuple #[v, .int .u8 c]) ∧ IsSl v ∧ Rd w' N a len cap zs R.at_ R.k R.e ∧ Tn N w w' ∧ (R.e = 0 → c = R.v.2 ∧ Code w' (w.heap.size ≤ ·) R.v.1 v) ∧ (¬ R.e = 0 → c = 0)
def ListP (m : Nat) : Prop := ∀ (N len cap p k nest : Nat) (a : Option Addr) (zs : List Int) (me : Bool) (w : World), Rd w N a len cap zs p k 0 → Tb w → nest ≤ 64 → len - p < m →
  Calls Tryd.prog 35 #[.pointer (some ⟨N, 0, none⟩), .int .i64 nest, .bool me] w (ListPost w N a len cap zs (D zs p k nest me))
/-- a body, and an else -/
def pO (zs : List Int) (p k nest : Nat) (me : Bool) : Out (List Ins × List Ins) :=
  (D zs p k nest me).on ([], []) fun a2 k2 x => if x.2 = 5 then (D zs a2 k2 nest false).on ([], []) fun a3 k3 y => ⟨0, a3, k3, (x.1, y.1)⟩ else ⟨0, a2, k2, (x.1, [])⟩
def BodPost (w : World) (N : Nat) (a : Option Addr) (len cap : Nat) (zs : List Int) (R : Out (List Ins × List Ins)) (e : Ending) (w' : World) : Prop :=
  ∃ (vb ve : Value), e = .returned (.tuple #[vb, ve]) ∧ IsSl vb ∧ IsSl ve ∧ Rd w' N a len cap zs R.at_ R.k R.e ∧ Tn N w w' ∧ (R.e = 0 → Code w' (w.heap.size ≤ ·) R.v.1 vb ∧ Code w' (w.heap.size ≤ ·) R.v.2 ve)

set_option maxRecDepth 100000 in
set_option maxHeartbeats 1600000 in
theorem bod_any {m : Nat} (ih : ListP m) {N len cap p k nest : Nat} {a : Option Addr} {zs : List Int} {me : Bool} {w : World} (h : Rd w N a len cap zs p k 0) (hT : Tb w) (hn : nest ≤ 64) (hm : len - p < m) :
    Calls Tryd.prog 70 #[.pointer (some ⟨N, 0, none⟩), .int .i64 nest, .bool me] w (BodPost w N a len cap zs (pO zs p k nest me)) := by
  have hl := ih N len cap p k nest a zs me w h hT hn hm
  have hbd := D_bd zs p k nest me (by rw [h.zlen]; exact h.at_)
  have hzl := h.zlen
  unfold pO
  generalize D zs p k nest me = R at *
  have HL := hide hl; have HT := hide hT; have HR := hide h; clear hl hT h
  by_cases he : R.e = 0
  · rw [Out.on_ok he]
    by_cases h5 : R.v.2 = 5
    · rw [if_pos h5]
      have hl2 := fun (wx : World) (h2 : Rd wx N a len cap zs R.at_ R.k 0) (hT2 : Tb wx) => ih N len cap R.at_ R.k nest a zs false wx h2 hT2 hn (by have := hbd.1; omega)
      generalize hR2 : D zs R.at_ R.k nest false = R2 at *
      have HL2 := hide hl2; have HE := hide he; have H5 := hide h5; have HR2 := hide hR2
      clear hl2 he h5 hbd hR2 ih
      go_enter Tryd.func70, Tryd.ntmps70
      go_wp2_with fail
      refine (unhide HL).mono ?_
      rintro e w1 ⟨v, c, rfl, ⟨va, vl, vc, rfl⟩, hr1, ht1, ok, _⟩
      obtain ⟨hc, hcode⟩ := ok (unhide HE)
      rw [unhide H5] at hc
      subst hc
      rw [unhide HE] at hr1
      have HC := hide hcode; have HT1 := hide ht1; have HR1 := hide hr1; have HTb := hide (Tb.turn (unhide HT) (unhide HR) ht1)
      clear hcode ht1 hr1 ok
      go_wp2_with fail
      refine (unhide HL2 _ (unhide HR1) (unhide HTb)).mono ?_
      rintro e w2 ⟨v2, c2, rfl, ⟨va2, vl2, vc2, rfl⟩, hr2, ht2, ok2, _⟩
      have HK := hide ok2; have HT2 := hide ht2; have HR2' := hide hr2
      clear ok2 ht2 hr2
      go_wp2
      go_ret2
      refine ⟨_, _, rfl, ⟨_, _, _, rfl⟩, ⟨_, _, _, rfl⟩, ?_, Tn.on (unhide HT1) (unhide HT2), fun e2 => ?_⟩
      · by_cases e2 : R2.e = 0
        · rw [Out.on_ok e2]; have := unhide HR2'; rw [e2] at this; exact this
        · rw [Out.on_no e2]; exact unhide HR2'
      · have e3 : R2.e = 0 := by
          by_cases e3 : R2.e = 0
          · exact e3
          · rw [Out.on_no e3] at e2; exact e2
        rw [Out.on_ok e3]
        have hk := (unhide HK e3).2
        refine ⟨(unhide HC).move (moves_turn (unhide HR1) (unhide HT2) _), hk.any fun q hq hg => ?_⟩
        have := (unhide HT1).size
        exact Nat.le_trans this hg
    · rw [if_neg h5]
      have HE := hide he
      have t5 : (R.v.2 == 5) = false := by simpa using h5
      have HR5 := hide t5
      clear he hbd ih h5 t5
      go_enter Tryd.func70, Tryd.ntmps70
      go_wp2_with fail
      refine (unhide HL).mono ?_
      rintro e w1 ⟨v, c, rfl, ⟨va, vl, vc, rfl⟩, hr1, ht1, ok, _⟩
      obtain ⟨hc, hcode⟩ := ok (unhide HE)
      rw [unhide HE] at hr1
      have t5 : (c == 5) = false := by rw [hc]; exact unhide HR5
      have HC := hide hcode; have HT1 := hide ht1; have HR1 := hide hr1
      clear hcode ht1 hr1 ok hc
      go_wp2
      go_ret2
      exact ⟨_, _, rfl, ⟨_, _, _, rfl⟩, ⟨_, _, _, rfl⟩, unhide HR1, unhide HT1, fun _ => ⟨unhide HC, Code_nil _ _⟩⟩
  · rw [Out.on_no he]
    have HE := hide he
    clear he hbd ih
    go_enter Tryd.func70, Tryd.ntmps70
    go_wp2_with fail
    refine (unhide HL).mono ?_
    rintro e w1 ⟨v, c, rfl, ⟨va, vl, vc, rfl⟩, hr1, ht1, _, ok⟩
    have hc := ok (unhide HE)
    subst hc
    have HT1 := hide ht1; have HR1 := hide hr1
    clear ht1 hr1 ok
    go_wp2
    go_ret2
    exact ⟨_, _, rfl, ⟨_, _, _, rfl⟩, ⟨_, _, _, rfl⟩, unhide HR1, unhide HT1, fun e2 => absurd e2 (unhide HE)⟩

/-- the tables stay where a box of an instruction turns -/
theorem Tb.tn1 {w w' : World} {Q : Nat} {x0 x1 x2 x3 x4 x5 x6 x7 : Value} (h : Tb w) (hb : Bx w Q x0 x1 x2 x3 x4 x5 x6 x7) (ht : Tn Q w w') : Tb w' := by
  obtain ⟨⟨h1, t1, f1, e1⟩, ⟨h2, t2, f2, e2⟩⟩ := h
  have n1 : 2 ≠ Q := by
    rintro rfl
    have := e1.symm.trans hb
    simp only [Option.some.injEq, Obj.cells.injEq] at this
    have h := congrArg Array.size this.1
    have hla : fmV.toArray.size = 192 := rfl
    rw [hla] at h; simp at h
  have n2 : 1 ≠ Q := by
    rintro rfl
    have := e2.symm.trans hb
    simp only [Option.some.injEq, Obj.cells.injEq] at this
    have h := congrArg Array.size this.1
    have hla : flV.toArray.size = 14 := rfl
    rw [hla] at h; simp at h
  exact ⟨⟨Nat.lt_of_lt_of_le h1 ht.size, t1, f1, (ht.block _ h1 (fun e => n1 (Option.some.inj e))).trans e1⟩, ⟨Nat.lt_of_lt_of_le h2 ht.size, t2, f2, (ht.block _ h2 (fun e => n2 (Option.some.inj e))).trans e2⟩⟩
theorem pK_pO (zs : List Int) (a k nest : Nat) (op re : Int) : (pK (D zs) a k nest op re).e = (pO zs a k (nest + 1) (decide (fr op = 7))).e ∧ (pK (D zs) a k nest op re).at_ = (pO zs a k (nest + 1) (decide (fr op = 7))).at_ ∧
    (pK (D zs) a k nest op re).k = (pO zs a k (nest + 1) (decide (fr op = 7))).k ∧ ((pO zs a k (nest + 1) (decide (fr op = 7))).e = 0 → (pK (D zs) a k nest op re).v = { plain op with re := re, body := (pO zs a k (nest + 1) (decide (fr op = 7))).v.1, els := (pO zs a k (nest + 1) (decide (fr op = 7))).v.2 }) := by
  unfold pK pO
  generalize D zs a k (nest + 1) (decide (fr op = 7)) = R
  by_cases h : R.e = 0
  · rw [Out.on_ok h, Out.on_ok h]
    by_cases h5 : R.v.2 = 5
    · rw [if_pos h5, if_pos h5]
      generalize D zs R.at_ R.k (nest + 1) false = R2
      by_cases h2 : R2.e = 0
      · rw [Out.on_ok h2, Out.on_ok h2]; exact ⟨rfl, rfl, rfl, fun _ => rfl⟩
      · rw [Out.on_no h2, Out.on_no h2]; exact ⟨rfl, rfl, rfl, fun e => absurd e h2⟩
    · rw [if_neg h5, if_neg h5]; exact ⟨rfl, rfl, rfl, fun _ => rfl⟩
  · rw [Out.on_no h, Out.on_no h]; exact ⟨rfl, rfl, rfl, fun e => absurd e h⟩

set_option maxRecDepth 100000 in
set_option maxHeartbeats 3200000 in
theorem ins_6_ok {N len cap p k nest : Nat} {a : Option Addr} {zs : List Int} {w : World} (op : Nat) (hop : op < 256) (x : Fam) (hx : fam op = some x) (ho : x.o = 6) (h : Rd w N a len cap zs p k 0) (hT : Tb w) (hP : (pB zs p jK).e = 0) {m : Nat} (ih : ListP m) (hn : nest < 64) (hm : len - p < m) :
    Calls Tryd.prog 49 #[.pointer (some ⟨N, 0, none⟩), .int .u8 op, .int .i64 nest] w (InsPost w N a len cap zs (pI (D zs) zs p k nest op)) := by
  obtain ⟨x1, x2, o, x4, x5, x6⟩ := x
  simp only at ho
  subst ho
  have hfr := fr_of hx
  have hfm := fun wx hx => form_any op hop wx hx
  simp only [hx, formR, errV_0] at hfm
  obtain ⟨R, hI, hRe⟩ : ∃ R, pI (D zs) zs p k nest op = R ∧ R.e = (pO zs (pB zs p jK).at_ k (nest + 1) false).e ∧ R.at_ = (pO zs (pB zs p jK).at_ k (nest + 1) false).at_ ∧ R.k = (pO zs (pB zs p jK).at_ k (nest + 1) false).k ∧ ((pO zs (pB zs p jK).at_ k (nest + 1) false).e = 0 → R.v = { plain op with re := kV (pB zs p jK).v, body := (pO zs (pB zs p jK).at_ k (nest + 1) false).v.1, els := (pO zs (pB zs p jK).at_ k (nest + 1) false).v.2 }) := by
    refine ⟨pK (D zs) (pB zs p jK).at_ k nest op (kV (pB zs p jK).v), ?_, ?_⟩
    · unfold pI; rw [hfr, if_neg (by decide), if_neg (by decide), if_neg (by decide), if_neg (by decide), if_neg (by decide), if_neg (by decide), if_neg (by decide), if_pos (by decide), Part.on_ok hP]
    · have := pK_pO zs (pB zs p jK).at_ k nest op (kV (pB zs p jK).v)
      rw [hfr] at this; exact this
  rw [hI]
  have HE : Hid (R.e = (pO zs (pB zs p jK).at_ k (nest + 1) false).e) ∧ Hid (R.at_ = (pO zs (pB zs p jK).at_ k (nest + 1) false).at_) ∧ Hid (R.k = (pO zs (pB zs p jK).at_ k (nest + 1) false).k) ∧ Hid ((pO zs (pB zs p jK).at_ k (nest + 1) false).e = 0 → R.v = { plain op with re := kV (pB zs p jK).v, body := (pO zs (pB zs p jK).at_ k (nest + 1) false).v.1, els := (pO zs (pB zs p jK).at_ k (nest + 1) false).v.2 }) := hRe
  have hR := hI
  have hbd := pB_bd zs p jK (by rw [h.zlen]; exact h.at_)
  have hbo := fun (wx : World) (hx : Rd wx N a len cap zs (pB zs p jK).at_ k 0) (hTx : Tb wx) => bod_any ih (me := false) hx hTx (nest := nest + 1) (by omega) (by have := hbd.1; omega)
  rw [show (((nest + 1 : Nat)) : Int) = (nest : Int) + 1 by omega] at hbo
  have HBo := hide hbo; have HP := hide hP
  clear hI hRe hbd hbo hP ih
  have HF := hide hfm; have HR := hide h; have HT := hide hT; clear hfm h hT hx hR hfr
  go_enter Tryd.func49, Tryd.ntmps49
  go_wp2_with fail
  obtain ⟨hb0, b0, b1, hz⟩ := bx_two w (.int .u8 0) (.int .i64 0) (.int .u32 0) (.int .u32 0) (.int .u8 0) (.slice none 0 0) (.slice none 0 0) (.slice none 0 0) (.int .u8 op) (.int .i64 0) (.int .u32 0) (.int .u32 0) (.int .u8 0) (.slice none 0 0) (.slice none 0 0) (.slice none 0 0)
  generalize (w.alloc (.cells #[.int .u8 0, .int .i64 0, .int .u32 0, .int .u32 0, .int .u8 0, .slice none 0 0, .slice none 0 0, .slice none 0 0] 50)).alloc (.cells #[.int .u8 op, .int .i64 0, .int .u32 0, .int .u32 0, .int .u8 0, .slice none 0 0, .slice none 0 0, .slice none 0 0] 50) = w2 at *
  refine (unhide HF _ ((unhide HT).1.below hb0)).mono ?_
  rintro e w3 ⟨rfl, hb3⟩
  have hb := Below.on hb0 hb3
  have hr := (unhide HR).below hb
  have ht := Tn.of (N := N) hb
  have hT := (unhide HT).below hb
  have hN := (unhide HR).lt
  have hold := (unhide HR).old
  replace b0 := b0.below hb3
  replace b1 := b1.below hb3
  have hz3 : w.heap.size + 2 ≤ w3.heap.size := by have := hb3.size; omega
  clear hb0 hb3 hz hb HF HR HT w2
  have HR := hide hr; have HT := hide ht; have HTb := hide hT; have B0 := hide b0; have B1 := hide b1; have HN := hide hN; have HO := hide hold; have HZ := hide hz3
  clear hr ht hT b0 b1 hN hold hz3
  generalize hQ : w.heap.size = Q at *
  have HQ := hide hQ; clear hQ
  go_wp2_with fail
  refine (kd_any (unhide HR)).mono ?_
  rintro e w4 ⟨rfl, hr, ht⟩
  have HTb4 := hide (Tb.turn (unhide HTb) (unhide HR) ht)
  rw [unhide HP] at hr
  have b0 := (unhide B0).tn ht (by have := unhide HN; omega)
  have b1 := (unhide B1).tn ht (by have := unhide HN; omega)
  have ht2 := Tn.on (unhide HT) ht
  clear HR HT B0 B1
  have HR := hide hr; have HT := hide ht2; have B0 := hide b0; have B1 := hide b1
  clear hr ht ht2 b0 b1
  have HTb2 := hide (Tb.tn1 (unhide HTb4) (unhide B1) (Tn.set (Q + 1) 4 w4 (.int .u8 (kV (pB zs p jK).v))))
  obtain ⟨p0, p1, p2, p3, p4, p5, p6, p7⟩ := (unhide B1).cs
  have pz := (unhide B1).fz
  have hr := (unhide HR).tn (Tn.set (Q + 1) 4 w4 (.int .u8 (kV (pB zs p jK).v))) (by have := unhide HN; omega) (fun b o e hl => by have := unhide HO b o e hl; have := unhide HQ; omega)
  have ht := (unhide HT).new (Tn.set (Q + 1) 4 w4 (.int .u8 (kV (pB zs p jK).v))) (by have := unhide HQ; omega)
  have b1 := (unhide B1).set4 (.int .u8 (kV (pB zs p jK).v))
  have b0 := (unhide B0).tn (Tn.set (Q + 1) 4 w4 (.int .u8 (kV (pB zs p jK).v))) (by omega)
  clear HR HT B0 B1
  have HR := hide hr; have HT := hide ht; have B0 := hide b0; have B1 := hide b1
  clear hr ht b0 b1
  go_wp2_with fail
  generalize w4.setCell ⟨Q + 1, 4, none⟩ (.int .u8 (kV (pB zs p jK).v)) = w5 at *
  clear p0 p1 p2 p3 p4 p5 p6 p7 pz
  refine (unhide HBo _ (unhide HR) (unhide HTb2)).mono ?_
  rintro e w6 ⟨vb, ve, rfl, ⟨ab, lb, cb, rfl⟩, ⟨ae, le, ce, rfl⟩, hr, ht, hok⟩
  have HK := hide hok
  have b0 := (unhide B0).tn ht (by have := unhide HN; omega)
  have b1 := (unhide B1).tn ht (by have := unhide HN; omega)
  have ht2 := Tn.on (unhide HT) ht
  have hz5 : Q + 2 ≤ w5.heap.size := by have := (unhide B1).lt; omega
  have HZ5 := hide hz5
  clear HR HT B0 B1
  have HR := hide hr; have HT := hide ht2; have B0 := hide b0; have B1 := hide b1
  clear hr ht ht2 b0 b1 hok hz5
  obtain ⟨p0, p1, p2, p3, p4, p5, p6, p7⟩ := (unhide B1).cs
  have pz := (unhide B1).fz
  have hr := ((unhide HR).tn (Tn.set (Q + 1) 5 w6 (.slice ab lb cb)) (by have := unhide HN; omega) (fun b o e hl => by have := unhide HO b o e hl; have := unhide HQ; omega)).tn (Tn.set (Q + 1) 6 _ (.slice ae le ce)) (by have := unhide HN; omega) (fun b o e hl => by have := unhide HO b o e hl; have := unhide HQ; omega)
  have ht := ((unhide HT).new (Tn.set (Q + 1) 5 w6 (.slice ab lb cb)) (by have := unhide HQ; omega)).new (Tn.set (Q + 1) 6 _ (.slice ae le ce)) (by have := unhide HQ; omega)
  have b1 := ((unhide B1).set5 (.slice ab lb cb)).set6 (.slice ae le ce)
  have b0 := ((unhide B0).tn (Tn.set (Q + 1) 5 w6 (.slice ab lb cb)) (by omega)).tn (Tn.set (Q + 1) 6 _ (.slice ae le ce)) (by omega)
  clear HR HT B0 B1
  have HR := hide hr; have HT := hide ht; have B0 := hide b0; have B1 := hide b1
  clear hr ht b0 b1
  obtain ⟨c0, c1, c2, c3, c4, c5, c6, c7⟩ := (unhide B1).cs
  obtain ⟨d0, d1, d2, d3, d4, d5, d6, d7⟩ := (unhide B0).cs
  have cz := (unhide B0).fz
  have hq : Q < ((w6.setCell ⟨Q + 1, 5, none⟩ (.slice ab lb cb)).setCell ⟨Q + 1, 6, none⟩ (.slice ae le ce)).heap.size := (unhide B0).lt
  go_wp2
  have hb := put8_bx (unhide B0) (.int .u8 op) (.int .i64 0) (.int .u32 0) (.int .u32 0) (.int .u8 (kV (pB zs p jK).v)) (.slice ab lb cb) (.slice ae le ce) (.slice none 0 0)
  have hf := put8_tn ((w6.setCell ⟨Q + 1, 5, none⟩ (.slice ab lb cb)).setCell ⟨Q + 1, 6, none⟩ (.slice ae le ce)) Q (.int .u8 op) (.int .i64 0) (.int .u32 0) (.int .u32 0) (.int .u8 (kV (pB zs p jK).v)) (.slice ab lb cb) (.slice ae le ce) (.slice none 0 0)
  unfold put8 at hb hf
  clear c0 c1 c2 c3 c4 c5 c6 c7 d0 d1 d2 d3 d4 d5 d6 d7 cz hq p0 p1 p2 p3 p4 p5 p6 p7 pz
  generalize ((((((((((w6.setCell ⟨Q + 1, 5, none⟩ (.slice ab lb cb)).setCell ⟨Q + 1, 6, none⟩ (.slice ae le ce)).setCell ⟨Q, 0, none⟩ (.int .u8 op)).setCell ⟨Q, 1, none⟩ (.int .i64 0)).setCell ⟨Q, 2, none⟩ (.int .u32 0)).setCell ⟨Q, 3, none⟩ (.int .u32 0)).setCell ⟨Q, 4, none⟩ (.int .u8 (kV (pB zs p jK).v))).setCell ⟨Q, 5, none⟩ (.slice ab lb cb)).setCell ⟨Q, 6, none⟩ (.slice ae le ce)).setCell ⟨Q, 7, none⟩ (.slice none 0 0)) = wf at *
  obtain ⟨c0, c1, c2, c3, c4, c5, c6, c7⟩ := hb.cs
  obtain ⟨g1, g2⟩ := ins_end Q (unhide HR) (unhide HT) (by have := unhide HQ; omega) (by have := unhide HN; have := unhide HQ; omega) (fun b o e hl => by have := unhide HO b o e hl; have := unhide HQ; omega) hf
  refine bodyPost_ret (v := .agg #[.int .u8 op, .int .i64 0, .int .u32 0, .int .u32 0, .int .u8 (kV (pB zs p jK).v), .slice ab lb cb, .slice ae le ce, .slice none 0 0]) (by simp [results, Tryd.results49, go_sem, c0, c1, c2, c3, c4, c5, c6, c7]) rfl ?_
  refine ⟨⟨op, 0, 0, 0, kV (pB zs p jK).v, (pO zs (pB zs p jK).at_ k (nest + 1) false).v.1, (pO zs (pB zs p jK).at_ k (nest + 1) false).v.2, []⟩, .slice ab lb cb, .slice ae le ce, .slice none 0 0, rfl, ?_, g2, ⟨⟨_, _, _, rfl⟩, ⟨_, _, _, rfl⟩, ⟨_, _, _, rfl⟩⟩, fun he => ?_⟩
  · rw [unhide HE.1, unhide HE.2.1, unhide HE.2.2.1]; exact g1
  · have hv := unhide HE.2.2.2 (by rw [← unhide HE.1]; exact he)
    have hk := unhide HK (by rw [← unhide HE.1]; exact he)
    have mv : Moves w6 wf (w5.heap.size ≤ ·) (w.heap.size ≤ ·) := fun k' hk' _ hg => by
      have hz := unhide HZ5
      have hg' : w5.heap.size ≤ k' := hg
      have m1 := (Tn.set (Q + 1) 5 w6 (.slice ab lb cb)).block k' hk' (fun e => by cases e; omega)
      have m2 := (Tn.set (Q + 1) 6 (w6.setCell ⟨Q + 1, 5, none⟩ (.slice ab lb cb)) (.slice ae le ce)).block k' (Nat.lt_of_lt_of_le hk' (Tn.set (Q + 1) 5 w6 (.slice ab lb cb)).size) (fun e => by cases e; omega)
      have m3 := hf.block k' (Nat.lt_of_lt_of_le hk' (Nat.le_trans (Tn.set (Q + 1) 5 w6 (.slice ab lb cb)).size (Tn.set (Q + 1) 6 _ (.slice ae le ce)).size)) (fun e => by cases e; omega)
      exact ⟨by have := unhide HQ; show w.heap.size ≤ k'; omega, m3.trans (m2.trans m1)⟩
    exact ⟨hv.symm, hk.1.move mv, hk.2.move mv, Labs_nil _ _⟩

set_option maxRecDepth 100000 in
set_option maxHeartbeats 3200000 in
theorem ins_6_no {N len cap p k nest : Nat} {a : Option Addr} {zs : List Int} {w : World} (op : Nat) (hop : op < 256) (x : Fam) (hx : fam op = some x) (ho : x.o = 6) (h : Rd w N a len cap zs p k 0) (hT : Tb w) (hP : ¬ (pB zs p jK).e = 0) (hn : nest < 64) :
    Calls Tryd.prog 49 #[.pointer (some ⟨N, 0, none⟩), .int .u8 op, .int .i64 nest] w (InsPost w N a len cap zs (pI (D zs) zs p k nest op)) := by
  obtain ⟨x1, x2, o, x4, x5, x6⟩ := x
  simp only at ho
  subst ho
  have hfr := fr_of hx
  have hfm := fun wx hx => form_any op hop wx hx
  simp only [hx, formR, errV_0] at hfm
  obtain ⟨R, hR, hRe⟩ : ∃ R, pI (D zs) zs p k nest op = R ∧ R.e = (pB zs p jK).e ∧ R.at_ = (pB zs p jK).at_ ∧ R.k = k ∧ True := ⟨⟨(pB zs p jK).e, (pB zs p jK).at_, k, plain op⟩, by unfold pI; rw [hfr, if_neg (by decide), if_neg (by decide), if_neg (by decide), if_neg (by decide), if_neg (by decide), if_neg (by decide), if_neg (by decide), if_pos (by decide), Part.on_no hP], rfl, rfl, rfl, trivial⟩
  rw [hR]
  have HE : Hid (R.e = (pB zs p jK).e) ∧ Hid (R.at_ = (pB zs p jK).at_) ∧ Hid (R.k = k) ∧ Hid True := hRe
  clear hRe
  have HP := hide hP; clear hP
  have HF := hide hfm; have HR := hide h; have HT := hide hT; clear hfm h hT hx hR hfr
  go_enter Tryd.func49, Tryd.ntmps49
  go_wp2_with fail
  obtain ⟨hb0, b0, b1, hz⟩ := bx_two w (.int .u8 0) (.int .i64 0) (.int .u32 0) (.int .u32 0) (.int .u8 0) (.slice none 0 0) (.slice none 0 0) (.slice none 0 0) (.int .u8 op) (.int .i64 0) (.int .u32 0) (.int .u32 0) (.int .u8 0) (.slice none 0 0) (.slice none 0 0) (.slice none 0 0)
  generalize (w.alloc (.cells #[.int .u8 0, .int .i64 0, .int .u32 0, .int .u32 0, .int .u8 0, .slice none 0 0, .slice none 0 0, .slice none 0 0] 50)).alloc (.cells #[.int .u8 op, .int .i64 0, .int .u32 0, .int .u32 0, .int .u8 0, .slice none 0 0, .slice none 0 0, .slice none 0 0] 50) = w2 at *
  refine (unhide HF _ ((unhide HT).1.below hb0)).mono ?_
  rintro e w3 ⟨rfl, hb3⟩
  have hb := Below.on hb0 hb3
  have hr := (unhide HR).below hb
  have ht := Tn.of (N := N) hb
  have hT := (unhide HT).below hb
  have hN := (unhide HR).lt
  have hold := (unhide HR).old
  replace b0 := b0.below hb3
  replace b1 := b1.below hb3
  have hz3 : w.heap.size + 2 ≤ w3.heap.size := by have := hb3.size; omega
  clear hb0 hb3 hz hb HF HR HT w2
  have HR := hide hr; have HT := hide ht; have HTb := hide hT; have B0 := hide b0; have B1 := hide b1; have HN := hide hN; have HO := hide hold; have HZ := hide hz3
  clear hr ht hT b0 b1 hN hold hz3
  generalize hQ : w.heap.size = Q at *
  have HQ := hide hQ; clear hQ
  go_wp2_with fail
  refine (kd_any (unhide HR)).mono ?_
  rintro e w4 ⟨rfl, hr, ht⟩
  have b0 := (unhide B0).tn ht (by have := unhide HN; omega)
  have b1 := (unhide B1).tn ht (by have := unhide HN; omega)
  have ht2 := Tn.on (unhide HT) ht
  clear HR HT B0 B1
  have HR := hide hr; have HT := hide ht2; have B0 := hide b0; have B1 := hide b1
  clear hr ht ht2 b0 b1
  obtain ⟨p0, p1, p2, p3, p4, p5, p6, p7⟩ := (unhide B1).cs
  have pz := (unhide B1).fz
  have hr := (unhide HR).tn (Tn.set (Q + 1) 4 w4 (.int .u8 (kV (pB zs p jK).v))) (by have := unhide HN; omega) (fun b o e hl => by have := unhide HO b o e hl; have := unhide HQ; omega)
  have ht := (unhide HT).new (Tn.set (Q + 1) 4 w4 (.int .u8 (kV (pB zs p jK).v))) (by have := unhide HQ; omega)
  have b1 := (unhide B1).set4 (.int .u8 (kV (pB zs p jK).v))
  have b0 := (unhide B0).tn (Tn.set (Q + 1) 4 w4 (.int .u8 (kV (pB zs p jK).v))) (by omega)
  clear HR HT B0 B1
  have HR := hide hr; have HT := hide ht; have B0 := hide b0; have B1 := hide b1
  clear hr ht b0 b1
  go_wp2_with fail
  generalize w4.setCell ⟨Q + 1, 4, none⟩ (.int .u8 (kV (pB zs p jK).v)) = w5 at *
  clear p0 p1 p2 p3 p4 p5 p6 p7 pz
  go_wp2_with fail
  refine (bod_err (unhide HR) (unhide HP)).mono ?_
  rintro e w6 ⟨rfl, hr, ht⟩
  have b0 := (unhide B0).tn ht (by have := unhide HN; omega)
  have b1 := (unhide B1).tn ht (by have := unhide HN; omega)
  have ht2 := Tn.on (unhide HT) ht
  clear HR HT B0 B1
  have HR := hide hr; have HT := hide ht2; have B0 := hide b0; have B1 := hide b1
  clear hr ht ht2 b0 b1
  obtain ⟨p0, p1, p2, p3, p4, p5, p6, p7⟩ := (unhide B1).cs
  have pz := (unhide B1).fz
  have hr := ((unhide HR).tn (Tn.set (Q + 1) 5 w6 (.slice none 0 0)) (by have := unhide HN; omega) (fun b o e hl => by have := unhide HO b o e hl; have := unhide HQ; omega)).tn (Tn.set (Q + 1) 6 _ (.slice none 0 0)) (by have := unhide HN; omega) (fun b o e hl => by have := unhide HO b o e hl; have := unhide HQ; omega)
  have ht := ((unhide HT).new (Tn.set (Q + 1) 5 w6 (.slice none 0 0)) (by have := unhide HQ; omega)).new (Tn.set (Q + 1) 6 _ (.slice none 0 0)) (by have := unhide HQ; omega)
  have b1 := ((unhide B1).set5 (.slice none 0 0)).set6 (.slice none 0 0)
  have b0 := ((unhide B0).tn (Tn.set (Q + 1) 5 w6 (.slice none 0 0)) (by omega)).tn (Tn.set (Q + 1) 6 _ (.slice none 0 0)) (by omega)
  clear HR HT B0 B1
  have HR := hide hr; have HT := hide ht; have B0 := hide b0; have B1 := hide b1
  clear hr ht b0 b1
  obtain ⟨c0, c1, c2, c3, c4, c5, c6, c7⟩ := (unhide B1).cs
  obtain ⟨d0, d1, d2, d3, d4, d5, d6, d7⟩ := (unhide B0).cs
  have cz := (unhide B0).fz
  have hq : Q < ((w6.setCell ⟨Q + 1, 5, none⟩ (.slice none 0 0)).setCell ⟨Q + 1, 6, none⟩ (.slice none 0 0)).heap.size := (unhide B0).lt
  go_wp2
  have hb := put8_bx (unhide B0) (.int .u8 op) (.int .i64 0) (.int .u32 0) (.int .u32 0) (.int .u8 (kV (pB zs p jK).v)) (.slice none 0 0) (.slice none 0 0) (.slice none 0 0)
  have hf := put8_tn ((w6.setCell ⟨Q + 1, 5, none⟩ (.slice none 0 0)).setCell ⟨Q + 1, 6, none⟩ (.slice none 0 0)) Q (.int .u8 op) (.int .i64 0) (.int .u32 0) (.int .u32 0) (.int .u8 (kV (pB zs p jK).v)) (.slice none 0 0) (.slice none 0 0) (.slice none 0 0)
  unfold put8 at hb hf
  clear c0 c1 c2 c3 c4 c5 c6 c7 d0 d1 d2 d3 d4 d5 d6 d7 cz hq p0 p1 p2 p3 p4 p5 p6 p7 pz
  generalize ((((((((((w6.setCell ⟨Q + 1, 5, none⟩ (.slice none 0 0)).setCell ⟨Q + 1, 6, none⟩ (.slice none 0 0)).setCell ⟨Q, 0, none⟩ (.int .u8 op)).setCell ⟨Q, 1, none⟩ (.int .i64 0)).setCell ⟨Q, 2, none⟩ (.int .u32 0)).setCell ⟨Q, 3, none⟩ (.int .u32 0)).setCell ⟨Q, 4, none⟩ (.int .u8 (kV (pB zs p jK).v))).setCell ⟨Q, 5, none⟩ (.slice none 0 0)).setCell ⟨Q, 6, none⟩ (.slice none 0 0)).setCell ⟨Q, 7, none⟩ (.slice none 0 0)) = wf at *
  obtain ⟨c0, c1, c2, c3, c4, c5, c6, c7⟩ := hb.cs
  obtain ⟨g1, g2⟩ := ins_end Q (unhide HR) (unhide HT) (by have := unhide HQ; omega) (by have := unhide HN; have := unhide HQ; omega) (fun b o e hl => by have := unhide HO b o e hl; have := unhide HQ; omega) hf
  refine bodyPost_ret (v := .agg #[.int .u8 op, .int .i64 0, .int .u32 0, .int .u32 0, .int .u8 (kV (pB zs p jK).v), .slice none 0 0, .slice none 0 0, .slice none 0 0]) (by simp [results, Tryd.results49, go_sem, c0, c1, c2, c3, c4, c5, c6, c7]) rfl ?_
  refine ⟨⟨op, 0, 0, 0, kV (pB zs p jK).v, [], [], []⟩, .slice none 0 0, .slice none 0 0, .slice none 0 0, rfl, ?_, g2, ⟨⟨_, _, _, rfl⟩, ⟨_, _, _, rfl⟩, ⟨_, _, _, rfl⟩⟩, fun he => ?_⟩
  · rw [unhide HE.1, unhide HE.2.1, unhide HE.2.2.1]; exact g1
  · exact absurd (by rw [← unhide HE.1]; exact he) (unhide HP)

set_option maxRecDepth 100000 in
set_option maxHeartbeats 3200000 in
theorem ins_7_ok {N len cap p k nest : Nat} {a : Option Addr} {zs : List Int} {w : World} (op : Nat) (hop : op < 256) (x : Fam) (hx : fam op = some x) (ho : x.o = 7) (h : Rd w N a len cap zs p k 0) (hT : Tb w) (hP : (pB zs p jK).e = 0) {m : Nat} (ih : ListP m) (hn : nest < 64) (hm : len - p < m) :
    Calls Tryd.prog 49 #[.pointer (some ⟨N, 0, none⟩), .int .u8 op, .int .i64 nest] w (InsPost w N a len cap zs (pI (D zs) zs p k nest op)) := by
  obtain ⟨x1, x2, o, x4, x5, x6⟩ := x
  simp only at ho
  subst ho
  have hfr := fr_of hx
  have hfm := fun wx hx => form_any op hop wx hx
  simp only [hx, formR, errV_0] at hfm
  obtain ⟨R, hI, hRe⟩ : ∃ R, pI (D zs) zs p k nest op = R ∧ R.e = (pO zs (pB zs p jK).at_ k (nest + 1) true).e ∧ R.at_ = (pO zs (pB zs p jK).at_ k (nest + 1) true).at_ ∧ R.k = (pO zs (pB zs p jK).at_ k (nest + 1) true).k ∧ ((pO zs (pB zs p jK).at_ k (nest + 1) true).e = 0 → R.v = { plain op with re := kV (pB zs p jK).v, body := (pO zs (pB zs p jK).at_ k (nest + 1) true).v.1, els := (pO zs (pB zs p jK).at_ k (nest + 1) true).v.2 }) := by
    refine ⟨pK (D zs) (pB zs p jK).at_ k nest op (kV (pB zs p jK).v), ?_, ?_⟩
    · unfold pI; rw [hfr, if_neg (by decide), if_neg (by decide), if_neg (by decide), if_neg (by decide), if_neg (by decide), if_neg (by decide), if_neg (by decide), if_pos (by decide), Part.on_ok hP]
    · have := pK_pO zs (pB zs p jK).at_ k nest op (kV (pB zs p jK).v)
      rw [hfr] at this; exact this
  rw [hI]
  have HE : Hid (R.e = (pO zs (pB zs p jK).at_ k (nest + 1) true).e) ∧ Hid (R.at_ = (pO zs (pB zs p jK).at_ k (nest + 1) true).at_) ∧ Hid (R.k = (pO zs (pB zs p jK).at_ k (nest + 1) true).k) ∧ Hid ((pO zs (pB zs p jK).at_ k (nest + 1) true).e = 0 → R.v = { plain op with re := kV (pB zs p jK).v, body := (pO zs (pB zs p jK).at_ k (nest + 1) true).v.1, els := (pO zs (pB zs p jK).at_ k (nest + 1) true).v.2 }) := hRe
  have hR := hI
  have hbd := pB_bd zs p jK (by rw [h.zlen]; exact h.at_)
  have hbo := fun (wx : World) (hx : Rd wx N a len cap zs (pB zs p jK).at_ k 0) (hTx : Tb wx) => bod_any ih (me := true) hx hTx (nest := nest + 1) (by omega) (by have := hbd.1; omega)
  rw [show (((nest + 1 : Nat)) : Int) = (nest : Int) + 1 by omega] at hbo
  have HBo := hide hbo; have HP := hide hP
  clear hI hRe hbd hbo hP ih
  have HF := hide hfm; have HR := hide h; have HT := hide hT; clear hfm h hT hx hR hfr
  go_enter Tryd.func49, Tryd.ntmps49
  go_wp2_with fail
  obtain ⟨hb0, b0, b1, hz⟩ := bx_two w (.int .u8 0) (.int .i64 0) (.int .u32 0) (.int .u32 0) (.int .u8 0) (.slice none 0 0) (.slice none 0 0) (.slice none 0 0) (.int .u8 op) (.int .i64 0) (.int .u32 0) (.int .u32 0) (.int .u8 0) (.slice none 0 0) (.slice none 0 0) (.slice none 0 0)
  generalize (w.alloc (.cells #[.int .u8 0, .int .i64 0, .int .u32 0, .int .u32 0, .int .u8 0, .slice none 0 0, .slice none 0 0, .slice none 0 0] 50)).alloc (.cells #[.int .u8 op, .int .i64 0, .int .u32 0, .int .u32 0, .int .u8 0, .slice none 0 0, .slice none 0 0, .slice none 0 0] 50) = w2 at *
  refine (unhide HF _ ((unhide HT).1.below hb0)).mono ?_
  rintro e w3 ⟨rfl, hb3⟩
  have hb := Below.on hb0 hb3
  have hr := (unhide HR).below hb
  have ht := Tn.of (N := N) hb
  have hT := (unhide HT).below hb
  have hN := (unhide HR).lt
  have hold := (unhide HR).old
  replace b0 := b0.below hb3
  replace b1 := b1.below hb3
  have hz3 : w.heap.size + 2 ≤ w3.heap.size := by have := hb3.size; omega
  clear hb0 hb3 hz hb HF HR HT w2
  have HR := hide hr; have HT := hide ht; have HTb := hide hT; have B0 := hide b0; have B1 := hide b1; have HN := hide hN; have HO := hide hold; have HZ := hide hz3
  clear hr ht hT b0 b1 hN hold hz3
  generalize hQ : w.heap.size = Q at *
  have HQ := hide hQ; clear hQ
  go_wp2_with fail
  refine (kd_any (unhide HR)).mono ?_
  rintro e w4 ⟨rfl, hr, ht⟩
  have HTb4 := hide (Tb.turn (unhide HTb) (unhide HR) ht)
  rw [unhide HP] at hr
  have b0 := (unhide B0).tn ht (by have := unhide HN; omega)
  have b1 := (unhide B1).tn ht (by have := unhide HN; omega)
  have ht2 := Tn.on (unhide HT) ht
  clear HR HT B0 B1
  have HR := hide hr; have HT := hide ht2; have B0 := hide b0; have B1 := hide b1
  clear hr ht ht2 b0 b1
  have HTb2 := hide (Tb.tn1 (unhide HTb4) (unhide B1) (Tn.set (Q + 1) 4 w4 (.int .u8 (kV (pB zs p jK).v))))
  obtain ⟨p0, p1, p2, p3, p4, p5, p6, p7⟩ := (unhide B1).cs
  have pz := (unhide B1).fz
  have hr := (unhide HR).tn (Tn.set (Q + 1) 4 w4 (.int .u8 (kV (pB zs p jK).v))) (by have := unhide HN; omega) (fun b o e hl => by have := unhide HO b o e hl; have := unhide HQ; omega)
  have ht := (unhide HT).new (Tn.set (Q + 1) 4 w4 (.int .u8 (kV (pB zs p jK).v))) (by have := unhide HQ; omega)
  have b1 := (unhide B1).set4 (.int .u8 (kV (pB zs p jK).v))
  have b0 := (unhide B0).tn (Tn.set (Q + 1) 4 w4 (.int .u8 (kV (pB zs p jK).v))) (by omega)
  clear HR HT B0 B1
  have HR := hide hr; have HT := hide ht; have B0 := hide b0; have B1 := hide b1
  clear hr ht b0 b1
  go_wp2_with fail
  generalize w4.setCell ⟨Q + 1, 4, none⟩ (.int .u8 (kV (pB zs p jK).v)) = w5 at *
  clear p0 p1 p2 p3 p4 p5 p6 p7 pz
  refine (unhide HBo _ (unhide HR) (unhide HTb2)).mono ?_
  rintro e w6 ⟨vb, ve, rfl, ⟨ab, lb, cb, rfl⟩, ⟨ae, le, ce, rfl⟩, hr, ht, hok⟩
  have HK := hide hok
  have b0 := (unhide B0).tn ht (by have := unhide HN; omega)
  have b1 := (unhide B1).tn ht (by have := unhide HN; omega)
  have ht2 := Tn.on (unhide HT) ht
  have hz5 : Q + 2 ≤ w5.heap.size := by have := (unhide B1).lt; omega
  have HZ5 := hide hz5
  clear HR HT B0 B1
  have HR := hide hr; have HT := hide ht2; have B0 := hide b0; have B1 := hide b1
  clear hr ht ht2 b0 b1 hok hz5
  obtain ⟨p0, p1, p2, p3, p4, p5, p6, p7⟩ := (unhide B1).cs
  have pz := (unhide B1).fz
  have hr := ((unhide HR).tn (Tn.set (Q + 1) 5 w6 (.slice ab lb cb)) (by have := unhide HN; omega) (fun b o e hl => by have := unhide HO b o e hl; have := unhide HQ; omega)).tn (Tn.set (Q + 1) 6 _ (.slice ae le ce)) (by have := unhide HN; omega) (fun b o e hl => by have := unhide HO b o e hl; have := unhide HQ; omega)
  have ht := ((unhide HT).new (Tn.set (Q + 1) 5 w6 (.slice ab lb cb)) (by have := unhide HQ; omega)).new (Tn.set (Q + 1) 6 _ (.slice ae le ce)) (by have := unhide HQ; omega)
  have b1 := ((unhide B1).set5 (.slice ab lb cb)).set6 (.slice ae le ce)
  have b0 := ((unhide B0).tn (Tn.set (Q + 1) 5 w6 (.slice ab lb cb)) (by omega)).tn (Tn.set (Q + 1) 6 _ (.slice ae le ce)) (by omega)
  clear HR HT B0 B1
  have HR := hide hr; have HT := hide ht; have B0 := hide b0; have B1 := hide b1
  clear hr ht b0 b1
  obtain ⟨c0, c1, c2, c3, c4, c5, c6, c7⟩ := (unhide B1).cs
  obtain ⟨d0, d1, d2, d3, d4, d5, d6, d7⟩ := (unhide B0).cs
  have cz := (unhide B0).fz
  have hq : Q < ((w6.setCell ⟨Q + 1, 5, none⟩ (.slice ab lb cb)).setCell ⟨Q + 1, 6, none⟩ (.slice ae le ce)).heap.size := (unhide B0).lt
  go_wp2
  have hb := put8_bx (unhide B0) (.int .u8 op) (.int .i64 0) (.int .u32 0) (.int .u32 0) (.int .u8 (kV (pB zs p jK).v)) (.slice ab lb cb) (.slice ae le ce) (.slice none 0 0)
  have hf := put8_tn ((w6.setCell ⟨Q + 1, 5, none⟩ (.slice ab lb cb)).setCell ⟨Q + 1, 6, none⟩ (.slice ae le ce)) Q (.int .u8 op) (.int .i64 0) (.int .u32 0) (.int .u32 0) (.int .u8 (kV (pB zs p jK).v)) (.slice ab lb cb) (.slice ae le ce) (.slice none 0 0)
  unfold put8 at hb hf
  clear c0 c1 c2 c3 c4 c5 c6 c7 d0 d1 d2 d3 d4 d5 d6 d7 cz hq p0 p1 p2 p3 p4 p5 p6 p7 pz
  generalize ((((((((((w6.setCell ⟨Q + 1, 5, none⟩ (.slice ab lb cb)).setCell ⟨Q + 1, 6, none⟩ (.slice ae le ce)).setCell ⟨Q, 0, none⟩ (.int .u8 op)).setCell ⟨Q, 1, none⟩ (.int .i64 0)).setCell ⟨Q, 2, none⟩ (.int .u32 0)).setCell ⟨Q, 3, none⟩ (.int .u32 0)).setCell ⟨Q, 4, none⟩ (.int .u8 (kV (pB zs p jK).v))).setCell ⟨Q, 5, none⟩ (.slice ab lb cb)).setCell ⟨Q, 6, none⟩ (.slice ae le ce)).setCell ⟨Q, 7, none⟩ (.slice none 0 0)) = wf at *
  obtain ⟨c0, c1, c2, c3, c4, c5, c6, c7⟩ := hb.cs
  obtain ⟨g1, g2⟩ := ins_end Q (unhide HR) (unhide HT) (by have := unhide HQ; omega) (by have := unhide HN; have := unhide HQ; omega) (fun b o e hl => by have := unhide HO b o e hl; have := unhide HQ; omega) hf
  refine bodyPost_ret (v := .agg #[.int .u8 op, .int .i64 0, .int .u32 0, .int .u32 0, .int .u8 (kV (pB zs p jK).v), .slice ab lb cb, .slice ae le ce, .slice none 0 0]) (by simp [results, Tryd.results49, go_sem, c0, c1, c2, c3, c4, c5, c6, c7]) rfl ?_
  refine ⟨⟨op, 0, 0, 0, kV (pB zs p jK).v, (pO zs (pB zs p jK).at_ k (nest + 1) true).v.1, (pO zs (pB zs p jK).at_ k (nest + 1) true).v.2, []⟩, .slice ab lb cb, .slice ae le ce, .slice none 0 0, rfl, ?_, g2, ⟨⟨_, _, _, rfl⟩, ⟨_, _, _, rfl⟩, ⟨_, _, _, rfl⟩⟩, fun he => ?_⟩
  · rw [unhide HE.1, unhide HE.2.1, unhide HE.2.2.1]; exact g1
  · have hv := unhide HE.2.2.2 (by rw [← unhide HE.1]; exact he)
    have hk := unhide HK (by rw [← unhide HE.1]; exact he)
    have mv : Moves w6 wf (w5.heap.size ≤ ·) (w.heap.size ≤ ·) := fun k' hk' _ hg => by
      have hz := unhide HZ5
      have hg' : w5.heap.size ≤ k' := hg
      have m1 := (Tn.set (Q + 1) 5 w6 (.slice ab lb cb)).block k' hk' (fun e => by cases e; omega)
      have m2 := (Tn.set (Q + 1) 6 (w6.setCell ⟨Q + 1, 5, none⟩ (.slice ab lb cb)) (.slice ae le ce)).block k' (Nat.lt_of_lt_of_le hk' (Tn.set (Q + 1) 5 w6 (.slice ab lb cb)).size) (fun e => by cases e; omega)
      have m3 := hf.block k' (Nat.lt_of_lt_of_le hk' (Nat.le_trans (Tn.set (Q + 1) 5 w6 (.slice ab lb cb)).size (Tn.set (Q + 1) 6 _ (.slice ae le ce)).size)) (fun e => by cases e; omega)
      exact ⟨by have := unhide HQ; show w.heap.size ≤ k'; omega, m3.trans (m2.trans m1)⟩
    exact ⟨hv.symm, hk.1.move mv, hk.2.move mv, Labs_nil _ _⟩

set_option maxRecDepth 100000 in
set_option maxHeartbeats 3200000 in
theorem ins_7_no {N len cap p k nest : Nat} {a : Option Addr} {zs : List Int} {w : World} (op : Nat) (hop : op < 256) (x : Fam) (hx : fam op = some x) (ho : x.o = 7) (h : Rd w N a len cap zs p k 0) (hT : Tb w) (hP : ¬ (pB zs p jK).e = 0) (hn : nest < 64) :
    Calls Tryd.prog 49 #[.pointer (some ⟨N, 0, none⟩), .int .u8 op, .int .i64 nest] w (InsPost w N a len cap zs (pI (D zs) zs p k nest op)) := by
  obtain ⟨x1, x2, o, x4, x5, x6⟩ := x
  simp only at ho
  subst ho
  have hfr := fr_of hx
  have hfm := fun wx hx => form_any op hop wx hx
  simp only [hx, formR, errV_0] at hfm
  obtain ⟨R, hR, hRe⟩ : ∃ R, pI (D zs) zs p k nest op = R ∧ R.e = (pB zs p jK).e ∧ R.at_ = (pB zs p jK).at_ ∧ R.k = k ∧ True := ⟨⟨(pB zs p jK).e, (pB zs p jK).at_, k, plain op⟩, by unfold pI; rw [hfr, if_neg (by decide), if_neg (by decide), if_neg (by decide), if_neg (by decide), if_neg (by decide), if_neg (by decide), if_neg (by decide), if_pos (by decide), Part.on_no hP], rfl, rfl, rfl, trivial⟩
  rw [hR]
  have HE : Hid (R.e = (pB zs p jK).e) ∧ Hid (R.at_ = (pB zs p jK).at_) ∧ Hid (R.k = k) ∧ Hid True := hRe
  clear hRe
  have HP := hide hP; clear hP
  have HF := hide hfm; have HR := hide h; have HT := hide hT; clear hfm h hT hx hR hfr
  go_enter Tryd.func49, Tryd.ntmps49
  go_wp2_with fail
  obtain ⟨hb0, b0, b1, hz⟩ := bx_two w (.int .u8 0) (.int .i64 0) (.int .u32 0) (.int .u32 0) (.int .u8 0) (.slice none 0 0) (.slice none 0 0) (.slice none 0 0) (.int .u8 op) (.int .i64 0) (.int .u32 0) (.int .u32 0) (.int .u8 0) (.slice none 0 0) (.slice none 0 0) (.slice none 0 0)
  generalize (w.alloc (.cells #[.int .u8 0, .int .i64 0, .int .u32 0, .int .u32 0, .int .u8 0, .slice none 0 0, .slice none 0 0, .slice none 0 0] 50)).alloc (.cells #[.int .u8 op, .int .i64 0, .int .u32 0, .int .u32 0, .int .u8 0, .slice none 0 0, .slice none 0 0, .slice none 0 0] 50) = w2 at *
  refine (unhide HF _ ((unhide HT).1.below hb0)).mono ?_
  rintro e w3 ⟨rfl, hb3⟩
  have hb := Below.on hb0 hb3
  have hr := (unhide HR).below hb
  have ht := Tn.of (N := N) hb
  have hT := (unhide HT).below hb
  have hN := (unhide HR).lt
  have hold := (unhide HR).old
  replace b0 := b0.below hb3
  replace b1 := b1.below hb3
  have hz3 : w.heap.size + 2 ≤ w3.heap.size := by have := hb3.size; omega
  clear hb0 hb3 hz hb HF HR HT w2
  have HR := hide hr; have HT := hide ht; have HTb := hide hT; have B0 := hide b0; have B1 := hide b1; have HN := hide hN; have HO := hide hold; have HZ := hide hz3
  clear hr ht hT b0 b1 hN hold hz3
  generalize hQ : w.heap.size = Q at *
  have HQ := hide hQ; clear hQ
  go_wp2_with fail
  refine (kd_any (unhide HR)).mono ?_
  rintro e w4 ⟨rfl, hr, ht⟩
  have b0 := (unhide B0).tn ht (by have := unhide HN; omega)
  have b1 := (unhide B1).tn ht (by have := unhide HN; omega)
  have ht2 := Tn.on (unhide HT) ht
  clear HR HT B0 B1
  have HR := hide hr; have HT := hide ht2; have B0 := hide b0; have B1 := hide b1
  clear hr ht ht2 b0 b1
  obtain ⟨p0, p1, p2, p3, p4, p5, p6, p7⟩ := (unhide B1).cs
  have pz := (unhide B1).fz
  have hr := (unhide HR).tn (Tn.set (Q + 1) 4 w4 (.int .u8 (kV (pB zs p jK).v))) (by have := unhide HN; omega) (fun b o e hl => by have := unhide HO b o e hl; have := unhide HQ; omega)
  have ht := (unhide HT).new (Tn.set (Q + 1) 4 w4 (.int .u8 (kV (pB zs p jK).v))) (by have := unhide HQ; omega)
  have b1 := (unhide B1).set4 (.int .u8 (kV (pB zs p jK).v))
  have b0 := (unhide B0).tn (Tn.set (Q + 1) 4 w4 (.int .u8 (kV (pB zs p jK).v))) (by omega)
  clear HR HT B0 B1
  have HR := hide hr; have HT := hide ht; have B0 := hide b0; have B1 := hide b1
  clear hr ht b0 b1
  go_wp2_with fail
  generalize w4.setCell ⟨Q + 1, 4, none⟩ (.int .u8 (kV (pB zs p jK).v)) = w5 at *
  clear p0 p1 p2 p3 p4 p5 p6 p7 pz
  go_wp2_with fail
  refine (bod_err (unhide HR) (unhide HP)).mono ?_
  rintro e w6 ⟨rfl, hr, ht⟩
  have b0 := (unhide B0).tn ht (by have := unhide HN; omega)
  have b1 := (unhide B1).tn ht (by have := unhide HN; omega)
  have ht2 := Tn.on (unhide HT) ht
  clear HR HT B0 B1
  have HR := hide hr; have HT := hide ht2; have B0 := hide b0; have B1 := hide b1
  clear hr ht ht2 b0 b1
  obtain ⟨p0, p1, p2, p3, p4, p5, p6, p7⟩ := (unhide B1).cs
  have pz := (unhide B1).fz
  have hr := ((unhide HR).tn (Tn.set (Q + 1) 5 w6 (.slice none 0 0)) (by have := unhide HN; omega) (fun b o e hl => by have := unhide HO b o e hl; have := unhide HQ; omega)).tn (Tn.set (Q + 1) 6 _ (.slice none 0 0)) (by have := unhide HN; omega) (fun b o e hl => by have := unhide HO b o e hl; have := unhide HQ; omega)
  have ht := ((unhide HT).new (Tn.set (Q + 1) 5 w6 (.slice none 0 0)) (by have := unhide HQ; omega)).new (Tn.set (Q + 1) 6 _ (.slice none 0 0)) (by have := unhide HQ; omega)
  have b1 := ((unhide B1).set5 (.slice none 0 0)).set6 (.slice none 0 0)
  have b0 := ((unhide B0).tn (Tn.set (Q + 1) 5 w6 (.slice none 0 0)) (by omega)).tn (Tn.set (Q + 1) 6 _ (.slice none 0 0)) (by omega)
  clear HR HT B0 B1
  have HR := hide hr; have HT := hide ht; have B0 := hide b0; have B1 := hide b1
  clear hr ht b0 b1
  obtain ⟨c0, c1, c2, c3, c4, c5, c6, c7⟩ := (unhide B1).cs
  obtain ⟨d0, d1, d2, d3, d4, d5, d6, d7⟩ := (unhide B0).cs
  have cz := (unhide B0).fz
  have hq : Q < ((w6.setCell ⟨Q + 1, 5, none⟩ (.slice none 0 0)).setCell ⟨Q + 1, 6, none⟩ (.slice none 0 0)).heap.size := (unhide B0).lt
  go_wp2
  have hb := put8_bx (unhide B0) (.int .u8 op) (.int .i64 0) (.int .u32 0) (.int .u32 0) (.int .u8 (kV (pB zs p jK).v)) (.slice none 0 0) (.slice none 0 0) (.slice none 0 0)
  have hf := put8_tn ((w6.setCell ⟨Q + 1, 5, none⟩ (.slice none 0 0)).setCell ⟨Q + 1, 6, none⟩ (.slice none 0 0)) Q (.int .u8 op) (.int .i64 0) (.int .u32 0) (.int .u32 0) (.int .u8 (kV (pB zs p jK).v)) (.slice none 0 0) (.slice none 0 0) (.slice none 0 0)
  unfold put8 at hb hf
  clear c0 c1 c2 c3 c4 c5 c6 c7 d0 d1 d2 d3 d4 d5 d6 d7 cz hq p0 p1 p2 p3 p4 p5 p6 p7 pz
  generalize ((((((((((w6.setCell ⟨Q + 1, 5, none⟩ (.slice none 0 0)).setCell ⟨Q + 1, 6, none⟩ (.slice none 0 0)).setCell ⟨Q, 0, none⟩ (.int .u8 op)).setCell ⟨Q, 1, none⟩ (.int .i64 0)).setCell ⟨Q, 2, none⟩ (.int .u32 0)).setCell ⟨Q, 3, none⟩ (.int .u32 0)).setCell ⟨Q, 4, none⟩ (.int .u8 (kV (pB zs p jK).v))).setCell ⟨Q, 5, none⟩ (.slice none 0 0)).setCell ⟨Q, 6, none⟩ (.slice none 0 0)).setCell ⟨Q, 7, none⟩ (.slice none 0 0)) = wf at *
  obtain ⟨c0, c1, c2, c3, c4, c5, c6, c7⟩ := hb.cs
  obtain ⟨g1, g2⟩ := ins_end Q (unhide HR) (unhide HT) (by have := unhide HQ; omega) (by have := unhide HN; have := unhide HQ; omega) (fun b o e hl => by have := unhide HO b o e hl; have := unhide HQ; omega) hf
  refine bodyPost_ret (v := .agg #[.int .u8 op, .int .i64 0, .int .u32 0, .int .u32 0, .int .u8 (kV (pB zs p jK).v), .slice none 0 0, .slice none 0 0, .slice none 0 0]) (by simp [results, Tryd.results49, go_sem, c0, c1, c2, c3, c4, c5, c6, c7]) rfl ?_
  refine ⟨⟨op, 0, 0, 0, kV (pB zs p jK).v, [], [], []⟩, .slice none 0 0, .slice none 0 0, .slice none 0 0, rfl, ?_, g2, ⟨⟨_, _, _, rfl⟩, ⟨_, _, _, rfl⟩, ⟨_, _, _, rfl⟩⟩, fun he => ?_⟩
  · rw [unhide HE.1, unhide HE.2.1, unhide HE.2.2.1]; exact g1
  · exact absurd (by rw [← unhide HE.1]; exact he) (unhide HP)
end Ex
end Go.Proofs.YtjhmglefejclpaaDoor

/- The reader's instr of every form; list, by induction on the bytes that are left; expr.Decode. -/
namespace Go.Proofs.YtjhmglefejclpaaDoor
open Go.RowKit
namespace Ex
set_option linter.unusedVariables false

theorem fm_o : ∀ x ∈ fms, x.o = 0 ∨ x.o = 1 ∨ x.o = 2 ∨ x.o = 3 ∨ x.o = 4 ∨ x.o = 5 ∨ x.o = 6 ∨ x.o = 7 ∨ x.o = 8 ∨ x.o = 9 := by decide
theorem fam_o {n : Int} {x : Fam} (h : fam n = some x) : x.o = 0 ∨ x.o = 1 ∨ x.o = 2 ∨ x.o = 3 ∨ x.o = 4 ∨ x.o = 5 ∨ x.o = 6 ∨ x.o = 7 ∨ x.o = 8 ∨ x.o = 9 := fm_o x (List.mem_of_find?_eq_some h)
theorem ins_any {m : Nat} (ih : ListP m) {N len cap p k nest : Nat} {a : Option Addr} {zs : List Int} {w : World} (op : Nat) (hop : op < 256) (x : Fam) (hx : fam op = some x) (h : Rd w N a len cap zs p k 0) (hT : Tb w) (hn : blk x.o = true → nest < 64) (hm : len - p < m) :
    Calls Tryd.prog 49 #[.pointer (some ⟨N, 0, none⟩), .int .u8 op, .int .i64 nest] w (InsPost w N a len cap zs (pI (D zs) zs p k nest op)) := by
  rcases fam_o hx with ho | ho | ho | ho | ho | ho | ho | ho | ho | ho
  · exact ins_0 op hop x hx ho h hT
  · exact ins_1 op hop x hx ho h hT
  · exact ins_2 op hop x hx ho h hT
  · exact ins_3 op hop x hx ho h hT
  · by_cases hP : (pU zs p 4294967295).e = 0
    · exact ins_4_ok op hop x hx ho h hT hP
    · exact ins_4_no op hop x hx ho h hT hP
  · exact ins_5 op hop x hx ho h hT
  · have hn2 := hn (by rw [ho]; rfl)
    by_cases hP : (pB zs p jK).e = 0
    · exact ins_6_ok op hop x hx ho h hT hP ih hn2 hm
    · exact ins_6_no op hop x hx ho h hT hP hn2
  · have hn2 := hn (by rw [ho]; rfl)
    by_cases hP : (pB zs p jK).e = 0
    · exact ins_7_ok op hop x hx ho h hT hP ih hn2 hm
    · exact ins_7_no op hop x hx ho h hT hP hn2
  · exact ins_8 op hop x hx ho h hT
  · by_cases hP : (pU zs p 4294967295).e = 0
    · exact ins_9_ok op hop x hx ho h hT hP
    · exact ins_9_no op hop x hx ho h hT hP

theorem pB_no {zs : List Int} {p : Nat} {J : Int → Int} (h : ¬ (pB zs p J).e = 0) : (pB zs p J).v = 0 := by
  unfold pB at *
  split
  · rfl
  · rename_i h1
    rw [if_neg h1] at h
    split
    · rename_i h2; rw [if_pos h2] at h; exact absurd rfl h
    · rfl
theorem jO_some {k nest : Nat} {me : Bool} {c : Int} (h : jO k nest me c = 0) (h11 : ¬ c = 11) (h5 : ¬ c = 5) : ∃ x, fam c = some x ∧ ¬ k = 16384 ∧ (blk x.o = true → ¬ nest = 64) := by
  rw [jO_gen (by rintro (e | e); exact h11 e; exact h5 e.1)] at h
  cases hf : flt c with
  | true => rw [hf, if_pos rfl] at h; exact absurd h (by decide)
  | false =>
    rw [hf] at h
    cases hx : fam c with
    | none => simp [frm, hx] at h
    | some x =>
      simp only [frm, hx, Option.map_some, Bool.false_eq_true, if_false] at h
      refine ⟨x, rfl, fun e => ?_, fun e e2 => ?_⟩
      · rw [if_pos (.inl e)] at h; exact absurd h (by decide)
      · rw [if_pos (.inr ⟨e, e2⟩)] at h; exact absurd h (by decide)
theorem infoI : (Tryd.prog.info? 50).map (fun i => (i.zero, i.size, i.bytes)) = some (some (.agg #[.int .u8 0, .int .i64 0, .int .u32 0, .int .u32 0, .int .u8 0, .slice none 0 0, .slice none 0 0, .slice none 0 0]), 8, 104) := by kernel_rfl
theorem Rd.grown {w : World} {N : Nat} {a : Option Addr} {len cap : Nat} {zs : List Int} {p k : Nat} {e : Int} (h : Rd w N a len cap zs p k e) {row : Option Nat} {w' : World} (hg : w.grownBy w' row) (hr : ∀ q, row = some q → q ≠ N ∧ ∀ b o, a = some ⟨b, o, none⟩ → 0 < len → b ≠ q) : Rd w' N a len cap zs p k e := by
  refine ⟨(hg.block N h.lt (fun e => (hr N e.symm).1 rfl)).trans h.box, ?_, h.ne, h.nil, h.cap, h.at_, h.len, h.k⟩
  refine ⟨h.row.1, h.row.2.1, fun hl => ?_⟩
  obtain ⟨b, off, rfl, hlt, hc⟩ := h.row.2.2 hl
  have hb := hg.block b hlt (fun e => (hr b e.symm).2 b off rfl hl rfl)
  exact ⟨b, off, rfl, Nat.lt_of_lt_of_le hlt hg.size, fun i' hi => (World.cell?_of_block (a := ⟨b, off + i', none⟩) hb).trans (hc i' hi)⟩
theorem Tn.grown {N : Nat} {w w1 w2 : World} {row : Option Nat} (h : Tn N w w1) (hg : w1.grownBy w2 row) (hr : ∀ q, row = some q → w.heap.size ≤ q) : Tn N w w2 :=
  ⟨hg.os.trans h.os, hg.tape.trans h.tape, hg.output.trans h.output, Nat.le_trans h.size hg.size, fun k hk hne => (hg.block k (Nat.lt_of_lt_of_le hk h.size) (fun e => by have := hr k e.symm; omega)).trans (h.block k hk hne)⟩
/-- a new element's cells -/
theorem new_cel (w : World) (i : Ins) (vb ve vl : Value) (t : TypeId) : ∀ j u, (cel i vb ve vl)[j]? = some u → (w.alloc (.cells (cel i vb ve vl).toArray t)).cell? ((⟨w.heap.size, 0, none⟩ : Addr).add j) = some u := by
  intro j u hj
  have : ((⟨w.heap.size, 0, none⟩ : Addr).add j) = ⟨w.heap.size, j, none⟩ := by by_cases h : j = 0 <;> simp [Addr.add, h]
  rw [this]
  simp
  exact hj
theorem cel_one (i : Ins) {vb ve vl : Value} (h1 : IsSl vb) (h2 : IsSl ve) (h3 : IsSl vl) : ∀ u ∈ cel i vb ve vl, u.oneCell' = true := by
  obtain ⟨_, _, _, rfl⟩ := h1
  obtain ⟨_, _, _, rfl⟩ := h2
  obtain ⟨_, _, _, rfl⟩ := h3
  intro u hu
  simp only [cel, List.mem_cons, List.not_mem_nil, or_false] at hu
  rcases hu with rfl | rfl | rfl | rfl | rfl | rfl | rfl | rfl <;> rfl

/-- the relation of list's loop: what was read so far, and where the reader is -/
def LK (w : World) (N : Nat) (a : Option Addr) (len cap : Nat) (zs : List Int) (p nest : Nat) (me : Bool) (T : Out (List Ins × Int)) (S gk : Nat) (s : Value) (wr : World) : Prop :=
  ∃ (acc : List Ins) (p' k' : Nat) (er : Int), Rd wr N a len cap zs p' k' er ∧ Tn N w wr ∧ LBox wr S N nest me ∧ p + acc.length ≤ p' ∧ 2 * (len - p') + (if er = 0 then 1 else 0) ≤ gk ∧
    (er = 0 → OwnC wr S (S ≤ ·) s acc ∧ T.e = (D zs p' k' nest me).e ∧ T.at_ = (D zs p' k' nest me).at_ ∧ T.k = (D zs p' k' nest me).k ∧ ((D zs p' k' nest me).e = 0 → T.v = (acc ++ (D zs p' k' nest me).v.1, (D zs p' k' nest me).v.2))) ∧
    (¬ er = 0 → IsSl s ∧ T.e = er ∧ T.at_ = p' ∧ T.k = k')
theorem OwnC.isSl {w : World} {B : Nat} {G : Nat → Prop} {v : Value} {l : List Ins} (h : OwnC w B G v l) : IsSl v := by
  obtain ⟨a, c, rfl, _⟩ := h.shape
  exact ⟨_, _, _, rfl⟩
/-- the round's end -/
theorem lk_step {w w3 w4 w5 : World} {N : Nat} {a : Option Addr} {len cap : Nat} {zs : List Int} {p nest : Nat} {me : Bool} {T X : Out (List Ins × Int)} {S : Nat} {s : Value} {acc : List Ins} {p' k' g capn : Nat} {Y : Out Ins} {i : Ins} {vb ve vl : Value} {xs : List Value}
    (hS : w.heap.size = S) (hold : ∀ b o, a = some ⟨b, o, none⟩ → 0 < len → b < S) (hN : N < S) (hTn : Tn N w w3) (hs : OwnC w3 S (S ≤ ·) s acc)
    (hr4 : Rd w4 N a len cap zs Y.at_ Y.k Y.e) (hr3 : Rd w3 N a len cap zs p' k' 0) (ht4 : Tn N w3 w4) (hbx : LBox w4 S N nest me)
    (hok : Y.e = 0 → i = Y.v ∧ Code w4 (w3.heap.size ≤ ·) i.body vb ∧ Code w4 (w3.heap.size ≤ ·) i.els ve ∧ Lies (w3.heap.size ≤ ·) i.ls.length (Lab w4 i.ls) vl)
    (hx : (w4.alloc (.cells (cel i vb ve vl).toArray 50)).ownsRow S 50 8 s acc.length xs) (hi : Its (w4.alloc (.cells (cel i vb ve vl).toArray 50)) (own (S ≤ ·) s) acc xs)
    (hown : w5.ownsRow S 50 8 (.slice (some ⟨g, 0, none⟩) (acc.length + 1) capn) (acc.length + 1) (xs ++ cel i vb ve vl)) (hgrow : (w4.alloc (.cells (cel i vb ve vl).toArray 50)).grownBy w5 s.ownBlock) (hat : s.ownBlock = some g ∨ g = w4.heap.size + 1)
    (hp : p + acc.length + 1 ≤ Y.at_) (gk : Nat) (hgk : 2 * (len - Y.at_) + (if Y.e = 0 then 1 else 0) ≤ gk)
    (hTe : Y.e = 0 → T.e = (D zs Y.at_ Y.k nest me).e ∧ T.at_ = (D zs Y.at_ Y.k nest me).at_ ∧ T.k = (D zs Y.at_ Y.k nest me).k ∧ ((D zs Y.at_ Y.k nest me).e = 0 → T.v = (acc ++ Y.v :: (D zs Y.at_ Y.k nest me).v.1, (D zs Y.at_ Y.k nest me).v.2)))
    (hTn2 : ¬ Y.e = 0 → T.e = Y.e ∧ T.at_ = Y.at_ ∧ T.k = Y.k) : LK w N a len cap zs p nest me T S gk (.slice (some ⟨g, 0, none⟩) (acc.length + 1) capn) w5 := by
  have hsl := hs.lt
  have hz : w3.heap.size ≤ w4.heap.size := ht4.size
  have hw : S ≤ w3.heap.size := by rw [← hS]; exact hTn.size
  have hal := one_alloc w4 (.cells (cel i vb ve vl).toArray 50)
  have hq : ∀ q, s.ownBlock = some q → S + 3 ≤ q ∨ True := fun _ _ => .inr trivial
  have hne : ∀ q, s.ownBlock = some q → q ≠ N ∧ ∀ b o, a = some ⟨b, o, none⟩ → 0 < len → b ≠ q := fun q hq => ⟨by have := (hsl q hq).1; omega, fun b o e hl => by have := hold b o e hl; have := (hsl q hq).1; omega⟩
  have hr5 := (hr4.below hal).grown hgrow hne
  have ht5 : Tn N w w5 := (Tn.on (Tn.on hTn ht4) (Tn.of (N := N) hal)).grown hgrow (fun q hq => by have := (hsl q hq).1; omega)
  have hb5 : LBox w5 S N nest me := by
    refine (hbx.below hal).keep fun k h1 h2 => hgrow.block k (by have := hbx.lt; have := hal.size; omega) (fun e => ?_)
    obtain ⟨cur, hc⟩ := hs.block k e.symm
    have h3 := (ht4.block k (hsl k e.symm).2 (fun e2 => by cases e2; omega)).trans hc
    rcases (show k = S ∨ k = S + 1 ∨ k = S + 2 by omega) with rfl | rfl | rfl
    · have := h3.symm.trans hbx.x0; simp at this
    · have := h3.symm.trans hbx.x1; simp at this
    · have := h3.symm.trans hbx.x2; simp at this
  by_cases he : Y.e = 0
  · obtain ⟨hv, c1, c2, c3⟩ := hok he
    obtain ⟨e1, e2, e3, e4⟩ := hTe he
    have mv : Moves w4 (w4.alloc (.cells (cel i vb ve vl).toArray 50)) (w3.heap.size ≤ ·) (own (S ≤ ·) s) := moves_below hal fun k _ hk => ⟨fun e => by have := (hsl k e).2; have : w3.heap.size ≤ k := hk; omega, by have : w3.heap.size ≤ k := hk; show S ≤ k; omega⟩
    refine ⟨acc ++ [i], Y.at_, Y.k, 0, by rw [he] at hr5; exact hr5, ht5, hb5, by simp; omega, by rw [if_pos rfl]; rw [if_pos he] at hgk; exact hgk, fun _ => ⟨?_, e1, e2, e3, fun h0 => ?_⟩, fun h0 => absurd rfl h0⟩
    · exact OwnC.snoc hx hi (c1.move mv) (c2.move mv) (Labs.move mv c3) hown hgrow hat (by simp)
    · rw [e4 h0, ← hv]; simp
  · refine ⟨acc, Y.at_, Y.k, Y.e, hr5, ht5, hb5, by omega, by rw [if_neg he]; rw [if_neg he] at hgk; exact hgk, fun h0 => absurd h0 he, fun _ => ⟨⟨_, _, _, rfl⟩, hTn2 he⟩⟩

theorem D_step (zs : List Int) (p k nest : Nat) (me : Bool) (h : p ≤ zs.length) :
    (¬ (pB zs p (jO k nest me)).e = 0 → (D zs p k nest me).e = (pB zs p (jO k nest me)).e ∧ (D zs p k nest me).at_ = (pB zs p (jO k nest me)).at_ ∧ (D zs p k nest me).k = k) ∧
    ((pB zs p (jO k nest me)).e = 0 → ((pB zs p (jO k nest me)).v = 11 ∨ (pB zs p (jO k nest me)).v = 5) → D zs p k nest me = ⟨0, (pB zs p (jO k nest me)).at_, k, ([], (pB zs p (jO k nest me)).v)⟩) ∧
    ((pB zs p (jO k nest me)).e = 0 → ¬ ((pB zs p (jO k nest me)).v = 11 ∨ (pB zs p (jO k nest me)).v = 5) → ∀ Y, Y = pI (D zs) zs (pB zs p (jO k nest me)).at_ (k + 1) nest (pB zs p (jO k nest me)).v →
      (¬ Y.e = 0 → (D zs p k nest me).e = Y.e ∧ (D zs p k nest me).at_ = Y.at_ ∧ (D zs p k nest me).k = Y.k) ∧
      (Y.e = 0 → (D zs p k nest me).e = (D zs Y.at_ Y.k nest me).e ∧ (D zs p k nest me).at_ = (D zs Y.at_ Y.k nest me).at_ ∧ (D zs p k nest me).k = (D zs Y.at_ Y.k nest me).k ∧ ((D zs Y.at_ Y.k nest me).e = 0 → (D zs p k nest me).v = (Y.v :: (D zs Y.at_ Y.k nest me).v.1, (D zs Y.at_ Y.k nest me).v.2)))) := by
  refine ⟨fun he => ?_, fun he hc => ?_, fun he hc Y hY => ?_⟩
  · rw [D_eq zs p k nest me h]; unfold step; rw [Part.on_no he]; exact ⟨rfl, rfl, rfl⟩
  · rw [D_eq zs p k nest me h]; unfold step; rw [Part.on_ok he, if_pos hc]
  · have e1 : D zs p k nest me = Y.on ([], 0) fun a2 k2 i => (D zs a2 k2 nest me).on ([], 0) fun a3 k3 y => ⟨0, a3, k3, (i :: y.1, y.2)⟩ := by
      rw [D_eq zs p k nest me h]; unfold step; rw [Part.on_ok he, if_neg hc, hY]
    rw [e1]
    refine ⟨fun hy => ?_, fun hy => ?_⟩
    · rw [Out.on_no hy]; exact ⟨rfl, rfl, rfl⟩
    · rw [Out.on_ok hy]
      generalize D zs Y.at_ Y.k nest me = R
      by_cases hr : R.e = 0
      · rw [Out.on_ok hr]; exact ⟨hr.symm, rfl, rfl, fun _ => rfl⟩
      · rw [Out.on_no hr]; exact ⟨rfl, rfl, rfl, fun e => absurd e hr⟩

set_option maxRecDepth 100000 in
set_option maxHeartbeats 6400000 in
theorem list_step {m : Nat} (ih : ListP m) : ListP (m + 1) := by
  intro N len cap p k nest a zs me w h hT hn hm
  obtain ⟨i0, hi, hz0, hz1, hz2⟩ := info_parts infoI
  have hzl := h.zlen
  have hN := h.lt
  have hold := h.old
  have hat := h.at_
  have hlen := h.len
  have HR := hide h; have HT := hide hT; have HIh := hide ih; have HOld := hide hold
  clear h hT ih hold
  go_enter Tryd.func35, Tryd.ntmps35
  go_wp2_with fail
  obtain ⟨hb0, hbx, hz⟩ := three_boxes w N nest me
  generalize ((w.alloc (.cells #[.pointer (some ⟨N, 0, none⟩)] 102)).alloc (.cells #[.int .i64 nest] 3)).alloc (.cells #[.bool me] 4) = w2 at *
  have HR2 := hide ((unhide HR).below hb0); have HT2 := hide (Tn.of (N := N) hb0); have HX := hide hbx
  clear hb0 hbx hz
  generalize hS : w.heap.size = S at *
  have HS := hide hS; clear hS
  go_loopg [8] (2 * (len - p) + 1) (fun gk s wr => LK w N a len cap zs p nest me (D zs p k nest me) S gk s wr)
  case atStart => exact ⟨[], p, k, 0, unhide HR2, unhide HT2, unhide HX, by simp, by simp, fun _ => ⟨OwnC_nil _ _ _, rfl, rfl, rfl, fun _ => by simp⟩, fun h0 => absurd rfl h0⟩
  case round =>
    clear HR2 HT2 HX
    obtain ⟨acc, p', k', er, hr, ht, hbx, hpl, hgk, hok, hno⟩ := hrel
    have q0 := hbx.c0; have q1 := hbx.c1; have q2 := hbx.c2
    have hTr := Tb.turn (unhide HT) (unhide HR) ht
    have HTr := hide hTr; have HRr := hide hr; have HTn := hide ht; have HX := hide hbx
    by_cases he : er = 0
    · subst he
      obtain ⟨hown, hT1, hT2, hT3, hT4⟩ := hok rfl
      have hD := D_step zs p' k' nest me (by rw [hzl]; exact hr.at_)
      have hP := pB_bd zs p' (jO k' nest me) (by rw [hzl]; exact hr.at_)
      have hPn := fun h => pB_no (zs := zs) (p := p') (J := jO k' nest me) h
      have ho := obO_any (b0 := S) (b1 := S + 1) (b2 := S + 1 + 1) hr hTr hn q0 q1 q2
      generalize pB zs p' (jO k' nest me) = P at *
      have hpk := hr.k
      have hpa := hr.at_
      rw [if_pos rfl] at hgk
      have HOwn := hide hown; have HD := hide hD; have HPb := hide hP; have HO := hide ho; have HT14 := hide (show _ ∧ _ ∧ _ ∧ _ from ⟨hT1, hT2, hT3, hT4⟩)
      obtain ⟨sa, sc, rfl, _⟩ := hown.shape
      clear hown hT1 hT2 hT3 hT4 hD hP ho hok hno hTr ht hbx hr q1 q2
      by_cases hPe : P.e = 0
      · obtain ⟨hP1, hP2, hP3⟩ := unhide HPb |>.2.2 hPe
        have hP4 := (unhide HPb).2.1
        by_cases h11 : P.v = 11
        · have hD2 := (unhide HD).2.1 hPe (.inl h11)
          rw [hPe, h11] at HO
          rw [h11] at hD2
          have HD2 := hide hD2
          clear hD2 hPe h11 hP1 hP2 hP3 hP4 hPn hgk hpl
          go_wp2_with fail
          refine (unhide HO).mono ?_
          rintro e w3 ⟨rfl, hr3, ht3⟩
          have hx := (unhide HX).tn ht3 (by omega)
          have q0 := hx.c0
          have c3 := hr3.c3
          rw [errV_0] at c3
          have HR3 := hide hr3; have HT3 := hide ht3
          clear hr3 ht3 hx
          go_wp2
          go_ret2
          have hh := unhide HT14
          rw [unhide HD2] at hh
          refine ⟨_, _, rfl, ⟨_, _, _, rfl⟩, ?_, Tn.on (unhide HTn) (unhide HT3), fun _ => ?_, fun e => absurd hh.1 e⟩
          · rw [hh.1, hh.2.1, hh.2.2.1]; exact unhide HR3
          · rw [hh.2.2.2 rfl]
            refine ⟨rfl, ?_⟩
            simp only [List.append_nil]
            have := OwnC.turn (unhide HRr) (unhide HT3) (unhide HOwn)
            exact this.code fun q hq hg => by
              have : S ≤ q := by rcases hg with hg | hg; exact hg; exact hg
              rw [unhide HS]; exact this
        by_cases h5 : P.v = 5
        · have hD2 := (unhide HD).2.1 hPe (.inr h5)
          rw [hPe, h5] at HO
          rw [h5] at hD2
          have HD2 := hide hD2
          clear hD2 hPe h11 h5 hP1 hP2 hP3 hP4 hPn hgk hpl
          go_wp2_with fail
          refine (unhide HO).mono ?_
          rintro e w3 ⟨rfl, hr3, ht3⟩
          have hx := (unhide HX).tn ht3 (by omega)
          have q0 := hx.c0
          have c3 := hr3.c3
          rw [errV_0] at c3
          have HR3 := hide hr3; have HT3 := hide ht3
          clear hr3 ht3 hx
          go_wp2
          go_ret2
          have hh := unhide HT14
          rw [unhide HD2] at hh
          refine ⟨_, _, rfl, ⟨_, _, _, rfl⟩, ?_, Tn.on (unhide HTn) (unhide HT3), fun _ => ?_, fun e => absurd hh.1 e⟩
          · rw [hh.1, hh.2.1, hh.2.2.1]; exact unhide HR3
          · rw [hh.2.2.2 rfl]
            refine ⟨rfl, ?_⟩
            simp only [List.append_nil]
            have := OwnC.turn (unhide HRr) (unhide HT3) (unhide HOwn)
            exact this.code fun q hq hg => by
              have : S ≤ q := by rcases hg with hg | hg; exact hg; exact hg
              rw [unhide HS]; exact this
        obtain ⟨x, hx, hk1, hk2⟩ := jO_some hP3 h11 h5
        have hD3 := (unhide HD).2.2 hPe (by rintro (e | e); exact h11 e; exact h5 e) _ rfl
        have hlt : p' < len := by omega
        obtain ⟨c, hc⟩ : ∃ c : Nat, P.v = (c : Int) ∧ c < 256 := by
          obtain ⟨_, _, _, _, v0, v1⟩ := (unhide HRr).byte hlt
          rw [← hP2] at v0 v1
          exact ⟨P.v.toNat, by omega, by omega⟩
        have t11 : (P.v == 11) = false := by simpa using h11
        have t5 : (P.v == 5) = false := by simpa using h5
        rw [hc.1] at t11 t5 hx hD3 HO
        have hyb := pI_bd zs (D zs) (fun a k n m h => D_bd zs a k n m h) P.at_ (k' + 1) nest c (by omega)
        have hins := fun (wx : World) (h : Rd wx N a len cap zs P.at_ (k' + 1) 0) (hT : Tb wx) => ins_any (unhide HIh) (nest := nest) c hc.2 x hx h hT (fun e => by have := hk2 e; omega) (by omega)
        generalize pI (D zs) zs P.at_ (k' + 1) nest c = Y at *
        rw [hPe] at HO
        have HIns := hide hins; have HD3 := hide hD3; have HY := hide hyb
        have hcl := hc.2
        clear hins hD3 hyb hx hk2 hPe hP2 hP3 hP4 h11 h5 hc hPn
        go_wp2_with fail
        refine (unhide HO).mono ?_
        rintro e w3 ⟨rfl, hr3, ht3⟩
        have hx3 := (unhide HX).tn ht3 (by omega)
        have q0 := hx3.c0; have q1 := hx3.c1
        have c3 := hr3.c3
        rw [errV_0] at c3
        have c2 := hr3.c2; have f2 := hr3.fz 2
        have hrk := hr3.set_k (k' + 1) (by omega)
        have hx4 := hx3.tn (Tn.set N 2 w3 (.int .i64 ((k' + 1 : Nat) : Int))) (by omega)
        have ht4 := Tn.on ht3 (Tn.set N 2 w3 (.int .i64 ((k' + 1 : Nat) : Int)))
        have q04 := hx4.c0; have q14 := hx4.c1
        have htb4 := Tb.turn (unhide HTr) (unhide HRr) ht4
        have hown4 := OwnC.turn (unhide HRr) ht4 (unhide HOwn)
        rw [show ((((k' + 1 : Nat)) : Int)) = (k' : Int) + 1 by omega] at hrk hx4 ht4 q04 q14 htb4 hown4
        have HRk := hide hrk; have HX4 := hide hx4; have HT4 := hide ht4; have HTb4 := hide htb4; have HOwn4 := hide hown4
        clear hr3 ht3 hx3 hrk hx4 ht4 htb4 hown4 HOwn HX
        go_wp2_with fail
        generalize w3.setCell ⟨N, 2, none⟩ (.int .i64 ((k' : Int) + 1)) = w4 at *
        refine (unhide HIns _ (unhide HRk) (unhide HTb4)).mono ?_
        rintro e w5 ⟨i, vb, ve, vl, rfl, hr5, ht5, ⟨⟨b1, b2, b3, rfl⟩, ⟨b4, b5, b6, rfl⟩, ⟨b7, b8, b9, rfl⟩⟩, hok5⟩
        have hx5 := (unhide HX4).tn ht5 (by omega)
        obtain ⟨xs, hxo, hit⟩ := (OwnC.turn (unhide HRk) ht5 (unhide HOwn4)).below (one_alloc w5 (.cells (cel i (.slice b1 b2 b3) (.slice b4 b5 b6) (.slice b7 b8 b9)).toArray 50))
        have HXo := hide hxo; have HIt := hide hit; have HR5 := hide hr5; have HT5 := hide ht5; have HX5 := hide hx5; have HOk5 := hide hok5
        have hsz := ((unhide HOwn4).turn (unhide HRk) ht5)
        have hS5 : S ≤ w5.heap.size := by have := hx5.lt; omega
        clear hxo hit hr5 ht5 hx5 hok5 hsz q0 q1 q04 q14 c3 c2 f2
        have hal : acc.length ≤ 1099511627776 := by omega
        go_wp2_with (at_builtin; refine wpList_append_lies _ rfl (.tmp 35) (.tmp 40) 25 rfl S 50 i0 (.agg #[.int .u8 0, .int .i64 0, .int .u32 0, .int .u32 0, .int .u8 0, .slice none 0 0, .slice none 0 0, .slice none 0 0]) 8 104 Tryd.underlying25 hi hz0 hz1 hz2 rfl (by decide) (.slice sa acc.length sc) acc.length xs rfl (unhide HXo) ⟨w5.heap.size, 0, none⟩ 1 1 (cel i (.slice b1 b2 b3) (.slice b4 b5 b6) (.slice b7 b8 b9)) rfl rfl ?c1 ?c2 (by omega) ?c3 ?c4 ?c5 (w5.heap.size + 1) ?c6 ?_)
        case c1 => exact new_cel w5 i _ _ _ _
        case c2 => exact cel_one i ⟨_, _, _, rfl⟩ ⟨_, _, _, rfl⟩ ⟨_, _, _, rfl⟩
        case c3 => unfold maxLen; omega
        case c4 => omega
        case c5 => simp; omega
        case c6 => simp
        intro g capn w6 hown6 hgrow hat6 hlt6
        have hh := unhide HT14
        have hyb := unhide HY
        have hstep := lk_step (w := w) (p := p) (T := D zs p k nest me) (X := D zs p k nest me) (unhide HS) (fun b o e hl => by have := unhide HOld b o e hl; have := unhide HS; omega) (by omega) (Tn.on (unhide HTn) (unhide HT4)) (unhide HOwn4) (unhide HR5) (unhide HRk) (unhide HT5) (unhide HX5) (unhide HOk5) (unhide HXo) (unhide HIt) hown6 hgrow hat6 (by have := hyb.1; omega) (gk - 1) (by have := hyb.1; have := hyb.2; split <;> omega)
          (fun hy => by
            obtain ⟨e1, e2, e3, e4⟩ := (unhide HD3).2 hy
            refine ⟨hh.1.trans e1, hh.2.1.trans e2, hh.2.2.1.trans e3, fun h0 => ?_⟩
            rw [hh.2.2.2 (by rw [e1]; exact h0), e4 h0])
          (fun hy => by
            obtain ⟨e1, e2, e3⟩ := (unhide HD3).1 hy
            exact ⟨hh.1.trans e1, hh.2.1.trans e2, hh.2.2.1.trans e3⟩)
        have HStep := hide hstep
        clear hstep hown6 hgrow hat6 hlt6 hh hyb
        go_wp2
        go_roundg (gk - 1)
        case measure => omega
        case rel => exact unhide HStep
      · have hv := hPn hPe
        have hD1 := (unhide HD).1 hPe
        rw [hv] at HO
        have HE := hide hPe; have HD1 := hide hD1
        clear hPe hv hD1 hPn hgk hpl
        go_wp2_with fail
        refine (unhide HO).mono ?_
        rintro e w3 ⟨rfl, hr3, ht3⟩
        have hx := (unhide HX).tn ht3 (by omega)
        have q0 := hx.c0
        have c3 := hr3.c3
        rw [errV_pos (unhide HE)] at c3
        have HR3 := hide hr3; have HT3 := hide ht3
        clear hr3 ht3 hx
        go_wp2
        go_ret2
        have hh := unhide HT14
        obtain ⟨e1, e2, e3⟩ := unhide HD1
        refine ⟨_, _, rfl, ⟨_, _, _, rfl⟩, ?_, Tn.on (unhide HTn) (unhide HT3), fun e => absurd ((hh.1.trans e1).symm.trans e) (unhide HE), fun _ => rfl⟩
        rw [hh.1, hh.2.1, hh.2.2.1, e1, e2, e3]; exact unhide HR3
    · obtain ⟨⟨sa, sl, sc, rfl⟩, hT1, hT2, hT3⟩ := hno he
      have HE := hide he; have HT13 := hide (show _ ∧ _ ∧ _ from ⟨hT1, hT2, hT3⟩)
      clear hok hno hT1 hT2 hT3 he hgk hpl hr ht hTr hbx
      go_wp2_with fail
      refine (obO_err (nest := nest) (me := me) (unhide HRr) (unhide HE)).mono ?_
      rintro e w3 ⟨rfl, hr3, ht3⟩
      have hx := (unhide HX).tn ht3 (by omega)
      have q0 := hx.c0
      have c3 := hr3.c3
      rw [errV_pos (unhide HE)] at c3
      have HR3 := hide hr3; have HT3 := hide ht3
      clear hr3 ht3 hx q1 q2
      go_wp2
      go_ret2
      obtain ⟨e1, e2, e3⟩ := unhide HT13
      refine ⟨_, _, rfl, ⟨_, _, _, rfl⟩, ?_, Tn.on (unhide HTn) (unhide HT3), fun e => absurd (e1.symm.trans e) (unhide HE), fun _ => rfl⟩
      rw [e1, e2, e3]; exact unhide HR3
theorem list_any : ∀ m, ListP m
  | 0 => fun N len cap p k nest a zs me w h hT hn hm => by omega
  | m + 1 => list_step (list_any m)
end Ex
end Go.Proofs.YtjhmglefejclpaaDoor

/- expr.Decode. -/
namespace Go.Proofs.YtjhmglefejclpaaDoor
open Go.RowKit
namespace Ex
set_option linter.unusedVariables false

/-- a row of bytes as a slice -/
structure Bs (w : World) (a : Option Addr) (len cap : Nat) (zs : List Int) : Prop where
  row : Row w a len zs
  nil : a = none → cap = 0
  le : len ≤ cap
  len : len ≤ 1099511627776
theorem Bs.below {w w' : World} {a : Option Addr} {len cap : Nat} {zs : List Int} (h : Bs w a len cap zs) (hb : Below w.heap.size w w') : Bs w' a len cap zs := ⟨h.row.below (Nat.le_refl _) hb, h.nil, h.le, h.len⟩
theorem rd_new {w : World} {a : Option Addr} {len cap : Nat} {zs : List Int} (h : Bs w a len cap zs) :
    Rd (w.alloc (.cells #[.slice a len cap, .int .i64 0, .int .i64 0, .nilIface] 76)) w.heap.size a len cap zs 0 0 0 := by
  have hb := one_alloc w (.cells #[.slice a len cap, .int .i64 0, .int .i64 0, .nilIface] 76)
  refine ⟨?_, h.row.below (Nat.le_refl _) hb, fun b o e hl => ?_, h.nil, h.le, by omega, h.len, by omega⟩
  · rw [heap_alloc_new, errV_0]; rfl
  · obtain ⟨b', o', e', hlt, _⟩ := h.row.2.2 hl
    rw [e] at e'; simp at e'; omega
theorem Tn.below {w w1 w2 : World} (h1 : Below w.heap.size w w1) (h2 : Tn w.heap.size w1 w2) : Below w.heap.size w w2 :=
  ⟨h2.os.trans h1.os, h2.tape.trans h1.tape, h2.output.trans h1.output, Nat.le_trans h1.size h2.size, fun k hk => (h2.block k (Nat.lt_of_lt_of_le hk h1.size) (fun e => by cases e; omega)).trans (h1.block k hk)⟩
theorem ret3v {v u : Value} {a b : Int} {x y : Value} (h0 : v = u) (h : a = b) (h2 : x = y) : Ending.returned (.tuple #[v, .int .i64 a, x]) = .returned (.tuple #[u, .int .i64 b, y]) := by rw [h0, h, h2]
def DecPost (w : World) (R : Out (List Ins × Int)) (e : Ending) (w' : World) : Prop :=
  ∃ v, e = .returned (.tuple #[v, .int .i64 R.at_, errV R.e]) ∧ IsSl v ∧ Below w.heap.size w w' ∧ (R.e = 0 → Code w' (w.heap.size ≤ ·) R.v.1 v) ∧ (¬ R.e = 0 → v = .slice none 0 0)
set_option maxRecDepth 100000 in
set_option maxHeartbeats 1600000 in
theorem decode_any {a : Option Addr} {len cap : Nat} {zs : List Int} {w : World} (h : Bs w a len cap zs) (hT : Tb w) :
    Calls Tryd.prog 21 #[.slice a len cap] w (DecPost w (D zs 0 0 0 false)) := by
  have hr := rd_new h
  have hb := one_alloc w (.cells #[.slice a len cap, .int .i64 0, .int .i64 0, .nilIface] 76)
  have hl := list_any (len + 1) w.heap.size len cap 0 0 0 a zs false _ hr (hT.below hb) (by omega) (by omega)
  generalize D zs 0 0 0 false = R at *
  have HL := hide hl; have HB := hide hb
  clear hl hr hT h
  go_enter Tryd.func21, Tryd.ntmps21
  go_wp2_with fail
  refine (unhide HL).mono ?_
  rintro e w1 ⟨v, c, rfl, ⟨va, vl, vc, rfl⟩, hr1, ht1, ok, _⟩
  have hbel := Tn.below hb ht1
  have c1 := hr1.c1; have c3 := hr1.c3
  have hz : w.heap.size < w1.heap.size := hr1.lt
  have HBel := hide hbel; have HOk := hide ok
  clear hbel ok hr1 ht1 hb HB HL
  by_cases he : R.e = 0
  · rw [he, errV_0] at c3
    have HE := hide he; clear he
    go_wp2_with fail
    go_quiet (fail)
    go_wp2
    go_ret3
    refine ⟨.slice va vl vc, ?_, ⟨_, _, _, rfl⟩, Below.on (unhide HBel) (Below.drewn _ _), fun _ => ?_, fun e => absurd (unhide HE) e⟩
    · rw [unhide HE, errV_0]; rfl
    · exact ((unhide HOk (unhide HE)).2.below (Below.drewn _ _)).any fun q hq hg => by have := hg; simp at this; omega
  · rw [errV_pos he] at c3
    have HE := hide he; clear he
    go_wp2_with fail
    go_quiet (fail)
    go_wp2
    go_ret3
    refine ⟨.slice none 0 0, ?_, ⟨_, _, _, rfl⟩, Below.on (unhide HBel) (Below.drewn _ _), fun e => absurd e (unhide HE), fun _ => rfl⟩
    rw [errV_pos (unhide HE)]; rfl
end Ex
end Go.Proofs.YtjhmglefejclpaaDoor

/- The statements' sure. -/
namespace Go.Proofs.YtjhmglefejclpaaDoor
open Go.RowKit
namespace Ex
set_option linter.unusedVariables false

theorem su1 : D [65, 5, 26, 11, 7] 0 0 0 false = ⟨0, 4, 2, ([⟨65, 5, 0, 0, 0, [], [], []⟩, ⟨26, 0, 0, 0, 0, [], [], []⟩], 11)⟩ := by kernel_rfl
theorem su2 : (D [67] 0 0 0 false).e = 8 ∧ (D [67] 0 0 0 false).at_ = 0 := ⟨by kernel_rfl, by kernel_rfl⟩
theorem row_lit (w : World) (zs : List Int) (hz : ∀ z ∈ zs, 0 ≤ z ∧ z ≤ 255) : Row (w.alloc (.cells (zs.map (Value.int .u8)).toArray 5)) (some ⟨w.heap.size, 0, none⟩) zs.length zs := by
  refine ⟨rfl, hz, fun _ => ⟨w.heap.size, 0, rfl, by simp, fun i hi => ?_⟩⟩
  rw [Nat.zero_add]
  simp [List.getD, hi]
theorem bs_lit (w : World) (zs : List Int) (hz : ∀ z ∈ zs, 0 ≤ z ∧ z ≤ 255) (hl : zs.length ≤ 1000) : Bs (w.alloc (.cells (zs.map (Value.int .u8)).toArray 5)) (some ⟨w.heap.size, 0, none⟩) zs.length zs.length zs :=
  ⟨row_lit w zs hz, by simp, Nat.le_refl _, by omega⟩
theorem su3 : cnt ([⟨65, 5, 0, 0, 0, [], [], []⟩, ⟨26, 0, 0, 0, 0, [], [], []⟩] : List Ins) = 2 := by rw [cnt_cons, cnt_cons, cnt_nil]
set_option maxRecDepth 100000 in
set_option maxHeartbeats 1600000 in
theorem sure_any (w : World) (hT : Tb w) (hE : ErrT w) : Calls Tryd.prog 10 #[] w fun e w' => e = .returned (.bool true) ∧ Below w.heap.size w w' := by
  have b1 := bs_lit w [65, 5, 26, 11, 7] (by decide) (by decide)
  have hb1 := one_alloc w (.cells (([65, 5, 26, 11, 7] : List Int).map (Value.int .u8)).toArray 5)
  have h1 := decode_any b1 (hT.below hb1)
  have h2 := fun (wx : World) (hx : Tb wx) => decode_any (bs_lit wx [67] (by decide) (by decide)) (hx.below (one_alloc wx _))
  rw [su1] at h1
  have HT := hide hT; have HE := hide hE; have H1 := hide h1; have H2 := hide h2; have HB1 := hide hb1
  clear hT hE h1 h2 b1 hb1
  go_enter Tryd.func10, Tryd.ntmps10
  go_wp2_with fail
  refine (unhide H1).mono ?_
  rintro e w1 ⟨v, rfl, _, hb2, hc, _⟩
  rw [errV_0]
  have hcode := hc rfl
  have hbb := Below.on (unhide HB1) hb2
  have HC := hide hcode
  obtain ⟨va, vc, rfl, hvc, _, hit⟩ := hcode
  obtain ⟨b, o, rfl, hgb, hit⟩ := hit (by decide)
  obtain ⟨ub, ue, ul, hcel, _⟩ := Items_get hit 0 (by decide)
  have c1 : w1.cell? ⟨b, o + 1, none⟩ = some (.int .i64 5) := by have := hcel.2.1; simpa using this
  have HB2 := hide hbb; have C1 := hide c1
  clear hb2 hc hbb hit hcel c1
  go_wp2_with fail
  refine (unhide H2 _ ((unhide HT).below (unhide HB2))).mono ?_
  rintro e w2 ⟨v, rfl, ⟨va2, vl2, vc2, rfl⟩, hb3, _, _⟩
  rw [su2.1, su2.2, errV_8]
  have hb3' := Below.on (one_alloc w1 (.cells (([67] : List Int).map (Value.int .u8)).toArray 5)) hb3
  have c1 := (hb3'.cell (p := ⟨b, o + 1, none⟩) (World.block_lt_of_cell? w1 _ (unhide C1))).trans (unhide C1)
  have HB3 := hide (Below.on (unhide HB2) hb3'); have HC2 := hide ((unhide HC).below hb3')
  clear hb3 hb3' HC HB2
  go_wp2_with fail
  refine (num_hit 8 _ ((unhide HE).below (Nat.le_refl _) (unhide HB3))).mono ?_
  rintro e w3 ⟨rfl, hb4⟩
  have HB4 := hide (Below.on (unhide HB3) hb4); have HC3 := hide ((unhide HC2).below hb4)
  clear hb4 HB3 HC2 c1
  go_wp2_with fail
  refine (count_any _ _ _ _ (unhide HC3) (by rw [su3]; decide)).mono ?_
  rintro e w4 ⟨rfl, hb5⟩
  rw [su3]
  have HB5 := hide (Below.on (unhide HB4) hb5)
  clear hb5 HB4
  go_wp2
  go_ret
  exact ⟨rfl, unhide HB5⟩
end Ex
end Go.Proofs.YtjhmglefejclpaaDoor
