/- The reader's labels. -/
import Derived.Test.YtjhmglefejclpaaDoorExQ
import Derived.Deep.OwnRows
import Derived.Laws.OwnMore
namespace Go.Proofs.YtjhmglefejclpaaDoor
open Go.RowKit
namespace Ex
set_option linter.unusedVariables false

theorem pL_snoc (zs : List Int) : ∀ (m a k : Nat), pL zs (m + 1) a k = (pL zs m a k).on [] fun a2 k2 ls => (pU zs a2 4294967295).on k2 [] fun a3 v => ⟨0, a3, k2, ls ++ [v]⟩
  | 0, a, k => by
    rw [pL, pL, Out.on_ok rfl]
    by_cases h : (pU zs a 4294967295).e = 0
    · rw [Part.on_ok h, Part.on_ok h, pL, Out.on_ok rfl]; rfl
    · rw [Part.on_no h, Part.on_no h]
  | m + 1, a, k => by
    rw [pL]
    by_cases h : (pU zs a 4294967295).e = 0
    · rw [Part.on_ok h, pL_snoc zs m, pL, Part.on_ok h]
      generalize pL zs m (pU zs a 4294967295).at_ k = R
      by_cases hR : R.e = 0
      · rw [Out.on_ok hR, Out.on_ok (x := R) hR, Out.on_ok (x := ⟨0, R.at_, R.k, (pU zs a 4294967295).v :: R.v⟩) rfl]
        by_cases h2 : (pU zs R.at_ 4294967295).e = 0
        · rw [Part.on_ok h2, Part.on_ok h2, Out.on_ok rfl]; rfl
        · rw [Part.on_no h2, Part.on_no h2, Out.on_no (by exact h2)]
      · rw [Out.on_no hR, Out.on_no (x := R) hR, Out.on_no (by exact hR), Out.on_no (by exact hR)]
    · rw [Part.on_no h, pL, Part.on_no h, Out.on_no (by exact h)]
theorem pL_k (zs : List Int) : ∀ (m a k : Nat), (pL zs m a k).k = k
  | 0, a, k => by rw [pL]
  | m + 1, a, k => by
    rw [pL]
    by_cases h : (pU zs a 4294967295).e = 0
    · rw [Part.on_ok h]
      by_cases h2 : (pL zs m (pU zs a 4294967295).at_ k).e = 0
      · rw [Out.on_ok h2]; exact pL_k zs m _ k
      · rw [Out.on_no h2]; exact pL_k zs m _ k
    · rw [Part.on_no h]
theorem pL_len (zs : List Int) : ∀ (m a k : Nat), (pL zs m a k).e = 0 → (pL zs m a k).v.length = m
  | 0, a, k, _ => by rw [pL]; rfl
  | m + 1, a, k, he => by
    rw [pL] at he ⊢
    by_cases h : (pU zs a 4294967295).e = 0
    · rw [Part.on_ok h] at he ⊢
      by_cases h2 : (pL zs m (pU zs a 4294967295).at_ k).e = 0
      · rw [Out.on_ok h2]; simp [pL_len zs m _ k h2]
      · rw [Out.on_no h2] at he; exact absurd he h2
    · rw [Part.on_no h] at he; exact absurd he h
/-- what labels tell -/
def pT (zs : List Int) (p k : Nat) : Out (List Int) := (pU zs p 256).on k [] fun a1 v => pL zs (v.toNat + 1) a1 k

theorem infoU32 : (Tryd.prog.info? 46).map (fun i => (i.zero, i.size, i.bytes)) = some (some (.int .u32 0), 1, 4) := by kernel_rfl
def u32s (vs : List Int) : Array Value := (vs.map (Value.int .u32)).toArray
theorem made_u32 (n : Nat) : madeCells #[Value.int .u32 0] n = u32s (List.replicate n 0) := by
  apply Array.toList_inj.1
  rw [toList_madeCells_one]; simp [u32s]
theorem u32s_rep (n : Nat) : (List.replicate n (Value.int .u32 0)).toArray = u32s (List.replicate n 0) := by simp [u32s]
theorem u32s_set {w : World} {M : Nat} {vs : List Int} (h : w.heap[M]? = some (.cells (u32s vs) 46 (0, 0))) (j : Nat) (v : Int) (hj : j < vs.length) : (w.setCell ⟨M, j, none⟩ (.int .u32 v)).heap[M]? = some (.cells (u32s (vs.set j v)) 46 (0, 0)) := by
  rw [heap_setCell_same w M j _ _ _ h]
  simp [u32s, List.map_set]
theorem u32s_lab {w : World} {M : Nat} {vs : List Int} (h : w.heap[M]? = some (.cells (u32s vs) 46 (0, 0))) : Lab w vs M 0 := fun j hj => by
  rw [cell_of_row w M (0 + j) _ _ _ h]
  simp [u32s, List.getD, hj]
/-- a row written, the reader's box stays -/
theorem Rd.other {w : World} {N : Nat} {a : Option Addr} {len cap : Nat} {zs : List Int} {p k : Nat} {e : Int} (h : Rd w N a len cap zs p k e) {M : Nat} (hM : M ≠ N) (hr : ∀ b o, a = some ⟨b, o, none⟩ → 0 < len → b ≠ M) (i : Nat) (v : Value) : Rd (w.setCell ⟨M, i, none⟩ v) N a len cap zs p k e := by
  refine ⟨(heap_setCell_other w ⟨M, i, none⟩ N v (fun e => hM e.symm)).trans h.box, ?_, h.ne, h.nil, h.cap, h.at_, h.len, h.k⟩
  refine ⟨h.row.1, h.row.2.1, fun hl => ?_⟩
  obtain ⟨b, off, rfl, hlt, hc⟩ := h.row.2.2 hl
  have hb := heap_setCell_other w ⟨M, i, none⟩ b v (hr b off rfl hl)
  refine ⟨b, off, rfl, Nat.lt_of_lt_of_le hlt ?_, fun i' hi => (World.cell?_of_block (a := ⟨b, off + i', none⟩) hb).trans (hc i' hi)⟩
  exact ((Below.refl M w).setCell (p := ⟨M, i, none⟩) (Nat.le_refl _) v).size

def LRel (w : World) (N : Nat) (a : Option Addr) (len cap : Nat) (zs : List Int) (k M n : Nat) (R : Nat → Out (List Int)) (j : Nat) (wr : World) : Prop :=
  Rd wr N a len cap zs (R j).at_ k (R j).e ∧ Tn N w wr ∧ ∃ vs : List Int, vs.length = n + 1 ∧ wr.heap[M]? = some (.cells (u32s vs) 46 (0, 0)) ∧ ((R j).e = 0 → vs.take j = (R j).v)
theorem lrel_step {w : World} {N : Nat} {a : Option Addr} {len cap : Nat} {zs : List Int} {k M n : Nat} {R : Nat → Out (List Int)} {j : Nat} {wr w1 : World} {x : Int}
    (h : LRel w N a len cap zs k M n R j wr) (hM : w.heap.size ≤ M) (hMN : M ≠ N) (hw : N < w.heap.size) (hrow : ∀ b o, a = some ⟨b, o, none⟩ → 0 < len → b < w.heap.size)
    (hj : j < n + 1) (h1 : Rd w1 N a len cap zs (R (j + 1)).at_ k (R (j + 1)).e) (ht : Tn N wr w1) (hv : (R (j + 1)).e = 0 → (R j).e = 0 ∧ (R (j + 1)).v = (R j).v ++ [x]) :
    LRel w N a len cap zs k M n R (j + 1) (w1.setCell ⟨M, j, none⟩ (.int .u32 x)) := by
  obtain ⟨h2, h3, vs, h4, h5, h6⟩ := h
  have hMl : M < wr.heap.size := (Array.getElem?_eq_some_iff.1 h5).1
  have h5' := (ht.block M hMl (fun e => hMN (Option.some.inj e))).trans h5
  refine ⟨h1.other hMN (fun b o e hl => by have := hrow b o e hl; omega) _ _, ?_, vs.set j x, by simpa using h4, u32s_set h5' j x (by omega), fun he => ?_⟩
  · have hT := Tn.on h3 ht
    refine ⟨hT.os, hT.tape, hT.output, Nat.le_trans hT.size (((Below.refl M w1).setCell (p := ⟨M, j, none⟩) (Nat.le_refl _) _).size), fun q hq hne => ?_⟩
    rw [heap_setCell_other w1 ⟨M, j, none⟩ q _ (by simp only; omega)]
    exact hT.block q hq hne
  · have := hv he
    rw [this.2, ← h6 this.1, List.take_succ_eq_append_getElem (by simp; omega)]
    simp [List.take_set_of_le]
set_option maxRecDepth 100000 in
set_option maxHeartbeats 1600000 in
theorem lb_any {N len cap p k : Nat} {a : Option Addr} {zs : List Int} {w : World} (h : Rd w N a len cap zs p k 0) :
    Calls Tryd.prog 68 #[.pointer (some ⟨N, 0, none⟩)] w fun e w' => ∃ v, e = .returned v ∧ Rd w' N a len cap zs (pT zs p k).at_ k (pT zs p k).e ∧ Tn N w w' ∧
      (∃ a' l' c', v = .slice a' l' c') ∧ ((pT zs p k).e = 0 → Lies (w.heap.size ≤ ·) (pT zs p k).v.length (Lab w' (pT zs p k).v) v) := by
  have hu := ut_any h 256
  have hbd := pU_bd zs p 256 (by rw [h.zlen]; exact h.at_)
  have hN := h.lt
  have hrow : ∀ b o, a = some ⟨b, o, none⟩ → 0 < len → b < w.heap.size := fun b o e hl => by
    obtain ⟨b', o', e', hlt, _⟩ := h.row.2.2 hl
    rw [e] at e'; simp at e'; omega
  -- what comes, as one function of how many labels were read
  obtain ⟨n, hn, hn2, R, hR0, hRs, hRe, hend⟩ : ∃ n : Nat, (pU zs p 256).v = (n : Int) ∧ n ≤ 256 ∧ ∃ R : Nat → Out (List Int), (R 0).at_ = (pU zs p 256).at_ ∧ (∀ j, (R j).e = 0 → (R (j + 1)).at_ = (pU zs (R j).at_ 4294967295).at_ ∧ (R (j + 1)).e = (pU zs (R j).at_ 4294967295).e ∧ ((R (j + 1)).e = 0 → (R (j + 1)).v = (R j).v ++ [(pU zs (R j).at_ 4294967295).v])) ∧
      (∀ j, ¬ (R j).e = 0 → (R (j + 1)).at_ = (R j).at_ ∧ (R (j + 1)).e = (R j).e) ∧ ((R 0).e = (pU zs p 256).e ∧ (R 0).v = [] ∧ (R (n + 1)).e = (pT zs p k).e ∧ (R (n + 1)).at_ = (pT zs p k).at_ ∧ ((pT zs p k).e = 0 → (R (n + 1)).v = (pT zs p k).v ∧ (pT zs p k).v.length = n + 1)) := by
    by_cases he : (pU zs p 256).e = 0
    · have hv := hbd.2.2 he
      have hv0 : 0 ≤ (pU zs p 256).v := by
        by_cases ht : Leb.tuE (zs.drop p) 32 = 0
        · have hq := tuV_32 (fun z hz => h.row.2.1 z (List.mem_of_mem_drop hz)) ht
          by_cases hm : 256 < Leb.tuV (zs.drop p) 32
          · rw [pU_lim ht hm]; exact Int.le_refl 0
          · rw [pU_ok ht hm]; exact hq.1
        · rw [pU_bad ht]; exact Int.le_refl 0
      refine ⟨(pU zs p 256).v.toNat, by omega, by omega, fun j => pL zs j (pU zs p 256).at_ k, by simp [pL], fun j hj => ?_, fun j hj => ?_, ?_⟩
      · simp only at hj ⊢
        rw [pL_snoc, Out.on_ok hj]
        by_cases h2 : (pU zs (pL zs j (pU zs p 256).at_ k).at_ 4294967295).e = 0
        · rw [Part.on_ok h2]; exact ⟨rfl, h2.symm, fun _ => rfl⟩
        · rw [Part.on_no h2]; exact ⟨rfl, rfl, fun e => absurd e h2⟩
      · simp only at hj ⊢
        rw [pL_snoc, Out.on_no hj]; exact ⟨rfl, rfl⟩
      · have : pT zs p k = pL zs ((pU zs p 256).v.toNat + 1) (pU zs p 256).at_ k := by unfold pT; rw [Part.on_ok he]
        rw [this]
        exact ⟨by simp only [pL]; exact he.symm, by simp [pL], rfl, rfl, fun e => ⟨rfl, pL_len zs _ _ _ e⟩⟩
    · have hv : (pU zs p 256).v = 0 := by
        by_cases ht : Leb.tuE (zs.drop p) 32 = 0
        · by_cases hm : 256 < Leb.tuV (zs.drop p) 32
          · rw [pU_lim ht hm]
          · rw [pU_ok ht hm] at he; exact absurd rfl he
        · rw [pU_bad ht]
      refine ⟨0, by rw [hv]; rfl, by omega, fun j => ⟨(pU zs p 256).e, (pU zs p 256).at_, k, []⟩, rfl, fun j hj => absurd hj he, fun j hj => ⟨rfl, rfl⟩, rfl, rfl, ?_, ?_, fun e => ?_⟩
      · unfold pT; rw [Part.on_no he]
      · unfold pT; rw [Part.on_no he]
      · unfold pT at e; rw [Part.on_no he] at e; exact absurd e he
  rw [hn] at hu
  rw [← hend.2.2.1, ← hend.2.2.2.1]
  have HU := hide hu; have HEnd := hide hend; have HRs := hide hRs; have HRe := hide hRe; have HR0 := hide hR0; have HRow := hide hrow
  have hmk := fun wx => run_make_row' (P := Tryd.prog) 48 46 (.int .u32 0) 4 Tryd.underlying48 infoU32 rfl .u32 .u32 (n + 1) (by omega) (by omega) wx
  have hnz : IntKind.u32.wrap ((n : Int) + 1) = (n : Int) + 1 := by rw [IntKind.wrap_u32]; omega
  rw [show (((n + 1 : Nat)) : Int) = (n : Int) + 1 by omega] at hmk
  clear hu hend hRs hRe hR0 hbd hn h hrow
  go_enter Tryd.func68, Tryd.ntmps68
  go_wp2_with fail
  refine (unhide HU).mono ?_
  rintro e w1 ⟨rfl, hr1, ht1⟩
  have HR1 := hide hr1; have HT1 := hide ht1; clear hr1 ht1 HU
  go_wp2_with fail
  have hz1 := (unhide HT1).size
  have HB := hide (show Below w1.heap.size w1 (w1.alloc (.cells (madeCells #[Value.int .u32 0] (n + 1)) 46)) from one_alloc _ _)
  have hrow1 : (w1.alloc (.cells (madeCells #[Value.int .u32 0] (n + 1)) 46)).heap[w1.heap.size]? = some (.cells (u32s (List.replicate (n + 1) 0)) 46 (0, 0)) := by
    rw [heap_alloc_new, made_u32]
  have HRow1 := hide hrow1; clear hrow1
  have hMN : w1.heap.size ≠ N := by omega
  have hR1 := (unhide HR1).below (unhide HB)
  have hT1 := Tn.on (unhide HT1) (Tn.of (N := N) (unhide HB))
  generalize w1.alloc (.cells (madeCells #[Value.int .u32 0] (n + 1)) 46) = w2 at *
  generalize w1.heap.size = M at *
  have HR2 := hide hR1; have HT2 := hide hT1
  clear hR1 hT1 HR1 HT1 HB hmk
  go_loopw [13] (fun c wr => ∃ j : Nat, c = .int .i64 j ∧ (j : Int) ≤ (n : Int) + 1 ∧ LRel w N a len cap zs k M n R j wr) (fun c _ => n + 1 - (intOf c).toNat)
  case atStart =>
    refine ⟨0, rfl, by omega, ?_, unhide HT2, List.replicate (n + 1) 0, by simp, unhide HRow1, fun _ => by rw [(unhide HEnd).2.1]; rfl⟩
    rw [unhide HR0, (unhide HEnd).1]; exact unhide HR2
  case round =>
    obtain ⟨j, rfl, hj, hrel⟩ := hrel
    by_cases hlt : (j : Int) < (n : Int) + 1
    · have hrel0 := hrel
      obtain ⟨q1, q2, vs, q3, q4, q5⟩ := hrel
      by_cases he : (R j).e = 0
      · rw [he] at q1
        have hu := un_any q1
        have hs := unhide HRs j he
        rw [← hs.1, ← hs.2.1] at hu
        have hv := hs.2.2
        generalize (pU zs (R j).at_ 4294967295).v = x at *
        have HU := hide hu; have HRel := hide hrel0; have HV := hide hv; have HE := hide he
        clear hu hrel0 hv hs he q1 q2 q3 q4 q5 hj
        go_wp2_with fail
        refine (unhide HU).mono ?_
        rintro e w3 ⟨rfl, hr3, ht3⟩
        have hstep := lrel_step (x := x) (unhide HRel) (by omega) hMN hN (unhide HRow) (by omega) hr3 ht3 (fun e => ⟨unhide HE, unhide HV e⟩)
        obtain ⟨q1, q2, vs, q3, q4, q5⟩ := unhide HRel
        have hMl : M < wr.heap.size := (Array.getElem?_eq_some_iff.1 q4).1
        have q6 := (ht3.block M hMl (fun e => hMN (Option.some.inj e))).trans q4
        have c0 : w3.cell? ⟨M, j, none⟩ = some (.int .u32 (vs.getD j 0)) := by rw [cell_of_row w3 M j _ _ _ q6]; simp [u32s, List.getD, show j < vs.length by omega]
        have f0 : w3.frozen? ⟨M, j, none⟩ = false := by simp [World.frozen?, q6]
        have HS := hide hstep
        clear hstep q1 q2 q3 q4 q5 q6 hr3 ht3 hMl
        go_wp2
        go_roundw
        case rel => exact ⟨j + 1, by go_num, by omega, unhide HS⟩
        case measure => simp [intOf]; omega
      · have hu := un_err q1 he
        have hs := unhide HRe j he
        rw [← hs.1, ← hs.2] at hu
        have HU := hide hu; have HRel := hide hrel0; have HE := hide (show ¬ (R (j + 1)).e = 0 by rw [hs.2]; exact he)
        clear hu hrel0 hs he q1 q2 q3 q4 q5 hj
        go_wp2_with fail
        refine (unhide HU).mono ?_
        rintro e w3 ⟨rfl, hr3, ht3⟩
        have hstep := lrel_step (x := 0) (unhide HRel) (by omega) hMN hN (unhide HRow) (by omega) hr3 ht3 (fun e => absurd e (unhide HE))
        obtain ⟨q1, q2, vs, q3, q4, q5⟩ := unhide HRel
        have hMl : M < wr.heap.size := (Array.getElem?_eq_some_iff.1 q4).1
        have q6 := (ht3.block M hMl (fun e => hMN (Option.some.inj e))).trans q4
        have c0 : w3.cell? ⟨M, j, none⟩ = some (.int .u32 (vs.getD j 0)) := by rw [cell_of_row w3 M j _ _ _ q6]; simp [u32s, List.getD, show j < vs.length by omega]
        have f0 : w3.frozen? ⟨M, j, none⟩ = false := by simp [World.frozen?, q6]
        have HS := hide hstep
        clear hstep q1 q2 q3 q4 q5 q6 hr3 ht3 hMl
        go_wp2
        go_roundw
        case rel => exact ⟨j + 1, by go_num, by omega, unhide HS⟩
        case measure => simp [intOf]; omega
    · obtain rfl : j = n + 1 := by omega
      have HRel := hide hrel
      clear hrel hj hlt
      rw [show (((n + 1 : Nat)) : Int) = (n : Int) + 1 by omega]
      go_wp2
      go_ret
      obtain ⟨q1, q2, vs, q3, q4, q5⟩ := unhide HRel
      refine ⟨_, rfl, q1, q2, ⟨_, _, _, rfl⟩, fun he => ?_⟩
      have hE := unhide HEnd
      have hv := hE.2.2.2.2 (by rw [← hE.2.2.1]; exact he)
      have hvs : vs = (pT zs p k).v := by rw [← hv.1, ← q5 he, ← q3, List.take_length]
      refine ⟨_, n + 1, by rw [hv.2]; rfl, by omega, by simp, fun _ => ⟨M, 0, rfl, by omega, ?_⟩⟩
      rw [← hvs]
      exact u32s_lab q4
end Ex
end Go.Proofs.YtjhmglefejclpaaDoor
