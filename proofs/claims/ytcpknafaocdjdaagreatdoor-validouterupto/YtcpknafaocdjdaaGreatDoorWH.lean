/- WH: what follows, part by part: each part tells what it holds. -/
import Derived.Test.YtcpknafaocdjdaaGreatDoorWG

/- valid: what sign says, whatever opens no block. -/
namespace Go.Proofs.YtcpknafaocdjdaaGreatDoor
open Go.RowKit
namespace Vw
set_option linter.unusedVariables false
set_option linter.unusedSimpArgs false
open Ex (Ins Lies Lab)
open Gm (Mod Typ Byts ModL WfM)
/-- what sign says of call_indirect -/
def CiOk : Prop := ∀ (w : World) (N : Nat) (m : M8) (vl va vt : Value) (lo : List Int) (s : St), Wk w N m vl lo va vt s → s.la.length ≤ 1099511627776 → ∀ (n al of re : Int) (vb ve vx : Value) (M : Mod), MdL w N M m → (∀ x ∈ M.types, x.ps.length ≤ 1048576) →
    Calls Tryz.prog 121 #[.pointer (some ⟨N, 0, none⟩), .agg #[.int .u8 17, .int .i64 n, .int .u32 al, .int .u32 of, .int .u8 re, vb, ve, vx]] w fun e w' => SgP N (if 0 < M.tables.length then (at? M.types n).map fun t => ⟨t.ps ++ [127], t.re⟩ else none) e w' ∧ Below w.heap.size w w'
theorem plainO_eq {M : Mod} {op : Nat} {n al of re : Int} {bo el : List Ins} {ls : List Int} {x : Fam} (hf : fam op = some x) (h36 : ¬ (op : Int) ≤ 36) : plain M ⟨op, n, al, of, re, bo, el, ls⟩ = plainO x op M.mems.length n al := by
  unfold plain
  simp only [hf, if_neg h36]
  unfold plainO plainX alOk
  by_cases h1 : x.o = 1
  · simp only [if_pos h1, decide_eq_true_eq]
  · by_cases h4 : x.o = 4
    · simp only [if_neg h1, if_pos h4, Bool.and_eq_true, decide_eq_true_eq, Int.toNat_natCast]
    · by_cases h5 : x.o = 5
      · simp only [if_neg h1, if_neg h4, if_pos h5, decide_eq_true_eq]
      · simp only [if_neg h1, if_neg h4, if_neg h5, if_true]
theorem plain_none {M : Mod} {op : Nat} {n al of re : Int} {bo el : List Ins} {ls : List Int} (h : fam op = none ∨ (op : Int) ≤ 36) : plain M ⟨op, n, al, of, re, bo, el, ls⟩ = none := by
  unfold plain
  cases hf : fam op with
  | none => simp only [hf]
  | some x =>
    simp only [hf]
    rw [if_pos (by simpa [hf] using h)]

set_option maxRecDepth 100000 in
set_option maxHeartbeats 3200000 in
theorem sgn_any {w0 : World} {N : Nat} {M : Mod} {m : M8} {vl : Value} {lo : List Int} {s : St} {i : Ins} {vb ve : Value} {xa : Option Addr} {xc : Nat}
    (hci : CiOk) (hty : ∀ x ∈ M.types, x.ps.length ≤ 1048576) (hM : ∀ W, Below N w0 W → MdL W N M m) (hT : ∀ W, Below N w0 W → Tb W) (hme : M.mems.length ≤ 1048576)
    (hf : Ex.fit i.op i.n i.al i.of i.re i.ls) (hls : i.ls.length ≤ 1048577) (hL : Lies (fun b => b < N) i.ls.length (Lab w0 i.ls) (.slice xa i.ls.length xc)) (hne : s.la ≠ []) (hl : s.la.length ≤ 1099511627776)
    (hno : i.op ≠ 26 ∧ i.op ≠ 27 ∧ i.op ≠ 2 ∧ i.op ≠ 3 ∧ i.op ≠ 4) : SgnOk w0 N M m vl lo s i vb ve (.slice xa i.ls.length xc) := by
  intro W va vt hW h
  obtain ⟨op, n, al, of, re, bo, el, ls⟩ := i
  obtain ⟨⟨f0, f1⟩, ⟨f2, f3⟩, ⟨f4, f5⟩, f6, f7, f8⟩ := hf
  simp only at *
  have hMW := hM W hW
  by_cases o0 : op = 0
  · subst o0
    rw [show sig M lo s.la (⟨0, n, al, of, re, bo, el, ls⟩ : Ins) = some ⟨[], 0⟩ from by unfold sig; simp]
    exact sg_0 h hl n al of re vb ve _
  by_cases o1 : op = 1
  · subst o1
    rw [show sig M lo s.la (⟨1, n, al, of, re, bo, el, ls⟩ : Ins) = some ⟨[], 0⟩ from by unfold sig; simp]
    exact sg_1 h hl n al of re vb ve _
  by_cases o15 : op = 15
  · subst o15
    rw [show sig M lo s.la (⟨15, n, al, of, re, bo, el, ls⟩ : Ins) = some ⟨[s.la.getD 0 0], 0⟩ from by unfold sig; simp]
    exact sg_ret h hl n al of re vb ve _ hne
  by_cases o12 : op = 12
  · subst o12
    rw [show sig M lo s.la (⟨12, n, al, of, re, bo, el, ls⟩ : Ins) = (lbl s.la n).map fun k => ⟨[k], 0⟩ from by unfold sig; simp]
    cases hk : lbl s.la n with
    | none => exact sg_br_no h hl n al of re vb ve _ f2 (by omega) hk
    | some k => exact sg_br_yes h hl n al of re vb ve _ f2 (by omega) k hk
  by_cases o13 : op = 13
  · subst o13
    rw [show sig M lo s.la (⟨13, n, al, of, re, bo, el, ls⟩ : Ins) = (lbl s.la n).map fun k => ⟨[k, 127], k⟩ from by unfold sig; simp]
    cases hk : lbl s.la n with
    | none => exact sg_brif_no h hl n al of re vb ve _ f2 (by omega) hk
    | some k => exact sg_brif_yes h hl n al of re vb ve _ f2 (by omega) k hk
  by_cases o14 : op = 14
  · subst o14
    have hL' := Ex.Labs.move (moves_low hW) hL
    rw [show sig M lo s.la (⟨14, n, al, of, re, bo, el, ls⟩ : Ins) = (comm s.la ls).map fun k => ⟨[k, 127], 0⟩ from by unfold sig; simp]
    cases hk : comm s.la ls with
    | none => exact sg_table_no h hl n al of re vb ve _ rfl hL' f8 hls hk
    | some k => exact sg_table_yes h hl n al of re vb ve _ rfl hL' f8 hls k hk
  by_cases o16 : op = 16
  · subst o16
    rw [show sig M lo s.la (⟨16, n, al, of, re, bo, el, ls⟩ : Ins) = Gm.ty? M n from by unfold sig; simp]
    cases hk : Gm.ty? M n with
    | none => exact sg_call_no h hl n al of re vb ve _ hMW hk
    | some t => exact sg_call_yes h hl n al of re vb ve _ hMW t hk
  by_cases o17 : op = 17
  · subst o17
    rw [show sig M lo s.la (⟨17, n, al, of, re, bo, el, ls⟩ : Ins) = (if 0 < M.tables.length then (at? M.types n).map fun t => ⟨t.ps ++ [127], t.re⟩ else none) from by unfold sig; simp]
    exact hci W N m vl va vt lo s h hl n al of re vb ve _ M hMW hty
  by_cases o32 : op = 32
  · subst o32
    rw [show sig M lo s.la (⟨32, n, al, of, re, bo, el, ls⟩ : Ins) = (at? lo n).map fun k => ⟨[], k⟩ from by unfold sig; simp]
    cases hk : at? lo n with
    | none => exact sg_l32_no h hl n al of re vb ve _ hk
    | some k => exact sg_l32_yes h hl n al of re vb ve _ k hk
  by_cases o33 : op = 33
  · subst o33
    rw [show sig M lo s.la (⟨33, n, al, of, re, bo, el, ls⟩ : Ins) = (at? lo n).map fun k => ⟨[k], 0⟩ from by unfold sig; simp]
    cases hk : at? lo n with
    | none => exact sg_l33_no h hl n al of re vb ve _ hk
    | some k => exact sg_l33_yes h hl n al of re vb ve _ k hk
  by_cases o34 : op = 34
  · subst o34
    rw [show sig M lo s.la (⟨34, n, al, of, re, bo, el, ls⟩ : Ins) = (at? lo n).map fun k => ⟨[k], k⟩ from by unfold sig; simp]
    cases hk : at? lo n with
    | none => exact sg_l34_no h hl n al of re vb ve _ hk
    | some k => exact sg_l34_yes h hl n al of re vb ve _ k hk
  by_cases o35 : op = 35
  · subst o35
    rw [show sig M lo s.la (⟨35, n, al, of, re, bo, el, ls⟩ : Ins) = (at? M.globs n).map fun g => ⟨[], g.kd⟩ from by unfold sig; simp]
    exact sg_gg h hl n al of re vb ve _ hMW
  by_cases o36 : op = 36
  · subst o36
    rw [show sig M lo s.la (⟨36, n, al, of, re, bo, el, ls⟩ : Ins) = (at? M.globs n).bind fun g => if g.mu then some ⟨[g.kd], 0⟩ else none from by unfold sig; simp]
    exact sg_gs h hl n al of re vb ve _ hMW
  rw [show sig M lo s.la (⟨op, n, al, of, re, bo, el, ls⟩ : Ins) = plain M ⟨op, n, al, of, re, bo, el, ls⟩ from by unfold sig; simp [o0, o1, o15, o12, o13, o14, o16, o17, o32, o33, o34, o35, o36]]
  obtain ⟨op, rfl⟩ : ∃ k : Nat, op = k := ⟨op.toNat, by omega⟩
  have hop : op < 256 := by omega
  have hn : op ≠ 0 ∧ op ≠ 1 ∧ op ≠ 12 ∧ op ≠ 13 ∧ op ≠ 14 ∧ op ≠ 15 ∧ op ≠ 16 ∧ op ≠ 17 ∧ op ≠ 32 ∧ op ≠ 33 ∧ op ≠ 34 ∧ op ≠ 35 ∧ op ≠ 36 := by omega
  cases hfm : fam op with
  | none => rw [plain_none (Or.inl hfm)]; exact sg_plain_no h hl n al of re vb ve _ op hop hn (hT W hW) (Or.inl hfm)
  | some x =>
    by_cases h36 : (op : Int) ≤ 36
    · rw [plain_none (Or.inr h36)]; exact sg_plain_no h hl n al of re vb ve _ op hop hn (hT W hW) (Or.inr h36)
    · rw [plainO_eq hfm h36]
      obtain ⟨a3, c3, hv3, -⟩ := hMW.l.l3
      exact sg_plain_yes h hl n al of re vb ve _ op hop hn (hT W hW) hfm h36 ⟨f4, by omega⟩ hv3 hme
end Vw
end Go.Proofs.YtcpknafaocdjdaaGreatDoor

/- valid: instr, whatever the instruction. By mkvx.py. -/
namespace Go.Proofs.YtcpknafaocdjdaaGreatDoor
open Go.RowKit Go.Shelf
namespace Vw
set_option linter.unusedVariables false
set_option linter.unusedSimpArgs false
open Ex (Ins Lies Lab cnt)
open Gm (Mod Typ Byts ModL WfM)

set_option maxRecDepth 100000 in
set_option maxHeartbeats 3200000 in
theorem in26_any {w0 w : World} {N : Nat} {M : Mod} {m : M8} {vl va vt : Value} {lo : List Int} {s : St} (hw : Below N w0 w) (h : Wk w N m vl lo va vt s) (hl : s.st.length < 1099511627776) (n al of re : Int) (ba : Option Addr) (bl bc : Nat) (ea : Option Addr) (el ec : Nat) (xa : Option Addr) (xl xc : Nat) :
    Calls Tryz.prog 94 #[.pointer (some ⟨N, 0, none⟩), .agg #[.int .u8 26, .int .i64 n, .int .u32 al, .int .u32 of, .int .u8 re, .slice ba bl bc, .slice ea el ec, .slice xa xl xc]] w fun e w' => Res N m vl lo w (drp s) e w' := by
  have hlt := h.lt
  obtain ⟨W0, hW0⟩ : ∃ W0, w.alloc (.cells #[.int .u8 26, .int .i64 n, .int .u32 al, .int .u32 of, .int .u8 re, .slice ba bl bc, .slice ea el ec, .slice xa xl xc] 63) = W0 := ⟨_, rfl⟩
  have hB0 : Below w.heap.size w W0 := by rw [← hW0]; exact one_al _ _
  have hr0 : W0.heap[w.heap.size]? = some (.cells #[.int .u8 26, .int .i64 n, .int .u32 al, .int .u32 of, .int .u8 re, .slice ba bl bc, .slice ea el ec, .slice xa xl xc] 63 (0, 0)) := by rw [← hW0]; exact heap_alloc_new _ _
  obtain ⟨c0, c1, c2, c3, c4, c5, c6, c7⟩ := Ex.cel8 hr0
  have h0 := h.below hB0
  have hl0 : w.heap.size < W0.heap.size := (Array.getElem?_eq_some_iff.1 hr0).1
  have hF0 : Fw N w W0 := Fw.of hB0 (Nat.le_of_lt hlt)
  have hw0 : Below N w0 W0 := hw.trans (hB0.mono (Nat.le_of_lt hlt))
  have hc := takeAny_any h0 (Nat.le_of_lt hl)
  have hd : drp s = if (tkA s).2.1 = true then some (tkA s).2.2 else none := rfl
  obtain ⟨D, hD⟩ : ∃ D, drp s = D := ⟨_, rfl⟩
  rw [hd] at hD
  rw [hd, hD]
  have HD := hide hD
  clear hD
  have HC := hide hc; have HW := hide hW0; have HF0 := hide hF0
  generalize (tkA s).1 = k1 at *
  generalize (tkA s).2.1 = k2 at *
  generalize (tkA s).2.2 = k3 at *
  clear h h0 hc hW0 hB0 hr0 hw hw0 hF0 hd
  go_enter Tryz.func94, Tryz.ntmps94
  go_wp2_with fail
  rw [unhide HW]
  refine (unhide HC).mono ?_
  rintro e w1 ⟨rfl, hx, hf⟩
  have HX := hide hx; have HF := hide hf
  clear hx hf c0 c1 c2 c3 c4 c5 c6 c7
  go_wp2
  go_ret
  obtain ⟨vt', hx'⟩ := unhide HX
  rw [← unhide HD]
  cases k2 with
  | false => exact ⟨rfl, nofun, Fw.on (unhide HF0) (unhide HF).fw⟩
  | true => exact ⟨rfl, fun s' e => by cases e; exact ⟨_, vt', hx'⟩, Fw.on (unhide HF0) (unhide HF).fw⟩

set_option maxRecDepth 100000 in
set_option maxHeartbeats 3200000 in
theorem in27_any {w0 w : World} {N : Nat} {M : Mod} {m : M8} {vl va vt : Value} {lo : List Int} {s : St} (hw : Below N w0 w) (h : Wk w N m vl lo va vt s) (hl : s.st.length < 1099511627776) (n al of re : Int) (ba : Option Addr) (bl bc : Nat) (ea : Option Addr) (el ec : Nat) (xa : Option Addr) (xl xc : Nat) :
    Calls Tryz.prog 94 #[.pointer (some ⟨N, 0, none⟩), .agg #[.int .u8 27, .int .i64 n, .int .u32 al, .int .u32 of, .int .u8 re, .slice ba bl bc, .slice ea el ec, .slice xa xl xc]] w fun e w' => Res N m vl lo w (sel s) e w' := by
  have hlt := h.lt
  obtain ⟨W0, hW0⟩ : ∃ W0, w.alloc (.cells #[.int .u8 27, .int .i64 n, .int .u32 al, .int .u32 of, .int .u8 re, .slice ba bl bc, .slice ea el ec, .slice xa xl xc] 63) = W0 := ⟨_, rfl⟩
  have hB0 : Below w.heap.size w W0 := by rw [← hW0]; exact one_al _ _
  have hr0 : W0.heap[w.heap.size]? = some (.cells #[.int .u8 27, .int .i64 n, .int .u32 al, .int .u32 of, .int .u8 re, .slice ba bl bc, .slice ea el ec, .slice xa xl xc] 63 (0, 0)) := by rw [← hW0]; exact heap_alloc_new _ _
  obtain ⟨c0, c1, c2, c3, c4, c5, c6, c7⟩ := Ex.cel8 hr0
  have h0 := h.below hB0
  have hl0 : w.heap.size < W0.heap.size := (Array.getElem?_eq_some_iff.1 hr0).1
  have hF0 : Fw N w W0 := Fw.of hB0 (Nat.le_of_lt hlt)
  have hw0 : Below N w0 W0 := hw.trans (hB0.mono (Nat.le_of_lt hlt))
  have hc := sel_any h0 (Nat.le_of_lt hl)
  have HC := hide hc; have HW := hide hW0; have HF0 := hide hF0
  generalize sel s = k3 at *
  clear h h0 hc hW0 hB0 hr0 hw hw0 hF0
  go_enter Tryz.func94, Tryz.ntmps94
  go_wp2_with fail
  rw [unhide HW]
  refine (unhide HC).mono ?_
  rintro e w1 ⟨rfl, hx, hf⟩
  have HX := hide hx; have HF := hide hf
  clear hx hf c0 c1 c2 c3 c4 c5 c6 c7
  go_wp2
  go_ret
  exact ⟨rfl, unhide HX, Fw.on (unhide HF0) (unhide HF)⟩

end Vw
end Go.Proofs.YtcpknafaocdjdaaGreatDoor

/- valid: instr, whatever the instruction. By mkvx.py. -/
namespace Go.Proofs.YtcpknafaocdjdaaGreatDoor
open Go.RowKit Go.Shelf
namespace Vw
set_option linter.unusedVariables false
set_option linter.unusedSimpArgs false
open Ex (Ins Lies Lab cnt)
open Gm (Mod Typ Byts ModL WfM)

set_option maxRecDepth 100000 in
set_option maxHeartbeats 3200000 in
theorem in2_any {w0 w : World} {N : Nat} {M : Mod} {m : M8} {vl va vt : Value} {lo : List Int} {s : St} (hw : Below N w0 w) (h : Wk w N m vl lo va vt s) (hl : s.st.length < 1099511627776) (n al of re : Int) (ba : Option Addr) (bl bc : Nat) (ea : Option Addr) (el ec : Nat) (xa : Option Addr) (xl xc : Nat) (b : List Ins) (hbl : bl = b.length) (hlb : s.st.length + cnt b + 1 < 1099511627776) (hla : s.la.length + cnt b + 1 < 1099511627776) (hC : Ex.Code w0 (fun b => b < N) b (.slice ba b.length bc)) (hI : ∀ i ∈ b, InOk w0 N M m vl lo i) (hNw : N < w0.heap.size) :
    Calls Tryz.prog 94 #[.pointer (some ⟨N, 0, none⟩), .agg #[.int .u8 2, .int .i64 n, .int .u32 al, .int .u32 of, .int .u8 re, .slice ba bl bc, .slice ea el ec, .slice xa xl xc]] w fun e w' => Res N m vl lo w (if isR re then (blk (fun s => ins M lo b s) re re s).map (fun s => ly s re) else none) e w' := by
  have hlt := h.lt
  obtain ⟨W0, hW0⟩ : ∃ W0, w.alloc (.cells #[.int .u8 2, .int .i64 n, .int .u32 al, .int .u32 of, .int .u8 re, .slice ba bl bc, .slice ea el ec, .slice xa xl xc] 63) = W0 := ⟨_, rfl⟩
  have hB0 : Below w.heap.size w W0 := by rw [← hW0]; exact one_al _ _
  have hr0 : W0.heap[w.heap.size]? = some (.cells #[.int .u8 2, .int .i64 n, .int .u32 al, .int .u32 of, .int .u8 re, .slice ba bl bc, .slice ea el ec, .slice xa xl xc] 63 (0, 0)) := by rw [← hW0]; exact heap_alloc_new _ _
  obtain ⟨c0, c1, c2, c3, c4, c5, c6, c7⟩ := Ex.cel8 hr0
  have h0 := h.below hB0
  have hl0 : w.heap.size < W0.heap.size := (Array.getElem?_eq_some_iff.1 hr0).1
  have hF0 : Fw N w W0 := Fw.of hB0 (Nat.le_of_lt hlt)
  have hw0 : Below N w0 W0 := hw.trans (hB0.mono (Nat.le_of_lt hlt))
  subst hbl
  obtain ⟨W1, hW1⟩ : ∃ W1, W0.alloc (.cells #[.slice ba b.length bc] 58) = W1 := ⟨_, rfl⟩
  have hB1 : Below W0.heap.size W0 W1 := by rw [← hW1]; exact one_al _ _
  have hr1 : W1.heap[W0.heap.size]? = some (.cells #[.slice ba b.length bc] 58 (0, 0)) := by rw [← hW1]; exact heap_alloc_new _ _
  have hN0 : N < W0.heap.size := Nat.lt_of_lt_of_le hlt hB0.size
  have hbk := block_any (ls := [b]) (vs := [.slice ba b.length bc]) (g := W0.heap.size) (cp := 1) (M := M) (hw0.trans (hB1.mono (Nat.le_of_lt hN0))) (h0.below hB1) (by simpa using hlb) (by simpa using hla) hl (by simp) (by simp) hr1 (by omega) (fun j hj => match j, hj with | 0, _ => ⟨ba, bc, rfl, hC⟩) (by simpa using hI) hNw re re
  have hbe : blks M lo re re [b] s = blk (fun s => ins M lo b s) re re s := by
    simp only [blks]
    cases blk (fun s => ins M lo b s) re re s <;> rfl
  have hsz : W0.heap.size = w.heap.size + 1 := by rw [← hW0]; simp
  rw [hbe, hsz] at hbk
  have HC := hide hbk; have HW := hide hW0; have HW1 := hide hW1; have HF0 := hide (Fw.on hF0 (Fw.of hB1 (Nat.le_of_lt hN0)))
  obtain ⟨k3, hk3⟩ : ∃ k3, (if isR re then (blk (fun s => ins M lo b s) re re s).map (fun s => ly s re) else none) = k3 := ⟨_, rfl⟩
  rw [hk3] at HC ⊢
  clear h h0 hbk hbe hk3 hsz hW0 hB0 hr0 hw hw0 hF0 hW1 hB1 hr1 hC hI
  go_enter Tryz.func94, Tryz.ntmps94
  go_wp2_with fail
  rw [unhide HW, unhide HW1]
  refine (unhide HC).mono ?_
  rintro e w1 ⟨rfl, hx, hf⟩
  have HX := hide hx; have HF := hide hf
  clear hx hf c0 c1 c2 c3 c4 c5 c6 c7
  go_wp2
  go_ret
  exact ⟨rfl, unhide HX, Fw.on (unhide HF0) (unhide HF)⟩

set_option maxRecDepth 100000 in
set_option maxHeartbeats 3200000 in
theorem in3_any {w0 w : World} {N : Nat} {M : Mod} {m : M8} {vl va vt : Value} {lo : List Int} {s : St} (hw : Below N w0 w) (h : Wk w N m vl lo va vt s) (hl : s.st.length < 1099511627776) (n al of re : Int) (ba : Option Addr) (bl bc : Nat) (ea : Option Addr) (el ec : Nat) (xa : Option Addr) (xl xc : Nat) (b : List Ins) (hbl : bl = b.length) (hlb : s.st.length + cnt b + 1 < 1099511627776) (hla : s.la.length + cnt b + 1 < 1099511627776) (hC : Ex.Code w0 (fun b => b < N) b (.slice ba b.length bc)) (hI : ∀ i ∈ b, InOk w0 N M m vl lo i) (hNw : N < w0.heap.size) :
    Calls Tryz.prog 94 #[.pointer (some ⟨N, 0, none⟩), .agg #[.int .u8 3, .int .i64 n, .int .u32 al, .int .u32 of, .int .u8 re, .slice ba bl bc, .slice ea el ec, .slice xa xl xc]] w fun e w' => Res N m vl lo w (if isR re then (blk (fun s => ins M lo b s) 0 re s).map (fun s => ly s re) else none) e w' := by
  have hlt := h.lt
  obtain ⟨W0, hW0⟩ : ∃ W0, w.alloc (.cells #[.int .u8 3, .int .i64 n, .int .u32 al, .int .u32 of, .int .u8 re, .slice ba bl bc, .slice ea el ec, .slice xa xl xc] 63) = W0 := ⟨_, rfl⟩
  have hB0 : Below w.heap.size w W0 := by rw [← hW0]; exact one_al _ _
  have hr0 : W0.heap[w.heap.size]? = some (.cells #[.int .u8 3, .int .i64 n, .int .u32 al, .int .u32 of, .int .u8 re, .slice ba bl bc, .slice ea el ec, .slice xa xl xc] 63 (0, 0)) := by rw [← hW0]; exact heap_alloc_new _ _
  obtain ⟨c0, c1, c2, c3, c4, c5, c6, c7⟩ := Ex.cel8 hr0
  have h0 := h.below hB0
  have hl0 : w.heap.size < W0.heap.size := (Array.getElem?_eq_some_iff.1 hr0).1
  have hF0 : Fw N w W0 := Fw.of hB0 (Nat.le_of_lt hlt)
  have hw0 : Below N w0 W0 := hw.trans (hB0.mono (Nat.le_of_lt hlt))
  subst hbl
  obtain ⟨W1, hW1⟩ : ∃ W1, W0.alloc (.cells #[.slice ba b.length bc] 58) = W1 := ⟨_, rfl⟩
  have hB1 : Below W0.heap.size W0 W1 := by rw [← hW1]; exact one_al _ _
  have hr1 : W1.heap[W0.heap.size]? = some (.cells #[.slice ba b.length bc] 58 (0, 0)) := by rw [← hW1]; exact heap_alloc_new _ _
  have hN0 : N < W0.heap.size := Nat.lt_of_lt_of_le hlt hB0.size
  have hbk := block_any (ls := [b]) (vs := [.slice ba b.length bc]) (g := W0.heap.size) (cp := 1) (M := M) (hw0.trans (hB1.mono (Nat.le_of_lt hN0))) (h0.below hB1) (by simpa using hlb) (by simpa using hla) hl (by simp) (by simp) hr1 (by omega) (fun j hj => match j, hj with | 0, _ => ⟨ba, bc, rfl, hC⟩) (by simpa using hI) hNw 0 re
  have hbe : blks M lo 0 re [b] s = blk (fun s => ins M lo b s) 0 re s := by
    simp only [blks]
    cases blk (fun s => ins M lo b s) 0 re s <;> rfl
  have hsz : W0.heap.size = w.heap.size + 1 := by rw [← hW0]; simp
  rw [hbe, hsz] at hbk
  have HC := hide hbk; have HW := hide hW0; have HW1 := hide hW1; have HF0 := hide (Fw.on hF0 (Fw.of hB1 (Nat.le_of_lt hN0)))
  obtain ⟨k3, hk3⟩ : ∃ k3, (if isR re then (blk (fun s => ins M lo b s) 0 re s).map (fun s => ly s re) else none) = k3 := ⟨_, rfl⟩
  rw [hk3] at HC ⊢
  clear h h0 hbk hbe hk3 hsz hW0 hB0 hr0 hw hw0 hF0 hW1 hB1 hr1 hC hI
  go_enter Tryz.func94, Tryz.ntmps94
  go_wp2_with fail
  rw [unhide HW, unhide HW1]
  refine (unhide HC).mono ?_
  rintro e w1 ⟨rfl, hx, hf⟩
  have HX := hide hx; have HF := hide hf
  clear hx hf c0 c1 c2 c3 c4 c5 c6 c7
  go_wp2
  go_ret
  exact ⟨rfl, unhide HX, Fw.on (unhide HF0) (unhide HF)⟩

end Vw
end Go.Proofs.YtcpknafaocdjdaaGreatDoor

/- valid: instr, whatever the instruction. By mkvx.py. -/
namespace Go.Proofs.YtcpknafaocdjdaaGreatDoor
open Go.RowKit Go.Shelf
namespace Vw
set_option linter.unusedVariables false
set_option linter.unusedSimpArgs false
open Ex (Ins Lies Lab cnt)
open Gm (Mod Typ Byts ModL WfM)

set_option maxRecDepth 100000 in
set_option maxHeartbeats 3200000 in
theorem in4_any {w0 w : World} {N : Nat} {M : Mod} {m : M8} {vl va vt : Value} {lo : List Int} {s : St} (hw : Below N w0 w) (h : Wk w N m vl lo va vt s) (hl : s.st.length < 1099511627776) (n al of re : Int) (ba : Option Addr) (bl bc : Nat) (ea : Option Addr) (el ec : Nat) (xa : Option Addr) (xl xc : Nat) (b ee : List Ins) (hbl : bl = b.length) (hel : el = ee.length) (hlb : s.st.length + cnt b + cnt ee + 1 < 1099511627776) (hla : s.la.length + cnt b + cnt ee + 1 < 1099511627776) (hC : Ex.Code w0 (fun b => b < N) b (.slice ba b.length bc)) (hCe : Ex.Code w0 (fun b => b < N) ee (.slice ea ee.length ec)) (hI : ∀ i ∈ b, InOk w0 N M m vl lo i) (hIe : ∀ i ∈ ee, InOk w0 N M m vl lo i) (hNw : N < w0.heap.size) :
    Calls Tryz.prog 94 #[.pointer (some ⟨N, 0, none⟩), .agg #[.int .u8 4, .int .i64 n, .int .u32 al, .int .u32 of, .int .u8 re, .slice ba bl bc, .slice ea el ec, .slice xa xl xc]] w fun e w' => Res N m vl lo w ((tk s 127).bind fun s => (if isR re then (blk (fun s => ins M lo b s) re re s).bind fun s => (blk (fun s => ins M lo ee s) re re s).map fun s => ly s re else none)) e w' := by
  have hlt := h.lt
  obtain ⟨W0, hW0⟩ : ∃ W0, w.alloc (.cells #[.int .u8 4, .int .i64 n, .int .u32 al, .int .u32 of, .int .u8 re, .slice ba bl bc, .slice ea el ec, .slice xa xl xc] 63) = W0 := ⟨_, rfl⟩
  have hB0 : Below w.heap.size w W0 := by rw [← hW0]; exact one_al _ _
  have hr0 : W0.heap[w.heap.size]? = some (.cells #[.int .u8 4, .int .i64 n, .int .u32 al, .int .u32 of, .int .u8 re, .slice ba bl bc, .slice ea el ec, .slice xa xl xc] 63 (0, 0)) := by rw [← hW0]; exact heap_alloc_new _ _
  obtain ⟨c0, c1, c2, c3, c4, c5, c6, c7⟩ := Ex.cel8 hr0
  have h0 := h.below hB0
  have hl0 : w.heap.size < W0.heap.size := (Array.getElem?_eq_some_iff.1 hr0).1
  have hF0 : Fw N w W0 := Fw.of hB0 (Nat.le_of_lt hlt)
  have hw0 : Below N w0 W0 := hw.trans (hB0.mono (Nat.le_of_lt hlt))
  subst hbl hel
  have hN0 : N < W0.heap.size := Nat.lt_of_lt_of_le hlt hB0.size
  have htk := take_any h0 (Nat.le_of_lt hl) 127
  have HC := hide hC; have HCe := hide hCe; have HI := hide hI; have HIe := hide hIe; have HTk := hide htk; have HW := hide hW0; have HF0 := hide hF0; have Hw0 := hide hw0; have HR0 := hide hr0; have HLb := hide hlb; have HLa := hide hla; have HHb := hide h.hb
  clear h h0 htk hW0 hB0 hr0 hw hw0 hF0 hC hCe hI hIe hlb hla
  cases ho : tk s 127 with
  | none =>
    rw [ho] at HTk
    simp only [Option.bind_none]
    clear ho HC HCe HI HIe
    go_enter Tryz.func94, Tryz.ntmps94
    go_wp2_with fail
    rw [unhide HW]
    refine (unhide HTk).mono ?_
    rintro e w1 ⟨rfl, -, hf⟩
    have HF := hide hf
    clear hf c0 c1 c2 c3 c4 c5 c6 c7
    go_wp2
    go_ret
    exact ⟨rfl, nofun, Fw.on (unhide HF0) (unhide HF).fw⟩
  | some s1 =>
    rw [ho] at HTk
    simp only [Option.bind_some]
    have hkk := tk_k (unhide HHb) ho
    have HKk := hide hkk
    obtain ⟨k3, hk3⟩ : ∃ k3, (if isR re then ((blk (fun s => ins M lo b s) re re s1).bind fun s => (blk (fun s => ins M lo ee s) re re s).map fun s => ly s re) else none) = k3 := ⟨_, rfl⟩
    rw [hk3]
    have HK3 := hide hk3
    clear ho hkk hk3
    go_enter Tryz.func94, Tryz.ntmps94
    go_wp2_with fail
    rw [unhide HW]
    refine (unhide HTk).mono ?_
    rintro er w1 ⟨rfl, hx, hf⟩
    obtain ⟨vt1, hwk1⟩ := hx s1 rfl
    have hb1 : Below N w0 w1 := (unhide Hw0).trans hf.lo
    have hr1 := (hf.hi w.heap.size hl0 (by omega)).trans (unhide HR0)
    clear c0 c1 c2 c3 c4 c5 c6 c7
    obtain ⟨c0, c1, c2, c3, c4, c5, c6, c7⟩ := Ex.cel8 hr1
    have hl1 : w.heap.size < w1.heap.size := (Array.getElem?_eq_some_iff.1 hr1).1
    obtain ⟨W2, hW2⟩ : ∃ W2, w1.alloc (.cells #[.slice ba b.length bc, .slice ea ee.length ec] 58) = W2 := ⟨_, rfl⟩
    have hB2 : Below w1.heap.size w1 W2 := by rw [← hW2]; exact one_al _ _
    have hr2 : W2.heap[w1.heap.size]? = some (.cells #[.slice ba b.length bc, .slice ea ee.length ec] 58 (0, 0)) := by rw [← hW2]; exact heap_alloc_new _ _
    have hN1 : N < w1.heap.size := hwk1.lt
    have hkk := unhide HKk; have hlb := unhide HLb; have hla := unhide HLa
    have q1 := hkk.1; have q2 := hkk.2.1
    have hbk := block_any (ls := [b, ee]) (vs := [.slice ba b.length bc, .slice ea ee.length ec]) (g := w1.heap.size) (cp := 2) (M := M) (hb1.trans (hB2.mono (Nat.le_of_lt hN1))) (hwk1.below hB2) (by intro l hm; simp at hm; rcases hm with rfl | rfl <;> omega) (by intro l hm; rw [q2]; simp at hm; rcases hm with rfl | rfl <;> omega) (by omega) (by simp) (by simp) hr2 (by omega) (fun j hj => by
      match j, hj with
      | 0, _ => exact ⟨ba, bc, rfl, unhide HC⟩
      | 1, _ => exact ⟨ea, ec, rfl, unhide HCe⟩) (by intro l hm; simp at hm; rcases hm with rfl | rfl; exact unhide HI; exact unhide HIe) hNw re re
    have hbe : (blks M lo re re [b, ee] s1).map (fun s => ly s re) = ((blk (fun s => ins M lo b s) re re s1).bind fun s => (blk (fun s => ins M lo ee s) re re s).map fun s => ly s re) := by
      simp only [blks]
      cases blk (fun s => ins M lo b s) re re s1 with
      | none => rfl
      | some s2 =>
        simp only [Option.bind_some]
        cases blk (fun s => ins M lo ee s) re re s2 <;> rfl
    rw [hbe] at hbk
    have HCb := hide hbk; have HW2 := hide hW2; have HF2 := hide (Fw.on (Fw.on (unhide HF0) hf.fw) (Fw.of hB2 (Nat.le_of_lt hN1)))
    rw [unhide HK3] at HCb
    clear hx hf hwk1 hb1 hr1 hW2 hB2 hr2 hkk hlb hla q1 q2 hbk hbe HF0 HC HCe HI HIe HTk
    go_wp2_with fail
    rw [unhide HW2]
    refine (unhide HCb).mono ?_
    rintro er w3 ⟨rfl, hx, hf⟩
    have HX := hide hx; have HF := hide hf
    clear hx hf c0 c1 c2 c3 c4 c5 c6 c7
    go_wp2
    go_ret
    exact ⟨rfl, unhide HX, Fw.on (unhide HF2) (unhide HF)⟩

end Vw
end Go.Proofs.YtcpknafaocdjdaaGreatDoor

/- valid: instr, whatever the instruction. By mkvx.py. -/
namespace Go.Proofs.YtcpknafaocdjdaaGreatDoor
open Go.RowKit Go.Shelf
namespace Vw
set_option linter.unusedVariables false
set_option linter.unusedSimpArgs false
open Ex (Ins Lies Lab cnt)
open Gm (Mod Typ Byts ModL WfM)

theorem sig_ps {M : Mod} {lo la : List Int} {i : Ins} {t : Typ} (hty : ∀ x ∈ M.types, x.ps.length ≤ 1048576) (h : sig M lo la i = some t) : t.ps.length ≤ 1048577 := by
  have hpk : ∀ (a b : Int) (k : Nat), (pk a b k).length ≤ 4 := fun a b k => by unfold pk; have h1 := List.length_filter_le (fun c : Int => c != 0) ([a, b].take k); simp at h1 ⊢; omega
  unfold sig at h
  by_cases c : i.op = 0 ∨ i.op = 1
  · rw [if_pos c] at h
    cases h; simp
  rw [if_neg c] at h; clear c
  by_cases c : i.op = 15
  · rw [if_pos c] at h
    cases h; simp
  rw [if_neg c] at h; clear c
  by_cases c : i.op = 12
  · rw [if_pos c] at h
    cases hq : lbl la i.n with
    | none => rw [hq] at h; cases h
    | some k => rw [hq] at h; cases h; simp
  rw [if_neg c] at h; clear c
  by_cases c : i.op = 13
  · rw [if_pos c] at h
    cases hq : lbl la i.n with
    | none => rw [hq] at h; cases h
    | some k => rw [hq] at h; cases h; simp
  rw [if_neg c] at h; clear c
  by_cases c : i.op = 14
  · rw [if_pos c] at h
    cases hq : comm la i.ls with
    | none => rw [hq] at h; cases h
    | some k => rw [hq] at h; cases h; simp
  rw [if_neg c] at h; clear c
  by_cases c : i.op = 16
  · rw [if_pos c] at h
    have hm : t ∈ M.types := by
      unfold Gm.ty? at h; split at h
      · cases h
      · cases hq : M.funcs[i.n.toNat]? with
        | none => rw [hq] at h; cases h
        | some f => rw [hq] at h; exact List.mem_of_getElem? h
    have := hty t hm; omega
  rw [if_neg c] at h; clear c
  by_cases c : i.op = 17
  · rw [if_pos c] at h
    split at h
    · cases hq : at? M.types i.n with
      | none => rw [hq] at h; cases h
      | some x =>
        rw [hq] at h; cases h
        unfold at? at hq; split at hq
        · cases hq
        · have := hty x (List.mem_of_getElem? hq); simp; omega
    · cases h
  rw [if_neg c] at h; clear c
  by_cases c : i.op = 32
  · rw [if_pos c] at h
    cases hq : at? lo i.n with
    | none => rw [hq] at h; cases h
    | some k => rw [hq] at h; cases h; simp
  rw [if_neg c] at h; clear c
  by_cases c : i.op = 33
  · rw [if_pos c] at h
    cases hq : at? lo i.n with
    | none => rw [hq] at h; cases h
    | some k => rw [hq] at h; cases h; simp
  rw [if_neg c] at h; clear c
  by_cases c : i.op = 34
  · rw [if_pos c] at h
    cases hq : at? lo i.n with
    | none => rw [hq] at h; cases h
    | some k => rw [hq] at h; cases h; simp
  rw [if_neg c] at h; clear c
  by_cases c : i.op = 35
  · rw [if_pos c] at h
    cases hq : at? M.globs i.n with
    | none => rw [hq] at h; cases h
    | some k => rw [hq] at h; cases h; simp
  rw [if_neg c] at h; clear c
  by_cases c : i.op = 36
  · rw [if_pos c] at h
    cases hq : at? M.globs i.n with
    | none => rw [hq] at h; cases h
    | some k =>
      rw [hq, Option.bind_some] at h
      split at h
      · cases h; simp
      · cases h
  rw [if_neg c] at h; clear c
  unfold plain at h
  split at h
  · cases h
  rename_i x hx
  have := hpk x.x x.y 2
  split at h
  · cases h
  split at h
  · split at h <;> cases h; simp only; omega
  split at h
  · split at h <;> cases h; simp only; omega
  split at h
  · split at h <;> cases h; simp only; omega
  cases h; simp only; omega

/-- instr of every instruction of a list -/
theorem instr_any {w0 : World} {N : Nat} {M : Mod} {m : M8} {vl : Value} {lo : List Int} (hci : CiOk) (hNw : N < w0.heap.size)
    (hM : ∀ W, Below N w0 W → MdL W N M m) (hT : ∀ W, Below N w0 W → Tb W) (hme : M.mems.length ≤ 1048576) (hty : ∀ x ∈ M.types, x.ps.length ≤ 1048576) (l : List Ins) : Ex.Wf l → Ex.Sz 1048576 l → ∀ i ∈ l, InOk w0 N M m vl lo i := by
  refine Ex.ind2 (P := fun l => Ex.Wf l → Ex.Sz 1048576 l → ∀ i ∈ l, InOk w0 N M m vl lo i) (fun l ih hwf hsz i hi => ?_) l
  have hwi := Ex.Wf_get hwf i hi
  have hsi := Ex.Sz_get hsz i hi
  have hIb := (ih i hi).1 hwi.2.1 hsi.2.2.2.1
  have hIe := (ih i hi).2 hwi.2.2 hsi.2.2.2.2
  intro W va vt s ba bc ea ec xa xc hW hwk hne hl hla hCb hCe hL
  have hls := hsi.2.2.1
  have hft := hwi.1
  unfold ins1
  by_cases o26 : i.op = 26
  · rw [if_pos o26, o26]; exact in26_any (M := M) hW hwk (by omega) _ _ _ _ _ _ _ _ _ _ _ _ _
  by_cases o27 : i.op = 27
  · rw [if_neg o26, if_pos o27, o27]; exact in27_any (M := M) hW hwk (by omega) _ _ _ _ _ _ _ _ _ _ _ _ _
  by_cases o2 : i.op = 2
  · rw [if_neg o26, if_neg o27, if_pos o2, o2]; exact in2_any hW hwk (by omega) _ _ _ _ _ _ _ _ _ _ _ _ _ i.body rfl (by omega) (by omega) hCb hIb hNw
  by_cases o3 : i.op = 3
  · rw [if_neg o26, if_neg o27, if_neg o2, if_pos o3, o3]; exact in3_any hW hwk (by omega) _ _ _ _ _ _ _ _ _ _ _ _ _ i.body rfl (by omega) (by omega) hCb hIb hNw
  by_cases o4 : i.op = 4
  · rw [if_neg o26, if_neg o27, if_neg o2, if_neg o3, if_pos o4, o4]; exact in4_any hW hwk (by omega) _ _ _ _ _ _ _ _ _ _ _ _ _ i.body i.els rfl rfl (by omega) (by omega) hCb hCe hIb hIe hNw
  rw [if_neg o26, if_neg o27, if_neg o2, if_neg o3, if_neg o4]
  exact flat_any hW hwk (by omega) i ba _ bc ea _ ec xa _ xc hft.1 (sgn_any hci hty hM hT hme hft (by omega) hL hne (by omega) ⟨o26, o27, o2, o3, o4⟩) (fun t ht => sig_ps hty ht) ⟨o26, o27, o2, o3, o4⟩
end Vw
end Go.Proofs.YtcpknafaocdjdaaGreatDoor
