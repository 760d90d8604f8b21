/- GS: what follows, part by part: each part tells what it holds. -/
import Derived.Test.YtheopjcmhclgdaaGreatDoorVcG
import Derived.Test.YtheopjcmhclgdaaGreatDoorGR
import Derived.Deep.Cut
import Derived.Deep.RegionHeld3
import Derived.Test.YtheopjcmhclgdaaGreatDoorVcR0

/- Which code fits a function of a module: plain mathematics; shape.typeAt, Type, globalThere, calls. -/
namespace Go.Proofs.YtheopjcmhclgdaaGreatDoor
open Go.RowKit
namespace Vc
set_option linter.unusedVariables false
set_option linter.unusedSimpArgs false
open Gm (Mod Typ Fnc Glo Byts ModL WfM TypC TyYes TyNo TyB ty?)
def atT (M : Mod) (n : Int) : Option Typ := if n < 0 then none else M.types[n.toNat]?
/-- a call of such a type -/
def cls (o : Option Typ) (x : In) (ahead : Nat) : Bool := match o with
  | none => false
  | some t => decide (x.src.length = ahead + t.ps.length) && (decide (x.dst ≠ -1) == decide (t.re ≠ 0))
def gth (M : Mod) (n : Int) : Bool := decide (0 ≤ n) && decide (n < M.globs.length)
def gmu (M : Mod) (n : Int) : Bool := match M.globs[n.toNat]? with
  | none => false
  | some g => g.mu
/-- is it one for a module? -/
def mnt (M : Mod) (x : In) : Bool :=
  if x.op = 63 ∨ x.op = 64 then decide (0 < M.mems.length) else if x.op = 35 then gth M x.n else if x.op = 36 then gth M x.n && gmu M x.n
  else if x.op = 16 then cls (ty? M x.n) x 0 else if x.op = 17 then decide (0 < M.tables.length) && cls (atT M x.n) x 1 else !acc x.op || decide (0 < M.mems.length)
theorem start2s {w : World} {ms : Array Value} {t t2 : TypeId} {x0 x1 : Value} : ∃ W0, ((w.alloc (.cells ms t)).alloc (.cells #[x0, x1] t2)) = W0 ∧ W0.heap[w.heap.size]? = some (.cells ms t (0, 0)) ∧ W0.heap[w.heap.size + 1]? = some (.cells #[x0, x1] t2 (0, 0)) ∧ w.heap.size + 1 < W0.heap.size ∧ Below w.heap.size w W0 := Gm.start2

set_option maxRecDepth 100000 in
set_option maxHeartbeats 1600000 in
theorem tat_any {M : Mod} {g : Nat → Prop} {v0 v1 v2 v3 v4 v5 v6 v7 : Value} {w : World} (hM : ModL w g M v0 v1 v2 v3 v4 v5 v6 v7) (f : Int) : TyB 38 (.agg #[v0, v1, v2, v3, v4, v5, v6, v7]) w g f (atT M f) := by
  obtain ⟨a0, c0, hv0⟩ := hM.l0.sl
  by_cases h0 : f < 0
  · rw [show atT M f = none by unfold atT; rw [if_pos h0]]
    show TyNo _ _ _ _
    unfold TyNo
    subst hv0
    clear hM
    generalize M.types.length = nt at *
    obtain ⟨W0, hW0, b1, b2, b3, b4⟩ := start2s (w := w) (ms := #[.slice a0 nt c0, v1, v2, v3, v4, v5, v6, v7]) (t := 49) (t2 := 97) (x0 := .slice none 0 0) (x1 := .int .u8 0)
    have m0 : W0.cell? ⟨w.heap.size, 0, none⟩ = some (.slice a0 nt c0) := by rw [cell_of_row W0 _ 0 _ _ _ b1]; rfl
    obtain ⟨z0, z1⟩ := Gm.cel2 b2
    have fz : ∀ j, W0.frozen? ⟨w.heap.size + 1, j, none⟩ = false := fun j => frozen_of_row W0 _ j _ _ b2
    have HW := hide hW0; have HR := hide b2; have HB := hide b4
    clear hW0 b1 b2 b4
    go_enter Tryz.func38, Tryz.ntmps38
    go_upto_region 1 with fail
    rw [unhide HW]
    go_wp2
    obtain ⟨q0, q1, q2⟩ := Gm.fin2 (unhide HR) (unhide HB) (by omega) (.slice none 0 0) (.int .u8 0)
    first
      | exact bodyPost_ret (v := .tuple #[.agg #[.slice none 0 0, .int .u8 0], .bool false]) (by simp [results, Tryz.results38, go_sem, z0, z1]) rfl ⟨rfl, unhide HB⟩
      | exact bodyPost_ret (v := .tuple #[.agg #[.slice none 0 0, .int .u8 0], .bool false]) (by simp [results, Tryz.results38, go_sem, q0, q1]) rfl ⟨rfl, q2⟩
  by_cases h1 : (M.types.length : Int) ≤ f
  · rw [show atT M f = none by unfold atT; rw [if_neg h0, List.getElem?_eq_none (by omega)]]
    show TyNo _ _ _ _
    unfold TyNo
    subst hv0
    clear hM
    generalize M.types.length = nt at *
    obtain ⟨W0, hW0, b1, b2, b3, b4⟩ := start2s (w := w) (ms := #[.slice a0 nt c0, v1, v2, v3, v4, v5, v6, v7]) (t := 49) (t2 := 97) (x0 := .slice none 0 0) (x1 := .int .u8 0)
    have m0 : W0.cell? ⟨w.heap.size, 0, none⟩ = some (.slice a0 nt c0) := by rw [cell_of_row W0 _ 0 _ _ _ b1]; rfl
    obtain ⟨z0, z1⟩ := Gm.cel2 b2
    have fz : ∀ j, W0.frozen? ⟨w.heap.size + 1, j, none⟩ = false := fun j => frozen_of_row W0 _ j _ _ b2
    have d0 : decide (f < 0) = false := decide_eq_false h0
    have d1 : f ≥ (nt : Int) := h1
    have HW := hide hW0; have HR := hide b2; have HB := hide b4
    clear hW0 b1 b2 b4 h0
    go_enter Tryz.func38, Tryz.ntmps38
    go_upto_region 1 with fail
    rw [unhide HW]
    go_wp2
    obtain ⟨q0, q1, q2⟩ := Gm.fin2 (unhide HR) (unhide HB) (by omega) (.slice none 0 0) (.int .u8 0)
    first
      | exact bodyPost_ret (v := .tuple #[.agg #[.slice none 0 0, .int .u8 0], .bool false]) (by simp [results, Tryz.results38, go_sem, z0, z1]) rfl ⟨rfl, unhide HB⟩
      | exact bodyPost_ret (v := .tuple #[.agg #[.slice none 0 0, .int .u8 0], .bool false]) (by simp [results, Tryz.results38, go_sem, q0, q1]) rfl ⟨rfl, q2⟩
  · obtain ⟨k, rfl⟩ : ∃ k : Nat, f = k := ⟨f.toNat, by omega⟩
    have hk : k < M.types.length := by omega
    rw [show atT M k = some M.types[k] by unfold atT; rw [if_neg h0, Int.toNat_natCast, List.getElem?_eq_getElem hk]]
    show TyYes _ _ _ _ _ _
    unfold TyYes
    clear hv0
    obtain ⟨b', o', c0, rfl, -, hb', -, cs', -, ⟨vt, rfl, hvt⟩, hcs'⟩ := hM.l0.at hk
    have HBy := hide hvt
    obtain ⟨ta, tc, rfl, -⟩ := hvt
    have e2 : w.cell? ⟨b', o' + k * 2, none⟩ = some (.slice ta (M.types[k]).ps.length tc) := hcs' 0 _ rfl
    have e3 : w.cell? ⟨b', o' + k * 2 + 1, none⟩ = some (.int .u8 (M.types[k]).re) := hcs' 1 _ rfl
    clear hM hcs'
    generalize M.types[k] = t at *
    generalize M.types.length = nt at *
    obtain ⟨W0, hW0, b1, b2, b3, b4⟩ := start2s (w := w) (ms := #[.slice (some ⟨b', o', none⟩) nt c0, v1, v2, v3, v4, v5, v6, v7]) (t := 49) (t2 := 97) (x0 := .slice none 0 0) (x1 := .int .u8 0)
    have m0 : W0.cell? ⟨w.heap.size, 0, none⟩ = some (.slice (some ⟨b', o', none⟩) nt c0) := by rw [cell_of_row W0 _ 0 _ _ _ b1]; rfl
    obtain ⟨z0, z1⟩ := Gm.cel2 b2
    have fz : ∀ j, W0.frozen? ⟨w.heap.size + 1, j, none⟩ = false := fun j => frozen_of_row W0 _ j _ _ b2
    have e4 : W0.cell? ⟨b', o' + k * 2, none⟩ = some (.slice ta t.ps.length tc) := (b4.cell (p := ⟨b', o' + k * 2, none⟩) hb').trans e2
    have e5 : W0.cell? ⟨b', o' + k * 2 + 1, none⟩ = some (.int .u8 t.re) := (b4.cell (p := ⟨b', o' + k * 2 + 1, none⟩) hb').trans e3
    have nb' : ¬ b' = w.heap.size + 1 := by omega
    have ns : ¬ w.heap.size = w.heap.size + 1 := by omega
    have hkn : (k : Int) < nt := by omega
    have d1 : decide ((nt : Int) ≤ (k : Int)) = false := decide_eq_false (by omega)
    have d2 : decide ((k : Int) ≥ (nt : Int)) = false := decide_eq_false (by omega)
    have dn2 : decide (nt ≤ k) = false := decide_eq_false (by omega)
    have HW := hide hW0; have HR := hide b2; have HB := hide b4
    clear hW0 b1 b2 b4 e2 e3 h0 h1 hk
    go_enter Tryz.func38, Tryz.ntmps38
    go_upto_region 1 with fail
    rw [unhide HW]
    go_wp2
    obtain ⟨q0, q1, q2⟩ := Gm.fin2 (unhide HR) (unhide HB) (by omega) (.slice ta t.ps.length tc) (.int .u8 t.re)
    refine bodyPost_ret (v := .tuple #[.agg #[.slice ta t.ps.length tc, .int .u8 t.re], .bool true]) (by simp [results, Tryz.results38, go_sem, q0, q1]) rfl ⟨_, _, rfl, unhide HBy, q2⟩
end Vc
end Go.Proofs.YtheopjcmhclgdaaGreatDoor

/- shape.globalThere, calls, Type. -/
namespace Go.Proofs.YtheopjcmhclgdaaGreatDoor
open Go.RowKit
namespace Vc
set_option linter.unusedVariables false
set_option linter.unusedSimpArgs false
open Gm (Mod Typ Fnc Glo Byts ModL WfM TypC TyYes TyNo TyB ty?)
theorem dec_f {p : Prop} [Decidable p] (h : ¬ p) : decide p = false := decide_eq_false h

set_option maxRecDepth 100000 in
set_option maxHeartbeats 1600000 in
theorem gth_any {M : Mod} {g : Nat → Prop} {v0 v1 v2 v3 v4 v5 v6 v7 : Value} {w : World} (hM : ModL w g M v0 v1 v2 v3 v4 v5 v6 v7) (n : Int) :
    Calls Tryz.prog 39 #[.agg #[v0, v1, v2, v3, v4, v5, v6, v7], .int .i64 n] w fun e w' => e = .returned (.bool (gth M n)) ∧ Below w.heap.size w w' := by
  obtain ⟨a4, c4, rfl⟩ := hM.l4.sl
  clear hM
  have hd : gth M n = (decide (0 ≤ n) && decide (n < (M.globs.length : Int))) := rfl
  rw [hd]
  generalize M.globs.length = ng
  clear hd
  by_cases h0 : 0 ≤ n
  · by_cases h1 : n < (ng : Int)
    · go_enter Tryz.func39, Tryz.ntmps39
      go_wp2
      go_ret
      exact ⟨ret_bool (by simp [h0, h1]), one_alloc _ _⟩
    · have d1 : decide (n < (ng : Int)) = false := decide_eq_false h1
      go_enter Tryz.func39, Tryz.ntmps39
      go_wp2
      go_ret
      exact ⟨ret_bool (by simp [h1]), one_alloc _ _⟩
  · have d0 : decide (0 ≤ n) = false := decide_eq_false h0
    go_enter Tryz.func39, Tryz.ntmps39
    go_wp2
    go_ret
    exact ⟨ret_bool (by simp [h0]), one_alloc _ _⟩

def inB (x : In) (v : Value) : Array Value := #[.int .u8 (x.op : Int), .int .i64 x.dst, v, .int .i64 x.n, .int .u32 x.of]
theorem start5 {w : World} {t t2 : TypeId} {x0 x1 y0 y1 y2 y3 y4 : Value} : ∃ W0, ((w.alloc (.cells #[x0, x1] t)).alloc (.cells #[y0, y1, y2, y3, y4] t2)) = W0 ∧ W0.heap[w.heap.size]? = some (.cells #[x0, x1] t (0, 0)) ∧ W0.heap[w.heap.size + 1]? = some (.cells #[y0, y1, y2, y3, y4] t2 (0, 0)) ∧ w.heap.size + 1 < W0.heap.size ∧ Below w.heap.size w W0 := by
  have e2 : (w.alloc (.cells #[x0, x1] t)).heap.size = w.heap.size + 1 := by simp
  have hn := heap_alloc_new (w.alloc (.cells #[x0, x1] t)) (.cells #[y0, y1, y2, y3, y4] t2)
  rw [e2] at hn
  exact ⟨_, rfl, (Below.heap_alloc _ _ _ (by simp)).trans (heap_alloc_new w (.cells #[x0, x1] t)), hn, by simp, ((Below.refl _ _).alloc (Nat.le_refl _) _).alloc (by simp) _⟩
theorem cel5 {w : World} {B : Nat} {t : TypeId} {x0 x1 x2 x3 x4 : Value} (h : w.heap[B]? = some (.cells #[x0, x1, x2, x3, x4] t (0, 0))) : w.cell? ⟨B, 0, none⟩ = some x0 ∧ w.cell? ⟨B, 1, none⟩ = some x1 ∧ w.cell? ⟨B, 2, none⟩ = some x2 ∧ w.cell? ⟨B, 3, none⟩ = some x3 ∧ w.cell? ⟨B, 4, none⟩ = some x4 := by
  refine ⟨?_, ?_, ?_, ?_, ?_⟩ <;> (rw [cell_of_row w B _ _ _ _ h]; rfl)

set_option maxRecDepth 100000 in
set_option maxHeartbeats 3200000 in
theorem calls_any (t : Typ) (x : In) (ahead : Nat) (ha : ahead ≤ 1) (pa sa : Option Addr) (pc sc : Nat) (w : World) (hp : t.ps.length ≤ 1048576) :
    Calls Tryz.prog 40 #[.agg #[.slice pa t.ps.length pc, .int .u8 t.re], .agg #[.int .u8 (x.op : Int), .int .i64 x.dst, .slice sa x.src.length sc, .int .i64 x.n, .int .u32 x.of], .int .i64 (ahead : Int)] w fun e w' => e = .returned (.bool (cls (some t) x ahead)) ∧ Below w.heap.size w w' := by
  have hg := fun W => gives_any x (.slice sa x.src.length sc) W ⟨_, _, _, rfl⟩
  have hd : cls (some t) x ahead = (decide (x.src.length = ahead + t.ps.length) && (decide (x.dst ≠ -1) == decide (t.re ≠ 0))) := rfl
  rw [hd]
  have HG := hide hg
  clear hd hg
  obtain ⟨op, dst, src, nn, of⟩ := x
  obtain ⟨ps, re⟩ := t
  simp only at *
  generalize src.length = sl at *
  generalize ps.length = pl at *
  obtain ⟨W0, hW0, b1, b2, b3, b4⟩ := start5 (w := w) (t := 97) (t2 := 101) (x0 := .slice pa pl pc) (x1 := .int .u8 re) (y0 := .int .u8 (op : Int)) (y1 := .int .i64 dst) (y2 := .slice sa sl sc) (y3 := .int .i64 nn) (y4 := .int .u32 of)
  obtain ⟨z0, z1⟩ := Gm.cel2 b1
  obtain ⟨q0, q1, q2, q3, q4⟩ := cel5 b2
  have lW : w.heap.size < W0.heap.size := by omega
  have HW := hide hW0; have HB := hide b4
  clear hW0 b1 b2 b4
  by_cases hl : sl = ahead + pl
  · have hw1 : IntKind.i64.wrap ((ahead : Int) + (pl : Int)) = (ahead : Int) + (pl : Int) := by rw [IntKind.wrap_i64]; omega
    have hl2 : ((sl : Int) == (ahead : Int) + (pl : Int)) = true := by simp; omega
    have hl3 : ((sl : Int) == IntKind.i64.wrap ((ahead : Int) + (pl : Int))) = true := by rw [hw1]; exact hl2
    have HL := hide hl
    clear hw1 hl
    cases h7 : (decide (re ≠ 0)) with
    | _ =>
      have h8 : (re != 0) = decide (re ≠ 0) := by by_cases h : re = 0 <;> simp [h]
      rw [h7] at h8
      clear h7
      go_enter Tryz.func40, Tryz.ntmps40
      go_upto_region 1 with fail
      rw [unhide HW]
      go_region_held3 (fun W => W.cell? ⟨w.heap.size, 0, none⟩ = some (.slice pa pl pc) ∧ W.cell? ⟨w.heap.size, 1, none⟩ = some (.int .u8 re) ∧ W.cell? ⟨w.heap.size + 1, 0, none⟩ = some (.int .u8 (op : Int)) ∧ W.cell? ⟨w.heap.size + 1, 1, none⟩ = some (.int .i64 dst) ∧ W.cell? ⟨w.heap.size + 1, 2, none⟩ = some (.slice sa sl sc) ∧ W.cell? ⟨w.heap.size + 1, 3, none⟩ = some (.int .i64 nn) ∧ W.cell? ⟨w.heap.size + 1, 4, none⟩ = some (.int .u32 of))
        (first | go_keep | exact ⟨z0, z1, q0, q1, q2, q3, q4⟩ | exact ⟨(hk4 _ _ lW).trans z0, (hk4 _ _ lW).trans z1, (hk4 _ _ b3).trans q0, (hk4 _ _ b3).trans q1, (hk4 _ _ b3).trans q2, (hk4 _ _ b3).trans q3, (hk4 _ _ b3).trans q4⟩ | fail)
        (first
          | (go_at_call 48; refine (unhide HG _).mono ?_; rintro e w4 ⟨rfl, hb4⟩; have HB4 := hide (Gm.Below.on0 (drewn W0 1) hb4 (drewn W0 1).size); have hk4 : ∀ b o, b < W0.heap.size → w4.cell? ⟨b, o, none⟩ = W0.cell? ⟨b, o, none⟩ := (fun b o hlt => (unhide HB4).cell (p := ⟨b, o, none⟩) hlt))
          | fail)
      all_goals go_wp2
      all_goals go_ret
      all_goals exact ⟨ret_bool (by have hl := unhide HL; have hd : (dst != -1) = !decide (dst = -1) := (by by_cases h : dst = -1 <;> simp [h]); simp [hl, h8, hd]), Gm.Below.on0 (unhide HB) (unhide HB4) (unhide HB).size⟩
  · have hw1 : IntKind.i64.wrap ((ahead : Int) + (pl : Int)) = (ahead : Int) + (pl : Int) := by rw [IntKind.wrap_i64]; omega
    have hl2 : ((sl : Int) == (ahead : Int) + (pl : Int)) = false := by simp; omega
    have hl3 : ((sl : Int) == IntKind.i64.wrap ((ahead : Int) + (pl : Int))) = false := by rw [hw1]; exact hl2
    have HL := hide hl
    clear hw1 hl
    go_enter Tryz.func40, Tryz.ntmps40
    go_upto_region 1 with fail
    rw [unhide HW]
    go_quiet (fail)
    go_wp2
    go_ret
    exact ⟨ret_bool (by have hl := unhide HL; simp [hl]), Gm.Below.on0 (unhide HB) (drewn W0 nq) (unhide HB).size⟩
end Vc
end Go.Proofs.YtheopjcmhclgdaaGreatDoor

/- shape.Type. By mkvf.py. -/
namespace Go.Proofs.YtheopjcmhclgdaaGreatDoor
open Go.RowKit
namespace Vc
set_option linter.unusedVariables false
set_option linter.unusedSimpArgs false
open Gm (Mod Typ Fnc Glo Byts ModL WfM TypC TyYes TyNo TyB ty?)
theorem mbox8 {w : World} {x0 x1 x2 x3 x4 x5 x6 x7 : Value} {B : Nat} {t : TypeId} (h : w.heap[B]? = some (.cells #[x0, x1, x2, x3, x4, x5, x6, x7] t (0, 0))) :
    w.cell? ⟨B, 0, none⟩ = some x0 ∧ w.cell? ⟨B, 1, none⟩ = some x1 ∧ w.cell? ⟨B, 2, none⟩ = some x2 ∧ w.cell? ⟨B, 3, none⟩ = some x3 ∧ w.cell? ⟨B, 4, none⟩ = some x4 ∧ w.cell? ⟨B, 5, none⟩ = some x5 ∧ w.cell? ⟨B, 6, none⟩ = some x6 ∧ w.cell? ⟨B, 7, none⟩ = some x7 := by
  refine ⟨?_, ?_, ?_, ?_, ?_, ?_, ?_, ?_⟩ <;> (rw [cell_of_row w B _ _ _ _ h]; rfl)
set_option maxRecDepth 100000 in
set_option maxHeartbeats 1600000 in
theorem sty_out {M : Mod} {g : Nat → Prop} {v0 v1 v2 v3 v4 v5 v6 v7 : Value} {w : World} (hM : ModL w g M v0 v1 v2 v3 v4 v5 v6 v7) {f : Int} (hf : f < 0 ∨ (M.funcs.length : Int) ≤ f) : TyNo 19 (.agg #[v0, v1, v2, v3, v4, v5, v6, v7]) w f := by
  unfold TyNo
  obtain ⟨a1, c1, rfl⟩ := hM.l1.sl
  clear hM
  generalize M.funcs.length = nf at *
  obtain ⟨W0, hW0, b1, b2, b3, b4⟩ := start2s (w := w) (ms := #[v0, .slice a1 nf c1, v2, v3, v4, v5, v6, v7]) (t := 49) (t2 := 97) (x0 := .slice none 0 0) (x1 := .int .u8 0)
  have m1 : W0.cell? ⟨w.heap.size, 1, none⟩ = some (.slice a1 nf c1) := by rw [cell_of_row W0 _ 1 _ _ _ b1]; rfl
  obtain ⟨z0, z1⟩ := Gm.cel2 b2
  have fz : ∀ j, W0.frozen? ⟨w.heap.size + 1, j, none⟩ = false := fun j => frozen_of_row W0 _ j _ _ b2
  have HW := hide hW0; have HR := hide b2; have HB := hide b4
  clear hW0 b1 b2 b4
  by_cases h0 : f < 0
  · clear hf
    go_enter Tryz.func19, Tryz.ntmps19
    go_upto_region 1 with fail
    rw [unhide HW]
    go_wp2
    obtain ⟨q0, q1, q2⟩ := Gm.fin2 (unhide HR) (unhide HB) (by omega) (.slice none 0 0) (.int .u8 0)
    first
      | exact bodyPost_ret (v := .tuple #[.agg #[.slice none 0 0, .int .u8 0], .bool false]) (by simp [results, Tryz.results19, go_sem, z0, z1]) rfl ⟨rfl, unhide HB⟩
      | exact bodyPost_ret (v := .tuple #[.agg #[.slice none 0 0, .int .u8 0], .bool false]) (by simp [results, Tryz.results19, go_sem, q0, q1]) rfl ⟨rfl, q2⟩
  · have h1 : f ≥ (nf : Int) := by omega
    have d0 : decide (f < 0) = false := decide_eq_false h0
    clear hf
    go_enter Tryz.func19, Tryz.ntmps19
    go_upto_region 1 with fail
    rw [unhide HW]
    go_wp2
    obtain ⟨q0, q1, q2⟩ := Gm.fin2 (unhide HR) (unhide HB) (by omega) (.slice none 0 0) (.int .u8 0)
    first
      | exact bodyPost_ret (v := .tuple #[.agg #[.slice none 0 0, .int .u8 0], .bool false]) (by simp [results, Tryz.results19, go_sem, z0, z1]) rfl ⟨rfl, unhide HB⟩
      | exact bodyPost_ret (v := .tuple #[.agg #[.slice none 0 0, .int .u8 0], .bool false]) (by simp [results, Tryz.results19, go_sem, q0, q1]) rfl ⟨rfl, q2⟩
set_option maxRecDepth 100000 in
set_option maxHeartbeats 3200000 in
theorem sty_yes {M : Mod} {g : Nat → Prop} {v0 v1 v2 v3 v4 v5 v6 v7 : Value} {w : World} (hM : ModL w g M v0 v1 v2 v3 v4 v5 v6 v7) (hg : ∀ k, g k → k < w.heap.size) {j : Nat} (hj : j < M.funcs.length) {t : Typ} (ht : atT M (M.funcs[j]).ty = some t) (h32 : 0 ≤ (M.funcs[j]).ty ∧ (M.funcs[j]).ty ≤ 4294967295) : TyYes 19 (.agg #[v0, v1, v2, v3, v4, v5, v6, v7]) w g j t := by
  unfold TyYes
  have hty : ∀ W, Below w.heap.size w W → TyYes 38 (.agg #[v0, v1, v2, v3, v4, v5, v6, v7]) W g (M.funcs[j]).ty t := fun W hW => by
    have h := tat_any (hM.moved (g' := g) (Gm.Mv.below hW (fun _ _ q => q)) hW.size) (M.funcs[j]).ty
    rw [ht] at h; exact h
  unfold TyYes at hty
  obtain ⟨a0, k0, rfl⟩ := hM.l0.sl; obtain ⟨a2, k2, rfl⟩ := hM.l2.sl; obtain ⟨a3, k3, rfl⟩ := hM.l3.sl; obtain ⟨a4, k4, rfl⟩ := hM.l4.sl; obtain ⟨a5, k5, rfl⟩ := hM.l5.sl; obtain ⟨a6, k6, rfl⟩ := hM.l6.sl; obtain ⟨a7, k7, rfl⟩ := hM.l7.sl
  obtain ⟨b, o, k1, rfl, -, hb, -, cs, -, ⟨vp, vq, rfl, hp, hq⟩, hcs⟩ := hM.l1.at hj
  have e00 : w.cell? ⟨b, o + j * 3, none⟩ = some (.int .u32 (M.funcs[j]).ty) := hcs 0 _ rfl
  clear hcs hp hq hM ht
  generalize (M.funcs[j]).ty = ty at *
  have hjn : (j : Int) < (M.funcs.length : Int) := by omega
  generalize M.types.length = n0 at *; generalize M.funcs.length = n1 at *; generalize M.tables.length = n2 at *; generalize M.mems.length = n3 at *; generalize M.globs.length = n4 at *; generalize M.exps.length = n5 at *; generalize M.elems.length = n6 at *; generalize M.datas.length = n7 at *
  obtain ⟨W0, hW0, b1, b2, b3, b4⟩ := start2s (w := w) (ms := #[.slice a0 n0 k0, .slice (some ⟨b, o, none⟩) n1 k1, .slice a2 n2 k2, .slice a3 n3 k3, .slice a4 n4 k4, .slice a5 n5 k5, .slice a6 n6 k6, .slice a7 n7 k7]) (t := 49) (t2 := 97) (x0 := .slice none 0 0) (x1 := .int .u8 0)
  obtain ⟨p0, p1, p2, p3, p4, p5, p6, p7⟩ := mbox8 b1
  obtain ⟨z0, z1⟩ := Gm.cel2 b2
  have e0 : W0.cell? ⟨b, o + j * 3, none⟩ = some (.int .u32 ty) := (b4.cell (p := ⟨b, o + j * 3, none⟩) hb).trans e00
  have fz : ∀ j, W0.frozen? ⟨w.heap.size + 1, j, none⟩ = false := fun j => frozen_of_row W0 _ j _ _ b2
  have lW : w.heap.size < W0.heap.size := by omega
  have lb : b < W0.heap.size := by omega
  have nb : ¬ b = w.heap.size + 1 := by omega
  have ns : ¬ w.heap.size = w.heap.size + 1 := by omega
  have d0 : decide ((j : Int) < 0) = false := decide_eq_false (by omega)
  have d1 : decide ((j : Int) ≥ (n1 : Int)) = false := decide_eq_false (by omega)
  have d1' : decide ((n1 : Int) ≤ (j : Int)) = false := decide_eq_false (by omega)
  have dn : decide (n1 ≤ j) = false := decide_eq_false (by omega)
  have wr : IntKind.i64.wrap ty = ty := by rw [IntKind.wrap_i64]; omega
  obtain ⟨g1, g2⟩ := h32
  have hty0 := hty _ (b4.trans ((drewn W0 1).mono b4.size))
  have HTy := hide hty0; have HW := hide hW0; have HB := hide b4; have HR := hide b2
  clear hty hW0 b1 b2 b4 e00 hty0
  go_enter Tryz.func19, Tryz.ntmps19
  go_upto_region 1 with fail
  rw [unhide HW]
  go_upto_region 3 with fail
  go_region_held3 (fun w' => w'.cell? ⟨w.heap.size, 0, none⟩ = some (.slice a0 n0 k0) ∧ w'.cell? ⟨w.heap.size, 1, none⟩ = some (.slice (some ⟨b, o, none⟩) n1 k1) ∧ w'.cell? ⟨w.heap.size, 2, none⟩ = some (.slice a2 n2 k2) ∧ w'.cell? ⟨w.heap.size, 3, none⟩ = some (.slice a3 n3 k3) ∧ w'.cell? ⟨w.heap.size, 4, none⟩ = some (.slice a4 n4 k4) ∧ w'.cell? ⟨w.heap.size, 5, none⟩ = some (.slice a5 n5 k5) ∧ w'.cell? ⟨w.heap.size, 6, none⟩ = some (.slice a6 n6 k6) ∧ w'.cell? ⟨w.heap.size, 7, none⟩ = some (.slice a7 n7 k7) ∧ w'.cell? ⟨b, o + j * 3, none⟩ = some (.int .u32 ty))
    (first | go_keep | exact ⟨p0, p1, p2, p3, p4, p5, p6, p7, e0⟩ | exact ⟨(hk4 _ _ lW).trans p0, (hk4 _ _ lW).trans p1, (hk4 _ _ lW).trans p2, (hk4 _ _ lW).trans p3, (hk4 _ _ lW).trans p4, (hk4 _ _ lW).trans p5, (hk4 _ _ lW).trans p6, (hk4 _ _ lW).trans p7, (hk4 _ _ lb).trans e0⟩ | exact ⟨(hs4 _ _ _ _ lW ns).trans p0, (hs4 _ _ _ _ lW ns).trans p1, (hs4 _ _ _ _ lW ns).trans p2, (hs4 _ _ _ _ lW ns).trans p3, (hs4 _ _ _ _ lW ns).trans p4, (hs4 _ _ _ _ lW ns).trans p5, (hs4 _ _ _ _ lW ns).trans p6, (hs4 _ _ _ _ lW ns).trans p7, (hs4 _ _ _ _ lb nb).trans e0⟩ | fail)
    (first
      | (go_at_call 38; refine (unhide HTy).mono ?_; rintro e w4 ⟨pa, pc, rfl, hL4, hb4⟩; have HB4 := hide (Gm.Below.on0 (drewn W0 1) hb4 (drewn W0 1).size); have HL4 := hide hL4; have hk4 : ∀ b o, b < W0.heap.size → w4.cell? ⟨b, o, none⟩ = W0.cell? ⟨b, o, none⟩ := (fun b o hlt => (unhide HB4).cell (p := ⟨b, o, none⟩) hlt); have z04 : w4.cell? ⟨w.heap.size + 1, 0, none⟩ = some (.slice none 0 0) := (hk4 _ _ b3).trans z0; have z14 : w4.cell? ⟨w.heap.size + 1, 1, none⟩ = some (.int .u8 0) := (hk4 _ _ b3).trans z1; have fz4 : ∀ j, w4.frozen? ⟨w.heap.size + 1, j, none⟩ = false := (fun j => frozen_of_row w4 _ j _ _ (((unhide HB4).block _ b3).trans (unhide HR))); have hs4 : ∀ b o y0 y1, b < W0.heap.size → ¬ b = w.heap.size + 1 → ((w4.setCell ⟨w.heap.size + 1, 0, none⟩ y0).setCell ⟨w.heap.size + 1, 1, none⟩ y1).cell? ⟨b, o, none⟩ = W0.cell? ⟨b, o, none⟩ := (fun b o y0 y1 hlt hne => (World.cell?_of_block (a := ⟨b, o, none⟩) ((heap_setCell_other _ ⟨w.heap.size + 1, 1, none⟩ b _ hne).trans (heap_setCell_other _ ⟨w.heap.size + 1, 0, none⟩ b _ hne))).trans (hk4 b o hlt)); clear hb4 hL4)
      | fail)
  clear hk4 hs4
  go_wp2
  have hr4 := ((unhide HB4).block _ b3).trans (unhide HR)
  obtain ⟨q0, q1, q2⟩ := Gm.fin2 hr4 (Gm.Below.on0 (unhide HB) (unhide HB4) (unhide HB).size) (by omega) (.slice pa t.ps.length pc) (.int .u8 t.re)
  refine bodyPost_ret (v := .tuple #[.agg #[.slice pa t.ps.length pc, .int .u8 t.re], .bool true]) (by simp [results, Tryz.results19, go_sem, q0, q1]) rfl ⟨_, _, rfl, ?_, q2⟩
  exact Ex.Lies.move (unhide HL4) fun _ b o hgb hp => ⟨hgb, fun j hj => (((unhide HB).trans ((drewn W0 1).mono (unhide HB).size)).cell (p := ⟨b, o + j, none⟩) (hg b hgb)).symm.trans (hp j hj)⟩
set_option maxRecDepth 100000 in
set_option maxHeartbeats 3200000 in
theorem sty_no {M : Mod} {g : Nat → Prop} {v0 v1 v2 v3 v4 v5 v6 v7 : Value} {w : World} (hM : ModL w g M v0 v1 v2 v3 v4 v5 v6 v7) (hg : ∀ k, g k → k < w.heap.size) {j : Nat} (hj : j < M.funcs.length) (ht : atT M (M.funcs[j]).ty = none) (h32 : 0 ≤ (M.funcs[j]).ty ∧ (M.funcs[j]).ty ≤ 4294967295) : TyNo 19 (.agg #[v0, v1, v2, v3, v4, v5, v6, v7]) w j := by
  unfold TyNo
  have hty : ∀ W, Below w.heap.size w W → TyNo 38 (.agg #[v0, v1, v2, v3, v4, v5, v6, v7]) W (M.funcs[j]).ty := fun W hW => by
    have h := tat_any (hM.moved (g' := g) (Gm.Mv.below hW (fun _ _ q => q)) hW.size) (M.funcs[j]).ty
    rw [ht] at h; exact h
  unfold TyNo at hty
  obtain ⟨a0, k0, rfl⟩ := hM.l0.sl; obtain ⟨a2, k2, rfl⟩ := hM.l2.sl; obtain ⟨a3, k3, rfl⟩ := hM.l3.sl; obtain ⟨a4, k4, rfl⟩ := hM.l4.sl; obtain ⟨a5, k5, rfl⟩ := hM.l5.sl; obtain ⟨a6, k6, rfl⟩ := hM.l6.sl; obtain ⟨a7, k7, rfl⟩ := hM.l7.sl
  obtain ⟨b, o, k1, rfl, -, hb, -, cs, -, ⟨vp, vq, rfl, hp, hq⟩, hcs⟩ := hM.l1.at hj
  have e00 : w.cell? ⟨b, o + j * 3, none⟩ = some (.int .u32 (M.funcs[j]).ty) := hcs 0 _ rfl
  clear hcs hp hq hM ht
  generalize (M.funcs[j]).ty = ty at *
  have hjn : (j : Int) < (M.funcs.length : Int) := by omega
  generalize M.types.length = n0 at *; generalize M.funcs.length = n1 at *; generalize M.tables.length = n2 at *; generalize M.mems.length = n3 at *; generalize M.globs.length = n4 at *; generalize M.exps.length = n5 at *; generalize M.elems.length = n6 at *; generalize M.datas.length = n7 at *
  obtain ⟨W0, hW0, b1, b2, b3, b4⟩ := start2s (w := w) (ms := #[.slice a0 n0 k0, .slice (some ⟨b, o, none⟩) n1 k1, .slice a2 n2 k2, .slice a3 n3 k3, .slice a4 n4 k4, .slice a5 n5 k5, .slice a6 n6 k6, .slice a7 n7 k7]) (t := 49) (t2 := 97) (x0 := .slice none 0 0) (x1 := .int .u8 0)
  obtain ⟨p0, p1, p2, p3, p4, p5, p6, p7⟩ := mbox8 b1
  obtain ⟨z0, z1⟩ := Gm.cel2 b2
  have e0 : W0.cell? ⟨b, o + j * 3, none⟩ = some (.int .u32 ty) := (b4.cell (p := ⟨b, o + j * 3, none⟩) hb).trans e00
  have fz : ∀ j, W0.frozen? ⟨w.heap.size + 1, j, none⟩ = false := fun j => frozen_of_row W0 _ j _ _ b2
  have lW : w.heap.size < W0.heap.size := by omega
  have lb : b < W0.heap.size := by omega
  have nb : ¬ b = w.heap.size + 1 := by omega
  have ns : ¬ w.heap.size = w.heap.size + 1 := by omega
  have d0 : decide ((j : Int) < 0) = false := decide_eq_false (by omega)
  have d1 : decide ((j : Int) ≥ (n1 : Int)) = false := decide_eq_false (by omega)
  have d1' : decide ((n1 : Int) ≤ (j : Int)) = false := decide_eq_false (by omega)
  have dn : decide (n1 ≤ j) = false := decide_eq_false (by omega)
  have wr : IntKind.i64.wrap ty = ty := by rw [IntKind.wrap_i64]; omega
  obtain ⟨g1, g2⟩ := h32
  have hty0 := hty _ (b4.trans ((drewn W0 1).mono b4.size))
  have HTy := hide hty0; have HW := hide hW0; have HB := hide b4; have HR := hide b2
  clear hty hW0 b1 b2 b4 e00 hty0
  go_enter Tryz.func19, Tryz.ntmps19
  go_upto_region 1 with fail
  rw [unhide HW]
  go_upto_region 3 with fail
  go_region_held3 (fun w' => w'.cell? ⟨w.heap.size, 0, none⟩ = some (.slice a0 n0 k0) ∧ w'.cell? ⟨w.heap.size, 1, none⟩ = some (.slice (some ⟨b, o, none⟩) n1 k1) ∧ w'.cell? ⟨w.heap.size, 2, none⟩ = some (.slice a2 n2 k2) ∧ w'.cell? ⟨w.heap.size, 3, none⟩ = some (.slice a3 n3 k3) ∧ w'.cell? ⟨w.heap.size, 4, none⟩ = some (.slice a4 n4 k4) ∧ w'.cell? ⟨w.heap.size, 5, none⟩ = some (.slice a5 n5 k5) ∧ w'.cell? ⟨w.heap.size, 6, none⟩ = some (.slice a6 n6 k6) ∧ w'.cell? ⟨w.heap.size, 7, none⟩ = some (.slice a7 n7 k7) ∧ w'.cell? ⟨b, o + j * 3, none⟩ = some (.int .u32 ty))
    (first | go_keep | exact ⟨p0, p1, p2, p3, p4, p5, p6, p7, e0⟩ | exact ⟨(hk4 _ _ lW).trans p0, (hk4 _ _ lW).trans p1, (hk4 _ _ lW).trans p2, (hk4 _ _ lW).trans p3, (hk4 _ _ lW).trans p4, (hk4 _ _ lW).trans p5, (hk4 _ _ lW).trans p6, (hk4 _ _ lW).trans p7, (hk4 _ _ lb).trans e0⟩ | exact ⟨(hs4 _ _ _ _ lW ns).trans p0, (hs4 _ _ _ _ lW ns).trans p1, (hs4 _ _ _ _ lW ns).trans p2, (hs4 _ _ _ _ lW ns).trans p3, (hs4 _ _ _ _ lW ns).trans p4, (hs4 _ _ _ _ lW ns).trans p5, (hs4 _ _ _ _ lW ns).trans p6, (hs4 _ _ _ _ lW ns).trans p7, (hs4 _ _ _ _ lb nb).trans e0⟩ | fail)
    (first
      | (go_at_call 38; refine (unhide HTy).mono ?_; rintro e w4 ⟨rfl, hb4⟩; have HB4 := hide (Gm.Below.on0 (drewn W0 1) hb4 (drewn W0 1).size); have hk4 : ∀ b o, b < W0.heap.size → w4.cell? ⟨b, o, none⟩ = W0.cell? ⟨b, o, none⟩ := (fun b o hlt => (unhide HB4).cell (p := ⟨b, o, none⟩) hlt); have z04 : w4.cell? ⟨w.heap.size + 1, 0, none⟩ = some (.slice none 0 0) := (hk4 _ _ b3).trans z0; have z14 : w4.cell? ⟨w.heap.size + 1, 1, none⟩ = some (.int .u8 0) := (hk4 _ _ b3).trans z1; have fz4 : ∀ j, w4.frozen? ⟨w.heap.size + 1, j, none⟩ = false := (fun j => frozen_of_row w4 _ j _ _ (((unhide HB4).block _ b3).trans (unhide HR))); have hs4 : ∀ b o y0 y1, b < W0.heap.size → ¬ b = w.heap.size + 1 → ((w4.setCell ⟨w.heap.size + 1, 0, none⟩ y0).setCell ⟨w.heap.size + 1, 1, none⟩ y1).cell? ⟨b, o, none⟩ = W0.cell? ⟨b, o, none⟩ := (fun b o y0 y1 hlt hne => (World.cell?_of_block (a := ⟨b, o, none⟩) ((heap_setCell_other _ ⟨w.heap.size + 1, 1, none⟩ b _ hne).trans (heap_setCell_other _ ⟨w.heap.size + 1, 0, none⟩ b _ hne))).trans (hk4 b o hlt)); clear hb4)
      | fail)
  clear hk4 hs4
  go_wp2
  have hr4 := ((unhide HB4).block _ b3).trans (unhide HR)
  obtain ⟨q0, q1, q2⟩ := Gm.fin2 hr4 (Gm.Below.on0 (unhide HB) (unhide HB4) (unhide HB).size) (by omega) (.slice none 0 0) (.int .u8 0)
  refine bodyPost_ret (v := .tuple #[.agg #[.slice none 0 0, .int .u8 0], .bool false]) (by simp [results, Tryz.results19, go_sem, q0, q1]) rfl ⟨rfl, q2⟩


theorem at_of {M : Mod} {j : Nat} (hj : j < M.funcs.length) (h0 : 0 ≤ (M.funcs[j]).ty) : atT M (M.funcs[j]).ty = ty? M j := by
  rw [Gm.ty_at hj]; unfold atT; rw [if_neg (by omega)]
theorem sty_any {M : Mod} {g : Nat → Prop} {v0 v1 v2 v3 v4 v5 v6 v7 : Value} {w : World} (hM : ModL w g M v0 v1 v2 v3 v4 v5 v6 v7) (hwf : WfM M) (hg : ∀ k, g k → k < w.heap.size) (f : Int) : TyB 19 (.agg #[v0, v1, v2, v3, v4, v5, v6, v7]) w g f (ty? M f) := by
  rcases Gm.ty_cases M f hwf with ⟨h, e⟩ | ⟨j, h, rfl, h1, h2, h3, e⟩ | ⟨j, h, k, hk, rfl, h1, h2, e⟩ <;> rw [e]
  · exact sty_out hM h
  · exact sty_no hM hg h (by rw [at_of h h1, e]) ⟨h1, h2⟩
  · exact sty_yes hM hg h (by rw [at_of h (by omega), e]) ⟨by omega, by omega⟩
end Vc
end Go.Proofs.YtheopjcmhclgdaaGreatDoor

/- shape.Fits. By mkvfd.py. -/
namespace Go.Proofs.YtheopjcmhclgdaaGreatDoor
open Go.RowKit
namespace Vc
set_option linter.unusedVariables false
set_option linter.unusedSimpArgs false
open Gm (Mod Typ Fnc Glo Byts ModL WfM SzM TypC TyYes TyNo TyB ty?)
theorem start85 {w : World} {c1 c2 : Array Value} {t t2 : TypeId} : ∃ W0, ((w.alloc (.cells c1 t)).alloc (.cells c2 t2)) = W0 ∧ W0.heap[w.heap.size]? = some (.cells c1 t (0, 0)) ∧ W0.heap[w.heap.size + 1]? = some (.cells c2 t2 (0, 0)) ∧ w.heap.size + 1 < W0.heap.size ∧ Below w.heap.size w W0 := by
  have e2 : (w.alloc (.cells c1 t)).heap.size = w.heap.size + 1 := by simp
  have hn := heap_alloc_new (w.alloc (.cells c1 t)) (.cells c2 t2)
  rw [e2] at hn
  exact ⟨_, rfl, (Below.heap_alloc _ _ _ (by simp)).trans (heap_alloc_new w (.cells c1 t)), hn, by simp, ((Below.refl _ _).alloc (Nat.le_refl _) _).alloc (by simp) _⟩
set_option maxRecDepth 100000 in
set_option maxHeartbeats 3200000 in
theorem sf_mem {M : Mod} {g : Nat → Prop} {v0 v1 v2 v3 v4 v5 v6 v7 : Value} {w : World} (hM : ModL w g M v0 v1 v2 v3 v4 v5 v6 v7) (hwf : WfM M) (hs : SzM M) (hg : ∀ k, g k → k < w.heap.size) (hT : Fms w) (x : In) (hx : x.op < 256) (sa : Option Addr) (sc : Nat) (h : x.op = 63 ∨ x.op = 64) :
    Calls Tryz.prog 20 #[.agg #[v0, v1, v2, v3, v4, v5, v6, v7], .agg #[.int .u8 (x.op : Int), .int .i64 x.dst, .slice sa x.src.length sc, .int .i64 x.n, .int .u32 x.of]] w fun e w' => e = .returned (.bool (decide (0 < M.mems.length))) ∧ Below w.heap.size w w' := by
  obtain ⟨a0, k0, rfl⟩ := hM.l0.sl; obtain ⟨a1, k1, rfl⟩ := hM.l1.sl; obtain ⟨a2, k2, rfl⟩ := hM.l2.sl; obtain ⟨a3, k3, rfl⟩ := hM.l3.sl; obtain ⟨a4, k4, rfl⟩ := hM.l4.sl; obtain ⟨a5, k5, rfl⟩ := hM.l5.sl; obtain ⟨a6, k6, rfl⟩ := hM.l6.sl; obtain ⟨a7, k7, rfl⟩ := hM.l7.sl
  clear hM hwf hs hT
  generalize M.types.length = n0 at *; generalize M.funcs.length = n1 at *; generalize M.tables.length = n2 at *; generalize M.mems.length = n3 at *; generalize M.globs.length = n4 at *; generalize M.exps.length = n5 at *; generalize M.elems.length = n6 at *; generalize M.datas.length = n7 at *
  obtain ⟨op, dst, src, nn, of⟩ := x
  simp only at *
  generalize src.length = sl at *
  obtain ⟨W0, hW0, b1, b2, b3, b4⟩ := start85 (w := w) (c1 := #[.slice a0 n0 k0, .slice a1 n1 k1, .slice a2 n2 k2, .slice a3 n3 k3, .slice a4 n4 k4, .slice a5 n5 k5, .slice a6 n6 k6, .slice a7 n7 k7]) (c2 := #[.int .u8 (op : Int), .int .i64 dst, .slice sa sl sc, .int .i64 nn, .int .u32 of]) (t := 49) (t2 := 101)
  obtain ⟨p0, p1, p2, p3, p4, p5, p6, p7⟩ := mbox8 b1
  obtain ⟨q0, q1, q2, q3, q4⟩ := cel5 b2
  have lW : w.heap.size < W0.heap.size := by omega
  rcases h with rfl | rfl
  · simp only [show ((63 : Nat) : Int) = 63 from rfl] at *
    have HW := hide hW0; have HB := hide b4
    clear hW0 b1 b2 b4
    go_enter Tryz.func20, Tryz.ntmps20
    go_upto_region 1 with fail
    rw [unhide HW]
    go_wp2
    go_ret
    exact ⟨ret_bool (by simp), unhide HB⟩
  · simp only [show ((64 : Nat) : Int) = 64 from rfl] at *
    have HW := hide hW0; have HB := hide b4
    clear hW0 b1 b2 b4
    go_enter Tryz.func20, Tryz.ntmps20
    go_upto_region 1 with fail
    rw [unhide HW]
    go_wp2
    go_ret
    exact ⟨ret_bool (by simp), unhide HB⟩
set_option maxRecDepth 100000 in
set_option maxHeartbeats 3200000 in
theorem sf_gget {M : Mod} {g : Nat → Prop} {v0 v1 v2 v3 v4 v5 v6 v7 : Value} {w : World} (hM : ModL w g M v0 v1 v2 v3 v4 v5 v6 v7) (hwf : WfM M) (hs : SzM M) (hg : ∀ k, g k → k < w.heap.size) (hT : Fms w) (x : In) (hx : x.op < 256) (sa : Option Addr) (sc : Nat) (h : x.op = 35) :
    Calls Tryz.prog 20 #[.agg #[v0, v1, v2, v3, v4, v5, v6, v7], .agg #[.int .u8 (x.op : Int), .int .i64 x.dst, .slice sa x.src.length sc, .int .i64 x.n, .int .u32 x.of]] w fun e w' => e = .returned (.bool (gth M x.n)) ∧ Below w.heap.size w w' := by
  have hc := fun W (hW : Below w.heap.size w W) => gth_any (hM.moved (g' := g) (Gm.Mv.below hW (fun _ _ q => q)) hW.size) x.n
  obtain ⟨a0, k0, rfl⟩ := hM.l0.sl; obtain ⟨a1, k1, rfl⟩ := hM.l1.sl; obtain ⟨a2, k2, rfl⟩ := hM.l2.sl; obtain ⟨a3, k3, rfl⟩ := hM.l3.sl; obtain ⟨a4, k4, rfl⟩ := hM.l4.sl; obtain ⟨a5, k5, rfl⟩ := hM.l5.sl; obtain ⟨a6, k6, rfl⟩ := hM.l6.sl; obtain ⟨a7, k7, rfl⟩ := hM.l7.sl
  clear hM hwf hs hT
  generalize gth M x.n = r at *
  generalize M.types.length = n0 at *; generalize M.funcs.length = n1 at *; generalize M.tables.length = n2 at *; generalize M.mems.length = n3 at *; generalize M.globs.length = n4 at *; generalize M.exps.length = n5 at *; generalize M.elems.length = n6 at *; generalize M.datas.length = n7 at *
  obtain ⟨op, dst, src, nn, of⟩ := x
  simp only at *
  generalize src.length = sl at *
  obtain ⟨W0, hW0, b1, b2, b3, b4⟩ := start85 (w := w) (c1 := #[.slice a0 n0 k0, .slice a1 n1 k1, .slice a2 n2 k2, .slice a3 n3 k3, .slice a4 n4 k4, .slice a5 n5 k5, .slice a6 n6 k6, .slice a7 n7 k7]) (c2 := #[.int .u8 (op : Int), .int .i64 dst, .slice sa sl sc, .int .i64 nn, .int .u32 of]) (t := 49) (t2 := 101)
  obtain ⟨p0, p1, p2, p3, p4, p5, p6, p7⟩ := mbox8 b1
  obtain ⟨q0, q1, q2, q3, q4⟩ := cel5 b2
  have lW : w.heap.size < W0.heap.size := by omega
  subst h
  simp only [show ((35 : Nat) : Int) = 35 from rfl] at *
  have HC := hide (hc W0 b4)
  have HW := hide hW0; have HB := hide b4
  clear hW0 b1 b2 b4 hc
  go_enter Tryz.func20, Tryz.ntmps20
  go_upto_region 1 with fail
  rw [unhide HW]
  go_wp2_with (go_at_call 39; refine (unhide HC).mono ?_; rintro e w4 ⟨rfl, hb4⟩)
  have HB4 := hide (Gm.Below.on0 (unhide HB) hb4 (unhide HB).size)
  clear hb4
  try go_wp2
  go_ret
  exact ⟨rfl, unhide HB4⟩
set_option maxRecDepth 100000 in
set_option maxHeartbeats 3200000 in
theorem sf_gset {M : Mod} {g : Nat → Prop} {v0 v1 v2 v3 v4 v5 v6 v7 : Value} {w : World} (hM : ModL w g M v0 v1 v2 v3 v4 v5 v6 v7) (hwf : WfM M) (hs : SzM M) (hg : ∀ k, g k → k < w.heap.size) (hT : Fms w) (x : In) (hx : x.op < 256) (sa : Option Addr) (sc : Nat) (h : x.op = 36) :
    Calls Tryz.prog 20 #[.agg #[v0, v1, v2, v3, v4, v5, v6, v7], .agg #[.int .u8 (x.op : Int), .int .i64 x.dst, .slice sa x.src.length sc, .int .i64 x.n, .int .u32 x.of]] w fun e w' => e = .returned (.bool (gth M x.n && gmu M x.n)) ∧ Below w.heap.size w w' := by
  have hc := fun W (hW : Below w.heap.size w W) => gth_any (hM.moved (g' := g) (Gm.Mv.below hW (fun _ _ q => q)) hW.size) x.n
  have hm : gth M x.n = true → ∃ j : Nat, x.n = j ∧ (j : Int) < M.globs.length ∧ ∃ b o, b < w.heap.size ∧ (∃ cp, v4 = .slice (some ⟨b, o, none⟩) M.globs.length cp) ∧ w.cell? ⟨b, o + j * 10 + 1, none⟩ = some (.bool (gmu M x.n)) := fun hq => by
    unfold gth at hq
    simp only [Bool.and_eq_true, decide_eq_true_eq] at hq
    obtain ⟨j, hj⟩ : ∃ j : Nat, x.n = j := ⟨x.n.toNat, by omega⟩
    have hlt : j < M.globs.length := by omega
    obtain ⟨b, o, cp, hv, -, hb, -, cs, -, ⟨ds, rfl, -⟩, hcs⟩ := hM.l4.at hlt
    refine ⟨j, hj, by omega, b, o, hb, ⟨cp, hv⟩, ?_⟩
    rw [hcs 1 (.bool (M.globs[j]).mu) rfl, hj]
    unfold gmu
    rw [Int.toNat_natCast, List.getElem?_eq_getElem hlt]
  have hng := hs.n4
  obtain ⟨a0, k0, rfl⟩ := hM.l0.sl; obtain ⟨a1, k1, rfl⟩ := hM.l1.sl; obtain ⟨a2, k2, rfl⟩ := hM.l2.sl; obtain ⟨a3, k3, rfl⟩ := hM.l3.sl; obtain ⟨a4, k4, rfl⟩ := hM.l4.sl; obtain ⟨a5, k5, rfl⟩ := hM.l5.sl; obtain ⟨a6, k6, rfl⟩ := hM.l6.sl; obtain ⟨a7, k7, rfl⟩ := hM.l7.sl
  clear hM hwf hs hT
  generalize gth M x.n = r at *
  generalize gmu M x.n = mu at *
  generalize M.types.length = n0 at *; generalize M.funcs.length = n1 at *; generalize M.tables.length = n2 at *; generalize M.mems.length = n3 at *; generalize M.globs.length = n4 at *; generalize M.exps.length = n5 at *; generalize M.elems.length = n6 at *; generalize M.datas.length = n7 at *
  obtain ⟨op, dst, src, nn, of⟩ := x
  simp only at *
  generalize src.length = sl at *
  obtain ⟨W0, hW0, b1, b2, b3, b4⟩ := start85 (w := w) (c1 := #[.slice a0 n0 k0, .slice a1 n1 k1, .slice a2 n2 k2, .slice a3 n3 k3, .slice a4 n4 k4, .slice a5 n5 k5, .slice a6 n6 k6, .slice a7 n7 k7]) (c2 := #[.int .u8 (op : Int), .int .i64 dst, .slice sa sl sc, .int .i64 nn, .int .u32 of]) (t := 49) (t2 := 101)
  obtain ⟨p0, p1, p2, p3, p4, p5, p6, p7⟩ := mbox8 b1
  obtain ⟨q0, q1, q2, q3, q4⟩ := cel5 b2
  have lW : w.heap.size < W0.heap.size := by omega
  subst h
  simp only [show ((36 : Nat) : Int) = 36 from rfl] at *
  have HC := hide (hc W0 b4)
  cases r with
  | false =>
    have HW := hide hW0; have HB := hide b4
    clear hW0 b1 b2 b4 hc hm
    go_enter Tryz.func20, Tryz.ntmps20
    go_upto_region 1 with fail
    rw [unhide HW]
    go_wp2_with (go_at_call 39; refine (unhide HC).mono ?_; rintro e w4 ⟨rfl, hb4⟩)
    have HB4 := hide (Gm.Below.on0 (unhide HB) hb4 (unhide HB).size)
    clear hb4
    try go_wp2
    go_ret
    exact ⟨rfl, unhide HB4⟩
  | true =>
    obtain ⟨j, rfl, hjn, b, o, hbw, ⟨cp, hv4⟩, hcell⟩ := hm rfl
    simp only [Value.slice.injEq] at hv4
    obtain ⟨rfl, -, rfl⟩ := hv4
    have hcell0 := (b4.cell (p := ⟨b, o + j * 10 + 1, none⟩) hbw).trans hcell
    have lb : b < W0.heap.size := by omega
    have HW := hide hW0; have HB := hide b4; have HCl := hide hcell0; have HP4 := hide p4; have HQ3 := hide q3
    clear hW0 b1 b2 b4 hc hm hcell hcell0
    have lW2 : w.heap.size + 1 < W0.heap.size := b3
    go_enter Tryz.func20, Tryz.ntmps20
    go_upto_region 1 with fail
    rw [unhide HW]
    go_wp2_with (go_at_call 39; refine (unhide HC).mono ?_; rintro e w4 ⟨rfl, hb4⟩; have HB4 := hide (Gm.Below.on0 (unhide HB) hb4 (unhide HB).size); have u4 := (hb4.cell (p := ⟨w.heap.size, 4, none⟩) lW).trans (unhide HP4); have u3 := (hb4.cell (p := ⟨w.heap.size + 1, 3, none⟩) lW2).trans (unhide HQ3); have uc := (hb4.cell (p := ⟨b, o + j * 10 + 1, none⟩) lb).trans (unhide HCl); clear hb4 p0 p1 p2 p3 p4 p5 p6 p7 q0 q1 q2 q3 q4)
    try go_wp2
    go_ret
    exact ⟨ret_bool (by simp), unhide HB4⟩
theorem sf_call_mem {M : Mod} (hs : SzM M) {n : Int} {t : Typ} (h : ty? M n = some t) : t.ps.length ≤ 1048576 := by
  unfold Gm.ty? at h
  split at h
  · cases h
  · cases hq : M.funcs[n.toNat]? with
    | none => rw [hq] at h; cases h
    | some fn =>
      rw [hq, Option.bind_some] at h
      exact (hs.s0 t (List.mem_of_getElem? h)).2
set_option maxRecDepth 100000 in
set_option maxHeartbeats 3200000 in
theorem sf_call {M : Mod} {g : Nat → Prop} {v0 v1 v2 v3 v4 v5 v6 v7 : Value} {w : World} (hM : ModL w g M v0 v1 v2 v3 v4 v5 v6 v7) (hwf : WfM M) (hs : SzM M) (hg : ∀ k, g k → k < w.heap.size) (hT : Fms w) (x : In) (hx : x.op < 256) (sa : Option Addr) (sc : Nat) (h : x.op = 16) :
    Calls Tryz.prog 20 #[.agg #[v0, v1, v2, v3, v4, v5, v6, v7], .agg #[.int .u8 (x.op : Int), .int .i64 x.dst, .slice sa x.src.length sc, .int .i64 x.n, .int .u32 x.of]] w fun e w' => e = .returned (.bool (cls (ty? M x.n) x 0)) ∧ Below w.heap.size w w' := by
  have hc : ∀ W, Below w.heap.size w W → TyB 19 (.agg #[v0, v1, v2, v3, v4, v5, v6, v7]) W g x.n (ty? M x.n) := fun W hW => sty_any (hM.moved (g' := g) (Gm.Mv.below hW (fun _ _ q => q)) hW.size) hwf (fun k hk => Nat.lt_of_lt_of_le (hg k hk) hW.size) x.n
  have hpl := fun t (ht : ty? M x.n = some t) => sf_call_mem hs ht
  have hcl := fun (t : Typ) (ht : ty? M x.n = some t) pa pc W => calls_any t x 0 (by omega) pa sa pc sc W (hpl t ht)
  obtain ⟨a0, k0, rfl⟩ := hM.l0.sl; obtain ⟨a1, k1, rfl⟩ := hM.l1.sl; obtain ⟨a2, k2, rfl⟩ := hM.l2.sl; obtain ⟨a3, k3, rfl⟩ := hM.l3.sl; obtain ⟨a4, k4, rfl⟩ := hM.l4.sl; obtain ⟨a5, k5, rfl⟩ := hM.l5.sl; obtain ⟨a6, k6, rfl⟩ := hM.l6.sl; obtain ⟨a7, k7, rfl⟩ := hM.l7.sl
  clear hM hwf hs hT hpl
  generalize M.types.length = n0 at *; generalize M.funcs.length = n1 at *; generalize M.tables.length = n2 at *; generalize M.mems.length = n3 at *; generalize M.globs.length = n4 at *; generalize M.exps.length = n5 at *; generalize M.elems.length = n6 at *; generalize M.datas.length = n7 at *
  cases ho : ty? M x.n with
  | none =>
    rw [ho] at hc
    change ∀ W, Below w.heap.size w W → TyNo 19 (.agg #[.slice a0 n0 k0, .slice a1 n1 k1, .slice a2 n2 k2, .slice a3 n3 k3, .slice a4 n4 k4, .slice a5 n5 k5, .slice a6 n6 k6, .slice a7 n7 k7]) W x.n at hc
    unfold TyNo at hc
    have hres : cls none x 0 = false := rfl
    rw [hres]
    clear hcl hres ho
    obtain ⟨op, dst, src, nn, of⟩ := x
    simp only at *
    generalize src.length = sl at *
    obtain ⟨W0, hW0, b1, b2, b3, b4⟩ := start85 (w := w) (c1 := #[.slice a0 n0 k0, .slice a1 n1 k1, .slice a2 n2 k2, .slice a3 n3 k3, .slice a4 n4 k4, .slice a5 n5 k5, .slice a6 n6 k6, .slice a7 n7 k7]) (c2 := #[.int .u8 (op : Int), .int .i64 dst, .slice sa sl sc, .int .i64 nn, .int .u32 of]) (t := 49) (t2 := 101)
    obtain ⟨p0, p1, p2, p3, p4, p5, p6, p7⟩ := mbox8 b1
    obtain ⟨q0, q1, q2, q3, q4⟩ := cel5 b2
    have lW : w.heap.size < W0.heap.size := by omega
    subst h
    simp only [show ((16 : Nat) : Int) = 16 from rfl] at *
    have HC := hide (hc W0 b4)
    have HW := hide hW0; have HB := hide b4
    clear hW0 b1 b2 b4 hc
    go_enter Tryz.func20, Tryz.ntmps20
    go_upto_region 1 with fail
    rw [unhide HW]
    go_wp2_with (go_at_call 19; refine (unhide HC).mono ?_; rintro e w4 ⟨rfl, hb4⟩; have HB4 := hide (Gm.Below.on0 (unhide HB) hb4 (unhide HB).size); clear hb4)
    try go_wp2
    go_ret
    exact ⟨ret_bool (by simp), (unhide HB4).alloc (unhide HB4).size _⟩
  | some t =>
    rw [ho] at hc
    change ∀ W, Below w.heap.size w W → TyYes 19 (.agg #[.slice a0 n0 k0, .slice a1 n1 k1, .slice a2 n2 k2, .slice a3 n3 k3, .slice a4 n4 k4, .slice a5 n5 k5, .slice a6 n6 k6, .slice a7 n7 k7]) W g x.n t at hc
    unfold TyYes at hc
    have hcl2 := fun pa pc W => hcl t ho pa pc W
    clear hcl ho
    obtain ⟨r, hr⟩ : ∃ r, cls (some t) x 0 = r := ⟨_, rfl⟩
    rw [hr] at hcl2 ⊢
    clear hr
    obtain ⟨ps, re⟩ := t
    simp only at *
    generalize ps.length = pl at *
    obtain ⟨op, dst, src, nn, of⟩ := x
    simp only at *
    generalize src.length = sl at *
    obtain ⟨W0, hW0, b1, b2, b3, b4⟩ := start85 (w := w) (c1 := #[.slice a0 n0 k0, .slice a1 n1 k1, .slice a2 n2 k2, .slice a3 n3 k3, .slice a4 n4 k4, .slice a5 n5 k5, .slice a6 n6 k6, .slice a7 n7 k7]) (c2 := #[.int .u8 (op : Int), .int .i64 dst, .slice sa sl sc, .int .i64 nn, .int .u32 of]) (t := 49) (t2 := 101)
    obtain ⟨p0, p1, p2, p3, p4, p5, p6, p7⟩ := mbox8 b1
    obtain ⟨q0, q1, q2, q3, q4⟩ := cel5 b2
    have lW : w.heap.size < W0.heap.size := by omega
    subst h
    simp only [show ((16 : Nat) : Int) = 16 from rfl] at *
    have HC := hide (hc W0 b4); have HCl := hide hcl2
    have HW := hide hW0; have HB := hide b4; have HP2 := hide p2; have HQ := hide (And.intro q0 (And.intro q1 (And.intro q2 (And.intro q3 q4))))
    have lW2 : w.heap.size + 1 < W0.heap.size := b3
    clear hW0 b1 b2 b4 hc hcl2 b3
    go_enter Tryz.func20, Tryz.ntmps20
    go_upto_region 1 with fail
    rw [unhide HW]
    go_wp2_with fail
    refine (unhide HC).mono ?_
    rintro e w4 ⟨pa, pc, rfl, hL4, hb4⟩
    clear hL4
    obtain ⟨W5, hW5⟩ : ∃ W, w4.alloc (.cells #[.slice pa pl pc, .int .u8 re] 97) = W := ⟨_, rfl⟩
    have hr5 : W5.heap[w4.heap.size]? = some (.cells #[.slice pa pl pc, .int .u8 re] 97 (0, 0)) := by rw [← hW5]; exact heap_alloc_new _ _
    have hb5 : Below w4.heap.size w4 W5 := by rw [← hW5]; exact one_alloc _ _
    have hb45 := hb4.trans (hb5.mono hb4.size)
    have HB5 := hide (Gm.Below.on0 (unhide HB) hb45 (unhide HB).size)
    obtain ⟨y0, y1⟩ := Gm.cel2 hr5
    have u2 := (hb45.cell (p := ⟨w.heap.size, 2, none⟩) lW).trans (unhide HP2)
    have u0 := (hb45.cell (p := ⟨w.heap.size + 1, 0, none⟩) lW2).trans (unhide HQ).1
    have u1 := (hb45.cell (p := ⟨w.heap.size + 1, 1, none⟩) lW2).trans (unhide HQ).2.1
    have u22 := (hb45.cell (p := ⟨w.heap.size + 1, 2, none⟩) lW2).trans (unhide HQ).2.2.1
    have u3 := (hb45.cell (p := ⟨w.heap.size + 1, 3, none⟩) lW2).trans (unhide HQ).2.2.2.1
    have u4 := (hb45.cell (p := ⟨w.heap.size + 1, 4, none⟩) lW2).trans (unhide HQ).2.2.2.2
    have HW5 := hide hW5
    clear hb4 hb5 hb45 hr5 p0 p1 p2 p3 p4 p5 p6 p7 q0 q1 q2 q3 q4 hW5
    go_upto_region 11 with fail
    rw [unhide HW5]
    clear HW5
    go_wp2_with fail
    refine (unhide HCl pa pc _).mono ?_
    rintro e w6 ⟨rfl, hb6⟩
    have HB6 := hide (Gm.Below.on0 (unhide HB5) hb6 (unhide HB5).size)
    clear hb6
    go_wp2
    go_ret
    exact ⟨ret_bool (by simp), unhide HB6⟩
theorem sf_calli_mem {M : Mod} (hs : SzM M) {n : Int} {t : Typ} (h : atT M n = some t) : t.ps.length ≤ 1048576 := by
  unfold atT at h
  split at h
  · cases h
  · exact (hs.s0 t (List.mem_of_getElem? h)).2
set_option maxRecDepth 100000 in
set_option maxHeartbeats 3200000 in
theorem sf_calli {M : Mod} {g : Nat → Prop} {v0 v1 v2 v3 v4 v5 v6 v7 : Value} {w : World} (hM : ModL w g M v0 v1 v2 v3 v4 v5 v6 v7) (hwf : WfM M) (hs : SzM M) (hg : ∀ k, g k → k < w.heap.size) (hT : Fms w) (x : In) (hx : x.op < 256) (sa : Option Addr) (sc : Nat) (h : x.op = 17) :
    Calls Tryz.prog 20 #[.agg #[v0, v1, v2, v3, v4, v5, v6, v7], .agg #[.int .u8 (x.op : Int), .int .i64 x.dst, .slice sa x.src.length sc, .int .i64 x.n, .int .u32 x.of]] w fun e w' => e = .returned (.bool (decide (0 < M.tables.length) && cls (atT M x.n) x 1)) ∧ Below w.heap.size w w' := by
  have hc : ∀ W, Below w.heap.size w W → TyB 38 (.agg #[v0, v1, v2, v3, v4, v5, v6, v7]) W g x.n (atT M x.n) := fun W hW => tat_any (hM.moved (g' := g) (Gm.Mv.below hW (fun _ _ q => q)) hW.size) x.n
  have hpl := fun t (ht : atT M x.n = some t) => sf_calli_mem hs ht
  have hcl := fun (t : Typ) (ht : atT M x.n = some t) pa pc W => calls_any t x 1 (by omega) pa sa pc sc W (hpl t ht)
  obtain ⟨a0, k0, rfl⟩ := hM.l0.sl; obtain ⟨a1, k1, rfl⟩ := hM.l1.sl; obtain ⟨a2, k2, rfl⟩ := hM.l2.sl; obtain ⟨a3, k3, rfl⟩ := hM.l3.sl; obtain ⟨a4, k4, rfl⟩ := hM.l4.sl; obtain ⟨a5, k5, rfl⟩ := hM.l5.sl; obtain ⟨a6, k6, rfl⟩ := hM.l6.sl; obtain ⟨a7, k7, rfl⟩ := hM.l7.sl
  clear hM hwf hs hT hpl
  generalize M.types.length = n0 at *; generalize M.funcs.length = n1 at *; generalize M.tables.length = n2 at *; generalize M.mems.length = n3 at *; generalize M.globs.length = n4 at *; generalize M.exps.length = n5 at *; generalize M.elems.length = n6 at *; generalize M.datas.length = n7 at *
  cases ho : atT M x.n with
  | none =>
    rw [ho] at hc
    change ∀ W, Below w.heap.size w W → TyNo 38 (.agg #[.slice a0 n0 k0, .slice a1 n1 k1, .slice a2 n2 k2, .slice a3 n3 k3, .slice a4 n4 k4, .slice a5 n5 k5, .slice a6 n6 k6, .slice a7 n7 k7]) W x.n at hc
    unfold TyNo at hc
    have hres : cls none x 1 = false := rfl
    rw [hres]
    clear hcl hres ho
    obtain ⟨op, dst, src, nn, of⟩ := x
    simp only at *
    generalize src.length = sl at *
    obtain ⟨W0, hW0, b1, b2, b3, b4⟩ := start85 (w := w) (c1 := #[.slice a0 n0 k0, .slice a1 n1 k1, .slice a2 n2 k2, .slice a3 n3 k3, .slice a4 n4 k4, .slice a5 n5 k5, .slice a6 n6 k6, .slice a7 n7 k7]) (c2 := #[.int .u8 (op : Int), .int .i64 dst, .slice sa sl sc, .int .i64 nn, .int .u32 of]) (t := 49) (t2 := 101)
    obtain ⟨p0, p1, p2, p3, p4, p5, p6, p7⟩ := mbox8 b1
    obtain ⟨q0, q1, q2, q3, q4⟩ := cel5 b2
    have lW : w.heap.size < W0.heap.size := by omega
    subst h
    simp only [show ((17 : Nat) : Int) = 17 from rfl] at *
    have HC := hide (hc W0 b4)
    have HW := hide hW0; have HB := hide b4
    clear hW0 b1 b2 b4 hc
    go_enter Tryz.func20, Tryz.ntmps20
    go_upto_region 1 with fail
    rw [unhide HW]
    go_wp2_with (go_at_call 38; refine (unhide HC).mono ?_; rintro e w4 ⟨rfl, hb4⟩; have HB4 := hide (Gm.Below.on0 (unhide HB) hb4 (unhide HB).size); clear hb4)
    try go_wp2
    go_ret
    exact ⟨ret_bool (by simp), (unhide HB4).alloc (unhide HB4).size _⟩
  | some t =>
    rw [ho] at hc
    change ∀ W, Below w.heap.size w W → TyYes 38 (.agg #[.slice a0 n0 k0, .slice a1 n1 k1, .slice a2 n2 k2, .slice a3 n3 k3, .slice a4 n4 k4, .slice a5 n5 k5, .slice a6 n6 k6, .slice a7 n7 k7]) W g x.n t at hc
    unfold TyYes at hc
    have hcl2 := fun pa pc W => hcl t ho pa pc W
    clear hcl ho
    obtain ⟨r, hr⟩ : ∃ r, cls (some t) x 1 = r := ⟨_, rfl⟩
    rw [hr] at hcl2 ⊢
    clear hr
    obtain ⟨ps, re⟩ := t
    simp only at *
    generalize ps.length = pl at *
    obtain ⟨op, dst, src, nn, of⟩ := x
    simp only at *
    generalize src.length = sl at *
    obtain ⟨W0, hW0, b1, b2, b3, b4⟩ := start85 (w := w) (c1 := #[.slice a0 n0 k0, .slice a1 n1 k1, .slice a2 n2 k2, .slice a3 n3 k3, .slice a4 n4 k4, .slice a5 n5 k5, .slice a6 n6 k6, .slice a7 n7 k7]) (c2 := #[.int .u8 (op : Int), .int .i64 dst, .slice sa sl sc, .int .i64 nn, .int .u32 of]) (t := 49) (t2 := 101)
    obtain ⟨p0, p1, p2, p3, p4, p5, p6, p7⟩ := mbox8 b1
    obtain ⟨q0, q1, q2, q3, q4⟩ := cel5 b2
    have lW : w.heap.size < W0.heap.size := by omega
    subst h
    simp only [show ((17 : Nat) : Int) = 17 from rfl] at *
    by_cases h2 : 0 < n2
    · have h3 : (n2 : Int) > 0 := by omega
      have h4 : decide ((0 : Int) < (n2 : Int)) = true := by simp; omega
      have HC := hide (hc W0 b4); have HCl := hide hcl2
      have HW := hide hW0; have HB := hide b4; have HP2 := hide p2; have HQ := hide (And.intro q0 (And.intro q1 (And.intro q2 (And.intro q3 q4))))
      have lW2 : w.heap.size + 1 < W0.heap.size := b3
      clear hW0 b1 b2 b4 hc hcl2 b3
      go_enter Tryz.func20, Tryz.ntmps20
      go_upto_region 1 with fail
      rw [unhide HW]
      go_wp2_with fail
      refine (unhide HC).mono ?_
      rintro e w4 ⟨pa, pc, rfl, hL4, hb4⟩
      clear hL4
      obtain ⟨W5, hW5⟩ : ∃ W, w4.alloc (.cells #[.slice pa pl pc, .int .u8 re] 97) = W := ⟨_, rfl⟩
      have hr5 : W5.heap[w4.heap.size]? = some (.cells #[.slice pa pl pc, .int .u8 re] 97 (0, 0)) := by rw [← hW5]; exact heap_alloc_new _ _
      have hb5 : Below w4.heap.size w4 W5 := by rw [← hW5]; exact one_alloc _ _
      have hb45 := hb4.trans (hb5.mono hb4.size)
      have HB5 := hide (Gm.Below.on0 (unhide HB) hb45 (unhide HB).size)
      obtain ⟨y0, y1⟩ := Gm.cel2 hr5
      have u2 := (hb45.cell (p := ⟨w.heap.size, 2, none⟩) lW).trans (unhide HP2)
      have u0 := (hb45.cell (p := ⟨w.heap.size + 1, 0, none⟩) lW2).trans (unhide HQ).1
      have u1 := (hb45.cell (p := ⟨w.heap.size + 1, 1, none⟩) lW2).trans (unhide HQ).2.1
      have u22 := (hb45.cell (p := ⟨w.heap.size + 1, 2, none⟩) lW2).trans (unhide HQ).2.2.1
      have u3 := (hb45.cell (p := ⟨w.heap.size + 1, 3, none⟩) lW2).trans (unhide HQ).2.2.2.1
      have u4 := (hb45.cell (p := ⟨w.heap.size + 1, 4, none⟩) lW2).trans (unhide HQ).2.2.2.2
      have HW5 := hide hW5
      clear hb4 hb5 hb45 hr5 p0 p1 p2 p3 p4 p5 p6 p7 q0 q1 q2 q3 q4 hW5
      go_upto_region 14 with fail
      rw [unhide HW5]
      clear HW5
      go_wp2_with fail
      refine (unhide HCl pa pc _).mono ?_
      rintro e w6 ⟨rfl, hb6⟩
      have HB6 := hide (Gm.Below.on0 (unhide HB5) hb6 (unhide HB5).size)
      clear hb6
      go_wp2
      go_ret
      exact ⟨ret_bool (by simp [h2]), unhide HB6⟩
    · have h3 : decide ((n2 : Int) > 0) = false := by simp; omega
      have h4 : decide ((0 : Int) < (n2 : Int)) = false := by simp; omega
      have h5 : n2 = 0 := by omega
      subst h5
      have HC := hide (hc W0 b4); have HCl := hide hcl2
      have HW := hide hW0; have HB := hide b4; have HP2 := hide p2; have HQ := hide (And.intro q0 (And.intro q1 (And.intro q2 (And.intro q3 q4))))
      have lW2 : w.heap.size + 1 < W0.heap.size := b3
      clear hW0 b1 b2 b4 hc hcl2 b3
      go_enter Tryz.func20, Tryz.ntmps20
      go_upto_region 1 with fail
      rw [unhide HW]
      go_wp2_with fail
      refine (unhide HC).mono ?_
      rintro e w4 ⟨pa, pc, rfl, hL4, hb4⟩
      clear hL4
      obtain ⟨W5, hW5⟩ : ∃ W, w4.alloc (.cells #[.slice pa pl pc, .int .u8 re] 97) = W := ⟨_, rfl⟩
      have hr5 : W5.heap[w4.heap.size]? = some (.cells #[.slice pa pl pc, .int .u8 re] 97 (0, 0)) := by rw [← hW5]; exact heap_alloc_new _ _
      have hb5 : Below w4.heap.size w4 W5 := by rw [← hW5]; exact one_alloc _ _
      have hb45 := hb4.trans (hb5.mono hb4.size)
      have HB5 := hide (Gm.Below.on0 (unhide HB) hb45 (unhide HB).size)
      obtain ⟨y0, y1⟩ := Gm.cel2 hr5
      have u2 := (hb45.cell (p := ⟨w.heap.size, 2, none⟩) lW).trans (unhide HP2)
      have u0 := (hb45.cell (p := ⟨w.heap.size + 1, 0, none⟩) lW2).trans (unhide HQ).1
      have u1 := (hb45.cell (p := ⟨w.heap.size + 1, 1, none⟩) lW2).trans (unhide HQ).2.1
      have u22 := (hb45.cell (p := ⟨w.heap.size + 1, 2, none⟩) lW2).trans (unhide HQ).2.2.1
      have u3 := (hb45.cell (p := ⟨w.heap.size + 1, 3, none⟩) lW2).trans (unhide HQ).2.2.2.1
      have u4 := (hb45.cell (p := ⟨w.heap.size + 1, 4, none⟩) lW2).trans (unhide HQ).2.2.2.2
      have HW5 := hide hW5
      clear hb4 hb5 hb45 hr5 p0 p1 p2 p3 p4 p5 p6 p7 q0 q1 q2 q3 q4 hW5
      go_upto_region 14 with fail
      rw [unhide HW5]
      clear HW5
      go_wp2
      go_ret
      exact ⟨ret_bool (by simp ), unhide HB5⟩
set_option maxRecDepth 100000 in
set_option maxHeartbeats 3200000 in
theorem sf_else {M : Mod} {g : Nat → Prop} {v0 v1 v2 v3 v4 v5 v6 v7 : Value} {w : World} (hM : ModL w g M v0 v1 v2 v3 v4 v5 v6 v7) (hwf : WfM M) (hs : SzM M) (hg : ∀ k, g k → k < w.heap.size) (hT : Fms w) (x : In) (hx : x.op < 256) (sa : Option Addr) (sc : Nat) (h1 : ¬ x.op = 63) (h2 : ¬ x.op = 64) (h3 : ¬ x.op = 35) (h4 : ¬ x.op = 36) (h5 : ¬ x.op = 16) (h6 : ¬ x.op = 17) :
    Calls Tryz.prog 20 #[.agg #[v0, v1, v2, v3, v4, v5, v6, v7], .agg #[.int .u8 (x.op : Int), .int .i64 x.dst, .slice sa x.src.length sc, .int .i64 x.n, .int .u32 x.of]] w fun e w' => e = .returned (.bool (!acc x.op || decide (0 < M.mems.length))) ∧ Below w.heap.size w w' := by
  have hc := fun W (hW : Below w.heap.size w W) => acc_any x.op hx W (TC.below hT hW)
  obtain ⟨a0, k0, rfl⟩ := hM.l0.sl; obtain ⟨a1, k1, rfl⟩ := hM.l1.sl; obtain ⟨a2, k2, rfl⟩ := hM.l2.sl; obtain ⟨a3, k3, rfl⟩ := hM.l3.sl; obtain ⟨a4, k4, rfl⟩ := hM.l4.sl; obtain ⟨a5, k5, rfl⟩ := hM.l5.sl; obtain ⟨a6, k6, rfl⟩ := hM.l6.sl; obtain ⟨a7, k7, rfl⟩ := hM.l7.sl
  clear hM hwf hs hT
  generalize acc x.op = r at *
  generalize M.types.length = n0 at *; generalize M.funcs.length = n1 at *; generalize M.tables.length = n2 at *; generalize M.mems.length = n3 at *; generalize M.globs.length = n4 at *; generalize M.exps.length = n5 at *; generalize M.elems.length = n6 at *; generalize M.datas.length = n7 at *
  obtain ⟨op, dst, src, nn, of⟩ := x
  simp only at *
  generalize src.length = sl at *
  obtain ⟨W0, hW0, b1, b2, b3, b4⟩ := start85 (w := w) (c1 := #[.slice a0 n0 k0, .slice a1 n1 k1, .slice a2 n2 k2, .slice a3 n3 k3, .slice a4 n4 k4, .slice a5 n5 k5, .slice a6 n6 k6, .slice a7 n7 k7]) (c2 := #[.int .u8 (op : Int), .int .i64 dst, .slice sa sl sc, .int .i64 nn, .int .u32 of]) (t := 49) (t2 := 101)
  obtain ⟨p0, p1, p2, p3, p4, p5, p6, p7⟩ := mbox8 b1
  obtain ⟨q0, q1, q2, q3, q4⟩ := cel5 b2
  have lW : w.heap.size < W0.heap.size := by omega
  have t1 : ((op : Int) == 63) = false := by simp; omega
  have t2 : ((op : Int) == 64) = false := by simp; omega
  have t3 : ((op : Int) == 35) = false := by simp; omega
  have t4 : ((op : Int) == 36) = false := by simp; omega
  have t5 : ((op : Int) == 16) = false := by simp; omega
  have t6 : ((op : Int) == 17) = false := by simp; omega
  have HC := hide (hc W0 b4)
  have HW := hide hW0; have HB := hide b4; have HP3 := hide p3
  clear hW0 b1 b2 b4 hc h1 h2 h3 h4 h5 h6
  cases r with
  | false =>
    go_enter Tryz.func20, Tryz.ntmps20
    go_upto_region 1 with fail
    rw [unhide HW]
    go_wp2_with (go_at_call 41; refine (unhide HC).mono ?_; rintro e w4 ⟨rfl, hb4⟩; have HB4 := hide (Gm.Below.on0 (unhide HB) hb4 (unhide HB).size); clear hb4)
    try go_wp2
    go_ret
    exact ⟨ret_bool (by simp), unhide HB4⟩
  | true =>
    go_enter Tryz.func20, Tryz.ntmps20
    go_upto_region 1 with fail
    rw [unhide HW]
    go_wp2_with (go_at_call 41; refine (unhide HC).mono ?_; rintro e w4 ⟨rfl, hb4⟩; have HB4 := hide (Gm.Below.on0 (unhide HB) hb4 (unhide HB).size); have u3 := (hb4.cell (p := ⟨w.heap.size, 3, none⟩) lW).trans (unhide HP3); clear hb4 p0 p1 p2 p3 p4 p5 p6 p7 q0 q1 q2 q3 q4)
    try go_wp2
    go_ret
    exact ⟨ret_bool (by simp), unhide HB4⟩
theorem sfits_any {M : Mod} {g : Nat → Prop} {v0 v1 v2 v3 v4 v5 v6 v7 : Value} {w : World} (hM : ModL w g M v0 v1 v2 v3 v4 v5 v6 v7) (hwf : WfM M) (hs : SzM M) (hg : ∀ k, g k → k < w.heap.size) (hT : Fms w) (x : In) (hx : x.op < 256) (sa : Option Addr) (sc : Nat) :
    Calls Tryz.prog 20 #[.agg #[v0, v1, v2, v3, v4, v5, v6, v7], .agg #[.int .u8 (x.op : Int), .int .i64 x.dst, .slice sa x.src.length sc, .int .i64 x.n, .int .u32 x.of]] w fun e w' => e = .returned (.bool (mnt M x)) ∧ Below w.heap.size w w' := by
  unfold mnt
  by_cases h1 : x.op = 63 ∨ x.op = 64
  · rw [if_pos h1]; exact sf_mem hM hwf hs hg hT x hx sa sc h1
  rw [if_neg h1]
  by_cases h3 : x.op = 35
  · rw [if_pos h3]; exact sf_gget hM hwf hs hg hT x hx sa sc h3
  rw [if_neg h3]
  by_cases h4 : x.op = 36
  · rw [if_pos h4]; exact sf_gset hM hwf hs hg hT x hx sa sc h4
  rw [if_neg h4]
  by_cases h5 : x.op = 16
  · rw [if_pos h5]; exact sf_call hM hwf hs hg hT x hx sa sc h5
  rw [if_neg h5]
  by_cases h6 : x.op = 17
  · rw [if_pos h6]; exact sf_calli hM hwf hs hg hT x hx sa sc h6
  rw [if_neg h6]
  exact sf_else hM hwf hs hg hT x hx sa sc (fun e => h1 (.inl e)) (fun e => h1 (.inr e)) h3 h4 h5 h6
end Vc
end Go.Proofs.YtheopjcmhclgdaaGreatDoor

/- vcode.Fits. By mkvfe.py. -/
namespace Go.Proofs.YtheopjcmhclgdaaGreatDoor
open Go.RowKit
namespace Vc
set_option linter.unusedVariables false
set_option linter.unusedSimpArgs false
open Gm (Mod Typ Fnc Glo Byts ModL WfM SzM TypC TyYes TyNo TyB ty?)
def mntA (M : Mod) (l : List Bl) : Bool := l.all fun b => b.ins.all (mnt M)
def fitN (M : Mod) (f : Int) (c : Co) : Int :=
  if chk c then (match ty? M f with
    | none => 1
    | some t => if c.pa = t.ps.length ∧ c.rs = decide (t.re ≠ 0) then (if mntA M c.bl then 0 else 7) else 7) else 1
theorem mntA_no {M : Mod} {l : List Bl} {j : Nat} {x : Bl} (h : l[j]? = some x) (h2 : x.ins.all (mnt M) = false) : mntA M l = false := all_no h h2
theorem insA_no {M : Mod} {l : List In} {j : Nat} {y : In} (h : l[j]? = some y) (h2 : mnt M y = false) : l.all (mnt M) = false := by
  rw [List.all_eq_false]; exact ⟨y, List.mem_of_getElem? h, by simp [h2]⟩
theorem insA_yes {M : Mod} {l : List In} (h : ∀ i y, i < l.length → l[i]? = some y → mnt M y = true) : l.all (mnt M) = true := by
  rw [List.all_eq_true]
  intro x hx
  obtain ⟨i, hi, rfl⟩ := List.getElem_of_mem hx
  exact h i _ hi (List.getElem?_eq_getElem hi)
theorem errV_7' : errV 7 = .iface 90 (.int .i64 7) := by simp [errV]

set_option maxRecDepth 100000 in
set_option maxHeartbeats 6400000 in
theorem fits_any {M : Mod} {g gc : Nat → Prop} {v0 v1 v2 v3 v4 v5 v6 v7 : Value} {w : World} (hM : ModL w g M v0 v1 v2 v3 v4 v5 v6 v7) (hwf : WfM M) (hs : SzM M) (hg : ∀ k, g k → k < w.heap.size) (hT : Fms w) (f : Int) (c : Co) (hc : WfC c) (v : Value) (hv : Bls w gc c.bl v) (hz : siz c.bl ≤ 1099511627776) :
    Calls Tryz.prog 8 #[.agg #[v0, v1, v2, v3, v4, v5, v6, v7], .int .i64 f, .agg #[.int .i64 c.pa, .int .i64 c.re, .bool c.rs, v]] w fun e w' => e = .returned (errV (fitN M f c)) ∧ Below w.heap.size w w' := by
  have hmv : ∀ W, Below w.heap.size w W → ModL W g M v0 v1 v2 v3 v4 v5 v6 v7 := fun W hW => hM.moved (g' := g) (Gm.Mv.below hW (fun _ _ q => q)) hW.size
  have hchk := fun W (hW : Below w.heap.size w W) => check_any c hc gc v W (TC.below hT hW) (hv.below hW) hz
  have hty := fun W (hW : Below w.heap.size w W) => sty_any (hmv W hW) hwf (fun k hk => Nat.lt_of_lt_of_le (hg k hk) hW.size) f
  have hft := fun W (hW : Below w.heap.size w W) (x : In) (hx : x.op < 256) sa sc => sfits_any (hmv W hW) hwf hs (fun k hk => Nat.lt_of_lt_of_le (hg k hk) hW.size) (TC.below hT hW) x hx sa sc
  have hdef : fitN M f c = if chk c then (match ty? M f with
    | none => 1
    | some t => if c.pa = t.ps.length ∧ c.rs = decide (t.re ≠ 0) then (if mntA M c.bl then 0 else 7) else 7) else 1 := rfl
  have hlen := hc.len
  have hbls := hc.bl
  have HV := hide hv
  obtain ⟨ca, cc, rfl, hcc, -, hA⟩ := hv
  obtain ⟨a0, k0, rfl⟩ := hM.l0.sl; obtain ⟨a1, k1, rfl⟩ := hM.l1.sl; obtain ⟨a2, k2, rfl⟩ := hM.l2.sl; obtain ⟨a3, k3, rfl⟩ := hM.l3.sl; obtain ⟨a4, k4, rfl⟩ := hM.l4.sl; obtain ⟨a5, k5, rfl⟩ := hM.l5.sl; obtain ⟨a6, k6, rfl⟩ := hM.l6.sl; obtain ⟨a7, k7, rfl⟩ := hM.l7.sl
  obtain ⟨W0, hW0, b1, b2, b3, b4⟩ := start85 (w := w) (c1 := #[.slice a0 M.types.length k0, .slice a1 M.funcs.length k1, .slice a2 M.tables.length k2, .slice a3 M.mems.length k3, .slice a4 M.globs.length k4, .slice a5 M.exps.length k5, .slice a6 M.elems.length k6, .slice a7 M.datas.length k7]) (c2 := #[.int .i64 c.pa, .int .i64 c.re, .bool c.rs, .slice ca c.bl.length cc]) (t := 49) (t2 := 53)
  have ano := fun j x h h2 => mntA_no (M := M) (l := c.bl) (j := j) (x := x) h h2
  have ayes := all_yes (l := c.bl) (f := fun b => b.ins.all (mnt M))
  have HChk := hide (hchk W0 b4); have HTy := hide hty; have HFt := hide hft; have HW := hide hW0; have HB0 := hide b4; have HR1 := hide b1; have HR2 := hide b2; have HA := hide hA; have HBs := hide hbls; have HL0 := hide b3; have HD := hide hdef; have ANo := hide ano; have AYes := hide ayes
  clear hmv hchk hty hft hW0 b1 b2 b3 b4 hA hbls hM hwf hs hg hT hc hz hdef hcc ano ayes
  generalize hE : fitN M f c = E at *
  have HE := hide hE; clear hE
  obtain ⟨pa, re, rs, bl⟩ := c
  simp only at *
  have hlw0 : w.heap.size < W0.heap.size := Nat.lt_of_succ_lt (unhide HL0)
  cases hck : chk ⟨pa, re, rs, bl⟩ with
  | false =>
    rw [hck] at HChk
    have HRes := hide (show errV E = .iface 90 (.int .i64 1) by rw [unhide HD, hck]; exact errV_1)
    rw [show errV (if false = true then 0 else 1) = .iface 90 (.int .i64 1) from errV_1] at HChk
    clear hck HD
    obtain ⟨p0, p1, p2, p3, p4, p5, p6, p7⟩ := mbox8 (unhide HR1)
    obtain ⟨q0, q1, q2, q3, -, -⟩ := cob_cells (unhide HR2)
    generalize M.types.length = n0 at *; generalize M.funcs.length = n1 at *; generalize M.tables.length = n2 at *; generalize M.mems.length = n3 at *; generalize M.globs.length = n4 at *; generalize M.exps.length = n5 at *; generalize M.elems.length = n6 at *; generalize M.datas.length = n7 at *
    generalize bl.length = bn at *
    go_enter Tryz.func8, Tryz.ntmps8
    go_upto_region 1 with fail
    rw [unhide HW]
    go_wp2_with fail
    refine (unhide HChk).mono ?_
    rintro e w1 ⟨rfl, hb1⟩
    have HB1 := hide (Gm.Below.on0 (unhide HB0) hb1 (unhide HB0).size)
    clear hb1 p0 p1 p2 p3 p4 p5 p6 p7 q0 q1 q2 q3
    go_wp2
    go_ret
    exact ⟨ret_v (unhide HRes).symm, unhide HB1⟩
  | true =>
  rw [hck] at HChk
  rw [show errV (if true = true then 0 else 1) = .nilIface from errV_0] at HChk
  have HD2 := hide (show E = (match ty? M f with
    | none => 1
    | some t => if pa = t.ps.length ∧ rs = decide (t.re ≠ 0) then (if mntA M bl then 0 else 7) else 7) by rw [unhide HD, hck]; rfl)
  clear hck HD
  cases hty2 : ty? M f with
  | none =>
    rw [hty2] at HD2
    have HRes := hide (show errV E = .iface 90 (.int .i64 1) by rw [unhide HD2]; exact errV_1)
    have hty3 := unhide HTy
    rw [hty2] at hty3
    change ∀ W, Below w.heap.size w W → TyNo 19 (.agg #[.slice a0 M.types.length k0, .slice a1 M.funcs.length k1, .slice a2 M.tables.length k2, .slice a3 M.mems.length k3, .slice a4 M.globs.length k4, .slice a5 M.exps.length k5, .slice a6 M.elems.length k6, .slice a7 M.datas.length k7]) W f at hty3
    unfold TyNo at hty3
    have HTy3 := hide hty3
    clear hty3 HTy hty2 HD2
    obtain ⟨p0, p1, p2, p3, p4, p5, p6, p7⟩ := mbox8 (unhide HR1)
    obtain ⟨q0, q1, q2, q3, -, -⟩ := cob_cells (unhide HR2)
    generalize M.types.length = n0 at *; generalize M.funcs.length = n1 at *; generalize M.tables.length = n2 at *; generalize M.mems.length = n3 at *; generalize M.globs.length = n4 at *; generalize M.exps.length = n5 at *; generalize M.elems.length = n6 at *; generalize M.datas.length = n7 at *
    generalize bl.length = bn at *
    go_enter Tryz.func8, Tryz.ntmps8
    go_upto_region 1 with fail
    rw [unhide HW]
    go_wp2_with fail
    refine (unhide HChk).mono ?_
    rintro e w1 ⟨rfl, hb1⟩
    have HB1 := hide (Gm.Below.on0 (unhide HB0) hb1 (unhide HB0).size)
    have hr1 := (hb1.block _ hlw0).trans (unhide HR1)
    clear hb1 p0 p1 p2 p3 p4 p5 p6 p7 q0 q1 q2 q3
    obtain ⟨p0, p1, p2, p3, p4, p5, p6, p7⟩ := mbox8 hr1
    clear hr1
    go_wp2_with fail
    refine (unhide HTy3 w1 (unhide HB1)).mono ?_
    rintro e w2 ⟨rfl, hb2⟩
    have HB2 := hide (Gm.Below.on0 (unhide HB1) hb2 (unhide HB1).size)
    clear hb2 p0 p1 p2 p3 p4 p5 p6 p7
    go_wp2
    go_ret
    exact ⟨ret_v (unhide HRes).symm, (unhide HB2).alloc (unhide HB2).size _⟩
  | some t =>
  have hty3 := unhide HTy
  rw [hty2] at hty3 HD2
  change ∀ W, Below w.heap.size w W → TyYes 19 (.agg #[.slice a0 M.types.length k0, .slice a1 M.funcs.length k1, .slice a2 M.tables.length k2, .slice a3 M.mems.length k3, .slice a4 M.globs.length k4, .slice a5 M.exps.length k5, .slice a6 M.elems.length k6, .slice a7 M.datas.length k7]) W g f t at hty3
  unfold TyYes at hty3
  have HTy3 := hide hty3
  have HD3 := hide (show E = if pa = t.ps.length ∧ rs = decide (t.re ≠ 0) then (if mntA M bl then 0 else 7) else 7 from unhide HD2)
  clear hty3 HTy hty2 HD2
  obtain ⟨ps, tre⟩ := t
  simp only at *
  generalize ps.length = pl at *
  obtain ⟨p0, p1, p2, p3, p4, p5, p6, p7⟩ := mbox8 (unhide HR1)
  obtain ⟨q0, q1, q2, q3, -, -⟩ := cob_cells (unhide HR2)
  generalize M.types.length = n0 at *; generalize M.funcs.length = n1 at *; generalize M.tables.length = n2 at *; generalize M.mems.length = n3 at *; generalize M.globs.length = n4 at *; generalize M.exps.length = n5 at *; generalize M.elems.length = n6 at *; generalize M.datas.length = n7 at *
  generalize hL : bl.length = bn at *
  have HL := hide hL; clear hL
  go_enter Tryz.func8, Tryz.ntmps8
  go_upto_region 1 with fail
  rw [unhide HW]
  go_wp2_with fail
  refine (unhide HChk).mono ?_
  rintro e w1 ⟨rfl, hb1⟩
  have HB1 := hide (Gm.Below.on0 (unhide HB0) hb1 (unhide HB0).size)
  have hr1 := (hb1.block _ hlw0).trans (unhide HR1)
  have HR21 := hide ((hb1.block _ (unhide HL0)).trans (unhide HR2))
  have hs1 := hb1.size
  clear hb1 p0 p1 p2 p3 p4 p5 p6 p7 q0 q1 q2 q3
  obtain ⟨p0, p1, p2, p3, p4, p5, p6, p7⟩ := mbox8 hr1
  have HR11 := hide hr1
  have HS1 := hide hs1
  clear hr1 hs1
  go_wp2_with fail
  refine (unhide HTy3 w1 (unhide HB1)).mono ?_
  rintro e w2 ⟨qa, qc, rfl, hl2, hb2⟩
  obtain ⟨W3, hW3⟩ : ∃ W, w2.alloc (.cells #[.slice qa pl qc, .int .u8 tre] 97) = W := ⟨_, rfl⟩
  have hr3 : W3.heap[w2.heap.size]? = some (.cells #[.slice qa pl qc, .int .u8 tre] 97 (0, 0)) := by rw [← hW3]; exact heap_alloc_new _ _
  have hb3 : Below w2.heap.size w2 W3 := by rw [← hW3]; exact one_alloc _ _
  have hb23 := hb2.trans (hb3.mono hb2.size)
  have HB3 := hide (Gm.Below.on0 (unhide HB1) hb23 (unhide HB1).size)
  have HM3 := hide ((hb23.block _ (Nat.lt_of_lt_of_le hlw0 (unhide HS1))).trans (unhide HR11))
  have HC3 := hide ((hb23.block _ (Nat.lt_of_lt_of_le (unhide HL0) (unhide HS1))).trans (unhide HR21))
  have HT3 := hide hr3
  have HW3 := hide hW3
  clear hb2 hb3 hb23 hr3 hl2 hW3 p0 p1 p2 p3 p4 p5 p6 p7
  obtain ⟨q0, q1, q2, q3, -, -⟩ := cob_cells (unhide HC3)
  obtain ⟨t0, t1⟩ := Gm.cel2 (unhide HT3)
  go_upto_region 5 with fail
  rw [unhide HW3]
  clear HW3
  generalize hNT : w2.heap.size = NT at *
  have HNT := hide hNT; clear hNT
  by_cases hp : ¬ pa = (pl : Int)
  · have HRes := hide (show errV E = .iface 90 (.int .i64 7) by rw [unhide HD3, if_neg (fun h => hp h.1)]; exact errV_7')
    have hp1 : (pa != (pl : Int)) = true := by simpa using hp
    clear hp
    go_wp2
    go_ret
    exact ⟨ret_v (unhide HRes).symm, unhide HB3⟩
  have hp := Decidable.not_not.1 hp
  by_cases hr : ¬ rs = decide (tre ≠ 0)
  · have HRes := hide (show errV E = .iface 90 (.int .i64 7) by rw [unhide HD3, if_neg (fun h => hr h.2)]; exact errV_7')
    have hp1 : (pa != (pl : Int)) = false := by simpa using hp
    have hr1 : (tre != 0) = !rs := by
      have : (tre != 0) = decide (tre ≠ 0) := by by_cases h : tre = 0 <;> simp [h]
      rw [this]; revert hr; cases rs <;> cases decide (tre ≠ 0) <;> simp
    clear hp hr
    go_wp2
    go_ret
    exact ⟨ret_v (unhide HRes).symm, unhide HB3⟩
  have hr := Decidable.not_not.1 hr
  have HD4 := hide (show E = if mntA M bl then 0 else 7 by rw [unhide HD3, if_pos ⟨hp, hr⟩])
  have hp1 : (pa != (pl : Int)) = false := by simpa using hp
  have hr1 : (tre != 0) = rs := by
    have : (tre != 0) = decide (tre ≠ 0) := by by_cases h : tre = 0 <;> simp [h]
    rw [this, hr]
  clear hp hr HD3
  go_wp2_with fail
  clear q0 q1 q2 q3 t0 t1 hp1 hr1
  go_loopw [46] (fun c wr => ∃ j : Nat, c = .int .i64 j ∧ (j : Int) ≤ bn ∧ (∀ i x, i < j → bl[i]? = some x → x.ins.all (mnt M) = true) ∧ Below W3.heap.size W3 wr) (fun c _ => bn - (intOf c).toNat)
  case atStart => exact ⟨0, rfl, by omega, fun i x h => absurd h (by omega), Below.refl _ _⟩
  case round =>
    obtain ⟨j, rfl, hj, hall, hbel⟩ := hrel
    have HAll := hide hall; clear hall
    have hbW := Gm.Below.on0 (unhide HB3) hbel (unhide HB3).size
    by_cases hlt : (j : Int) < bn
    · obtain ⟨x, hx⟩ : ∃ x, bl[j]? = some x := ⟨_, List.getElem?_eq_getElem (by have := unhide HL; omega)⟩
      obtain ⟨b, o, rfl, hgb, hblt, hit⟩ := unhide HA (by omega)
      obtain ⟨cs, hcl, ⟨vi, vn, rfl, hi, hn⟩, hce⟩ := hit j x hx
      have cc1 := fun i u hu => (hbW.cell (p := ⟨b, o + j * 3 + i, none⟩) hblt).trans (hce i u hu)
      have e0 := cc1 0 _ rfl; have e1 := cc1 1 _ rfl; have e2 := cc1 2 _ rfl
      simp only [Nat.add_zero] at e0
      have hwx := unhide HBs x (List.mem_of_getElem? hx)
      have hxl := hwx.len
      have hop := fun y (hy : y ∈ x.ins) => (hwx.ins y hy).op
      obtain ⟨ai, ci, rfl, hci, -, hI⟩ := hi
      obtain ⟨an, cn, rfl, -⟩ := hn
      have HX := hide hx; have HBel := hide hbel; have HI := hide hI; have HOp := hide hop; have HBW := hide hbW
      have hb1 : b < wr.heap.size := World.block_lt_of_cell? wr _ e0
      clear hit hcl hce cc1 hbel hwx hI hop hx hbW hj
      have hins : ∀ i y, x.ins[i]? = some y → y ∈ x.ins := fun i y h => List.mem_of_getElem? h
      have HIns := hide hins; clear hins
      generalize hil : x.ins.length = il at *
      have HIl := hide hil; clear hil
      generalize x.next.length = nl at *
      generalize x.dep = dep at *
      have hlW : w.heap.size < W3.heap.size := (Array.getElem?_eq_some_iff.1 (unhide HM3)).1
      go_upto_region 12 with fail
      obtain ⟨WO, hWO⟩ : ∃ W, wr.alloc (.cells #[.slice ai il ci, .slice an nl cn, .int .i64 dep] 85) = W := ⟨_, rfl⟩
      have hrO : WO.heap[wr.heap.size]? = some (.cells #[.slice ai il ci, .slice an nl cn, .int .i64 dep] 85 (0, 0)) := by rw [← hWO]; exact heap_alloc_new _ _
      have hbO : Below wr.heap.size wr WO := by rw [← hWO]; exact one_alloc _ _
      have HBO := hide (Gm.Below.on0 (unhide HBel) hbO (unhide HBel).size)
      have f0 : WO.cell? ⟨wr.heap.size, 0, none⟩ = some (.slice ai il ci) := by rw [cell_of_row WO _ 0 _ _ _ hrO]; rfl
      rw [hWO]
      have HWO := hide hWO
      clear hWO hrO hbO e0 e1 e2
      generalize wr.heap.size = NR at *
      go_wp2_with fail
      clear f0
      generalize hww : wr = WR at *
      clear hww
      go_loopw [53] (fun c wr => ∃ k : Nat, c = .int .i64 k ∧ (k : Int) ≤ il ∧ (∀ i y, i < k → x.ins[i]? = some y → mnt M y = true) ∧ Below W3.heap.size W3 wr) (fun c _ => il - (intOf c).toNat)
      case atStart => exact ⟨0, rfl, by omega, fun i y h => absurd h (by omega), unhide HBO⟩
      case round =>
        obtain ⟨k, rfl, hk, hall2, hbel2⟩ := hrel
        have HAll2 := hide hall2; clear hall2
        have hbW2 := Gm.Below.on0 (unhide HB3) hbel2 (unhide HB3).size
        by_cases hlt2 : (k : Int) < il
        · obtain ⟨y, hy⟩ : ∃ y, x.ins[k]? = some y := ⟨_, List.getElem?_eq_getElem (by have := unhide HIl; omega)⟩
          obtain ⟨bi, oi, rfl, hgi, hilt, hiti⟩ := unhide HI (by have := unhide HIl; omega)
          obtain ⟨cs, hcl, ⟨vs, rfl, hsr⟩, hce⟩ := hiti k y hy
          have cc1 := fun i u hu => (hbW2.cell (p := ⟨bi, oi + k * 5 + i, none⟩) hilt).trans (hce i u hu)
          have e0 := cc1 0 _ rfl; have e1 := cc1 1 _ rfl; have e2 := cc1 2 _ rfl; have e3 := cc1 3 _ rfl; have e4 := cc1 4 _ rfl
          simp only [Nat.add_zero] at e0
          have hoy := unhide HOp y (unhide HIns k y hy)
          obtain ⟨sa, sc, rfl, -⟩ := hsr
          obtain ⟨p0, p1, p2, p3, p4, p5, p6, p7⟩ := mbox8 ((hbel2.block _ hlW).trans (unhide HM3))
          have hz2 := hbel2.size
          have hlw2 : w.heap.size < wr.heap.size := Nat.lt_of_lt_of_le hlW hz2
          have hbi2 : bi < wr.heap.size := World.block_lt_of_cell? wr _ e0
          have hFt := unhide HFt _ (hbW2.trans ((one_alloc wr (.cells #[.int .u8 (y.op : Int), .int .i64 y.dst, .slice sa y.src.length sc, .int .i64 y.n, .int .u32 y.of] 82)).mono hbW2.size)) y hoy sa sc
          have HFt2 := hide hFt
          have HY := hide hy; have HBel2 := hide hbel2
          clear hiti hcl hce cc1 hbel2 hbW2 hy hk hFt hoy hz2
          cases hm : mnt M y with
          | false =>
            have HRes := hide (show errV E = .iface 90 (.int .i64 7) by rw [unhide HD4, unhide ANo j x (unhide HX) (insA_no (unhide HY) hm)]; exact errV_7')
            rw [hm] at HFt2
            clear hm
            obtain ⟨yop, ydst, ysrc, yn, yof⟩ := y
            simp only at *
            generalize ysrc.length = yl at *
            go_wp2_with fail
            refine (unhide HFt2).mono ?_
            rintro e w5 ⟨rfl, hb5⟩
            have HB5 := hide ((unhide HB3).trans (((unhide HBel2).trans (((one_alloc wr (.cells #[.int .u8 (yop : Int), .int .i64 ydst, .slice sa yl sc, .int .i64 yn, .int .u32 yof] 82)).trans (hb5.mono (by simp))).mono (unhide HBel2).size)).mono (unhide HB3).size))
            clear hb5 p0 p1 p2 p3 p4 p5 p6 p7 e0 e1 e2 e3 e4
            go_wp2
            go_ret
            exact ⟨ret_v (unhide HRes).symm, unhide HB5⟩
          | true =>
            rw [hm] at HFt2
            have HOk := hide hm
            clear hm
            obtain ⟨yop, ydst, ysrc, yn, yof⟩ := y
            simp only at *
            generalize hyl : ysrc.length = yl at *
            have HYl := hide hyl; clear hyl
            go_wp2_with fail
            refine (unhide HFt2).mono ?_
            rintro e w5 ⟨rfl, hb5⟩
            have HB5 := hide ((unhide HBel2).trans (((one_alloc wr (.cells #[.int .u8 (yop : Int), .int .i64 ydst, .slice sa yl sc, .int .i64 yn, .int .u32 yof] 82)).trans (hb5.mono (by simp))).mono (unhide HBel2).size))
            clear hb5 p0 p1 p2 p3 p4 p5 p6 p7 e0 e1 e2 e3 e4
            go_wp2
            go_roundw
            case rel => exact ⟨k + 1, by go_num, by omega, fun i z hi hz => by
              by_cases e : i = k
              · subst e
                obtain rfl := Option.some.inj ((unhide HY).symm.trans hz)
                exact unhide HOk
              · exact unhide HAll2 i z (by omega) hz, unhide HB5⟩
            case measure => simp [intOf]; omega
        · obtain rfl : k = il := by omega
          have HBel2 := hide hbel2
          have HYes := hide (insA_yes (M := M) (l := x.ins) fun i y hi hq => unhide HAll2 i y (by have := unhide HIl; omega) hq)
          clear hk hlt2 hbel2 hbW2
          go_wp2
          go_roundw
          case rel => exact ⟨j + 1, by go_num, by omega, fun i z hi hz => by
            by_cases e : i = j
            · subst e
              obtain rfl := Option.some.inj ((unhide HX).symm.trans hz)
              exact unhide HYes
            · exact unhide HAll i z (by omega) hz, unhide HBel2⟩
          case measure => simp [intOf]; omega
    · obtain rfl : j = bn := by omega
      have HRes := hide (show errV E = .nilIface by
        rw [unhide HD4, show mntA M bl = true from unhide AYes fun i x hi hx => unhide HAll i x (by have := unhide HL; omega) hx]; exact errV_0)
      have HBW := hide hbW
      clear hj hlt hbel hbW
      go_wp2
      go_ret
      exact ⟨ret_v (unhide HRes).symm, unhide HBW⟩
end Vc
end Go.Proofs.YtheopjcmhclgdaaGreatDoor
