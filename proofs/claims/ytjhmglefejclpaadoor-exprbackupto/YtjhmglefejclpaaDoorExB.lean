/- Boxes of an instruction; the reader beside other blocks that turn. -/
import Derived.Test.YtjhmglefejclpaaDoorExL
namespace Go.Proofs.YtjhmglefejclpaaDoor
open Go.RowKit
namespace Ex
set_option linter.unusedVariables false

def Bx (w : World) (Q : Nat) (x0 x1 x2 x3 x4 x5 x6 x7 : Value) : Prop := w.heap[Q]? = some (.cells #[x0, x1, x2, x3, x4, x5, x6, x7] 50 (0, 0))
namespace Bx
variable {w : World} {Q : Nat} {x0 x1 x2 x3 x4 x5 x6 x7 : Value}
theorem cs (h : Bx w Q x0 x1 x2 x3 x4 x5 x6 x7) : w.cell? ⟨Q, 0, none⟩ = some x0 ∧ w.cell? ⟨Q, 1, none⟩ = some x1 ∧ w.cell? ⟨Q, 2, none⟩ = some x2 ∧ w.cell? ⟨Q, 3, none⟩ = some x3 ∧ w.cell? ⟨Q, 4, none⟩ = some x4 ∧ w.cell? ⟨Q, 5, none⟩ = some x5 ∧ w.cell? ⟨Q, 6, none⟩ = some x6 ∧ w.cell? ⟨Q, 7, none⟩ = some x7 := by
  have hc := fun j => cell_of_row w Q j _ _ _ h
  exact ⟨hc 0, hc 1, hc 2, hc 3, hc 4, hc 5, hc 6, hc 7⟩
theorem fz (h : Bx w Q x0 x1 x2 x3 x4 x5 x6 x7) (i : Nat) : w.frozen? ⟨Q, i, none⟩ = false := by unfold Bx at h; simp [World.frozen?, h]
theorem lt (h : Bx w Q x0 x1 x2 x3 x4 x5 x6 x7) : Q < w.heap.size := (Array.getElem?_eq_some_iff.1 h).1
theorem below (h : Bx w Q x0 x1 x2 x3 x4 x5 x6 x7) {w' : World} (hb : Below w.heap.size w w') : Bx w' Q x0 x1 x2 x3 x4 x5 x6 x7 := (hb.block Q h.lt).trans h
theorem tn (h : Bx w Q x0 x1 x2 x3 x4 x5 x6 x7) {N : Nat} {w' : World} (ht : Tn N w w') (hq : Q ≠ N) : Bx w' Q x0 x1 x2 x3 x4 x5 x6 x7 := (ht.block Q h.lt (fun e => hq (Option.some.inj e))).trans h
theorem set1 (h : Bx w Q x0 x1 x2 x3 x4 x5 x6 x7) (v : Value) : Bx (w.setCell ⟨Q, 1, none⟩ v) Q x0 v x2 x3 x4 x5 x6 x7 := heap_setCell_same w Q 1 _ _ v h
theorem set2 (h : Bx w Q x0 x1 x2 x3 x4 x5 x6 x7) (v : Value) : Bx (w.setCell ⟨Q, 2, none⟩ v) Q x0 x1 v x3 x4 x5 x6 x7 := heap_setCell_same w Q 2 _ _ v h
theorem set3 (h : Bx w Q x0 x1 x2 x3 x4 x5 x6 x7) (v : Value) : Bx (w.setCell ⟨Q, 3, none⟩ v) Q x0 x1 x2 v x4 x5 x6 x7 := heap_setCell_same w Q 3 _ _ v h
theorem set4 (h : Bx w Q x0 x1 x2 x3 x4 x5 x6 x7) (v : Value) : Bx (w.setCell ⟨Q, 4, none⟩ v) Q x0 x1 x2 x3 v x5 x6 x7 := heap_setCell_same w Q 4 _ _ v h
theorem set5 (h : Bx w Q x0 x1 x2 x3 x4 x5 x6 x7) (v : Value) : Bx (w.setCell ⟨Q, 5, none⟩ v) Q x0 x1 x2 x3 x4 v x6 x7 := heap_setCell_same w Q 5 _ _ v h
theorem set6 (h : Bx w Q x0 x1 x2 x3 x4 x5 x6 x7) (v : Value) : Bx (w.setCell ⟨Q, 6, none⟩ v) Q x0 x1 x2 x3 x4 x5 v x7 := heap_setCell_same w Q 6 _ _ v h
theorem set7 (h : Bx w Q x0 x1 x2 x3 x4 x5 x6 x7) (v : Value) : Bx (w.setCell ⟨Q, 7, none⟩ v) Q x0 x1 x2 x3 x4 x5 x6 v := heap_setCell_same w Q 7 _ _ v h
end Bx
/-- all eight written -/
def put8 (w : World) (Q : Nat) (v0 v1 v2 v3 v4 v5 v6 v7 : Value) : World :=
  (((((((w.setCell ⟨Q, 0, none⟩ v0).setCell ⟨Q, 1, none⟩ v1).setCell ⟨Q, 2, none⟩ v2).setCell ⟨Q, 3, none⟩ v3).setCell ⟨Q, 4, none⟩ v4).setCell ⟨Q, 5, none⟩ v5).setCell ⟨Q, 6, none⟩ v6).setCell ⟨Q, 7, none⟩ v7
theorem put8_bx {w : World} {Q : Nat} {x0 x1 x2 x3 x4 x5 x6 x7 : Value} (h : Bx w Q x0 x1 x2 x3 x4 x5 x6 x7) (v0 v1 v2 v3 v4 v5 v6 v7 : Value) : Bx (put8 w Q v0 v1 v2 v3 v4 v5 v6 v7) Q v0 v1 v2 v3 v4 v5 v6 v7 :=
  (((((((show Bx (w.setCell ⟨Q, 0, none⟩ v0) Q v0 x1 x2 x3 x4 x5 x6 x7 from heap_setCell_same w Q 0 _ _ v0 h).set1 v1).set2 v2).set3 v3).set4 v4).set5 v5).set6 v6).set7 v7
theorem put8_tn (w : World) (Q : Nat) (v0 v1 v2 v3 v4 v5 v6 v7 : Value) : Tn Q w (put8 w Q v0 v1 v2 v3 v4 v5 v6 v7) :=
  Tn.on (Tn.on (Tn.on (Tn.on (Tn.on (Tn.on (Tn.on (Tn.set Q 0 w v0) (Tn.set Q 1 _ v1)) (Tn.set Q 2 _ v2)) (Tn.set Q 3 _ v3)) (Tn.set Q 4 _ v4)) (Tn.set Q 5 _ v5)) (Tn.set Q 6 _ v6)) (Tn.set Q 7 _ v7)
/-- the reader stays where another block turns -/
theorem Rd.tn {w : World} {N : Nat} {a : Option Addr} {len cap : Nat} {zs : List Int} {p k : Nat} {e : Int} (h : Rd w N a len cap zs p k e) {M : Nat} {w' : World} (ht : Tn M w w') (hM : N ≠ M) (hr : ∀ b o, a = some ⟨b, o, none⟩ → 0 < len → b ≠ M) : Rd w' N a len cap zs p k e := by
  refine ⟨(ht.block N h.lt (fun e => hM (Option.some.inj e))).trans h.box, ?_, h.ne, h.nil, h.cap, h.at_, h.len, h.k⟩
  refine ⟨h.row.1, h.row.2.1, fun hl => ?_⟩
  obtain ⟨b, off, rfl, hlt, hc⟩ := h.row.2.2 hl
  have hb := ht.block b hlt (fun e => hr b off rfl hl (Option.some.inj e))
  exact ⟨b, off, rfl, Nat.lt_of_lt_of_le hlt ht.size, fun i' hi => (World.cell?_of_block (a := ⟨b, off + i', none⟩) hb).trans (hc i' hi)⟩
/-- where the bytes lie -/
theorem Rd.old {w : World} {N : Nat} {a : Option Addr} {len cap : Nat} {zs : List Int} {p k : Nat} {e : Int} (h : Rd w N a len cap zs p k e) : ∀ b o, a = some ⟨b, o, none⟩ → 0 < len → b < w.heap.size := fun b o e hl => by
  obtain ⟨b', o', e', hlt, _⟩ := h.row.2.2 hl
  rw [e] at e'; simp at e'; omega
/-- one that turns a new block turns nothing old -/
theorem Tn.new {N M : Nat} {w w1 w2 : World} (h : Tn N w w1) (h2 : Tn M w1 w2) (hM : w.heap.size ≤ M) : Tn N w w2 :=
  ⟨h2.os.trans h.os, h2.tape.trans h.tape, h2.output.trans h.output, Nat.le_trans h.size h2.size, fun k hk hne => (h2.block k (Nat.lt_of_lt_of_le hk h.size) (fun e => by cases e; omega)).trans (h.block k hk hne)⟩
theorem Moves.tn {w w' : World} {M : Nat} (ht : Tn M w w') {g g' : Nat → Prop} (h : ∀ k, g k → k ≠ M ∧ g' k) : Moves w w' g g' := fun k hk _ hg => ⟨(h k hg).2, ht.block k hk (fun e => (h k hg).1 (Option.some.inj e))⟩
/-- the tables stay where the reader turns -/
theorem Tb.turn {w w' : World} {N : Nat} {a : Option Addr} {len cap : Nat} {zs : List Int} {p k : Nat} {e : Int} (h : Tb w) (hr : Rd w N a len cap zs p k e) (ht : Tn N w w') : Tb w' := by
  obtain ⟨⟨h1, t1, f1, e1⟩, ⟨h2, t2, f2, e2⟩⟩ := h
  have n1 : 2 ≠ N := by
    rintro rfl
    have := e1.symm.trans hr.box
    simp only [Option.some.injEq, Obj.cells.injEq] at this
    have h := congrArg Array.size this.1
    have hla : fmV.toArray.size = 192 := rfl
    rw [hla] at h; simp at h
  have n2 : 1 ≠ N := by
    rintro rfl
    have := e2.symm.trans hr.box
    simp only [Option.some.injEq, Obj.cells.injEq] at this
    have h := congrArg Array.size this.1
    have hla : flV.toArray.size = 14 := rfl
    rw [hla] at h; simp at h
  exact ⟨⟨Nat.lt_of_lt_of_le h1 ht.size, t1, f1, (ht.block _ h1 (fun e => n1 (Option.some.inj e))).trans e1⟩, ⟨Nat.lt_of_lt_of_le h2 ht.size, t2, f2, (ht.block _ h2 (fun e => n2 (Option.some.inj e))).trans e2⟩⟩
/-- the reader's block is none of instructions -/
theorem Rd.kin {w : World} {N : Nat} {a : Option Addr} {len cap : Nat} {zs : List Int} {p k : Nat} {e : Int} (hr : Rd w N a len cap zs p k e) : ¬ Kin w N := by
  rintro ⟨o, x, h | h⟩
  all_goals
    rw [cell_of_row w N o _ _ _ hr.box] at h
    rcases o with _ | _ | _ | _ | o
    · simp at h
    · simp at h
    · simp at h
    · simp [errV] at h; split at h <;> simp at h
    · simp at h
theorem moves_turn {w w' : World} {N : Nat} {a : Option Addr} {len cap : Nat} {zs : List Int} {p k : Nat} {e : Int} (hr : Rd w N a len cap zs p k e) (ht : Tn N w w') (g : Nat → Prop) : Moves w w' g g := fun q hq hk hg =>
  ⟨hg, ht.block q hq (fun e => hr.kin (by cases e; exact hk))⟩
theorem OwnC.turn {w w' : World} {N : Nat} {a : Option Addr} {len cap : Nat} {zs : List Int} {p k : Nat} {e : Int} (hr : Rd w N a len cap zs p k e) (ht : Tn N w w') {B : Nat} {G : Nat → Prop} {v : Value} {l : List Ins} (h : OwnC w B G v l) : OwnC w' B G v l := by
  refine h.move (fun q hq => ?_) (moves_turn hr ht _)
  obtain ⟨cur, hc⟩ := h.block q hq
  refine ht.block q (h.lt q hq).2 (fun e => ?_)
  cases e
  have := hc.symm.trans hr.box
  simp at this
end Ex
end Go.Proofs.YtjhmglefejclpaaDoor
