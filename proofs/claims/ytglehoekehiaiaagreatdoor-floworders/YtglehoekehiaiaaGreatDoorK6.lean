/- K6: what follows, part by part: each part tells what it holds. -/
import Derived.Test.YtglehoekehiaiaaGreatDoorK5
import Derived.Deep.CutRange
namespace Go.Proofs.YtglehoekehiaiaaGreatDoor
open Go.RowKit
set_option linter.unusedVariables false
set_option linter.unusedSimpArgs false
set_option maxRecDepth 100000
set_option maxHeartbeats 32000000
namespace Fw
open Vc (NumsL Nums Lies LL Bls BlC InC Bl In Co infoN own_base)
/- flow: where the widest detour to each block begins. -/
theorem clone_ro (zs : List Int) (g : Nat → Prop) (v : Value) (w : World) (h : NumsL w g zs v) (hn : zs.length ≤ 1099511627776) :
    Calls Tryz.prog 57 #[v] w fun e w' => ∃ v', e = .returned v' ∧ Ro w' w.heap.size v' zs ∧ Below w.heap.size w w' := by
 obtain ⟨a, cp, rfl, hle, hno, hl⟩ := h
 refine (Vc.clN_any zs.length (zs.map (Value.int .i64)) a cp w (fun e => ⟨?_, hno e⟩) (by simp) (fun ad e j u hu => ?_) (fun u hu => ?_) hn).mono ?_
 ·have := hno e; omega
 ·have hj : j < zs.length := by have := (List.getElem?_eq_some_iff.1 hu).1; simpa using this
  obtain ⟨b, o, e2, _, hc⟩ := hl (by omega)
  rw [e] at e2; cases e2
  rw [addr_add0, hc j hj]
  rw [List.getElem?_map, List.getElem?_eq_getElem hj] at hu
  simp only [Option.map_some, Option.some.injEq] at hu
  rw [← hu]; simp [List.getD, List.getElem?_eq_getElem hj]
 ·simp only [List.mem_map] at hu
  obtain ⟨z, _, rfl⟩ := hu; rfl
 ·rintro e w' ⟨v', rfl, hc, hb⟩
  refine ⟨v', rfl, ?_, hb⟩
  rcases hc with ⟨h0, ho⟩ | ⟨h0, b, cap, rfl, ho⟩
  ·have : zs = [] := List.eq_nil_of_length_eq_zero h0
   subst this; exact ho
  ·exact ho
theorem bdrew {N : Nat} {w w' : World} (h : Below N w w') : Below N w w'.drew := ⟨h.os, h.tape, h.output, h.size, h.block⟩
theorem bcell {W w1 : World} (hb : Below W.heap.size W w1) : (∀ b o, b < W.heap.size → w1.cell? ⟨b, o, none⟩ = W.cell? ⟨b, o, none⟩) ∧ (∀ b o, b < W.heap.size → w1.frozen? ⟨b, o, none⟩ = W.frozen? ⟨b, o, none⟩) :=
 ⟨fun b o h => hb.cell (p := ⟨b, o, none⟩) h, fun b o h => hb.frozen (p := ⟨b, o, none⟩) h⟩
/-- what stands while the widest detours are found -/
structure Wd (w wr : World) (ob oc B gu cu gl cl L : Nat) (s : Wi) : Prop where
 out : Ro wr w.heap.size (.slice (some ⟨ob, 0, none⟩) L oc) s.out
 cb : Cb wr w.heap.size B gu cu gl cl L (s.up, s.le)
 nu : ob ≠ gu
 nl : ob ≠ gl
 be : Below w.heap.size w wr
theorem Wd.drew {w wr : World} {ob oc B gu cu gl cl L : Nat} {s : Wi} (h : Wd w wr ob oc B gu cu gl cl L s) : Wd w wr.drew ob oc B gu cu gl cl L s := ⟨h.out, h.cb.drew, h.nu, h.nl, ⟨h.be.os, h.be.tape, h.be.output, h.be.size, h.be.block⟩⟩
theorem Wd.start {w wr : World} {ob oc gu cu gl cl L : Nat} {v : Value} {s : Wi} (h1 : Ro wr w.heap.size (.slice (some ⟨ob, 0, none⟩) L oc) s.out) (h2 : Ro wr w.heap.size (.slice (some ⟨gu, 0, none⟩) L cu) s.up) (h3 : Ro wr w.heap.size (.slice (some ⟨gl, 0, none⟩) L cl) s.le) (e1 : ob ≠ gu) (e2 : ob ≠ gl) (e3 : gu ≠ gl) (hb : Below w.heap.size w wr) :
    Wd w (wr.alloc (.cells (cbc (.slice (some ⟨gu, 0, none⟩) L cu) (.slice (some ⟨gl, 0, none⟩) L cl)) 137)) ob oc wr.heap.size gu cu gl cl L s :=
 have hal := Vc.one_alloc wr (.cells (cbc (.slice (some ⟨gu, 0, none⟩) L cu) (.slice (some ⟨gl, 0, none⟩) L cl)) 137)
 ⟨h1.below hal, ⟨heap_alloc_new _ _, h2.below hal, h3.below hal, e3⟩, e1, e2, hb.trans (hal.mono hb.size)⟩
theorem made_row (X : World) (L : Nat) (hL : L ≤ 1048576) (N : Nat) (hN : N ≤ X.heap.size) : Ro (X.alloc (.cells (madeCells #[.int .i64 0] L) 3)) N (.slice (some ⟨X.heap.size, 0, none⟩) L L) (List.replicate L 0) := (Ro.made X L hL).base hN
theorem set2c (w : World) (b : Nat) (c0 c1 : Value) (t : TypeId) (u0 u1 : Value) (h : w.heap[b]? = some (.cells #[c0, c1] t (0, 0))) : ((w.setCell ⟨b, 0, none⟩ u0).setCell ⟨b, 1, none⟩ u1).heap[b]? = some (.cells #[u0, u1] t (0, 0)) :=
 (heap_setCell_same _ b 1 _ _ u1 ((heap_setCell_same w b 0 _ _ u0 h).trans rfl)).trans rfl
theorem oth2c (w : World) (b k : Nat) (hk : k ≠ b) (u0 u1 : Value) : ((w.setCell ⟨b, 0, none⟩ u0).setCell ⟨b, 1, none⟩ u1).heap[k]? = w.heap[k]? := by
 rw [heap_setCell_other _ _ _ _ (by exact hk), heap_setCell_other _ _ _ _ (by exact hk)]
theorem bel2c {w w' : World} {N : Nat} (b : Nat) (hb : N ≤ b) (h : Below N w w') (u0 u1 : Value) : Below N w ((w'.setCell ⟨b, 0, none⟩ u0).setCell ⟨b, 1, none⟩ u1) := (h.setCell (p := ⟨b, 0, none⟩) hb _).setCell (p := ⟨b, 1, none⟩) hb _
theorem shape1 {W w1 w2 : World} {ob oc gu cu L : Nat} {fr : List Int} (hL : L ≤ 1048576) (ho1 : Ro w1 W.heap.size (.slice (some ⟨ob, 0, none⟩) L oc) fr) (hobl : ob < w1.heap.size) (ho2 : Ro w2 W.heap.size (.slice (some ⟨gu, 0, none⟩) L cu) fr) (hb1 : Below W.heap.size W w1) (hb2 : Below w1.heap.size w1 w2) (hgu : w1.heap.size ≤ gu) : Wd W ((w2.alloc (.cells (madeCells #[.int .i64 0] L) 3)).alloc (.cells #[(.slice (some ⟨gu, 0, none⟩) L cu), (.slice (some ⟨w2.heap.size, 0, none⟩) L L)] 137)) ob oc (w2.heap.size + 1) gu cu w2.heap.size L L ⟨fr, fr, List.replicate L 0⟩ := by
 have h := (ho2.lt gu rfl).2
 have a1 := Vc.one_alloc w2 (.cells (madeCells #[.int .i64 0] L) 3)
 have hs := hb2.size
 have := Wd.start (s := ⟨fr, fr, List.replicate L 0⟩) (v := .nilIface) ((ho1.below hb2).below a1) (ho2.below a1) (made_row w2 L hL W.heap.size (Nat.le_trans hb1.size hb2.size)) (by omega) (by omega) (by omega) ((hb1.trans (hb2.mono hb1.size)).trans (a1.mono (Nat.le_trans hb1.size hb2.size)))
 rw [show (w2.alloc (.cells (madeCells #[.int .i64 0] L) 3)).heap.size = w2.heap.size + 1 by simp] at this
 exact this
theorem shape2 {W w1 w2 : World} {ob oc gu cu L : Nat} {fr : List Int} (hL : L ≤ 1048576) (ho1 : Ro w1 W.heap.size (.slice (some ⟨ob, 0, none⟩) L oc) fr) (hobl : ob < w1.heap.size) (ho2 : Ro w2 W.heap.size (.slice (some ⟨gu, 0, none⟩) L cu) fr) (hb1 : Below W.heap.size W w1) (hb2 : Below w1.heap.size w1 w2) (hgu : w1.heap.size ≤ gu) : Wd W ((w2.alloc (.cells #[(.slice (some ⟨gu, 0, none⟩) L cu), (.slice (some ⟨(w2.heap.size + 1), 0, none⟩) L L)] 137)).alloc (.cells (madeCells #[.int .i64 0] L) 3)) ob oc w2.heap.size gu cu (w2.heap.size + 1) L L ⟨fr, fr, List.replicate L 0⟩ := by
 have h := (ho2.lt gu rfl).2
 have a1 := Vc.one_alloc w2 (.cells #[(.slice (some ⟨gu, 0, none⟩) L cu), (.slice (some ⟨(w2.heap.size + 1), 0, none⟩) L L)] 137)
 have hz : (w2.alloc (.cells #[(.slice (some ⟨gu, 0, none⟩) L cu), (.slice (some ⟨(w2.heap.size + 1), 0, none⟩) L L)] 137)).heap.size = w2.heap.size + 1 := by simp
 have a2 := Vc.one_alloc (w2.alloc (.cells #[(.slice (some ⟨gu, 0, none⟩) L cu), (.slice (some ⟨(w2.heap.size + 1), 0, none⟩) L L)] 137)) (.cells (madeCells #[.int .i64 0] L) 3)
 have hs := hb2.size
 have hs1 := hb1.size
 have hr := made_row (w2.alloc (.cells #[(.slice (some ⟨gu, 0, none⟩) L cu), (.slice (some ⟨(w2.heap.size + 1), 0, none⟩) L L)] 137)) L hL W.heap.size (by omega)
 rw [hz] at hr
 exact ⟨((ho1.below hb2).below a1).below a2, ⟨(a2.block w2.heap.size (by omega)).trans (heap_alloc_new _ _), (ho2.below a1).below a2, hr, by omega⟩, by omega, by omega, ((hb1.trans (hb2.mono hs1)).trans (a1.mono (by omega))).trans (a2.mono (by omega))⟩
theorem shape3 {W w1 w2 : World} {ob oc gu cu L : Nat} {fr : List Int} (hL : L ≤ 1048576) (ho1 : Ro w1 W.heap.size (.slice (some ⟨ob, 0, none⟩) L oc) fr) (hobl : ob < w1.heap.size) (ho2 : Ro w2 W.heap.size (.slice (some ⟨gu, 0, none⟩) L cu) fr) (hb1 : Below W.heap.size W w1) (hb2 : Below w1.heap.size w1 w2) (hb3 : Below (w1.alloc (.cells (madeCells #[.int .i64 0] L) 3)).heap.size (w1.alloc (.cells (madeCells #[.int .i64 0] L) 3)) w2) (hgu : w1.heap.size + 1 ≤ gu) : Wd W (w2.alloc (.cells #[(.slice (some ⟨gu, 0, none⟩) L cu), (.slice (some ⟨w1.heap.size, 0, none⟩) L L)] 137)) ob oc w2.heap.size gu cu w1.heap.size L L ⟨fr, fr, List.replicate L 0⟩ := by
 have h := (ho2.lt gu rfl).2
 have hs := hb2.size
 have hs1 := hb1.size
 have hr := (made_row w1 L hL W.heap.size hs1).below hb3
 exact Wd.start (s := ⟨fr, fr, List.replicate L 0⟩) (v := .nilIface) (ho1.below hb2) ho2 hr (by omega) (by omega) (by omega) (hb1.trans (hb2.mono hs1))
theorem shape4 {W w1 w2 : World} {ob oc gu cu L : Nat} {fr : List Int} (hL : L ≤ 1048576) (ho1 : Ro w1 W.heap.size (.slice (some ⟨ob, 0, none⟩) L oc) fr) (hobl : ob < w1.heap.size) (ho2 : Ro w2 W.heap.size (.slice (some ⟨gu, 0, none⟩) L cu) fr) (hb1 : Below W.heap.size W w1) (hb2 : Below w1.heap.size w1 w2) (hb3 : Below ((w1.alloc (.cells (madeCells #[.int .i64 0] L) 3)).alloc (.cells #[.slice none 0 0, .slice none 0 0] 137)).heap.size ((w1.alloc (.cells (madeCells #[.int .i64 0] L) 3)).alloc (.cells #[.slice none 0 0, .slice none 0 0] 137)) w2) (hgu : w1.heap.size + 2 ≤ gu) : Wd W ((w2.setCell ⟨(w1.heap.size + 1), 0, none⟩ (.slice (some ⟨gu, 0, none⟩) L cu)).setCell ⟨(w1.heap.size + 1), 1, none⟩ (.slice (some ⟨w1.heap.size, 0, none⟩) L L)) ob oc (w1.heap.size + 1) gu cu w1.heap.size L L ⟨fr, fr, List.replicate L 0⟩ := by
 have h := (ho2.lt gu rfl).2
 have hs := hb2.size
 have hs1 := hb1.size
 have hz : (w1.alloc (.cells (madeCells #[.int .i64 0] L) 3)).heap.size = w1.heap.size + 1 := by simp
 have hz2 : ((w1.alloc (.cells (madeCells #[.int .i64 0] L) 3)).alloc (.cells #[.slice none 0 0, .slice none 0 0] 137)).heap.size = w1.heap.size + 2 := by simp
 have hr := ((made_row w1 L hL W.heap.size hs1).below (Vc.one_alloc _ (.cells #[.slice none 0 0, .slice none 0 0] 137))).below hb3
 have hbx : w2.heap[w1.heap.size + 1]? = some (.cells #[.slice none 0 0, .slice none 0 0] 137 (0, 0)) := by
  rw [hb3.block _ (by omega), ← hz]; exact heap_alloc_new _ _
 have ot := fun k hk => oth2c w2 (w1.heap.size + 1) k hk (.slice (some ⟨gu, 0, none⟩) L cu) (.slice (some ⟨w1.heap.size, 0, none⟩) L L)
 exact ⟨(ho1.below hb2).keep fun k hk => ot k (by have e : ob = k := Option.some.inj hk; omega), ⟨set2c w2 _ _ _ _ _ _ hbx, ho2.keep fun k hk => ot k (by have e : gu = k := Option.some.inj hk; omega), hr.keep fun k hk => ot k (by have e : w1.heap.size = k := Option.some.inj hk; omega), by omega⟩, by omega, by omega, bel2c _ (by omega) (hb1.trans (hb2.mono hs1)) _ _⟩
theorem shape5 {W w1 w2 : World} {ob oc gu cu L : Nat} {fr : List Int} (hL : L ≤ 1048576) (ho1 : Ro w1 W.heap.size (.slice (some ⟨ob, 0, none⟩) L oc) fr) (hobl : ob < w1.heap.size) (ho2 : Ro w2 W.heap.size (.slice (some ⟨gu, 0, none⟩) L cu) fr) (hb1 : Below W.heap.size W w1) (hb2 : Below w1.heap.size w1 w2) (hb3 : Below (w1.alloc (.cells #[.slice none 0 0, .slice none 0 0] 137)).heap.size (w1.alloc (.cells #[.slice none 0 0, .slice none 0 0] 137)) w2) (hgu : w1.heap.size + 1 ≤ gu) : Wd W (((w2.setCell ⟨w1.heap.size, 0, none⟩ (.slice (some ⟨gu, 0, none⟩) L cu)).setCell ⟨w1.heap.size, 1, none⟩ (.slice (some ⟨w2.heap.size, 0, none⟩) L L)).alloc (.cells (madeCells #[.int .i64 0] L) 3)) ob oc w1.heap.size gu cu w2.heap.size L L ⟨fr, fr, List.replicate L 0⟩ := by
 have h := (ho2.lt gu rfl).2
 have hs := hb2.size
 have hs1 := hb1.size
 have hz : (w1.alloc (.cells #[.slice none 0 0, .slice none 0 0] 137)).heap.size = w1.heap.size + 1 := by simp
 have hbx : w2.heap[w1.heap.size]? = some (.cells #[.slice none 0 0, .slice none 0 0] 137 (0, 0)) := by
  rw [hb3.block _ (by omega)]; exact heap_alloc_new _ _
 have hl := (Array.getElem?_eq_some_iff.1 hbx).1
 have ot := fun k hk => oth2c w2 w1.heap.size k hk (.slice (some ⟨gu, 0, none⟩) L cu) (.slice (some ⟨w2.heap.size, 0, none⟩) L L)
 have hX : ((w2.setCell ⟨w1.heap.size, 0, none⟩ (.slice (some ⟨gu, 0, none⟩) L cu)).setCell ⟨w1.heap.size, 1, none⟩ (.slice (some ⟨w2.heap.size, 0, none⟩) L L)).heap.size = w2.heap.size := by simp
 have hnew := set2c w2 w1.heap.size _ _ _ (.slice (some ⟨gu, 0, none⟩) L cu) (.slice (some ⟨w2.heap.size, 0, none⟩) L L) hbx
 have hbe := bel2c w1.heap.size (by omega) (hb1.trans (hb2.mono hs1)) (.slice (some ⟨gu, 0, none⟩) L cu) (.slice (some ⟨w2.heap.size, 0, none⟩) L L)
 generalize ((w2.setCell ⟨w1.heap.size, 0, none⟩ (.slice (some ⟨gu, 0, none⟩) L cu)).setCell ⟨w1.heap.size, 1, none⟩ (.slice (some ⟨w2.heap.size, 0, none⟩) L L)) = X at *
 have a1 := Vc.one_alloc X (.cells (madeCells #[.int .i64 0] L) 3)
 have hr := made_row X L hL W.heap.size (by omega)
 rw [hX] at hr
 exact ⟨((ho1.below hb2).keep fun k hk => ot k (by have e : ob = k := Option.some.inj hk; omega)).below a1, ⟨(a1.block _ (by omega)).trans hnew, (ho2.keep fun k hk => ot k (by have e : gu = k := Option.some.inj hk; omega)).below a1, hr, by omega⟩, by omega, by omega, hbe.trans (a1.mono (by omega))⟩
theorem shape6 {W w1 w2 : World} {ob oc gu cu L : Nat} {fr : List Int} (hL : L ≤ 1048576) (ho1 : Ro w1 W.heap.size (.slice (some ⟨ob, 0, none⟩) L oc) fr) (hobl : ob < w1.heap.size) (ho2 : Ro w2 W.heap.size (.slice (some ⟨gu, 0, none⟩) L cu) fr) (hb1 : Below W.heap.size W w1) (hb2 : Below w1.heap.size w1 w2) (hb3 : Below ((w1.alloc (.cells #[.slice none 0 0, .slice none 0 0] 137)).alloc (.cells (madeCells #[.int .i64 0] L) 3)).heap.size ((w1.alloc (.cells #[.slice none 0 0, .slice none 0 0] 137)).alloc (.cells (madeCells #[.int .i64 0] L) 3)) w2) (hgu : w1.heap.size + 2 ≤ gu) : Wd W ((w2.setCell ⟨w1.heap.size, 0, none⟩ (.slice (some ⟨gu, 0, none⟩) L cu)).setCell ⟨w1.heap.size, 1, none⟩ (.slice (some ⟨(w1.heap.size + 1), 0, none⟩) L L)) ob oc w1.heap.size gu cu (w1.heap.size + 1) L L ⟨fr, fr, List.replicate L 0⟩ := by
 have h := (ho2.lt gu rfl).2
 have hs := hb2.size
 have hs1 := hb1.size
 have hz : (w1.alloc (.cells #[.slice none 0 0, .slice none 0 0] 137)).heap.size = w1.heap.size + 1 := by simp
 have hz2 : ((w1.alloc (.cells #[.slice none 0 0, .slice none 0 0] 137)).alloc (.cells (madeCells #[.int .i64 0] L) 3)).heap.size = w1.heap.size + 2 := by simp
 have hr := (made_row (w1.alloc (.cells #[.slice none 0 0, .slice none 0 0] 137)) L hL W.heap.size (by omega)).below hb3
 rw [hz] at hr
 have hbx : w2.heap[w1.heap.size]? = some (.cells #[.slice none 0 0, .slice none 0 0] 137 (0, 0)) := by
  rw [hb3.block _ (by omega), (Vc.one_alloc (w1.alloc (.cells #[.slice none 0 0, .slice none 0 0] 137)) (.cells (madeCells #[.int .i64 0] L) 3)).block _ (by omega)]; exact heap_alloc_new _ _
 have ot := fun k hk => oth2c w2 w1.heap.size k hk (.slice (some ⟨gu, 0, none⟩) L cu) (.slice (some ⟨(w1.heap.size + 1), 0, none⟩) L L)
 exact ⟨(ho1.below hb2).keep fun k hk => ot k (by have e : ob = k := Option.some.inj hk; omega), ⟨set2c w2 _ _ _ _ _ _ hbx, ho2.keep fun k hk => ot k (by have e : gu = k := Option.some.inj hk; omega), hr.keep fun k hk => ot k (by have e : w1.heap.size + 1 = k := Option.some.inj hk; omega), by omega⟩, by omega, by omega, bel2c _ (by omega) (hb1.trans (hb2.mono hs1)) _ _⟩
/- flow: where the widest detour to each block begins. -/
theorem Wd.setO {w wr : World} {ob oc B gu cu gl cl L : Nat} {s : Wi} (h : Wd w wr ob oc B gu cu gl cl L s) {i : Nat} (hi : i < s.out.length) (x : Int) : Wd w (wr.setCell ⟨ob, i, none⟩ (.int .i64 x)) ob oc B gu cu gl cl L ⟨s.out.set i x, s.up, s.le⟩ := by
 have q := row_ne h.cb.bx (by decide) h.out ob rfl
 have o : ∀ k, k ≠ ob → (wr.setCell ⟨ob, i, none⟩ (.int .i64 x)).heap[k]? = wr.heap[k]? := fun k hk => heap_setCell_other wr ⟨ob, i, none⟩ k _ hk
 refine ⟨h.out.set hi x, ⟨(o B (fun e => q.1 e.symm)).trans h.cb.bx, h.cb.ru.keep fun k hk => o k (by have e : gu = k := Option.some.inj hk; have := h.nu; omega), h.cb.rl.keep fun k hk => o k (by have e : gl = k := Option.some.inj hk; have := h.nl; omega), h.cb.ne⟩, h.nu, h.nl, h.be.setCell (p := ⟨ob, i, none⟩) q.2.2 _⟩
theorem Wd.call {w wr w1 : World} {ob oc B gu cu gl cl L : Nat} {s : Wi} {r : List Int × List Int} (h : Wd w wr ob oc B gu cu gl cl L s) (hc : Cb w1 w.heap.size B gu cu gl cl L r) (hf : Fk gu gl wr w1) : Wd w w1 ob oc B gu cu gl cl L ⟨s.out, r.1, r.2⟩ :=
 ⟨h.out.keep fun k hk => hf.keep k (by have e : ob = k := Option.some.inj hk; have := h.nu; omega) (by have e : ob = k := Option.some.inj hk; have := h.nl; omega), hc, h.nu, h.nl, h.be.trans (hf.below hc.ne_box.2.2.1 hc.ne_box.2.2.2)⟩
/-- behind so many of those ahead of a block -/
def ws (tn : List Int) (t : Nat) (r : List Nat) (s : Wi) (k : Nat) : Wi := (r.take k).foldl (wi1 tn t) s
theorem ws_succ (tn : List Int) (t : Nat) (r : List Nat) (s : Wi) {k b : Nat} (h : r[k]? = some b) : ws tn t r s (k + 1) = wi1 tn t (ws tn t r s k) b := by unfold ws; rw [fold_take _ _ _ _ h]
theorem ws_all (tn : List Int) (t : Nat) (r : List Nat) (s : Wi) : ws tn t r s r.length = r.foldl (wi1 tn t) s := by unfold ws; rw [List.take_length]
theorem ws_inv {L n : Nat} {tn : List Int} {t : Nat} (ht : t < L) (r : List Nat) (s : Wi) (h : WiI L s) (hr : ∀ b ∈ r, b < n) (hb : ∀ b, b < n → -1 ≤ tn.getD b 0 ∧ tn.getD b 0 < (L : Int)) (k : Nat) : WiI L (ws tn t r s k) :=
 wi1s_inv ht _ _ h fun b hm => hb b (hr b (List.mem_of_mem_take hm))
theorem widest_any {n : Nat} (s : St) (hI : Inv n s) (h1 : 1 ≤ s.ent.length) (hn : n ≤ 1048576) (ah : List (List Nat)) (hA : AhO n ah) (hAl : ∀ b, (ah.getD b []).length ≤ 2097152) (vb ve vf vt vl va : Value) (w : World) (he : NumsL w (fun k => k < w.heap.size) (nz s.ent) ve) (hf : NumsL w (fun k => k < w.heap.size) s.fr vf) (ht : NumsL w (fun k => k < w.heap.size) s.tn vt) (ha : Rws w (fun k => k < w.heap.size) ah va)
    (sb : ∃ a n c, vb = .slice a n c) (sl : ∃ a n c, vl = .slice a n c) :
    Calls Tryz.prog 58 #[.agg #[vb, ve, vf, vt, vl], va] w fun e w' => ∃ v, e = .returned v ∧ Ro w' w.heap.size v (widest s ah) ∧ Below w.heap.size w w' := by
 obtain ⟨ba, bn, bc, rfl⟩ := sb
 obtain ⟨la, ln, lc, rfl⟩ := sl
 obtain ⟨ea, ec, rfl, -, -, -⟩ := id he
 obtain ⟨fa, fc, rfl, -, -, -⟩ := id hf
 obtain ⟨ta, tc, rfl, -, -, -⟩ := id ht
 obtain ⟨aa, ac, rfl, -, -, -⟩ := id ha
 obtain ⟨i0, hi, hz0, hz1, hz2⟩ := info_parts infoN
 obtain ⟨L, hL⟩ : ∃ L, L = s.fr.length := ⟨_, rfl⟩
 have hLe : L = s.ent.length := by rw [hL, hI.fl]
 have hLn : L ≤ 1048576 := by have := hI.ec; omega
 have hmk := fun wx => run_make (P := Tryz.prog) wx 31 3 i0 (.int .i64 0) Tryz.underlying31 hi hz0 .i64 .i64 (L : Int) (L : Int) (by omega) (by omega) (by rw [hz2]; omega) (by omega)
 rw [hz1] at hmk
 simp only [Int.toNat_natCast, Nat.mul_one] at hmk
 rw [show (Value.int IntKind.i64 0).cells = #[Value.int IntKind.i64 0] from rfl] at hmk
 obtain ⟨W, hW⟩ : ∃ W, W = w.alloc (.cells (wbc (.slice ba bn bc) (.slice ea (nz s.ent).length ec) (.slice fa s.fr.length fc) (.slice ta s.tn.length tc) (.slice la ln lc)) 65) := ⟨_, rfl⟩
 have hbW : Below w.heap.size w W := by rw [hW]; exact Vc.one_alloc w _
 have hWz : W.heap.size = w.heap.size + 1 := by rw [hW]; simp
 have hWb : W.heap[w.heap.size]? = some (.cells (wbc (.slice ba bn bc) (.slice ea (nz s.ent).length ec) (.slice fa s.fr.length fc) (.slice ta s.tn.length tc) (.slice la ln lc)) 65 (0, 0)) := by rw [hW]; exact heap_alloc_new _ _
 have up : ∀ k, k < w.heap.size → k < W.heap.size := fun k hk => by omega
 have he' : NumsL W (fun k => k < W.heap.size) (nz s.ent) (.slice ea (nz s.ent).length ec) := he.moved fun k _ hk => ⟨up k hk, hbW.block k hk⟩
 have hf' : NumsL W (fun k => k < W.heap.size) s.fr (.slice fa s.fr.length fc) := hf.moved fun k _ hk => ⟨up k hk, hbW.block k hk⟩
 have ht' : NumsL W (fun k => k < W.heap.size) s.tn (.slice ta s.tn.length tc) := ht.moved fun k _ hk => ⟨up k hk, hbW.block k hk⟩
 have ha' : Rws W (fun k => k < W.heap.size) ah (.slice aa ah.length ac) := ha.moved (fun k _ hk => ⟨up k hk, hbW.block k hk⟩) hbW.size
 obtain ⟨c0, c1, c2, c3, c4, cf, cl⟩ := wb_cells hWb
 rw [hI.tl] at c3
 rw [nz_len, ← hLe] at c1
 rw [← hL] at c2
 have hll : ah.length = n := hA.len
 rw [nz_len, ← hLe] at he'
 rw [← hL] at hf'
 rw [hI.tl] at ht'
 have HI := hide hI; have HA := hide hA; have HAl := hide hAl; have HE := hide he'; have HF := hide hf'; have HT2 := hide ht'; have HAh := hide ha'; have HBW := hide hbW; have HWb := hide hWb; have HL := hide hL; have HLe := hide hLe; have HLn := hide hLn; have H1 := hide h1; have HWz := hide hWz; have HN := hide hn
 have hni : (n : Int) ≤ 1048576 := by omega
 have hLi : (L : Int) ≤ 1048576 := by omega
 have HLl := hide hll
 clear hI hA hAl he hf ht ha he' hf' ht' ha' hbW hWb hL hLn h1 up hn hLe hll hWz
 go_enter Tryz.func58, Tryz.ntmps58
 go_upto_region 1 with fail
 rw [show w.alloc (.cells #[.slice ba bn bc, .slice ea (nz s.ent).length ec, .slice fa s.fr.length fc, .slice ta s.tn.length tc, .slice la ln lc] 65) = W from hW.symm]
 clear hW
 have hcl1 := clone_ro s.fr _ (.slice fa L fc) W (unhide HF) (by rw [← unhide HL]; have := unhide HLn; omega)
 have hpos : 0 < s.fr.length := by rw [← unhide HL, unhide HLe]; exact unhide H1
 go_upto_region 2 with (go_at_call 57; refine hcl1.mono ?_; rintro e w1 ⟨v1, rfl, ho1, hb1⟩; obtain ⟨ob, oc, rfl, hob, hobl, -, -, -⟩ := ho1.at_ hpos)
 rw [← unhide HL] at ho1 ⊢
 obtain ⟨d0, d1, d2, d3, d4, df, dl⟩ := wb_cells ((hb1.block w.heap.size cl).trans (unhide HWb))
 rw [(unhide HI).tl] at d3
 rw [nz_len, ← unhide HLe] at d1
 rw [← unhide HL] at d2
 have HO1 := hide ho1; have HB1 := hide hb1; have HOb := hide hob; have HObl := hide hobl
 clear ho1 hb1 c0 c1 c2 c3 c4 cf cl hob hobl
 go_cut [6] from 14 to 21 (fun v wx => ∃ B gu cu gl cl : Nat, v = .pointer (some ⟨B, 0, none⟩) ∧ Wd W wx ob oc B gu cu gl cl L ⟨s.fr, s.fr, List.replicate L 0⟩)
 case first =>
  have hcl2 : ∀ Wx, Below w1.heap.size w1 Wx → Calls Tryz.prog 57 #[.slice fa L fc] Wx fun e w' => ∃ gu cu, e = .returned (.slice (some ⟨gu, 0, none⟩) L cu) ∧ Ro w' W.heap.size (.slice (some ⟨gu, 0, none⟩) L cu) s.fr ∧ Wx.heap.size ≤ gu ∧ w'.cell? ⟨w.heap.size, 2, none⟩ = some (.slice fa L fc) ∧ Below w1.heap.size w1 w' ∧ Below Wx.heap.size Wx w' := by
   intro Wx hWx
   have hbx : Below W.heap.size W Wx := (unhide HB1).trans (hWx.mono (unhide HB1).size)
   refine (clone_ro s.fr _ (.slice fa L fc) Wx (nums_on (unhide HF) hbx) (by rw [← unhide HL]; have := unhide HLn; omega)).mono ?_
   rintro e w' ⟨v', rfl, ho, hb⟩
   obtain ⟨gu, cu, rfl, hgu, -, -, -, -⟩ := ho.at_ hpos
   rw [← unhide HL] at ho ⊢
   have hb' := hWx.trans (hb.mono hWx.size)
   exact ⟨gu, cu, rfl, ho.base hbx.size, hgu, (hb'.cell (p := ⟨w.heap.size, 2, none⟩) dl).trans d2, hb', hb⟩
  have HCl2 := hide hcl2
  clear hcl2 hcl1
  go_region_law
   (first
    | (go_simp; go_at_call 57; refine (unhide HCl2 _ (by repeat' first | exact Below.refl _ _ | refine bdrew ?_ | refine Below.alloc ?_ (by simp <;> omega) _)).mono ?_; rintro e w2 ⟨gu, cu, rfl, ho2, hgu, e2, hb2, hb3⟩; have dl2 : w.heap.size < w2.heap.size := Nat.lt_of_lt_of_le dl hb2.size; obtain ⟨bc1, bc2⟩ := bcell hb3; have sz2 := hb3.size; (try simp at sz2); (try have sz3 : w1.heap.size < w2.heap.size := by omega); (try have sz4 : w1.heap.size + 1 < w2.heap.size := by omega); have HO2 := hide ho2; have HGu := hide hgu; have HB2 := hide hb2; have HB3 := hide hb3; clear ho2 hgu hb2 hb3; go_wp2_with fail)
    | fail)
  all_goals
   have hb3 := unhide HB3
   have hgu := unhide HGu
   try simp at hgu
   go_wp2_with fail
   go_meet
   first
    | exact ⟨_, _, _, _, _, rfl, shape1 (unhide HLn) (unhide HO1) (unhide HObl) (unhide HO2) (unhide HB1) (unhide HB2) (by omega)⟩
    | exact ⟨_, _, _, _, _, rfl, shape2 (unhide HLn) (unhide HO1) (unhide HObl) (unhide HO2) (unhide HB1) (unhide HB2) (by omega)⟩
    | exact ⟨_, _, _, _, _, rfl, shape3 (unhide HLn) (unhide HO1) (unhide HObl) (unhide HO2) (unhide HB1) (unhide HB2) ⟨hb3.os, hb3.tape, hb3.output, hb3.size, hb3.block⟩ (by omega)⟩
    | exact ⟨_, _, _, _, _, rfl, shape4 (unhide HLn) (unhide HO1) (unhide HObl) (unhide HO2) (unhide HB1) (unhide HB2) ⟨hb3.os, hb3.tape, hb3.output, hb3.size, hb3.block⟩ (by omega)⟩
    | exact ⟨_, _, _, _, _, rfl, shape5 (unhide HLn) (unhide HO1) (unhide HObl) (unhide HO2) (unhide HB1) (unhide HB2) ⟨hb3.os, hb3.tape, hb3.output, hb3.size, hb3.block⟩ (by omega)⟩
    | exact ⟨_, _, _, _, _, rfl, shape6 (unhide HLn) (unhide HO1) (unhide HObl) (unhide HO2) (unhide HB1) (unhide HB2) ⟨hb3.os, hb3.tape, hb3.output, hb3.size, hb3.block⟩ (by omega)⟩
    | trace_state
 case rest =>
  obtain ⟨B, gu, cu, gl, cl, rfl, hWd⟩ := hcut
  have HWd := hide hWd
  have hCell : ∀ wr : World, Below W.heap.size W wr → wr.cell? ⟨w.heap.size, 1, none⟩ = some (.slice ea L ec) ∧ wr.cell? ⟨w.heap.size, 3, none⟩ = some (.slice ta n tc) := fun wr hb => by
   have := wb_cells ((hb.block w.heap.size (by have := unhide HWz; omega)).trans (unhide HWb))
   obtain ⟨_, k1, _, k3, _⟩ := this
   rw [(unhide HI).tl] at k3
   rw [nz_len, ← unhide HLe] at k1
   exact ⟨k1, k3⟩
  have HCell := hide hCell
  clear hWd hCell d0 d1 d2 d3 d4 df dl hcl1 hmk
  have hL1 : 1 ≤ L := by rw [unhide HLe]; exact unhide H1
  go_wp2_with fail
  go_loopw [7] (fun c wr => ∃ k : Nat, k ≤ L - 1 ∧ c = .int .i64 ((L : Int) - 1 - (k : Int)) ∧ Wd W wr ob oc B gu cu gl cl L (wis s ah k)) (fun c _ => (intOf c).toNat)
  case atStart => exact ⟨0, Nat.zero_le _, by simp, by rw [show wis s ah 0 = ⟨s.fr, s.fr, List.replicate L 0⟩ by rw [unhide HL]; rfl]; exact unhide HWd⟩
  case round =>
   obtain ⟨k, hk, rfl, hWk⟩ := hrel
   by_cases hlt : k < L - 1
   ·obtain ⟨t, ht⟩ : ∃ t, t = L - 1 - k := ⟨_, rfl⟩
    have hti : (L : Int) - 1 - (k : Int) = (t : Int) := by omega
    have htL : t < L := by omega
    have ht0 : 0 < t := by omega
    have hWi := wis_inv (unhide HI) (unhide HA) k (by rw [← unhide HL]; exact hk)
    rw [← unhide HL] at hWi
    obtain ⟨b0, hb0⟩ : ∃ b0, b0 = s.ent.getD t 0 := ⟨_, rfl⟩
    have hb0n : b0 < n := by rw [hb0]; exact (unhide HI).eb _ (getD_mem _ _ _ (by rw [← unhide HLe]; exact htL))
    obtain ⟨c1, c3⟩ := unhide HCell wr hWk.be
    obtain ⟨Be, oe, hea, -, hec⟩ := nums_at (nums_on (unhide HE) hWk.be) (k := t) (by rw [nz_len, ← unhide HLe]; exact htL)
    have x1 := hec t (by rw [nz_len, ← unhide HLe]; exact htL)
    rw [nz_getD _ _ (by rw [← unhide HLe]; exact htL), ← hb0] at x1
    subst hea
    have hRw : Rws wr (fun k => k < W.heap.size) ah (.slice aa ah.length ac) := (unhide HAh).moved (fun k _ hk => ⟨hk, hWk.be.block k hk⟩) hWk.be.size
    obtain ⟨Ba, oa, vr, haa, hBaN, hBal, x2, hnr⟩ := hRw.at_ (i := b0) (by rw [unhide HLl]; exact hb0n)
    subst haa
    obtain ⟨ra, rc, rfl, -, -, -⟩ := id hnr
    rw [nz_len] at x2 hnr
    obtain ⟨row, hrow⟩ : ∃ row, row = ah.getD b0 [] := ⟨_, rfl⟩
    rw [← hrow] at x2 hnr
    obtain ⟨m, hm⟩ : ∃ m, m = row.length := ⟨_, rfl⟩
    rw [← hm] at x2 hnr
    have hmi : (m : Int) ≤ 2097152 := by have := unhide HAl b0; rw [← hrow, ← hm] at this; omega
    have hb0i : (b0 : Int) < (ah.length : Int) := by rw [unhide HLl]; omega
    have hlli : (ah.length : Int) ≤ 1048576 := by rw [unhide HLl]; exact hni
    have htLi : (t : Int) < (L : Int) := by omega
    have hrn : ∀ b ∈ row, b < n := fun b hb => (unhide HA).lt b0 b (by rw [← hrow]; exact hb)
    rw [hti]
    have HT3 := hide ht; have HTi := hide hti; have HWi := hide hWi; have HRow := hide hrow; have HM := hide hm; have HRn := hide hrn; have HNr := hide hnr; have HWk := hide hWk; have HB0 := hide hb0; have HLt := hide hlt
    clear ht hti hWi hrow hm hrn hnr hWk hb0 hec hRw hlt hk
    go_wp2_with fail
    clear c1 c3 x1 x2
    go_loopw [38] (fun c wq => ∃ j : Nat, j ≤ m ∧ c = .int .i64 (j : Int) ∧ Wd W wq ob oc B gu cu gl cl L (ws s.tn t row (wis s ah k) j)) (fun c _ => m - (intOf c).toNat)
    case atStart => exact ⟨0, Nat.zero_le _, rfl, unhide HWk⟩
    case round =>
     generalize wr = wq at *
     obtain ⟨j, hj, rfl, hWj⟩ := hrel
     have hWji := ws_inv (tn := s.tn) htL row (wis s ah k) (unhide HWi) (unhide HRn) (fun b hb => by rw [unhide HLe]; exact tn_at (unhide HI) hb) j
     by_cases hjm : j < m
     ·have hjr : j < row.length := by rw [← unhide HM]; exact hjm
      obtain ⟨b, hb⟩ : ∃ b, b = row.getD j 0 := ⟨_, rfl⟩
      have hbr : row[j]? = some b := by rw [hb]; exact get?_getD _ _ _ hjr
      have hbn := unhide HRn b (List.mem_of_getElem? hbr)
      obtain ⟨Br, or_, hra, -, hrc⟩ := nums_at (nums_via (unhide HNr) (unhide HWk).be hWj.be) (k := j) (by rw [nz_len]; exact hjr)
      subst hra
      have x1 := hrc j (by rw [nz_len]; exact hjr)
      rw [nz_getD _ _ hjr, ← hb] at x1
      obtain ⟨-, c3⟩ := unhide HCell wq hWj.be
      obtain ⟨Bt, ot, hta, -, htc⟩ := nums_at (nums_on (unhide HT2) hWj.be) (k := b) (by rw [(unhide HI).tl]; exact hbn)
      subst hta
      have x2 := htc b (by rw [(unhide HI).tl]; exact hbn)
      have hfr := tn_at (unhide HI) hbn
      obtain ⟨z, hz⟩ : ∃ z, z = s.tn.getD b 0 := ⟨_, rfl⟩
      rw [← hz] at x2 hfr
      rw [← unhide HLe] at hfr
      have hbi : (b : Int) < (n : Int) := by omega
      have hji : (j : Int) < (m : Int) := by omega
      have hst := ws_succ s.tn t row (wis s ah k) hbr
      obtain ⟨q, hq⟩ : ∃ q, q = ws s.tn t row (wis s ah k) j := ⟨_, rfl⟩
      rw [← hq] at hWj hWji hst
      have hol : t < q.out.length := by rw [hWji.out.len]; exact htL
      obtain ⟨x3, x3f⟩ := hWj.out.cells (i := t) hol
      obtain ⟨y, hy⟩ : ∃ y, y = q.out.getD t 0 := ⟨_, rfl⟩
      rw [← hy] at x3
      have HSt := hide hst; have HZ := hide hz; have HY := hide hy; have HWj := hide hWj; have HWji := hide hWji; have HOl := hide hol
      clear hst hz hy hWj hWji hb hbr hrc htc hq hjr hol
      by_cases hA1 : (t : Int) < z
      ·obtain ⟨fz, hfz⟩ : ∃ fz : Nat, z = (fz : Int) := ⟨z.toNat, by omega⟩
       subst hfz
       have hcall := least_any (unhide HLn) (t : Int) (by omega) W.heap.size B gu cu gl cl fz fz (q.up, q.le) ⟨(unhide HWji).up, (unhide HWji).le⟩ (by omega) (Nat.le_refl _) wq.drew (unhide HWj).drew.cb
       have hfin : ws s.tn t row (wis s ah k) (j + 1) = ⟨q.out.set t (min y ((lb (t : Int) fz (q.up, q.le) fz).2.getD fz 0)), (lb (t : Int) fz (q.up, q.le) fz).1, (lb (t : Int) fz (q.up, q.le) fz).2⟩ := by rw [unhide HSt]; unfold wi1; rw [← unhide HZ, if_pos hA1, unhide HY]; simp only [Int.toNat_natCast]
       obtain ⟨r, hr⟩ : ∃ r, r = lb (t : Int) fz (q.up, q.le) fz := ⟨_, rfl⟩
       rw [← hr] at hcall hfin
       obtain ⟨v, hv⟩ : ∃ v, v = r.2.getD fz 0 := ⟨_, rfl⟩
       rw [← hv] at hcall hfin
       have hpost : ∀ w1, Cb w1 W.heap.size B gu cu gl cl L r → Fk gu gl wq.drew w1 → w1.cell? ⟨ob, t, none⟩ = some (.int .i64 y) ∧ w1.frozen? ⟨ob, t, none⟩ = false ∧ Wd W (w1.setCell ⟨ob, t, none⟩ (.int .i64 (min y v))) ob oc B gu cu gl cl L ⟨q.out.set t (min y v), r.1, r.2⟩ := fun w1 h1 h2 => by
        have h3 := (unhide HWj).drew.call h1 h2
        have h4 := h3.out.cells (i := t) (unhide HOl)
        simp only at h4
        rw [← unhide HY] at h4
        exact ⟨h4.1, h4.2, h3.setO (unhide HOl) _⟩
       have HC := hide hcall; have HP := hide hpost; have HF2 := hide hfin
       clear hcall hpost hfin hr hv hfr
       go_wp2_with fail
       go_region_law
        (first
         | (go_simp; go_at_call 86; refine (unhide HC).mono ?_; rintro e w1 ⟨rfl, hC1, hF1⟩; obtain ⟨y1, y2, y3⟩ := unhide HP w1 hC1 hF1; have HY3 := hide y3; clear hC1 hF1 y3; go_wp2_with fail)
         | fail)
       all_goals
        go_wp2_with fail
        go_roundw
        case rel => exact ⟨j + 1, by omega, by go_num, by rw [unhide HF2]; exact unhide HY3⟩
        case measure => simp [intOf]; omega
      ·by_cases hA2 : z = -1
       ·subst hA2
        have hfin : ws s.tn t row (wis s ah k) (j + 1) = q := by rw [unhide HSt]; unfold wi1; rw [← unhide HZ, if_neg hA1, if_pos rfl]
        have HF2 := hide hfin
        clear hfin hfr
        go_wp2_with fail
        go_roundw
        case rel => exact ⟨j + 1, by omega, by go_num, by rw [unhide HF2]; exact unhide HWj⟩
        case measure => simp [intOf]; omega
       ·have hzb : (z != -1) = true := by simpa using hA2
        have hfin : ws s.tn t row (wis s ah k) (j + 1) = ⟨q.out.set t (min y z), q.up, q.le⟩ := by rw [unhide HSt]; unfold wi1; rw [← unhide HZ, if_neg hA1, if_neg hA2, unhide HY]
        have HF2 := hide hfin
        clear hfin hA2
        go_wp2_with fail
        go_roundw
        case rel => exact ⟨j + 1, by omega, by go_num, by rw [unhide HF2]; exact (unhide HWj).setO (unhide HOl) _⟩
        case measure => simp [intOf]; omega
     ·obtain rfl : j = m := by omega
      rw [unhide HM, ws_all] at hWj hWji
      obtain ⟨q, hq⟩ : ∃ q, q = row.foldl (wi1 s.tn t) (wis s ah k) := ⟨_, rfl⟩
      rw [← hq] at hWj hWji
      have hol : t < q.out.length := by rw [hWji.out.len]; exact htL
      have hll : t < q.le.length := by rw [hWji.le.len]; exact htL
      obtain ⟨x3, x3f⟩ := hWj.out.cells (i := t) hol
      obtain ⟨x4, x4f⟩ := hWj.cb.rl.cells (i := t) hll
      obtain ⟨-, x5, -⟩ := cb_cells hWj.cb.bx
      obtain ⟨y, hy⟩ : ∃ y, y = q.out.getD t 0 := ⟨_, rfl⟩
      rw [← hy] at x3
      have hfin : wis s ah (k + 1) = ⟨q.out, q.up, q.le.set t y⟩ := by rw [wis_succ, ← unhide HL, ← unhide HT3]; unfold wiT; rw [← unhide HB0, ← unhide HRow, ← hq, hy]
      have hW9 : Wd W (wq.setCell ⟨gl, t, none⟩ (.int .i64 y)).drew ob oc B gu cu gl cl L ⟨q.out, q.up, q.le.set t y⟩ := by
       have h1 := hWj.cb.setL (i := t) hll y
       exact (hWj.call h1 ((Fk.refl gu gl wq).set2 t _)).drew
      have HF2 := hide hfin; have HW9 := hide hW9
      clear hfin hW9 hWj hWji hq hol hll hy
      go_wp2_with fail
      go_region
      generalize (wq.setCell ⟨gl, t, none⟩ (.int .i64 y)).drew = W9 at *
      clear x3 x3f x4 x4f x5
      go_wp2_with fail
      go_roundw
      case rel =>
       have h8 := unhide HTi
       have h9 : (t : Int) - 1 = (L : Int) - 1 - ((k + 1 : Nat) : Int) := by omega
       exact ⟨k + 1, by have := unhide HLt; omega, by rw [h9], by rw [unhide HF2]; exact unhide HW9⟩
      case measure => have := unhide HTi; simp [intOf]; omega
   ·obtain rfl : k = L - 1 := by omega
    have hti : (L : Int) - 1 - ((L - 1 : Nat) : Int) = 0 := by omega
    rw [hti]
    have hfin : (wis s ah (L - 1)).out = widest s ah := by unfold widest; rw [unhide HL]
    have hro := hWk.out
    rw [hfin] at hro
    have HR := hide (hro.base (unhide HBW).size); have HBe := hide ((unhide HBW).trans (hWk.be.mono (unhide HBW).size))
    clear hro hfin hWk hti
    go_wp2_with fail
    go_ret
    exact ⟨_, rfl, unhide HR, unhide HBe⟩
end Fw
end Go.Proofs.YtglehoekehiaiaaGreatDoor
