/- flow: where the widest detour to each block begins. -/
import Derived.Test.YtpecnljcgiicaaaDoorFwG
import Derived.Deep.CutRange
namespace Go.Proofs.YtpecnljcgiicaaaDoor
open Go.RowKit
namespace Fw
set_option linter.unusedVariables false
set_option linter.unusedSimpArgs false
open Vc (NumsL Nums Lies LL Bls BlC InC Bl In Co infoN own_base)

theorem clone_ro (zs : List Int) (g : Nat → Prop) (v : Value) (w : World) (h : NumsL w g zs v) (hn : zs.length ≤ 1099511627776) :
    Calls Tryd.prog 32 #[v] w fun e w' => ∃ v', e = .returned v' ∧ Ro w' w.heap.size v' zs ∧ Below w.heap.size w w' := by
  obtain ⟨a, cp, rfl, hle, hno, hl⟩ := h
  refine (Vc.clN_any zs.length (zs.map (Value.int .i64)) a cp w (fun e => ⟨?_, hno e⟩) (by simp) (fun ad e j u hu => ?_) (fun u hu => ?_) hn).mono ?_
  · have := hno e; omega
  · have hj : j < zs.length := by have := (List.getElem?_eq_some_iff.1 hu).1; simpa using this
    obtain ⟨b, o, e2, _, hc⟩ := hl (by omega)
    rw [e] at e2; cases e2
    rw [addr_add0, hc j hj]
    rw [List.getElem?_map, List.getElem?_eq_getElem hj] at hu
    simp only [Option.map_some, Option.some.injEq] at hu
    rw [← hu]; simp [List.getD, List.getElem?_eq_getElem hj]
  · simp only [List.mem_map] at hu
    obtain ⟨z, _, rfl⟩ := hu; rfl
  · rintro e w' ⟨v', rfl, hc, hb⟩
    refine ⟨v', rfl, ?_, hb⟩
    rcases hc with ⟨h0, ho⟩ | ⟨h0, b, cap, rfl, ho⟩
    · have : zs = [] := List.eq_nil_of_length_eq_zero h0
      subst this; exact ho
    · exact ho
theorem bdrew {N : Nat} {w w' : World} (h : Below N w w') : Below N w w'.drew := ⟨h.os, h.tape, h.output, h.size, h.block⟩
theorem bcell {W w1 : World} (hb : Below W.heap.size W w1) : (∀ b o, b < W.heap.size → w1.cell? ⟨b, o, none⟩ = W.cell? ⟨b, o, none⟩) ∧ (∀ b o, b < W.heap.size → w1.frozen? ⟨b, o, none⟩ = W.frozen? ⟨b, o, none⟩) :=
  ⟨fun b o h => hb.cell (p := ⟨b, o, none⟩) h, fun b o h => hb.frozen (p := ⟨b, o, none⟩) h⟩
/-- what stands while the widest detours are found -/
structure Wd (w wr : World) (ob oc B gu cu gl cl L : Nat) (s : Wi) : Prop where
  out : Ro wr w.heap.size (.slice (some ⟨ob, 0, none⟩) L oc) s.out
  cb : Cb wr w.heap.size B gu cu gl cl L (s.up, s.le)
  nu : ob ≠ gu
  nl : ob ≠ gl
  be : Below w.heap.size w wr
theorem Wd.drew {w wr : World} {ob oc B gu cu gl cl L : Nat} {s : Wi} (h : Wd w wr ob oc B gu cu gl cl L s) : Wd w wr.drew ob oc B gu cu gl cl L s := ⟨h.out, h.cb.drew, h.nu, h.nl, ⟨h.be.os, h.be.tape, h.be.output, h.be.size, h.be.block⟩⟩
theorem Wd.start {w wr : World} {ob oc gu cu gl cl L : Nat} {v : Value} {s : Wi} (h1 : Ro wr w.heap.size (.slice (some ⟨ob, 0, none⟩) L oc) s.out) (h2 : Ro wr w.heap.size (.slice (some ⟨gu, 0, none⟩) L cu) s.up) (h3 : Ro wr w.heap.size (.slice (some ⟨gl, 0, none⟩) L cl) s.le) (e1 : ob ≠ gu) (e2 : ob ≠ gl) (e3 : gu ≠ gl) (hb : Below w.heap.size w wr) :
    Wd w (wr.alloc (.cells (cbc (.slice (some ⟨gu, 0, none⟩) L cu) (.slice (some ⟨gl, 0, none⟩) L cl)) 90)) ob oc wr.heap.size gu cu gl cl L s :=
  have hal := Vc.one_alloc wr (.cells (cbc (.slice (some ⟨gu, 0, none⟩) L cu) (.slice (some ⟨gl, 0, none⟩) L cl)) 90)
  ⟨h1.below hal, ⟨heap_alloc_new _ _, h2.below hal, h3.below hal, e3⟩, e1, e2, hb.trans (hal.mono hb.size)⟩
theorem made_row (X : World) (L : Nat) (hL : L ≤ 1048576) (N : Nat) (hN : N ≤ X.heap.size) : Ro (X.alloc (.cells (madeCells #[.int .i64 0] L) 3)) N (.slice (some ⟨X.heap.size, 0, none⟩) L L) (List.replicate L 0) := (Ro.made X L hL).base hN
theorem set2c (w : World) (b : Nat) (c0 c1 : Value) (t : TypeId) (u0 u1 : Value) (h : w.heap[b]? = some (.cells #[c0, c1] t (0, 0))) : ((w.setCell ⟨b, 0, none⟩ u0).setCell ⟨b, 1, none⟩ u1).heap[b]? = some (.cells #[u0, u1] t (0, 0)) :=
  (heap_setCell_same _ b 1 _ _ u1 ((heap_setCell_same w b 0 _ _ u0 h).trans rfl)).trans rfl
theorem oth2c (w : World) (b k : Nat) (hk : k ≠ b) (u0 u1 : Value) : ((w.setCell ⟨b, 0, none⟩ u0).setCell ⟨b, 1, none⟩ u1).heap[k]? = w.heap[k]? := by
  rw [heap_setCell_other _ _ _ _ (by exact hk), heap_setCell_other _ _ _ _ (by exact hk)]
theorem bel2c {w w' : World} {N : Nat} (b : Nat) (hb : N ≤ b) (h : Below N w w') (u0 u1 : Value) : Below N w ((w'.setCell ⟨b, 0, none⟩ u0).setCell ⟨b, 1, none⟩ u1) := (h.setCell (p := ⟨b, 0, none⟩) hb _).setCell (p := ⟨b, 1, none⟩) hb _
theorem shape1 {W w1 w2 : World} {ob oc gu cu L : Nat} {fr : List Int} (hL : L ≤ 1048576) (ho1 : Ro w1 W.heap.size (.slice (some ⟨ob, 0, none⟩) L oc) fr) (hobl : ob < w1.heap.size) (ho2 : Ro w2 W.heap.size (.slice (some ⟨gu, 0, none⟩) L cu) fr) (hb1 : Below W.heap.size W w1) (hb2 : Below w1.heap.size w1 w2) (hgu : w1.heap.size ≤ gu) : Wd W ((w2.alloc (.cells (madeCells #[.int .i64 0] L) 3)).alloc (.cells #[(.slice (some ⟨gu, 0, none⟩) L cu), (.slice (some ⟨w2.heap.size, 0, none⟩) L L)] 90)) ob oc (w2.heap.size + 1) gu cu w2.heap.size L L ⟨fr, fr, List.replicate L 0⟩ := by
  have h := (ho2.lt gu rfl).2
  have a1 := Vc.one_alloc w2 (.cells (madeCells #[.int .i64 0] L) 3)
  have hs := hb2.size
  have := Wd.start (s := ⟨fr, fr, List.replicate L 0⟩) (v := .nilIface) ((ho1.below hb2).below a1) (ho2.below a1) (made_row w2 L hL W.heap.size (Nat.le_trans hb1.size hb2.size)) (by omega) (by omega) (by omega) ((hb1.trans (hb2.mono hb1.size)).trans (a1.mono (Nat.le_trans hb1.size hb2.size)))
  rw [show (w2.alloc (.cells (madeCells #[.int .i64 0] L) 3)).heap.size = w2.heap.size + 1 by simp] at this
  exact this
theorem shape2 {W w1 w2 : World} {ob oc gu cu L : Nat} {fr : List Int} (hL : L ≤ 1048576) (ho1 : Ro w1 W.heap.size (.slice (some ⟨ob, 0, none⟩) L oc) fr) (hobl : ob < w1.heap.size) (ho2 : Ro w2 W.heap.size (.slice (some ⟨gu, 0, none⟩) L cu) fr) (hb1 : Below W.heap.size W w1) (hb2 : Below w1.heap.size w1 w2) (hgu : w1.heap.size ≤ gu) : Wd W ((w2.alloc (.cells #[(.slice (some ⟨gu, 0, none⟩) L cu), (.slice (some ⟨(w2.heap.size + 1), 0, none⟩) L L)] 90)).alloc (.cells (madeCells #[.int .i64 0] L) 3)) ob oc w2.heap.size gu cu (w2.heap.size + 1) L L ⟨fr, fr, List.replicate L 0⟩ := by
  have h := (ho2.lt gu rfl).2
  have a1 := Vc.one_alloc w2 (.cells #[(.slice (some ⟨gu, 0, none⟩) L cu), (.slice (some ⟨(w2.heap.size + 1), 0, none⟩) L L)] 90)
  have hz : (w2.alloc (.cells #[(.slice (some ⟨gu, 0, none⟩) L cu), (.slice (some ⟨(w2.heap.size + 1), 0, none⟩) L L)] 90)).heap.size = w2.heap.size + 1 := by simp
  have a2 := Vc.one_alloc (w2.alloc (.cells #[(.slice (some ⟨gu, 0, none⟩) L cu), (.slice (some ⟨(w2.heap.size + 1), 0, none⟩) L L)] 90)) (.cells (madeCells #[.int .i64 0] L) 3)
  have hs := hb2.size
  have hs1 := hb1.size
  have hr := made_row (w2.alloc (.cells #[(.slice (some ⟨gu, 0, none⟩) L cu), (.slice (some ⟨(w2.heap.size + 1), 0, none⟩) L L)] 90)) L hL W.heap.size (by omega)
  rw [hz] at hr
  exact ⟨((ho1.below hb2).below a1).below a2, ⟨(a2.block w2.heap.size (by omega)).trans (heap_alloc_new _ _), (ho2.below a1).below a2, hr, by omega⟩, by omega, by omega, ((hb1.trans (hb2.mono hs1)).trans (a1.mono (by omega))).trans (a2.mono (by omega))⟩
theorem shape3 {W w1 w2 : World} {ob oc gu cu L : Nat} {fr : List Int} (hL : L ≤ 1048576) (ho1 : Ro w1 W.heap.size (.slice (some ⟨ob, 0, none⟩) L oc) fr) (hobl : ob < w1.heap.size) (ho2 : Ro w2 W.heap.size (.slice (some ⟨gu, 0, none⟩) L cu) fr) (hb1 : Below W.heap.size W w1) (hb2 : Below w1.heap.size w1 w2) (hb3 : Below (w1.alloc (.cells (madeCells #[.int .i64 0] L) 3)).heap.size (w1.alloc (.cells (madeCells #[.int .i64 0] L) 3)) w2) (hgu : w1.heap.size + 1 ≤ gu) : Wd W (w2.alloc (.cells #[(.slice (some ⟨gu, 0, none⟩) L cu), (.slice (some ⟨w1.heap.size, 0, none⟩) L L)] 90)) ob oc w2.heap.size gu cu w1.heap.size L L ⟨fr, fr, List.replicate L 0⟩ := by
  have h := (ho2.lt gu rfl).2
  have hs := hb2.size
  have hs1 := hb1.size
  have hr := (made_row w1 L hL W.heap.size hs1).below hb3
  exact Wd.start (s := ⟨fr, fr, List.replicate L 0⟩) (v := .nilIface) (ho1.below hb2) ho2 hr (by omega) (by omega) (by omega) (hb1.trans (hb2.mono hs1))
theorem shape4 {W w1 w2 : World} {ob oc gu cu L : Nat} {fr : List Int} (hL : L ≤ 1048576) (ho1 : Ro w1 W.heap.size (.slice (some ⟨ob, 0, none⟩) L oc) fr) (hobl : ob < w1.heap.size) (ho2 : Ro w2 W.heap.size (.slice (some ⟨gu, 0, none⟩) L cu) fr) (hb1 : Below W.heap.size W w1) (hb2 : Below w1.heap.size w1 w2) (hb3 : Below ((w1.alloc (.cells (madeCells #[.int .i64 0] L) 3)).alloc (.cells #[.slice none 0 0, .slice none 0 0] 90)).heap.size ((w1.alloc (.cells (madeCells #[.int .i64 0] L) 3)).alloc (.cells #[.slice none 0 0, .slice none 0 0] 90)) w2) (hgu : w1.heap.size + 2 ≤ gu) : Wd W ((w2.setCell ⟨(w1.heap.size + 1), 0, none⟩ (.slice (some ⟨gu, 0, none⟩) L cu)).setCell ⟨(w1.heap.size + 1), 1, none⟩ (.slice (some ⟨w1.heap.size, 0, none⟩) L L)) ob oc (w1.heap.size + 1) gu cu w1.heap.size L L ⟨fr, fr, List.replicate L 0⟩ := by
  have h := (ho2.lt gu rfl).2
  have hs := hb2.size
  have hs1 := hb1.size
  have hz : (w1.alloc (.cells (madeCells #[.int .i64 0] L) 3)).heap.size = w1.heap.size + 1 := by simp
  have hz2 : ((w1.alloc (.cells (madeCells #[.int .i64 0] L) 3)).alloc (.cells #[.slice none 0 0, .slice none 0 0] 90)).heap.size = w1.heap.size + 2 := by simp
  have hr := ((made_row w1 L hL W.heap.size hs1).below (Vc.one_alloc _ (.cells #[.slice none 0 0, .slice none 0 0] 90))).below hb3
  have hbx : w2.heap[w1.heap.size + 1]? = some (.cells #[.slice none 0 0, .slice none 0 0] 90 (0, 0)) := by
    rw [hb3.block _ (by omega), ← hz]; exact heap_alloc_new _ _
  have ot := fun k hk => oth2c w2 (w1.heap.size + 1) k hk (.slice (some ⟨gu, 0, none⟩) L cu) (.slice (some ⟨w1.heap.size, 0, none⟩) L L)
  exact ⟨(ho1.below hb2).keep fun k hk => ot k (by have e : ob = k := Option.some.inj hk; omega), ⟨set2c w2 _ _ _ _ _ _ hbx, ho2.keep fun k hk => ot k (by have e : gu = k := Option.some.inj hk; omega), hr.keep fun k hk => ot k (by have e : w1.heap.size = k := Option.some.inj hk; omega), by omega⟩, by omega, by omega, bel2c _ (by omega) (hb1.trans (hb2.mono hs1)) _ _⟩
theorem shape5 {W w1 w2 : World} {ob oc gu cu L : Nat} {fr : List Int} (hL : L ≤ 1048576) (ho1 : Ro w1 W.heap.size (.slice (some ⟨ob, 0, none⟩) L oc) fr) (hobl : ob < w1.heap.size) (ho2 : Ro w2 W.heap.size (.slice (some ⟨gu, 0, none⟩) L cu) fr) (hb1 : Below W.heap.size W w1) (hb2 : Below w1.heap.size w1 w2) (hb3 : Below (w1.alloc (.cells #[.slice none 0 0, .slice none 0 0] 90)).heap.size (w1.alloc (.cells #[.slice none 0 0, .slice none 0 0] 90)) w2) (hgu : w1.heap.size + 1 ≤ gu) : Wd W (((w2.setCell ⟨w1.heap.size, 0, none⟩ (.slice (some ⟨gu, 0, none⟩) L cu)).setCell ⟨w1.heap.size, 1, none⟩ (.slice (some ⟨w2.heap.size, 0, none⟩) L L)).alloc (.cells (madeCells #[.int .i64 0] L) 3)) ob oc w1.heap.size gu cu w2.heap.size L L ⟨fr, fr, List.replicate L 0⟩ := by
  have h := (ho2.lt gu rfl).2
  have hs := hb2.size
  have hs1 := hb1.size
  have hz : (w1.alloc (.cells #[.slice none 0 0, .slice none 0 0] 90)).heap.size = w1.heap.size + 1 := by simp
  have hbx : w2.heap[w1.heap.size]? = some (.cells #[.slice none 0 0, .slice none 0 0] 90 (0, 0)) := by
    rw [hb3.block _ (by omega)]; exact heap_alloc_new _ _
  have hl := (Array.getElem?_eq_some_iff.1 hbx).1
  have ot := fun k hk => oth2c w2 w1.heap.size k hk (.slice (some ⟨gu, 0, none⟩) L cu) (.slice (some ⟨w2.heap.size, 0, none⟩) L L)
  have hX : ((w2.setCell ⟨w1.heap.size, 0, none⟩ (.slice (some ⟨gu, 0, none⟩) L cu)).setCell ⟨w1.heap.size, 1, none⟩ (.slice (some ⟨w2.heap.size, 0, none⟩) L L)).heap.size = w2.heap.size := by simp
  have hnew := set2c w2 w1.heap.size _ _ _ (.slice (some ⟨gu, 0, none⟩) L cu) (.slice (some ⟨w2.heap.size, 0, none⟩) L L) hbx
  have hbe := bel2c w1.heap.size (by omega) (hb1.trans (hb2.mono hs1)) (.slice (some ⟨gu, 0, none⟩) L cu) (.slice (some ⟨w2.heap.size, 0, none⟩) L L)
  generalize ((w2.setCell ⟨w1.heap.size, 0, none⟩ (.slice (some ⟨gu, 0, none⟩) L cu)).setCell ⟨w1.heap.size, 1, none⟩ (.slice (some ⟨w2.heap.size, 0, none⟩) L L)) = X at *
  have a1 := Vc.one_alloc X (.cells (madeCells #[.int .i64 0] L) 3)
  have hr := made_row X L hL W.heap.size (by omega)
  rw [hX] at hr
  exact ⟨((ho1.below hb2).keep fun k hk => ot k (by have e : ob = k := Option.some.inj hk; omega)).below a1, ⟨(a1.block _ (by omega)).trans hnew, (ho2.keep fun k hk => ot k (by have e : gu = k := Option.some.inj hk; omega)).below a1, hr, by omega⟩, by omega, by omega, hbe.trans (a1.mono (by omega))⟩
theorem shape6 {W w1 w2 : World} {ob oc gu cu L : Nat} {fr : List Int} (hL : L ≤ 1048576) (ho1 : Ro w1 W.heap.size (.slice (some ⟨ob, 0, none⟩) L oc) fr) (hobl : ob < w1.heap.size) (ho2 : Ro w2 W.heap.size (.slice (some ⟨gu, 0, none⟩) L cu) fr) (hb1 : Below W.heap.size W w1) (hb2 : Below w1.heap.size w1 w2) (hb3 : Below ((w1.alloc (.cells #[.slice none 0 0, .slice none 0 0] 90)).alloc (.cells (madeCells #[.int .i64 0] L) 3)).heap.size ((w1.alloc (.cells #[.slice none 0 0, .slice none 0 0] 90)).alloc (.cells (madeCells #[.int .i64 0] L) 3)) w2) (hgu : w1.heap.size + 2 ≤ gu) : Wd W ((w2.setCell ⟨w1.heap.size, 0, none⟩ (.slice (some ⟨gu, 0, none⟩) L cu)).setCell ⟨w1.heap.size, 1, none⟩ (.slice (some ⟨(w1.heap.size + 1), 0, none⟩) L L)) ob oc w1.heap.size gu cu (w1.heap.size + 1) L L ⟨fr, fr, List.replicate L 0⟩ := by
  have h := (ho2.lt gu rfl).2
  have hs := hb2.size
  have hs1 := hb1.size
  have hz : (w1.alloc (.cells #[.slice none 0 0, .slice none 0 0] 90)).heap.size = w1.heap.size + 1 := by simp
  have hz2 : ((w1.alloc (.cells #[.slice none 0 0, .slice none 0 0] 90)).alloc (.cells (madeCells #[.int .i64 0] L) 3)).heap.size = w1.heap.size + 2 := by simp
  have hr := (made_row (w1.alloc (.cells #[.slice none 0 0, .slice none 0 0] 90)) L hL W.heap.size (by omega)).below hb3
  rw [hz] at hr
  have hbx : w2.heap[w1.heap.size]? = some (.cells #[.slice none 0 0, .slice none 0 0] 90 (0, 0)) := by
    rw [hb3.block _ (by omega), (Vc.one_alloc (w1.alloc (.cells #[.slice none 0 0, .slice none 0 0] 90)) (.cells (madeCells #[.int .i64 0] L) 3)).block _ (by omega)]; exact heap_alloc_new _ _
  have ot := fun k hk => oth2c w2 w1.heap.size k hk (.slice (some ⟨gu, 0, none⟩) L cu) (.slice (some ⟨(w1.heap.size + 1), 0, none⟩) L L)
  exact ⟨(ho1.below hb2).keep fun k hk => ot k (by have e : ob = k := Option.some.inj hk; omega), ⟨set2c w2 _ _ _ _ _ _ hbx, ho2.keep fun k hk => ot k (by have e : gu = k := Option.some.inj hk; omega), hr.keep fun k hk => ot k (by have e : w1.heap.size + 1 = k := Option.some.inj hk; omega), by omega⟩, by omega, by omega, bel2c _ (by omega) (hb1.trans (hb2.mono hs1)) _ _⟩
end Fw
end Go.Proofs.YtpecnljcgiicaaaDoor
