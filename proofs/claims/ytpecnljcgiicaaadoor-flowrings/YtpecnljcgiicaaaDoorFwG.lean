/- flow: what is over what: the least behind. -/
import Derived.Test.YtpecnljcgiicaaaDoorFwF
import Derived.Deep.RegionHeld3
namespace Go.Proofs.YtpecnljcgiicaaaDoor
open Go.RowKit
namespace Fw
set_option linter.unusedVariables false
set_option linter.unusedSimpArgs false
open Vc (NumsL Nums Lies LL Bls BlC InC Bl In Co infoN own_base)

set_option maxRecDepth 100000 in
set_option maxHeartbeats 1600000 in
theorem covers_any {L : Nat} (tl : List Int) (hU : Up L tl) (hL : L ≤ 1048576) (a : Int) (ha : -1 ≤ a) (g : Nat → Prop) (v : Value) (w : World) (hv : NumsL w g tl v) (f : Nat) (b : Int) (hb : -1 ≤ b) (hbL : b < (L : Int)) (hf : b < (f : Int)) :
    Calls Tryd.prog 16 #[v, .int .i64 a, .int .i64 b] w fun e w' => e = .returned (.bool (cov tl a f b)) ∧ w = w' := by
  obtain ⟨va, vc, rfl, -, -, -⟩ := id hv
  have HV := hide hv; have HU := hide hU; have HF := hide hf
  have hlen : tl.length = L := hU.len
  obtain ⟨r, hr⟩ : ∃ r, r = cov tl a f b := ⟨_, rfl⟩
  have HR := hide hr
  rw [← hr, hlen]
  clear hv hU hr hlen hf
  go_enter Tryd.func16, Tryd.ntmps16
  go_wp2_with fail
  go_loopw [2] (fun c wr => ∃ (f2 : Nat) (b2 : Int), -1 ≤ b2 ∧ b2 < (L : Int) ∧ b2 < (f2 : Int) ∧ c = .int .i64 b2 ∧ r = cov tl a f2 b2 ∧ wr = w) (fun c _ => (intOf c + 1).toNat)
  case atStart => exact ⟨f, b, hb, hbL, unhide HF, rfl, unhide HR, rfl⟩
  case round =>
    obtain ⟨f2, b2, h1, h2, h3, rfl, hr2, rfl⟩ := hrel
    by_cases hlt : a < b2
    · obtain ⟨n, rfl⟩ : ∃ n : Nat, b2 = (n : Int) := ⟨b2.toNat, by omega⟩
      obtain ⟨f3, rfl⟩ : ∃ f3, f2 = f3 + 1 := ⟨f2 - 1, by omega⟩
      obtain ⟨Bn, on, rfl, -, hnc⟩ := nums_at (unhide HV) (k := n) (by rw [(unhide HU).len]; omega)
      have hck := hnc n (by rw [(unhide HU).len]; omega)
      have hu := (unhide HU).row n (by omega)
      rw [cov_yes tl a f3 (n : Int) hlt, Int.toNat_natCast] at hr2
      obtain ⟨z, hz⟩ : ∃ z, z = tl.getD n 0 := ⟨_, rfl⟩
      rw [← hz] at hck hu hr2
      have HR2 := hide hr2; have HZ := hide hz
      clear hr2 hz hnc
      go_wp2_with fail
      go_roundw
      case rel => exact ⟨f3, z, hu.1, by omega, by omega, rfl, unhide HR2, by trivial⟩
      case measure => simp [intOf]; omega
    · rw [cov_no tl a f2 b2 hlt] at hr2
      go_wp2_with fail
      go_ret
      exact ⟨rfl, rfl⟩

def cbc (a b : Value) : Array Value := #[a, b]
/-- what climbs: its box, and both rows -/
structure Cb (w : World) (N B gu cu gl cl L : Nat) (s : List Int × List Int) : Prop where
  bx : w.heap[B]? = some (.cells (cbc (.slice (some ⟨gu, 0, none⟩) L cu) (.slice (some ⟨gl, 0, none⟩) L cl)) 90 (0, 0))
  ru : Ro w N (.slice (some ⟨gu, 0, none⟩) L cu) s.1
  rl : Ro w N (.slice (some ⟨gl, 0, none⟩) L cl) s.2
  ne : gu ≠ gl
/-- all but two blocks stays -/
structure Fk (a b : Nat) (w w' : World) : Prop where
  os : w'.os = w.os
  tape : w'.tape = w.tape
  output : w'.output = w.output
  size : w'.heap.size = w.heap.size
  keep : ∀ k, k ≠ a → k ≠ b → w'.heap[k]? = w.heap[k]?
theorem Fk.refl (a b : Nat) (w : World) : Fk a b w w := ⟨rfl, rfl, rfl, rfl, fun _ _ _ => rfl⟩
theorem Fk.trans {a b : Nat} {w w1 w2 : World} (h : Fk a b w w1) (k : Fk a b w1 w2) : Fk a b w w2 := ⟨k.os.trans h.os, k.tape.trans h.tape, k.output.trans h.output, k.size.trans h.size, fun j h1 h2 => (k.keep j h1 h2).trans (h.keep j h1 h2)⟩
theorem Fk.drew {a b : Nat} {w w1 : World} (h : Fk a b w w1) : Fk a b w w1.drew := ⟨h.os, h.tape, h.output, h.size, h.keep⟩
theorem Fk.set1 {a b : Nat} {w w1 : World} (h : Fk a b w w1) (i : Nat) (v : Value) : Fk a b w (w1.setCell ⟨a, i, none⟩ v) := ⟨h.os, h.tape, h.output, by simp [h.size], fun k h1 h2 => (heap_setCell_other w1 ⟨a, i, none⟩ k v h1).trans (h.keep k h1 h2)⟩
theorem Fk.set2 {a b : Nat} {w w1 : World} (h : Fk a b w w1) (i : Nat) (v : Value) : Fk a b w (w1.setCell ⟨b, i, none⟩ v) := ⟨h.os, h.tape, h.output, by simp [h.size], fun k h1 h2 => (heap_setCell_other w1 ⟨b, i, none⟩ k v h2).trans (h.keep k h1 h2)⟩
theorem Fk.below {a b N : Nat} {w w' : World} (h : Fk a b w w') (ha : N ≤ a) (hb : N ≤ b) : Below N w w' := ⟨h.os, h.tape, h.output, Nat.le_of_eq h.size.symm, fun k hk => h.keep k (by omega) (by omega)⟩
theorem Cb.ne_box {w : World} {N B gu cu gl cl L : Nat} {s : List Int × List Int} (h : Cb w N B gu cu gl cl L s) : B ≠ gu ∧ B ≠ gl ∧ N ≤ gu ∧ N ≤ gl := by
  have h1 := row_ne h.bx (by decide) h.ru gu rfl
  have h2 := row_ne h.bx (by decide) h.rl gl rfl
  exact ⟨fun e => h1.1 e.symm, fun e => h2.1 e.symm, h1.2.2, h2.2.2⟩
theorem cb_cells {w : World} {B : Nat} {a b : Value} (h : w.heap[B]? = some (.cells (cbc a b) 90 (0, 0))) : w.cell? ⟨B, 0, none⟩ = some a ∧ w.cell? ⟨B, 1, none⟩ = some b ∧ B < w.heap.size := by
  refine ⟨?_, ?_, (Array.getElem?_eq_some_iff.1 h).1⟩ <;> (rw [cell_of_row w B _ _ _ _ h]; rfl)
theorem Cb.drew {w : World} {N B gu cu gl cl L : Nat} {s : List Int × List Int} (h : Cb w N B gu cu gl cl L s) : Cb w.drew N B gu cu gl cl L s := ⟨h.bx, h.ru, h.rl, h.ne⟩
theorem Cb.setU {w : World} {N B gu cu gl cl L : Nat} {s : List Int × List Int} (h : Cb w N B gu cu gl cl L s) {i : Nat} (hi : i < s.1.length) (x : Int) : Cb (w.setCell ⟨gu, i, none⟩ (.int .i64 x)) N B gu cu gl cl L (s.1.set i x, s.2) := by
  have q := h.ne_box
  exact ⟨(heap_setCell_other w ⟨gu, i, none⟩ B _ q.1).trans h.bx, h.ru.set hi x, h.rl.keep fun k hk => heap_setCell_other w ⟨gu, i, none⟩ k _ (by cases hk; exact fun e => h.ne e.symm), h.ne⟩
theorem Cb.setL {w : World} {N B gu cu gl cl L : Nat} {s : List Int × List Int} (h : Cb w N B gu cu gl cl L s) {i : Nat} (hi : i < s.2.length) (x : Int) : Cb (w.setCell ⟨gl, i, none⟩ (.int .i64 x)) N B gu cu gl cl L (s.1, s.2.set i x) := by
  have q := h.ne_box
  exact ⟨(heap_setCell_other w ⟨gl, i, none⟩ B _ q.2.1).trans h.bx, h.ru.keep fun k hk => heap_setCell_other w ⟨gl, i, none⟩ k _ (by cases hk; exact h.ne), h.rl.set hi x, h.ne⟩
theorem Ro.cells {w : World} {N g L c : Nat} {l : List Int} (h : Ro w N (.slice (some ⟨g, 0, none⟩) L c) l) {i : Nat} (hi : i < l.length) : w.cell? ⟨g, i, none⟩ = some (.int .i64 (l.getD i 0)) ∧ w.frozen? ⟨g, i, none⟩ = false := by
  obtain ⟨g', c', e, -, -, hc, hf, -⟩ := h.at_ (by omega)
  simp only [Value.slice.injEq, Option.some.injEq, Addr.mk.injEq] at e
  obtain ⟨⟨rfl, -⟩, -, -⟩ := e
  exact ⟨hc i hi, hf i⟩

set_option maxRecDepth 100000 in
set_option maxHeartbeats 1600000 in
theorem least_no {L : Nat} (hL : L ≤ 1048576) (lim : Int) (N B gu cu gl cl t : Nat) (s : List Int × List Int) (hI : LbI L s) (ht : t < L) (w : World) (hC : Cb w N B gu cu gl cl L s) (hno : ¬ lim < s.1.getD t 0) :
    Calls Tryd.prog 53 #[.pointer (some ⟨B, 0, none⟩), .int .i64 lim, .int .i64 (t : Int)] w fun e w' => e = .returned (.int .i64 (s.2.getD t 0)) ∧ w = w' := by
  obtain ⟨c0, c1, cl'⟩ := cb_cells hC.bx
  have k1 := (hC.ru.cells (i := t) (by rw [hI.up.len]; exact ht)).1
  have k2 := (hC.rl.cells (i := t) (by rw [hI.lo.len]; exact ht)).1
  obtain ⟨u, hu⟩ : ∃ u, u = s.1.getD t 0 := ⟨_, rfl⟩
  obtain ⟨z, hz⟩ : ∃ z, z = s.2.getD t 0 := ⟨_, rfl⟩
  rw [← hu] at k1 hno
  rw [← hz] at k2 ⊢
  have hti : (t : Int) < (L : Int) := by omega
  have hLi : (L : Int) ≤ 1048576 := by omega
  clear hu hz hI hC ht hL
  go_enter Tryd.func53, Tryd.ntmps53
  go_wp2_with fail
  go_ret
  exact ⟨rfl, rfl⟩

set_option maxRecDepth 100000 in
set_option maxHeartbeats 3200000 in
theorem least_any {L : Nat} (hL : L ≤ 1048576) (lim : Int) (hlim : 0 ≤ lim) (N B gu cu gl cl : Nat) : ∀ (f t : Nat) (s : List Int × List Int), LbI L s → t < L → t ≤ f → ∀ w : World, Cb w N B gu cu gl cl L s →
    Calls Tryd.prog 53 #[.pointer (some ⟨B, 0, none⟩), .int .i64 lim, .int .i64 (t : Int)] w fun e w' => e = .returned (.int .i64 ((lb lim f s t).2.getD t 0)) ∧ Cb w' N B gu cu gl cl L (lb lim f s t) ∧ Fk gu gl w w' := by
  intro f
  induction f with
  | zero =>
    intro t s hI ht hf w hC
    obtain rfl : t = 0 := by omega
    have hu := hI.up.row 0 ht
    rw [lb_no lim 0 s 0 (by omega)]
    refine (least_no hL lim N B gu cu gl cl 0 s hI ht w hC (by omega)).mono ?_
    rintro e w' ⟨rfl, rfl⟩
    exact ⟨rfl, hC, Fk.refl _ _ _⟩
  | succ f ih =>
    intro t s hI ht hf w hC
    by_cases hc : lim < s.1.getD t 0
    · obtain ⟨a, ha⟩ : ∃ a : Nat, s.1.getD t 0 = (a : Int) := ⟨(s.1.getD t 0).toNat, by omega⟩
      have hu := hI.up.row t ht
      have hat : a < t := by omega
      rw [lb_yes lim f s t a hc ha]
      obtain ⟨k1, k2⟩ := lb_inv lim (by omega) f s a hI (by omega)
      have kk := k2 t hat
      have hcall := ih a s hI (by omega) (by omega) w.drew hC.drew
      have hcall0 := ih a s hI (by omega) (by omega) w hC
      obtain ⟨c0, c1, cl'⟩ := cb_cells hC.bx
      have x1 := (hC.ru.cells (i := t) (by rw [hI.up.len]; exact ht)).1
      obtain ⟨x2, x2f⟩ := hC.rl.cells (i := t) (by rw [hI.lo.len]; exact ht)
      obtain ⟨q, hq⟩ : ∃ q, q = lb lim f s a := ⟨_, rfl⟩
      rw [← hq] at k1 kk hcall hcall0 ⊢
      obtain ⟨z, hz⟩ : ∃ z, z = s.2.getD t 0 := ⟨_, rfl⟩
      rw [← hz] at x2 kk
      obtain ⟨y, hy⟩ : ∃ y, y = q.2.getD a 0 := ⟨_, rfl⟩
      rw [← hy] at hcall hcall0 ⊢
      rw [ha] at x1 hc
      rw [kk]
      have hti : (t : Int) < (L : Int) := by omega
      have hLi : (L : Int) ≤ 1048576 := by omega
      have hai : (a : Int) < (t : Int) := by omega
      have hF : ∀ w1, Cb w1 N B gu cu gl cl L q → w1.cell? ⟨B, 1, none⟩ = some (.slice (some ⟨gl, 0, none⟩) L cl) ∧ w1.cell? ⟨gl, t, none⟩ = some (.int .i64 z) ∧ w1.frozen? ⟨gl, t, none⟩ = false := fun w1 h1 => by
        have h2 := h1.rl.cells (i := t) (by rw [k1.lo.len]; exact ht)
        rw [kk] at h2
        exact ⟨(cb_cells h1.bx).2.1, h2⟩
      have HC := hide hcall; have HK := hide k1; have HY := hide hy; have HC2 := hide hC; have HT := hide ht; have HF := hide hF; have HKk := hide kk
      clear hcall hcall0 k1 hy hz hq hC hI hu ha hat ih k2 ht hf hL hF kk
      go_enter Tryd.func53, Tryd.ntmps53
      go_wp2_with fail
      go_region_law
        (first
          | (go_simp; go_at_call 53; refine (unhide HC).mono ?_; rintro e w1 ⟨rfl, hC1, hF1⟩; obtain ⟨y1, y2, y3⟩ := unhide HF w1 hC1; have HC1 := hide hC1; have HF1 := hide hF1; clear hC1 hF1; go_wp2_with fail)
          | fail)
      all_goals
        have hW := (unhide HC1).setL (i := t) (by rw [(unhide HK).lo.len]; exact unhide HT) (min z y)
        have hFw := ((Fk.refl gu gl w).drew.trans (unhide HF1)).set2 t (.int .i64 (min z y))
        clear y1 y2 y3 c0 c1 cl' x1 x2 x2f
        generalize w1.setCell ⟨gl, t, none⟩ (.int .i64 (min z y)) = W2 at *
        obtain ⟨c0, c1, cl'⟩ := cb_cells hW.bx
        obtain ⟨x1, x1f⟩ := hW.ru.cells (i := a) (by simp only; rw [(unhide HK).up.len]; omega)
        obtain ⟨x2, x2f⟩ := hW.ru.cells (i := t) (by simp only; rw [(unhide HK).up.len]; exact unhide HT)
        have x3 := (hW.rl.cells (i := t) (by simp only; rw [List.length_set, (unhide HK).lo.len]; exact unhide HT)).1
        rw [getD_set _ _ _ _ (by rw [(unhide HK).lo.len]; exact unhide HT), if_pos rfl] at x3
        simp only at x1 x2
        obtain ⟨x, hx⟩ : ∃ x, x = q.1.getD a 0 := ⟨_, rfl⟩
        rw [← hx] at x1
        have hW3 := (hW.setU (i := t) (by simp only; rw [(unhide HK).up.len]; exact unhide HT) x).drew
        have hF3 := (hFw.set1 t (.int .i64 x)).drew
        have HX := hide hx; have HW3 := hide hW3; have HF3 := hide hF3
        have x3' : (W2.setCell ⟨gu, t, none⟩ (.int .i64 x)).drew.cell? ⟨gl, t, none⟩ = some (.int .i64 (min z y)) := by
          show (W2.setCell ⟨gu, t, none⟩ (.int .i64 x)).cell? ⟨gl, t, none⟩ = _
          rw [World.cell?_setCell_other _ _ _ _ (by intro e; injection e with e1; exact hW.ne e1)]; exact x3
        have c1' := (cb_cells hW3.bx).2.1
        clear hx hW3 hF3 hW hFw x3 x1f
        go_wp2_with fail
        go_region
        generalize (W2.setCell ⟨gu, t, none⟩ (.int .i64 x)).drew = W3 at *
        clear x1 x2 x2f c0 c1 cl'
        go_wp2_with fail
        go_ret
        refine ⟨ret_int ?_, ?_, unhide HF3⟩
        · rw [getD_set _ _ _ _ (by rw [(unhide HK).lo.len]; exact unhide HT), if_pos rfl]
        · have := unhide HW3; rw [unhide HX] at this; exact this
    · rw [lb_no lim _ s t hc]
      refine (least_no hL lim N B gu cu gl cl t s hI ht w hC hc).mono ?_
      rintro e w' ⟨rfl, rfl⟩
      exact ⟨rfl, hC, Fk.refl _ _ _⟩
end Fw
end Go.Proofs.YtpecnljcgiicaaaDoor
