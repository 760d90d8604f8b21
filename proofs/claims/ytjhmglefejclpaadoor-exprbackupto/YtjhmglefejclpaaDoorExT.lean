/- expr.Same: its closure, slices.EqualFunc at it, and itself, by induction on the instructions. -/
import Derived.Test.YtjhmglefejclpaaDoorExS
namespace Go.Proofs.YtjhmglefejclpaaDoor
open Go.RowKit
namespace Ex
set_option linter.unusedVariables false

def SameP (a : List Ins) : Prop := ∀ (b : List Ins) (g g2 : Nat → Prop) (va vb : Value) (w : World), Code w g a va → Code w g2 b vb → a.length ≤ 1099511627776 → Sz 1099511627776 a → b.length ≤ 1099511627776 → Sz 1099511627776 b →
  Calls Tryd.prog 16 #[va, vb] w fun e w' => e = .returned (.bool (same a b)) ∧ Below w.heap.size w w'

theorem two_allocs (w : World) (o p : Obj) : Below w.heap.size w ((w.alloc o).alloc p) := ((Below.refl _ _).alloc (Nat.le_refl _) _).alloc (by simp) _
theorem two_boxes (w : World) (a b : Array Value) (t : TypeId) : Below w.heap.size w ((w.alloc (.cells a t)).alloc (.cells b t)) ∧ (∀ j : Nat, ((w.alloc (.cells a t)).alloc (.cells b t)).cell? ⟨w.heap.size, j, none⟩ = a[j]?) ∧
    (∀ j : Nat, ((w.alloc (.cells a t)).alloc (.cells b t)).cell? ⟨w.heap.size + 1, j, none⟩ = b[j]?) ∧ ((w.alloc (.cells a t)).alloc (.cells b t)).heap.size = w.heap.size + 2 :=
  ⟨two_allocs _ _ _, fun j => by simp, fun j => by simp, by simp⟩
theorem one_alloc (w : World) (o : Obj) : Below w.heap.size w (w.alloc o) := (Below.refl _ _).alloc (Nat.le_refl _) _

set_option maxRecDepth 100000 in
set_option maxHeartbeats 1600000 in
theorem same1 (x y : Ins) (hb : SameP x.body) (he : SameP x.els) {g g2 : Nat → Prop} {vb ve vl vb2 ve2 vl2 : Value} (w : World)
    (h1 : Code w g x.body vb) (h2 : Code w g x.els ve) (h3 : Lies g x.ls.length (Lab w x.ls) vl) (k1 : Code w g2 y.body vb2) (k2 : Code w g2 y.els ve2) (k3 : Lies g2 y.ls.length (Lab w y.ls) vl2)
    (sx : SzI 1099511627776 x) (sy : SzI 1099511627776 y) :
    Calls Tryd.prog 27 #[.agg #[.int .u8 x.op, .int .i64 x.n, .int .u32 x.al, .int .u32 x.of, .int .u8 x.re, vb, ve, vl], .agg #[.int .u8 y.op, .int .i64 y.n, .int .u32 y.al, .int .u32 y.of, .int .u8 y.re, vb2, ve2, vl2]] w fun e w' =>
      e = .returned (.bool (sameI x y)) ∧ Below w.heap.size w w' := by
  obtain ⟨op, n, al, of, re, bo, el, ls⟩ := x
  obtain ⟨op2, n2, al2, of2, re2, bo2, el2, ls2⟩ := y
  simp only at *
  have H1 := hide h1; have H2 := hide h2; have H3 := hide h3; have K1 := hide k1; have K2 := hide k2; have K3 := hide k3
  obtain ⟨ab, cb, rfl, _⟩ := h1
  obtain ⟨ae, ce, rfl, _⟩ := h2
  obtain ⟨al3, cl, rfl, _⟩ := h3
  obtain ⟨ab2, cb2, rfl, _⟩ := k1
  obtain ⟨ae2, ce2, rfl, _⟩ := k2
  obtain ⟨al4, cl2, rfl, _⟩ := k3
  have HB := hide hb; have HE := hide he; have SX := hide sx; have SY := hide sy
  clear hb he sx sy
  by_cases e0 : op = op2
  case neg =>
    have t : (op == op2) = false := by simpa using e0
    have hf : sameI ⟨op, n, al, of, re, bo, el, ls⟩ ⟨op2, n2, al2, of2, re2, bo2, el2, ls2⟩ = false := by simp [sameI, e0]
    have HF := hide hf
    clear hf e0 HB HE
    generalize ls.length = ll at *; generalize ls2.length = ll2 at *; generalize bo.length = lb at *; generalize bo2.length = lb2 at *; generalize el.length = le at *; generalize el2.length = le2 at *
    go_enter Tryd.func27, Tryd.ntmps27
    go_wp2
    go_ret
    exact ⟨ret_bool (unhide HF).symm, two_allocs _ _ _⟩
  subst e0
  by_cases e1 : n = n2
  case neg =>
    have t : (n == n2) = false := by simpa using e1
    have hf : sameI ⟨op, n, al, of, re, bo, el, ls⟩ ⟨op, n2, al2, of2, re2, bo2, el2, ls2⟩ = false := by simp [sameI, e1]
    have HF := hide hf
    clear hf e1 HB HE
    generalize ls.length = ll at *; generalize ls2.length = ll2 at *; generalize bo.length = lb at *; generalize bo2.length = lb2 at *; generalize el.length = le at *; generalize el2.length = le2 at *
    go_enter Tryd.func27, Tryd.ntmps27
    go_wp2
    go_ret
    exact ⟨ret_bool (unhide HF).symm, two_allocs _ _ _⟩
  subst e1
  by_cases e2 : al = al2
  case neg =>
    have t : (al == al2) = false := by simpa using e2
    have hf : sameI ⟨op, n, al, of, re, bo, el, ls⟩ ⟨op, n, al2, of2, re2, bo2, el2, ls2⟩ = false := by simp [sameI, e2]
    have HF := hide hf
    clear hf e2 HB HE
    generalize ls.length = ll at *; generalize ls2.length = ll2 at *; generalize bo.length = lb at *; generalize bo2.length = lb2 at *; generalize el.length = le at *; generalize el2.length = le2 at *
    go_enter Tryd.func27, Tryd.ntmps27
    go_wp2
    go_ret
    exact ⟨ret_bool (unhide HF).symm, two_allocs _ _ _⟩
  subst e2
  by_cases e3 : of = of2
  case neg =>
    have t : (of == of2) = false := by simpa using e3
    have hf : sameI ⟨op, n, al, of, re, bo, el, ls⟩ ⟨op, n, al, of2, re2, bo2, el2, ls2⟩ = false := by simp [sameI, e3]
    have HF := hide hf
    clear hf e3 HB HE
    generalize ls.length = ll at *; generalize ls2.length = ll2 at *; generalize bo.length = lb at *; generalize bo2.length = lb2 at *; generalize el.length = le at *; generalize el2.length = le2 at *
    go_enter Tryd.func27, Tryd.ntmps27
    go_wp2
    go_ret
    exact ⟨ret_bool (unhide HF).symm, two_allocs _ _ _⟩
  subst e3
  by_cases e4 : re = re2
  case neg =>
    have t : (re == re2) = false := by simpa using e4
    have hf : sameI ⟨op, n, al, of, re, bo, el, ls⟩ ⟨op, n, al, of, re2, bo2, el2, ls2⟩ = false := by simp [sameI, e4]
    have HF := hide hf
    clear hf e4 HB HE
    generalize ls.length = ll at *; generalize ls2.length = ll2 at *; generalize bo.length = lb at *; generalize bo2.length = lb2 at *; generalize el.length = le at *; generalize el2.length = le2 at *
    go_enter Tryd.func27, Tryd.ntmps27
    go_wp2
    go_ret
    exact ⟨ret_bool (unhide HF).symm, two_allocs _ _ _⟩
  subst e4
  have HS := hide (show sameI ⟨op, n, al, of, re, bo, el, ls⟩ ⟨op, n, al, of, re, bo2, el2, ls2⟩ = ((ls == ls2) && same bo bo2 && same el el2) by simp [sameI])
  go_enter Tryd.func27, Tryd.ntmps27
  go_wp2_with fail
  obtain ⟨hb0, f5, s5, hz⟩ := two_boxes w #[.int .u8 op, .int .i64 n, .int .u32 al, .int .u32 of, .int .u8 re, .slice ab bo.length cb, .slice ae el.length ce, .slice al3 ls.length cl] #[.int .u8 op, .int .i64 n, .int .u32 al, .int .u32 of, .int .u8 re, .slice ab2 bo2.length cb2, .slice ae2 el2.length ce2, .slice al4 ls2.length cl2] 50
  generalize (w.alloc (.cells #[.int .u8 op, .int .i64 n, .int .u32 al, .int .u32 of, .int .u8 re, .slice ab bo.length cb, .slice ae el.length ce, .slice al3 ls.length cl] 50)).alloc (.cells #[.int .u8 op, .int .i64 n, .int .u32 al, .int .u32 of, .int .u8 re, .slice ab2 bo2.length cb2, .slice ae2 el2.length ce2, .slice al4 ls2.length cl2] 50) = w2 at *
  have c5 : w2.cell? ⟨w.heap.size, 5, none⟩ = some (.slice ab bo.length cb) := f5 5
  have c6 : w2.cell? ⟨w.heap.size, 6, none⟩ = some (.slice ae el.length ce) := f5 6
  have d5 : w2.cell? ⟨w.heap.size + 1, 5, none⟩ = some (.slice ab2 bo2.length cb2) := s5 5
  have d6 : w2.cell? ⟨w.heap.size + 1, 6, none⟩ = some (.slice ae2 el2.length ce2) := s5 6
  clear f5 s5
  refine (equal_any (Labs.below (unhide H3) hb0) (Labs.below (unhide K3) hb0) (unhide SX).2.2.1 (unhide SY).2.2.1).mono ?_
  rintro e w3 ⟨rfl, hb3⟩
  have hbb := Below.on hb0 hb3
  have hz3 := hb3.size
  replace c5 := (hb3.cell (p := ⟨w.heap.size, 5, none⟩) (by simp only; omega)).trans c5
  replace c6 := (hb3.cell (p := ⟨w.heap.size, 6, none⟩) (by simp only; omega)).trans c6
  replace d5 := (hb3.cell (p := ⟨w.heap.size + 1, 5, none⟩) (by simp only; omega)).trans d5
  replace d6 := (hb3.cell (p := ⟨w.heap.size + 1, 6, none⟩) (by simp only; omega)).trans d6
  have HBB := hide hbb; have HZ := hide (show w.heap.size + 2 ≤ w3.heap.size by omega)
  clear hb3 hb0 hbb hz hz3
  cases hls : (ls == ls2) with
  | false =>
    have HF := hide (show sameI ⟨op, n, al, of, re, bo, el, ls⟩ ⟨op, n, al, of, re, bo2, el2, ls2⟩ = false by rw [unhide HS, hls]; rfl)
    clear hls
    go_wp2
    go_ret
    exact ⟨ret_bool (unhide HF).symm, unhide HBB⟩
  | true =>
    have HLs := hide hls; have C6 := hide (And.intro c6 d6)
    clear hls c6 d6
    go_wp2_with fail
    refine (unhide HB bo2 g g2 _ _ w3 (Code.below (unhide H1) (unhide HBB)) (Code.below (unhide K1) (unhide HBB)) (unhide SX).1 (unhide SX).2.2.2.1 (unhide SY).1 (unhide SY).2.2.2.1).mono ?_
    rintro e w4 ⟨rfl, hb4⟩
    have hbb4 := Below.on (unhide HBB) hb4
    have c6 := (hb4.cell (p := ⟨w.heap.size, 6, none⟩) (by have := unhide HZ; simp only; omega)).trans (unhide C6).1
    have d6 := (hb4.cell (p := ⟨w.heap.size + 1, 6, none⟩) (by have := unhide HZ; simp only; omega)).trans (unhide C6).2
    have HB4 := hide hbb4
    clear hb4 hbb4 c5 d5 C6 HBB HZ
    cases hbo : same bo bo2 with
    | false =>
      have HF := hide (show sameI ⟨op, n, al, of, re, bo, el, ls⟩ ⟨op, n, al, of, re, bo2, el2, ls2⟩ = false by rw [unhide HS, hbo]; simp)
      clear hbo
      go_wp2
      go_ret
      exact ⟨ret_bool (unhide HF).symm, unhide HB4⟩
    | true =>
      have HBo := hide hbo
      clear hbo
      go_wp2_with fail
      refine (unhide HE el2 g g2 _ _ w4 (Code.below (unhide H2) (unhide HB4)) (Code.below (unhide K2) (unhide HB4)) (unhide SX).2.1 (unhide SX).2.2.2.2 (unhide SY).2.1 (unhide SY).2.2.2.2).mono ?_
      rintro e w5 ⟨rfl, hb5⟩
      have HB5 := hide (Below.on (unhide HB4) hb5)
      have HF := hide (show sameI ⟨op, n, al, of, re, bo, el, ls⟩ ⟨op, n, al, of, re, bo2, el2, ls2⟩ = same el el2 by rw [unhide HS, unhide HLs, unhide HBo]; simp)
      clear hb5 c6 d6
      go_wp2
      go_ret
      exact ⟨ret_bool (unhide HF).symm, unhide HB5⟩
end Ex
end Go.Proofs.YtjhmglefejclpaaDoor
