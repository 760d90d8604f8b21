/- R1: what follows, part by part: each part tells what it holds. -/
import Derived.Test.YtpecnljcgiicaaaDoorFwL

/- flow: the end of a block, all but its end; where jumps lead. -/
namespace Go.Proofs.YtpecnljcgiicaaaDoor
open Go.RowKit
namespace Fw
set_option linter.unusedVariables false
set_option linter.unusedSimpArgs false
open Vc (NumsL Nums Lies LL Bls BlC InC Bl Co infoN own_base inV)

def dI : Vc.In := ⟨0, 0, [], 0, 0⟩
def endI (x : Bl) : Vc.In := x.ins.getD (x.ins.length - 1) dI
/-- an instruction where it lies -/
theorem ins_at {w : World} {g : Nat → Prop} {l : List Vc.In} {a : Option Addr} {n cp k : Nat} (h : LL InC 5 w g l (.slice a n cp)) (hk : k < l.length) : ∃ B o vs, a = some ⟨B, o, none⟩ ∧ g B ∧ B < w.heap.size ∧ w.cell? ⟨B, o + k * 5, none⟩ = some (.int .u8 ((l.getD k dI).op : Int)) ∧ w.cell? ⟨B, o + k * 5 + 1, none⟩ = some (.int .i64 (l.getD k dI).dst) ∧ w.cell? ⟨B, o + k * 5 + 2, none⟩ = some vs ∧ w.cell? ⟨B, o + k * 5 + 3, none⟩ = some (.int .i64 (l.getD k dI).n) ∧ w.cell? ⟨B, o + k * 5 + 4, none⟩ = some (.int .u32 (l.getD k dI).of) ∧ NumsL w g (l.getD k dI).src vs := by
  obtain ⟨a', cap, e, h2, h3, h4⟩ := h
  obtain ⟨B, o, rfl, hg, hlt, hp⟩ := h4 (by omega)
  obtain ⟨cs, hc, ⟨vs, rfl, hn⟩, hce⟩ := hp k _ (get?_getD l k dI hk)
  cases e
  exact ⟨B, o, vs, rfl, hg, hlt, hce 0 _ rfl, hce 1 _ rfl, hce 2 _ rfl, hce 3 _ rfl, hce 4 _ rfl, hn⟩

theorem iset5 (w : World) (b : Nat) (c0 c1 c2 c3 c4 : Value) (t : TypeId) (u0 u1 u2 u3 u4 : Value) (h : w.heap[b]? = some (.cells #[c0, c1, c2, c3, c4] t (0, 0))) :
    (((((w.setCell ⟨b, 0, none⟩ u0).setCell ⟨b, 1, none⟩ u1).setCell ⟨b, 2, none⟩ u2).setCell ⟨b, 3, none⟩ u3).setCell ⟨b, 4, none⟩ u4).heap[b]? = some (.cells #[u0, u1, u2, u3, u4] t (0, 0)) := set5 w b c0 c1 c2 c3 c4 t u0 u1 u2 u3 u4 h
set_option maxRecDepth 100000 in
set_option maxHeartbeats 1600000 in
theorem end_any (x : Bl) (hx : 0 < x.ins.length) (hl : x.ins.length ≤ 1099511627776) (g : Nat → Prop) (vi vn : Value) (w : World) (hi : LL InC 5 w g x.ins vi) (hn : ∃ a n c, vn = .slice a n c) :
    Calls Tryd.prog 39 #[.agg #[vi, vn, .int .i64 x.dep]] w fun e w' => ∃ vs, e = .returned (.agg #[.int .u8 ((endI x).op : Int), .int .i64 (endI x).dst, vs, .int .i64 (endI x).n, .int .u32 (endI x).of]) ∧ NumsL w g (endI x).src vs ∧ Below w.heap.size w w' := by
  obtain ⟨na, nn, nc, rfl⟩ := hn
  obtain ⟨ia, ic, rfl, -, -, -⟩ := id hi
  obtain ⟨p, hp⟩ : ∃ p, p = x.ins.length - 1 := ⟨_, rfl⟩
  obtain ⟨B, o, vs, rfl, hg, hlt, d0, d1, d2, d3, d4, hs⟩ := ins_at hi (k := p) (by omega)
  obtain ⟨sa, sc, rfl, -, -, -⟩ := id hs
  have he : endI x = x.ins.getD p dI := by unfold endI; rw [hp]
  rw [← he] at d0 d1 d2 d3 d4 hs
  clear he
  generalize endI x = ey at *
  obtain ⟨op, dst, src, nn2, of⟩ := ey
  simp only at d0 d1 d2 d3 d4 hs ⊢
  have hb2 : Below w.heap.size w ((w.alloc (.cells #[.slice (some ⟨B, o, none⟩) (p + 1) ic, .slice na nn nc, .int .i64 x.dep] 32)).alloc (.cells #[.int .u8 0, .int .i64 0, .slice none 0 0, .int .i64 0, .int .u32 0] 29)) := Vc.two_allocs w _ _
  obtain ⟨X, hX⟩ : ∃ X, X = (w.alloc (.cells #[.slice (some ⟨B, o, none⟩) (p + 1) ic, .slice na nn nc, .int .i64 x.dep] 32)).alloc (.cells #[.int .u8 0, .int .i64 0, .slice none 0 0, .int .i64 0, .int .u32 0] 29) := ⟨_, rfl⟩
  rw [← hX] at hb2
  have hz : X.heap.size = w.heap.size + 2 := by rw [hX]; simp
  have r0 : X.heap[w.heap.size]? = some (.cells #[.slice (some ⟨B, o, none⟩) (p + 1) ic, .slice na nn nc, .int .i64 x.dep] 32 (0, 0)) := by rw [hX, Below.heap_alloc _ _ _ (by simp)]; exact heap_alloc_new _ _
  have r1 : X.heap[w.heap.size + 1]? = some (.cells #[.int .u8 0, .int .i64 0, .slice none 0 0, .int .i64 0, .int .u32 0] 29 (0, 0)) := by
    have := heap_alloc_new (w.alloc (.cells #[.slice (some ⟨B, o, none⟩) (p + 1) ic, .slice na nn nc, .int .i64 x.dep] 32)) (.cells #[.int .u8 0, .int .i64 0, .slice none 0 0, .int .i64 0, .int .u32 0] 29)
    rw [show (w.alloc (.cells #[.slice (some ⟨B, o, none⟩) (p + 1) ic, .slice na nn nc, .int .i64 x.dep] 32)).heap.size = w.heap.size + 1 by simp, ← hX] at this; exact this
  have hlp : x.ins.length = p + 1 := by omega
  have q0 := fun (k : Nat) (v : Value) (h : w.cell? ⟨B, k, none⟩ = some v) => (hb2.cell (p := ⟨B, k, none⟩) hlt).trans h
  have e0 := q0 _ _ d0; have e1 := q0 _ _ d1; have e2 := q0 _ _ d2; have e3 := q0 _ _ d3; have e4 := q0 _ _ d4
  have z0 : X.cell? ⟨w.heap.size, 0, none⟩ = some (.slice (some ⟨B, o, none⟩) (p + 1) ic) := by rw [cell_of_row X _ 0 _ _ _ r0]; rfl
  have y0 : X.cell? ⟨w.heap.size + 1, 0, none⟩ = some (.int .u8 0) := by rw [cell_of_row X _ 0 _ _ _ r1]; rfl
  have y1 : X.cell? ⟨w.heap.size + 1, 1, none⟩ = some (.int .i64 0) := by rw [cell_of_row X _ 1 _ _ _ r1]; rfl
  have y2 : X.cell? ⟨w.heap.size + 1, 2, none⟩ = some (.slice none 0 0) := by rw [cell_of_row X _ 2 _ _ _ r1]; rfl
  have y3 : X.cell? ⟨w.heap.size + 1, 3, none⟩ = some (.int .i64 0) := by rw [cell_of_row X _ 3 _ _ _ r1]; rfl
  have y4 : X.cell? ⟨w.heap.size + 1, 4, none⟩ = some (.int .u32 0) := by rw [cell_of_row X _ 4 _ _ _ r1]; rfl
  have yf : ∀ j, X.frozen? ⟨w.heap.size + 1, j, none⟩ = false := fun j => frozen_of_row X _ j _ _ r1
  have hr := iset5 X (w.heap.size + 1) _ _ _ _ _ _ (.int .u8 (op : Int)) (.int .i64 dst) (.slice sa src.length sc) (.int .i64 nn2) (.int .u32 of) r1
  have hbf := bel5 (N := w.heap.size) (w.heap.size + 1) (by omega) hb2 (.int .u8 (op : Int)) (.int .i64 dst) (.slice sa src.length sc) (.int .i64 nn2) (.int .u32 of)
  have HR := hide hr; have HBf := hide hbf; have HS := hide hs
  have hpi : (p : Int) ≤ 1099511627776 := by omega
  rw [hlp]
  clear hb2 hz r0 r1 q0 d0 d1 d2 d3 d4 hr hbf hs hi hp hl hx hg hlp
  go_enter Tryd.func39, Tryd.ntmps39
  go_upto_region 1 with fail
  rw [show (w.alloc (.cells #[.slice (some ⟨B, o, none⟩) (p + 1) ic, .slice na nn nc, .int .i64 x.dep] 32)).alloc (.cells #[.int .u8 0, .int .i64 0, .slice none 0 0, .int .i64 0, .int .u32 0] 29) = X from hX.symm]
  clear hX
  go_wp2_with fail
  generalize ((((X.setCell ⟨w.heap.size + 1, 0, none⟩ (.int .u8 (op : Int))).setCell ⟨w.heap.size + 1, 1, none⟩ (.int .i64 dst)).setCell ⟨w.heap.size + 1, 2, none⟩ (.slice sa src.length sc)).setCell ⟨w.heap.size + 1, 3, none⟩ (.int .i64 nn2)).setCell ⟨w.heap.size + 1, 4, none⟩ (.int .u32 of) = W9 at *
  have c0 := cell_of_row W9 (w.heap.size + 1) 0 _ _ _ (unhide HR); have c1 := cell_of_row W9 (w.heap.size + 1) 1 _ _ _ (unhide HR); have c2 := cell_of_row W9 (w.heap.size + 1) 2 _ _ _ (unhide HR); have c3 := cell_of_row W9 (w.heap.size + 1) 3 _ _ _ (unhide HR); have c4 := cell_of_row W9 (w.heap.size + 1) 4 _ _ _ (unhide HR)
  simp only [List.getElem?_toArray, List.getElem?_cons_zero, List.getElem?_cons_succ] at c0 c1 c2 c3 c4
  exact bodyPost_ret (v := .agg #[.int .u8 (op : Int), .int .i64 dst, .slice sa src.length sc, .int .i64 nn2, .int .u32 of]) (by simp [results, Tryd.results39, go_sem, c0, c1, c2, c3, c4]) rfl ⟨_, rfl, unhide HS, unhide HBf⟩

set_option maxRecDepth 100000 in
set_option maxHeartbeats 1600000 in
theorem straight_any (x : Bl) (hx : 0 < x.ins.length) (hl : x.ins.length ≤ 1099511627776) (g : Nat → Prop) (vi vn : Value) (w : World) (hi : LL InC 5 w g x.ins vi) (hn : ∃ a n c, vn = .slice a n c) :
    Calls Tryd.prog 40 #[.agg #[vi, vn, .int .i64 x.dep]] w fun e w' => ∃ B o, e = .returned (.slice (some ⟨B, o, none⟩) (x.ins.length - 1) (x.ins.length - 1)) ∧ LL InC 5 w g (x.ins.take (x.ins.length - 1)) (.slice (some ⟨B, o, none⟩) (x.ins.length - 1) (x.ins.length - 1)) ∧ Below w.heap.size w w' := by
  obtain ⟨na, nn, nc, rfl⟩ := hn
  obtain ⟨ia, ic, e, hle, hnil, hp⟩ := hi
  subst e
  obtain ⟨p, hpp⟩ : ∃ p, x.ins.length = p + 1 := ⟨x.ins.length - 1, by omega⟩
  obtain ⟨B, o, rfl, hg, hlt, hc⟩ := hp hx
  have hfin : LL InC 5 w g (x.ins.take p) (.slice (some ⟨B, o, none⟩) p p) := by
    refine ⟨_, _, by rw [List.length_take]; congr 1; omega, by rw [List.length_take]; omega, (by intro h; cases h), fun h0 => ⟨B, o, rfl, hg, hlt, fun i y hy => hc i y ?_⟩⟩
    have hi := (List.getElem?_eq_some_iff.1 hy).1
    rw [List.length_take] at hi
    rw [List.getElem?_take_of_lt (by omega)] at hy
    exact hy
  have hic : p + 1 ≤ ic := by omega
  have HF := hide hfin
  have hb := Vc.one_alloc w (.cells #[.slice (some ⟨B, o, none⟩) (p + 1) ic, .slice na nn nc, .int .i64 x.dep] 32)
  have HB := hide hb
  have hpi : (p : Int) ≤ 1099511627776 := by omega
  have hpc : p ≤ ic := by omega
  rw [hpp, Nat.add_sub_cancel]
  clear hfin hb hp hc hnil hle hx hl hg hlt hpp
  go_enter Tryd.func40, Tryd.ntmps40
  go_wp2_with fail
  go_ret
  exact ⟨_, _, rfl, unhide HF, unhide HB⟩
end Fw
end Go.Proofs.YtpecnljcgiicaaaDoor

/- flow: where jumps lead that are blocks alone; what is taken. -/
namespace Go.Proofs.YtpecnljcgiicaaaDoor
open Go.RowKit
namespace Fw
set_option linter.unusedVariables false
set_option linter.unusedSimpArgs false
open Vc (NumsL Nums Lies LL Bls BlC InC Bl Co infoN own_base)

/-- code that may be gone over: of each block its end is there, and its ways as many as it tells -/
structure Cok (l : List Bl) : Prop where
  nok : Nok l
  one : 1 ≤ l.length
  ins : ∀ b ∈ l, 0 < b.ins.length ∧ b.ins.length ≤ 1099511627776
  jmp : ∀ b ∈ l, (endI b).op = 193 → b.next.length = 1
  brn : ∀ b ∈ l, (endI b).op = 194 → b.next.length = 2
def dB : Bl := ⟨[], [], 0⟩
def alone (x : Bl) : Bool := decide (x.ins.length = 1) && decide ((endI x).op = 193)
def bjF (l : List Bl) (fr : Nat) : Nat → Nat → Nat
  | 0, _ => fr
  | f + 1, t => if alone (l.getD t dB) = true then bjF l fr f ((l.getD t dB).next.getD 0 0).toNat else t
theorem bjF_yes (l : List Bl) (fr f t : Nat) (h : alone (l.getD t dB) = true) : bjF l fr (f + 1) t = bjF l fr f ((l.getD t dB).next.getD 0 0).toNat := if_pos h
theorem bjF_no (l : List Bl) (fr f t : Nat) (h : alone (l.getD t dB) = false) : bjF l fr (f + 1) t = t := by unfold bjF; rw [h]; rfl
theorem bj_lt {l : List Bl} (h : Cok l) {fr : Nat} (hf : fr < l.length) : ∀ f t, t < l.length → bjF l fr f t < l.length := by
  intro f
  induction f with
  | zero => intro t _; exact hf
  | succ f ih =>
    intro t ht
    cases ha : alone (l.getD t dB) with
    | false => rw [bjF_no _ _ _ _ ha]; exact ht
    | true =>
      rw [bjF_yes _ _ _ _ ha]
      have hm := getD_mem l t dB ht
      have h1 : (endI (l.getD t dB)).op = 193 := by unfold alone at ha; simp at ha; exact ha.2
      have h2 := h.jmp _ hm h1
      have h3 := h.nok.rng _ hm _ (getD_mem _ 0 0 (by omega))
      exact ih _ (by omega)

set_option maxRecDepth 100000 in
set_option maxHeartbeats 3200000 in
theorem behind_any (l : List Bl) (hc : Cok l) (fr : Nat) (hfr : fr < l.length) (vb : Value) (N : Nat) (w : World) (hB : Bls w (fun k => k < N) l vb) (hN : N ≤ w.heap.size) :
    Calls Tryd.prog 36 #[vb, .int .i64 (fr : Int)] w fun e w' => e = .returned (.int .i64 (bjF l fr l.length fr : Nat)) ∧ Below w.heap.size w w' := by
  obtain ⟨va, vc, rfl, -, -, -⟩ := id hB
  obtain ⟨n, hn⟩ : ∃ n, n = l.length := ⟨_, rfl⟩
  have hlen := hc.nok.len
  have hni : (n : Int) ≤ 1048576 := by omega
  obtain ⟨r, hr⟩ : ∃ r, r = bjF l fr n fr := ⟨_, rfl⟩
  rw [← hn] at hfr ⊢
  rw [← hr]
  have HB := hide hB; have HC := hide hc; have HN := hide hn; have HR := hide hr; have HFr := hide hfr; have HNw := hide hN
  clear hB hc hn hr hlen hfr hN
  go_enter Tryd.func36, Tryd.ntmps36
  go_wp2_with fail
  go_loopw [5, 10] (fun t c wr => ∃ (k a : Nat), k ≤ n ∧ a < n ∧ c = .int .i64 (k : Int) ∧ t = .int .i64 (a : Int) ∧ r = bjF l fr (n - k) a ∧ Below w.heap.size w wr) (fun _ c _ => n - (intOf c).toNat)
  case atStart => exact ⟨0, fr, Nat.zero_le _, unhide HFr, rfl, rfl, unhide HR, Below.refl _ _⟩
  case round =>
    obtain ⟨k, a, hk, ha, rfl, rfl, hr, hb⟩ := hrel
    by_cases hlt : k < n
    · obtain ⟨f, hf⟩ : ∃ f, n - k = f + 1 := ⟨n - k - 1, by omega⟩
      have hf2 : n - (k + 1) = f := by omega
      rw [hf] at hr
      have hal : a < l.length := by rw [← unhide HN]; exact ha
      obtain ⟨x, hx⟩ : ∃ x, x = l.getD a dB := ⟨_, rfl⟩
      have hxl : l[a]? = some x := by rw [hx]; exact get?_getD _ _ _ hal
      have hm := List.mem_of_getElem? hxl
      obtain ⟨hi0, hi1⟩ := (unhide HC).ins x hm
      have hBw := bls_on (unhide HB) (hb.mono (unhide HNw))
      obtain ⟨Bb, ob, vi, vn, hva, hBN, hBl, -, d0, d1, d2, hin, hnn⟩ := blk_next hBw hxl
      subst hva
      obtain ⟨ia, ic, rfl, -, -, -⟩ := id hin
      obtain ⟨na, nc, rfl, -, -, -⟩ := id hnn
      obtain ⟨L, hL⟩ : ∃ L, L = x.ins.length := ⟨_, rfl⟩
      obtain ⟨M, hM⟩ : ∃ M, M = x.next.length := ⟨_, rfl⟩
      have hb1 := Vc.one_alloc wr (.cells #[.slice ia x.ins.length ic, .slice na x.next.length nc, .int .i64 x.dep] 32)
      have hai : (a : Int) < (n : Int) := by omega
      have hLi : (L : Int) ≤ 1099511627776 := by omega
      rw [← hL] at d0 hb1
      rw [← hM] at d1 hb1
      have hbx := hb.trans (hb1.mono hb.size)
      have hcall : ∀ W, Below wr.heap.size wr W → Calls Tryd.prog 39 #[.agg #[.slice ia L ic, .slice na M nc, .int .i64 x.dep]] W fun e w' => ∃ vs, e = .returned (.agg #[.int .u8 ((endI x).op : Int), .int .i64 (endI x).dst, vs, .int .i64 (endI x).n, .int .u32 (endI x).of]) ∧ Below W.heap.size W w' := fun W hW => by
        rw [hL, hM]
        refine (end_any x hi0 hi1 _ _ _ W (Vc.Inss.below hW hin) ⟨_, _, _, rfl⟩).mono ?_
        rintro e w' ⟨vs, rfl, -, hb⟩
        exact ⟨vs, rfl, hb⟩
      obtain ⟨op, hop⟩ : ∃ op, op = (endI x).op := ⟨_, rfl⟩
      rw [← hop] at hcall
      have HCall := hide (hcall _ hb1); have HBx := hide hbx; have HR2 := hide hr; have HX := hide hx; have HNn := hide hnn; have HB1 := hide hb1; have HI0 := hide hi0; have HOp := hide hop; have HL := hide hL; have HM := hide hM; have HXl := hide hxl
      have HF2 := hide hf2; have HLt := hide hlt
      clear hcall hr hx hnn hin hb1 hbx hop hm hi0 hi1 hL hM hxl hBw hb hf hf2 hal
      by_cases hL1 : L = 1
      · subst hL1
        by_cases ho : op = 193
        · subst ho
          have hA : alone x = true := by unfold alone; rw [← unhide HL, ← unhide HOp]; rfl
          have hM1 : M = 1 := by rw [unhide HM]; exact (unhide HC).jmp x (List.mem_of_getElem? (unhide HXl)) (unhide HOp).symm
          subst hM1
          obtain ⟨t, hz, htl, -⟩ := (unhide HC).nok.at_ (unhide HXl) (k := 0) (by rw [← unhide HM]; omega)
          have hst := unhide HR2
          rw [bjF_yes l fr f a (by rw [← unhide HX]; exact hA), ← unhide HX, hz, Int.toNat_natCast] at hst
          have hpost : ∀ w6, Below (wr.alloc (.cells #[.slice ia 1 ic, .slice na 1 nc, .int .i64 x.dep] 32)).heap.size (wr.alloc (.cells #[.slice ia 1 ic, .slice na 1 nc, .int .i64 x.dep] 32)) w6 → w6.cell? ⟨Bb, ob + a * 3 + 1, none⟩ = some (.slice na 1 nc) ∧ (∃ Bn on, na = some ⟨Bn, on, none⟩ ∧ w6.cell? ⟨Bn, on, none⟩ = some (.int .i64 (t : Int))) ∧ Below w.heap.size w w6 := fun w6 h6 => by
            have h7 : Below wr.heap.size wr w6 := (unhide HB1).trans (h6.mono (unhide HB1).size)
            refine ⟨(h7.cell (p := ⟨Bb, ob + a * 3 + 1, none⟩) hBl).trans d1, ?_, (unhide HBx).trans (h6.mono (unhide HBx).size)⟩
            obtain ⟨Bn, on, e1, e2, e3⟩ := nums_at (Vc.NumsL.below h7 (unhide HNn)) (k := 0) (by rw [← unhide HM]; omega)
            have e4 := e3 0 (by rw [← unhide HM]; omega)
            rw [hz, Nat.add_zero] at e4
            exact ⟨Bn, on, e1, e4⟩
          obtain ⟨Bn, on, hna, -⟩ := (hpost _ (Below.refl _ _)).2.1
          subst hna
          have hpost2 : ∀ w6, Below (wr.alloc (.cells #[.slice ia 1 ic, .slice (some ⟨Bn, on, none⟩) 1 nc, .int .i64 x.dep] 32)).heap.size (wr.alloc (.cells #[.slice ia 1 ic, .slice (some ⟨Bn, on, none⟩) 1 nc, .int .i64 x.dep] 32)) w6 → w6.cell? ⟨Bb, ob + a * 3 + 1, none⟩ = some (.slice (some ⟨Bn, on, none⟩) 1 nc) ∧ w6.cell? ⟨Bn, on, none⟩ = some (.int .i64 (t : Int)) ∧ Below w.heap.size w w6 := fun w6 h6 => by
            obtain ⟨k1, ⟨B9, o9, k2, k3⟩, k4⟩ := hpost w6 h6
            cases k2
            exact ⟨k1, k3, k4⟩
          have HP := hide hpost2
          have HSt := hide hst; have HZ := hide hz; have HTl := hide htl
          clear hst hz htl hA hpost hpost2
          go_wp2_with (go_at_call 39; refine (unhide HCall).mono ?_; rintro e w6 ⟨vs, rfl, hb6⟩; obtain ⟨j1, j2, j3⟩ := unhide HP w6 hb6; have HJ := hide j3; clear hb6 j3)
          rename_i hK
          refine hK _ _ ?_
          go_simp
          go_wp2_with fail
          go_roundw
          case rel => exact ⟨k + 1, t, unhide HLt, by rw [unhide HN]; exact unhide HTl, by go_num, rfl, by rw [unhide HF2]; exact unhide HSt, unhide HJ⟩
          case measure => have := unhide HLt; simp [intOf]; omega
        · have hA : alone x = false := by unfold alone; rw [← unhide HOp]; simp [ho]
          have hst := unhide HR2
          rw [bjF_no l fr f a (by rw [← unhide HX]; exact hA)] at hst
          have hob : ((op : Int) != 193) = true := by simp; omega
          have HSt := hide hst
          clear hst hA ho
          go_wp2_with (go_at_call 39; refine (unhide HCall).mono ?_; rintro e w6 ⟨vs, rfl, hb6⟩; have HJ := hide ((unhide HBx).trans (hb6.mono (unhide HBx).size)); clear hb6)
          rename_i hK
          refine hK _ _ ?_
          go_simp
          go_wp2_with fail
          go_ret
          exact ⟨ret_int (by rw [unhide HSt]), unhide HJ⟩
      · have hA : alone x = false := by unfold alone; rw [← unhide HL]; simp [hL1]
        have hst := unhide HR2
        rw [bjF_no l fr f a (by rw [← unhide HX]; exact hA)] at hst
        have hLg : (1 : Int) < (L : Int) := by have := unhide HI0; have := unhide HL; omega
        have HSt := hide hst
        clear hst hA hL1
        go_wp2_with fail
        go_ret
        exact ⟨ret_int (by rw [unhide HSt]), unhide HBx⟩
    · obtain rfl : k = n := by omega
      have hst : r = fr := by rw [hr, Nat.sub_self]; rfl
      have HSt := hide hst; have HB9 := hide hb
      clear hst hr hb hlt hk
      go_wp2_with fail
      go_ret
      exact ⟨ret_int (by rw [unhide HSt]), unhide HB9⟩
end Fw
end Go.Proofs.YtpecnljcgiicaaaDoor

/- flow: blocks of the call's own; all Next told anew. -/
namespace Go.Proofs.YtpecnljcgiicaaaDoor
open Go.RowKit
namespace Fw
set_option linter.unusedVariables false
set_option linter.unusedSimpArgs false
open Vc (NumsL Nums Lies LL Bls BlC InC Bl Co infoN own_base RowT)

/-- blocks in a row of the call's own; their lists lie elsewhere -/
structure Bo (w : World) (N B : Nat) (A : Nat → Prop) (cap : Nat) (l : List Bl) : Prop where
  nb : N ≤ B
  bt : RowT w B 32
  cap : l.length ≤ cap
  it : ∀ (i : Nat) (x : Bl), l[i]? = some x → ∃ vi vn, w.cell? ⟨B, i * 3, none⟩ = some vi ∧ w.cell? ⟨B, i * 3 + 1, none⟩ = some vn ∧ w.cell? ⟨B, i * 3 + 2, none⟩ = some (.int .i64 x.dep) ∧ LL InC 5 w (fun k => k ≠ B ∧ ¬ A k) x.ins vi ∧ NumsL w (fun k => k ≠ B ∧ ¬ A k) x.next vn
/-- all that was there stays, but one block -/
structure Fo (B : Nat) (w w' : World) : Prop where
  os : w'.os = w.os
  tape : w'.tape = w.tape
  output : w'.output = w.output
  size : w.heap.size ≤ w'.heap.size
  keep : ∀ k, k < w.heap.size → k ≠ B → w'.heap[k]? = w.heap[k]?
theorem Fo.refl (B : Nat) (w : World) : Fo B w w := ⟨rfl, rfl, rfl, Nat.le_refl _, fun _ _ _ => rfl⟩
theorem Fo.trans {B : Nat} {w w1 w2 : World} (h : Fo B w w1) (k : Fo B w1 w2) : Fo B w w2 := ⟨k.os.trans h.os, k.tape.trans h.tape, k.output.trans h.output, Nat.le_trans h.size k.size, fun j h1 h2 => (k.keep j (Nat.lt_of_lt_of_le h1 h.size) h2).trans (h.keep j h1 h2)⟩
theorem Fo.of {B : Nat} {w w' : World} (h : Below w.heap.size w w') : Fo B w w' := ⟨h.os, h.tape, h.output, h.size, fun k hk _ => h.block k hk⟩
theorem Fo.set {B : Nat} {w w1 : World} (h : Fo B w w1) (i : Nat) (v : Value) : Fo B w (w1.setCell ⟨B, i, none⟩ v) := ⟨h.os, h.tape, h.output, by simpa using h.size, fun k h1 h2 => (heap_setCell_other w1 ⟨B, i, none⟩ k v h2).trans (h.keep k h1 h2)⟩
theorem Fo.setN {B g : Nat} {w w1 : World} (h : Fo B w w1) (hg : w.heap.size ≤ g) (i : Nat) (v : Value) : Fo B w (w1.setCell ⟨g, i, none⟩ v) := ⟨h.os, h.tape, h.output, by simpa using h.size, fun k h1 h2 => (heap_setCell_other w1 ⟨g, i, none⟩ k v (by show k ≠ g; omega)).trans (h.keep k h1 h2)⟩
theorem Fo.below {B N : Nat} {w w' : World} (h : Fo B w w') (hB : N ≤ B) (hN : N ≤ w.heap.size) : Below N w w' := ⟨h.os, h.tape, h.output, h.size, fun k hk => h.keep k (by omega) (by omega)⟩
theorem Bo.lt {w : World} {A : Nat → Prop} {N B cap : Nat} {l : List Bl} (h : Bo w N B A cap l) : B < w.heap.size := h.bt.lt
/-- where all that was there stays -/
theorem Bo.move {w w' : World} {A : Nat → Prop} {N B cap : Nat} {l : List Bl} (h : Bo w N B A cap l) (hk : ∀ k, k < w.heap.size → w'.heap[k]? = w.heap[k]?) (hs : w.heap.size ≤ w'.heap.size) : Bo w' N B A cap l := by
  have hB := hk B h.lt
  have c : ∀ o v, w.cell? ⟨B, o, none⟩ = some v → w'.cell? ⟨B, o, none⟩ = some v := fun o v e => (World.cell?_of_block (a := ⟨B, o, none⟩) hB).trans e
  refine ⟨h.nb, h.bt.move hB, h.cap, fun i x hx => ?_⟩
  obtain ⟨vi, vn, k0, k1, k2, k3, k4⟩ := h.it i x hx
  have hm : Vc.Mv w w' (fun k => k ≠ B ∧ ¬ A k) (fun k => k ≠ B ∧ ¬ A k) := fun k hlt hg => ⟨hg, hk k hlt⟩
  exact ⟨vi, vn, c _ _ k0, c _ _ k1, c _ _ k2, k3.moved hm hs (fun _ _ q => q.moved hm), k4.moved hm⟩
theorem Bo.below {w w' : World} {A : Nat → Prop} {N B cap : Nat} {l : List Bl} (h : Bo w N B A cap l) (hb : Below w.heap.size w w') : Bo w' N B A cap l := h.move (fun k hk => hb.block k hk) hb.size
/-- a block's Next told -/
theorem Bo.setNext {w : World} {A : Nat → Prop} {N B cap i : Nat} {l : List Bl} {x : Bl} (h : Bo w N B A cap l) (hx : l[i]? = some x) {z : List Int} {vn : Value} (hn : NumsL w (fun k => k ≠ B ∧ ¬ A k) z vn) : Bo (w.setCell ⟨B, i * 3 + 1, none⟩ vn) N B A cap (l.set i ⟨x.ins, z, x.dep⟩) := by
  have hm : Vc.Mv w (w.setCell ⟨B, i * 3 + 1, none⟩ vn) (fun k => k ≠ B ∧ ¬ A k) (fun k => k ≠ B ∧ ¬ A k) := fun k _ hg => ⟨hg, heap_setCell_other w ⟨B, i * 3 + 1, none⟩ k vn hg.1⟩
  have hs : w.heap.size ≤ (w.setCell ⟨B, i * 3 + 1, none⟩ vn).heap.size := by simp
  have o : ∀ o v, o ≠ i * 3 + 1 → w.cell? ⟨B, o, none⟩ = some v → (w.setCell ⟨B, i * 3 + 1, none⟩ vn).cell? ⟨B, o, none⟩ = some v := fun o v ho e => by
    rw [World.cell?_setCell_other _ _ _ _ (by intro e2; injection e2 with _ e3 _; omega)]; exact e
  refine ⟨h.nb, h.bt.set, by simpa using h.cap, fun j y hy => ?_⟩
  rw [List.getElem?_set] at hy
  by_cases e : i = j
  · subst e
    rw [if_pos rfl, if_pos (List.getElem?_eq_some_iff.1 hx).1] at hy
    cases hy
    obtain ⟨vi, vn0, k0, k1, k2, k3, k4⟩ := h.it i x hx
    exact ⟨vi, vn, o _ _ (by omega) k0, World.cell?_setCell_same w _ vn k1, o _ _ (by omega) k2, k3.moved hm hs (fun _ _ q => q.moved hm), hn.moved hm⟩
  · rw [if_neg e] at hy
    obtain ⟨vi, vn0, k0, k1, k2, k3, k4⟩ := h.it j y hy
    exact ⟨vi, vn0, o _ _ (by omega) k0, o _ _ (by omega) k1, o _ _ (by omega) k2, k3.moved hm hs (fun _ _ q => q.moved hm), k4.moved hm⟩
/-- something is written elsewhere -/
theorem Bo.setA {w : World} {A : Nat → Prop} {N B cap a i : Nat} {l : List Bl} (h : Bo w N B A cap l) (ha : A a) (hAB : a ≠ B) (v : Value) : Bo (w.setCell ⟨a, i, none⟩ v) N B A cap l := by
  have o : ∀ k, k ≠ a → (w.setCell ⟨a, i, none⟩ v).heap[k]? = w.heap[k]? := fun k hk => heap_setCell_other w ⟨a, i, none⟩ k v hk
  have hB := o B (fun e => hAB e.symm)
  have c : ∀ o v', w.cell? ⟨B, o, none⟩ = some v' → (w.setCell ⟨a, i, none⟩ v).cell? ⟨B, o, none⟩ = some v' := fun o v' e => (World.cell?_of_block (a := ⟨B, o, none⟩) hB).trans e
  refine ⟨h.nb, h.bt.move hB, h.cap, fun j x hx => ?_⟩
  obtain ⟨vi, vn, k0, k1, k2, k3, k4⟩ := h.it j x hx
  have hm : Vc.Mv w (w.setCell ⟨a, i, none⟩ v) (fun k => k ≠ B ∧ ¬ A k) (fun k => k ≠ B ∧ ¬ A k) := fun k _ hg => ⟨hg, o k fun e => hg.2 (e ▸ ha)⟩
  exact ⟨vi, vn, c _ _ k0, c _ _ k1, c _ _ k2, k3.moved hm (by simp) (fun _ _ q => q.moved hm), k4.moved hm⟩
theorem Bo.bls {w : World} {A : Nat → Prop} {N B cap n : Nat} {l : List Bl} (h : Bo w N B A cap l) (hn : n = l.length) (g : Nat → Prop) (hg : ∀ k, k < w.heap.size → g k) : Bls w g l (.slice (some ⟨B, 0, none⟩) n cap) := by
  subst hn
  refine ⟨_, _, rfl, h.cap, (by intro h; cases h), fun _ => ⟨B, 0, rfl, hg B h.lt, h.lt, fun i x hx => ?_⟩⟩
  obtain ⟨vi, vn, k0, k1, k2, k3, k4⟩ := h.it i x hx
  have hm : Vc.Mv w w (fun k => k ≠ B ∧ ¬ A k) g := fun k hlt _ => ⟨hg k hlt, rfl⟩
  refine ⟨[vi, vn, .int .i64 x.dep], rfl, ⟨vi, vn, rfl, k3.moved hm (Nat.le_refl _) (fun _ _ q => q.moved hm), k4.moved hm⟩, fun j u hu => ?_⟩
  rw [Nat.zero_add]
  match j, hu with
  | 0, hu => cases hu; exact k0
  | 1, hu => cases hu; exact k1
  | 2, hu => cases hu; exact k2
  | j + 3, hu => simp at hu
/-- a number told by a list -/
def tell (r : List Int) (z : Int) : Int := r.getD z.toNat 0
def tellB (r : List Int) (x : Bl) : Bl := ⟨x.ins, x.next.map (tell r), x.dep⟩
/-- the first ones are told -/
def half {α : Type} (f : α → α) (l : List α) (k : Nat) : List α := (l.take k).map f ++ l.drop k
theorem half_0 {α : Type} (f : α → α) (l : List α) : half f l 0 = l := by simp [half]
theorem half_all {α : Type} (f : α → α) (l : List α) : half f l l.length = l.map f := by simp [half]
theorem half_len {α : Type} (f : α → α) (l : List α) (k : Nat) : (half f l k).length = l.length := by simp only [half, List.length_append, List.length_map, List.length_take, List.length_drop]; omega
theorem half_at {α : Type} (f : α → α) (l : List α) (k : Nat) (h : k < l.length) : (half f l k)[k]? = l[k]? := by
  unfold half
  rw [List.getElem?_append_right (by simp; omega), List.length_map, List.length_take, List.getElem?_drop]
  congr 1; omega
theorem half_step {α : Type} (f : α → α) (l : List α) (k : Nat) {x : α} (h : l[k]? = some x) : (half f l k).set k (f x) = half f l (k + 1) := by
  have hk := (List.getElem?_eq_some_iff.1 h).1
  have hx := (List.getElem?_eq_some_iff.1 h).2
  unfold half
  rw [List.set_append_right _ _ (by simp; omega), List.take_succ_eq_append_getElem hk, List.map_append, hx]
  have e1 : k - ((l.take k).map f).length = 0 := by simp; omega
  rw [e1, List.drop_eq_getElem_cons hk, List.set_cons_zero, List.map_cons, List.map_nil, List.append_assoc]
  rfl

set_option maxRecDepth 100000 in
set_option maxHeartbeats 3200000 in
theorem tellNext_any (l : List Bl) (hl : l.length ≤ 1048576) (hnl : ∀ b ∈ l, b.next.length ≤ 1048576) (r : List Int) (hr : ∀ b ∈ l, ∀ z ∈ b.next, 0 ≤ z ∧ z < (r.length : Int)) (N B : Nat) (A : Nat → Prop) (cap : Nat) (vr : Value) (w : World) (h : Bo w N B A cap l) (hv : NumsL w (fun k => k < w.heap.size ∧ k ≠ B) r vr) (hrl : r.length ≤ 1048576) (hA : ∀ k, A k → k < w.heap.size) :
    Calls Tryd.prog 38 #[.slice (some ⟨B, 0, none⟩) l.length cap, vr] w fun e w' => e = .returned (.tuple #[]) ∧ Bo w' N B A cap (l.map (tellB r)) ∧ Fo B w w' := by
  obtain ⟨ra, rc, rfl, -, -, -⟩ := id hv
  obtain ⟨n, hn⟩ : ∃ n, n = l.length := ⟨_, rfl⟩
  obtain ⟨R, hR⟩ : ∃ R, R = r.length := ⟨_, rfl⟩
  have hni : (n : Int) ≤ 1048576 := by omega
  have hRi : (R : Int) ≤ 1048576 := by omega
  rw [← hn, ← hR]
  have HH := hide h; have HV := hide hv; have HNl := hide hnl; have HRr := hide hr; have HN := hide hn; have HR := hide hR
  clear h hv hnl hr hn hR hl hrl
  go_enter Tryd.func38, Tryd.ntmps38
  go_wp2_with fail
  go_loopw [10] (fun c wr => ∃ k : Nat, k ≤ n ∧ c = .int .i64 (k : Int) ∧ Bo wr N B A cap (half (tellB r) l k) ∧ Fo B w wr) (fun c _ => n - (intOf c).toNat)
  case atStart => exact ⟨0, Nat.zero_le _, rfl, by rw [half_0]; exact unhide HH, Fo.refl _ _⟩
  case round =>
    obtain ⟨k, hk, rfl, hBo, hFo⟩ := hrel
    by_cases hlt : k < n
    · obtain ⟨x, hx⟩ : ∃ x, l[k]? = some x := ⟨_, List.getElem?_eq_getElem (by rw [← unhide HN]; exact hlt)⟩
      have hm := List.mem_of_getElem? hx
      have hx2 : (half (tellB r) l k)[k]? = some x := by rw [half_at _ _ _ (by rw [← unhide HN]; exact hlt)]; exact hx
      obtain ⟨vi, vn, d0, d1, d2, hin, hnn⟩ := hBo.it k x hx2
      obtain ⟨na, nc, rfl, -, -, -⟩ := id hnn
      have hxl := unhide HNl x hm
      obtain ⟨m, hm2⟩ : ∃ m, m = x.next.length := ⟨_, rfl⟩
      have hcl := clone_ro x.next _ _ wr hnn (by omega)
      rw [← hm2] at d1 hcl hxl
      have hmi : (m : Int) ≤ 1048576 := by omega
      have hBlt := hBo.lt
      have HX := hide hx; have HX2 := hide hx2; have HBo := hide hBo; have HFo := hide hFo; have HCl := hide hcl; have HM := hide hm2; have HMm := hide hm; have HLt := hide hlt
      have hki : (k : Int) < (n : Int) := by omega
      clear hx hx2 hBo hFo hcl hm2 hm hxl hnn hin d0 d2 hlt hk
      go_upto_region 4 with (go_at_call 32; refine (unhide HCl).mono ?_; rintro e w1 ⟨v1, rfl, ho1, hb1⟩; obtain ⟨ga, gc, rfl, hgc⟩ := ho1.sl)
      rw [← unhide HM] at ho1 ⊢
      have hfo1 : Fo B wr w1 := Fo.of hb1
      have HO1 := hide ho1; have HB1 := hide hb1
      clear ho1 hb1 d1 hgc
      go_wp2_with fail
      go_loopw [21] (fun c wq => ∃ j : Nat, j ≤ m ∧ c = .int .i64 (j : Int) ∧ Ro wq wr.heap.size (.slice ga m gc) (half (tell r) x.next j) ∧ Below wr.heap.size wr wq) (fun c _ => m - (intOf c).toNat)
      case atStart => exact ⟨0, Nat.zero_le _, rfl, by rw [half_0]; exact unhide HO1, unhide HB1⟩
      case round =>
        generalize wr = wq at *
        obtain ⟨j, hj, rfl, hRj, hbj⟩ := hrel
        by_cases hjm : j < m
        · have hjx : j < x.next.length := by rw [← unhide HM]; exact hjm
          obtain ⟨z, hz⟩ : ∃ z, x.next[j]? = some z := ⟨_, List.getElem?_eq_getElem hjx⟩
          have hzr := unhide HRr x (unhide HMm) z (List.mem_of_getElem? hz)
          have hzj : (half (tell r) x.next j)[j]? = some z := by rw [half_at _ _ _ hjx]; exact hz
          have hjl : j < (half (tell r) x.next j).length := by rw [half_len]; exact hjx
          obtain ⟨g', cp', e, -, hgl, hrc, hrf, -⟩ := hRj.at_ (by omega)
          simp only [Value.slice.injEq] at e
          obtain ⟨rfl, -, rfl⟩ := e
          have x1 := hrc j hjl
          have x1f := hrf j
          rw [List.getD_eq_getElem?_getD, hzj, Option.getD_some] at x1
          obtain ⟨a, ha⟩ : ∃ a : Nat, z = (a : Int) := ⟨z.toNat, by omega⟩
          subst ha
          have hfw : Fo B w wq := (unhide HFo).trans (Fo.of hbj)
          obtain ⟨Br, or_, hra, -, hrr⟩ := nums_at ((unhide HV).moved (w' := wq) (g' := fun k => k ≠ B) fun k _ hk => ⟨hk.2, hfw.keep k hk.1 hk.2⟩) (k := a) (by omega)
          subst hra
          have x2 := hrr a (by omega)
          obtain ⟨y, hy⟩ : ∃ y, y = r.getD a 0 := ⟨_, rfl⟩
          rw [← hy] at x2
          have hset := half_step (tell r) x.next j hz
          rw [show tell r (a : Int) = y by unfold tell; rw [Int.toNat_natCast, hy]] at hset
          have hR9 := hRj.set hjl y
          rw [hset] at hR9
          have hB9 := hbj.setCell (p := ⟨g', j, none⟩) (hRj.lt g' rfl).1 (.int .i64 y)
          have haR : (a : Int) < (R : Int) := by rw [unhide HR]; omega
          have hji : (j : Int) < (m : Int) := by omega
          have HR9 := hide hR9; have HB9 := hide hB9
          clear hR9 hB9 hset hy hfw hRj hbj hrc hrf hzj hjl hz hzr hrr hjx hgl
          go_wp2_with fail
          go_roundw
          case rel => exact ⟨j + 1, by omega, by go_num, unhide HR9, unhide HB9⟩
          case measure => simp [intOf]; omega
        · obtain rfl : j = m := by omega
          rw [unhide HM, half_all] at hRj
          have hBo9 := (unhide HBo).below hbj
          have hns : NumsL wq (fun k => k ≠ B ∧ ¬ A k) (x.next.map (tell r)) (.slice ga j gc) := by
            have h5 := hRj.nums
            rw [← unhide HM] at h5
            exact h5.moved fun k _ hk => ⟨⟨by omega, fun hk2 => by have := hA k hk2; have := (unhide HFo).size; omega⟩, rfl⟩
          have hset := hBo9.setNext (unhide HX2) hns
          have hst := half_step (tellB r) l k (unhide HX)
          rw [show tellB r x = ⟨x.ins, x.next.map (tell r), x.dep⟩ from rfl] at hst
          rw [hst] at hset
          obtain ⟨vi, vn, d0, d1, d2, -, -⟩ := hBo9.it k x (unhide HX2)
          have d1f := hBo9.bt.frozen (k * 3 + 1)
          have hfin := ((unhide HFo).trans (Fo.of hbj)).set (k * 3 + 1) (.slice ga j gc)
          have HS := hide hset; have HF := hide hfin
          clear hset hst hfin hBo9 hns hRj hbj hjm hj d0 d2
          go_wp2_with fail
          go_roundw
          case rel => exact ⟨k + 1, unhide HLt, by go_num, unhide HS, unhide HF⟩
          case measure => have := unhide HLt; simp [intOf]; omega
    · obtain rfl : k = n := by omega
      rw [unhide HN, half_all] at hBo
      have HBo := hide hBo; have HFo := hide hFo
      clear hBo hFo hlt hk
      go_wp2_with fail
      exact bodyPost_end (v := .tuple #[]) (by simp [results, Tryd.results38, go_sem]) rfl ⟨rfl, unhide HBo, unhide HFo⟩
end Fw
end Go.Proofs.YtpecnljcgiicaaaDoor

/- flow: code without blocks that can't be reached. -/
namespace Go.Proofs.YtpecnljcgiicaaaDoor
open Go.RowKit
namespace Fw
set_option linter.unusedVariables false
set_option linter.unusedSimpArgs false
open Vc (NumsL Nums Lies LL Bls BlC InC Bl Co infoN infoBl own_base RowT)

def srt (l : List Int) : List Int := l.mergeSort fun x y => decide (x ≤ y)
def rch (l : List Bl) : List Int := srt (nz (walk (nxs l)).ent)
def anw (r : List Int) (n k : Nat) : List Int := (List.range k).foldl (fun a i => a.set (r.getD i 0).toNat (i : Int)) (List.replicate n 0)
def pick (l : List Bl) (r : List Int) : List Bl := r.map fun b => l.getD b.toNat dB
def trimB (l : List Bl) : List Bl := (pick l (rch l)).map (tellB (anw (rch l) l.length (rch l).length))
theorem anw_succ (r : List Int) (n k : Nat) : anw r n (k + 1) = (anw r n k).set (r.getD k 0).toNat (k : Int) := by unfold anw; rw [List.range_succ, List.foldl_append]; rfl
theorem anw_len (r : List Int) (n k : Nat) : (anw r n k).length = n := by
  induction k with
  | zero => simp [anw]
  | succ k ih => rw [anw_succ, List.length_set]; exact ih
/-- so many blocks are laid -/
def part (l : List Bl) (r : List Int) (k : Nat) : List Bl := (pick l (r.take k)) ++ List.replicate (r.length - k) dB
theorem part_len (l : List Bl) (r : List Int) (k : Nat) (h : k ≤ r.length) : (part l r k).length = r.length := by simp [part, pick]; omega
theorem part_all (l : List Bl) (r : List Int) : part l r r.length = pick l r := by simp [part]
theorem part_at (l : List Bl) (r : List Int) (k : Nat) (h : k < r.length) : (part l r k)[k]? = some dB := by
  unfold part
  rw [List.getElem?_append_right (by simp [pick]; omega), List.getElem?_replicate]
  simp [pick]; omega
theorem part_step (l : List Bl) (r : List Int) (k : Nat) (h : k < r.length) : (part l r k).set k (l.getD (r.getD k 0).toNat dB) = part l r (k + 1) := by
  unfold part
  have e1 : (pick l (r.take k)).length = k := by simp [pick]; omega
  rw [List.set_append_right _ _ (by omega), e1, Nat.sub_self, show r.length - k = (r.length - (k + 1)) + 1 by omega, List.replicate_succ, List.set_cons_zero, List.take_succ_eq_append_getElem h]
  rw [show pick l (r.take k ++ [r[k]]) = pick l (r.take k) ++ [l.getD (r.getD k 0).toNat dB] by unfold pick; rw [List.map_append, getD_get _ _ _ h]; rfl, List.append_assoc]
  rfl
theorem made3 (n i : Nat) (h : i < n) : (madeCells (Value.agg #[.slice none 0 0, .slice none 0 0, .int .i64 0]).cells (n * 3))[i * 3]? = some (.slice none 0 0) ∧ (madeCells (Value.agg #[.slice none 0 0, .slice none 0 0, .int .i64 0]).cells (n * 3))[i * 3 + 1]? = some (.slice none 0 0) ∧ (madeCells (Value.agg #[.slice none 0 0, .slice none 0 0, .int .i64 0]).cells (n * 3))[i * 3 + 2]? = some (.int .i64 0) := by
  have hc : (Value.agg #[.slice none 0 0, .slice none 0 0, .int .i64 0]).cells = #[.slice none 0 0, .slice none 0 0, .int .i64 0] := rfl
  rw [hc]
  unfold madeCells
  refine ⟨?_, ?_, ?_⟩ <;> rw [Array.getElem?_map, Array.getElem?_range, if_pos (by omega)] <;> simp [Nat.mul_mod_left, Nat.mul_add_mod_self_right, Nat.add_mod]
theorem Bo.made (w : World) (A : Nat → Prop) (l : List Bl) (r : List Int) (hr : r.length ≤ 1048576) : Bo (w.alloc (.cells (madeCells (Value.agg #[.slice none 0 0, .slice none 0 0, .int .i64 0]).cells (r.length * 3)) 32)) w.heap.size w.heap.size A r.length (part l r 0) := by
  have hb := heap_alloc_new w (.cells (madeCells (Value.agg #[.slice none 0 0, .slice none 0 0, .int .i64 0]).cells (r.length * 3)) 32)
  refine ⟨Nat.le_refl _, ⟨_, hb⟩, by rw [part_len _ _ _ (Nat.zero_le _)]; exact Nat.le_refl _, fun i x hx => ?_⟩
  have hi := (List.getElem?_eq_some_iff.1 hx).1
  rw [part_len _ _ _ (Nat.zero_le _)] at hi
  have hd : x = dB := by
    have : (part l r 0)[i]? = some dB := by unfold part pick; simp [hi]
    rw [this] at hx; exact (Option.some.inj hx).symm
  subst hd
  obtain ⟨m0, m1, m2⟩ := made3 r.length i hi
  refine ⟨_, _, by rw [cell_of_row _ _ _ _ _ _ hb]; exact m0, by rw [cell_of_row _ _ _ _ _ _ hb]; exact m1, by rw [cell_of_row _ _ _ _ _ _ hb]; exact m2, Vc.LL_nil _ _ _ _, ⟨none, 0, rfl, Nat.le_refl _, fun _ => rfl, fun h => by simp [dB] at h⟩⟩
/-- a block laid whole -/
theorem Bo.setAll {w : World} {A : Nat → Prop} {N B cap i : Nat} {l : List Bl} {x y : Bl} (h : Bo w N B A cap l) (hx : l[i]? = some x) {vi vn : Value} (hi : LL InC 5 w (fun k => k ≠ B ∧ ¬ A k) y.ins vi) (hn : NumsL w (fun k => k ≠ B ∧ ¬ A k) y.next vn) :
    Bo (((w.setCell ⟨B, i * 3, none⟩ vi).setCell ⟨B, i * 3 + 1, none⟩ vn).setCell ⟨B, i * 3 + 2, none⟩ (.int .i64 y.dep)) N B A cap (l.set i y) := by
  have ot : ∀ k, k ≠ B → (((w.setCell ⟨B, i * 3, none⟩ vi).setCell ⟨B, i * 3 + 1, none⟩ vn).setCell ⟨B, i * 3 + 2, none⟩ (.int .i64 y.dep)).heap[k]? = w.heap[k]? := fun k hk => by
    rw [heap_setCell_other _ _ _ _ (by exact hk), heap_setCell_other _ _ _ _ (by exact hk), heap_setCell_other _ _ _ _ (by exact hk)]
  have hm : Vc.Mv w (((w.setCell ⟨B, i * 3, none⟩ vi).setCell ⟨B, i * 3 + 1, none⟩ vn).setCell ⟨B, i * 3 + 2, none⟩ (.int .i64 y.dep)) (fun k => k ≠ B ∧ ¬ A k) (fun k => k ≠ B ∧ ¬ A k) := fun k _ hg => ⟨hg, ot k hg.1⟩
  have hs : w.heap.size ≤ (((w.setCell ⟨B, i * 3, none⟩ vi).setCell ⟨B, i * 3 + 1, none⟩ vn).setCell ⟨B, i * 3 + 2, none⟩ (.int .i64 y.dep)).heap.size := by simp
  have ne : ∀ a b : Nat, a ≠ b → (⟨B, a, none⟩ : Addr) ≠ ⟨B, b, none⟩ := fun a b hab e => by injection e with _ e3 _; exact hab e3
  have o : ∀ o v, o ≠ i * 3 → o ≠ i * 3 + 1 → o ≠ i * 3 + 2 → w.cell? ⟨B, o, none⟩ = some v → (((w.setCell ⟨B, i * 3, none⟩ vi).setCell ⟨B, i * 3 + 1, none⟩ vn).setCell ⟨B, i * 3 + 2, none⟩ (.int .i64 y.dep)).cell? ⟨B, o, none⟩ = some v := fun o v h0 h1 h2 e => by
    rw [World.cell?_setCell_other _ _ _ _ (ne _ _ (Ne.symm h2)), World.cell?_setCell_other _ _ _ _ (ne _ _ (Ne.symm h1)), World.cell?_setCell_other _ _ _ _ (ne _ _ (Ne.symm h0))]; exact e
  obtain ⟨vi0, vn0, k0, k1, k2, -, -⟩ := h.it i x hx
  refine ⟨h.nb, (h.bt.set.set).set, by simpa using h.cap, fun j z hz => ?_⟩
  rw [List.getElem?_set] at hz
  by_cases e : i = j
  · subst e
    rw [if_pos rfl, if_pos (List.getElem?_eq_some_iff.1 hx).1] at hz
    cases hz
    refine ⟨vi, vn, ?_, ?_, ?_, hi.moved hm hs (fun _ _ q => q.moved hm), hn.moved hm⟩
    · rw [World.cell?_setCell_other _ _ _ _ (ne _ _ (by omega)), World.cell?_setCell_other _ _ _ _ (ne _ _ (by omega))]; exact World.cell?_setCell_same w _ vi k0
    · rw [World.cell?_setCell_other _ _ _ _ (ne _ _ (by omega))]
      exact World.cell?_setCell_same _ _ vn ((World.cell?_setCell_other _ _ _ _ (ne _ _ (by omega))).trans k1)
    · exact World.cell?_setCell_same _ _ _ (((World.cell?_setCell_other _ _ _ _ (ne _ _ (by omega))).trans (World.cell?_setCell_other _ _ _ _ (ne _ _ (by omega)))).trans k2)
  · rw [if_neg e] at hz
    obtain ⟨vi1, vn1, j0, j1, j2, j3, j4⟩ := h.it j z hz
    exact ⟨vi1, vn1, o _ _ (by omega) (by omega) (by omega) j0, o _ _ (by omega) (by omega) (by omega) j1, o _ _ (by omega) (by omega) (by omega) j2, j3.moved hm hs (fun _ _ q => q.moved hm), j4.moved hm⟩
theorem Fk.three {a b : Nat} {w w1 : World} (h : Fk a b w w1) (i j k : Nat) (u v x : Value) : Fk a b w (((w1.setCell ⟨b, i, none⟩ u).setCell ⟨b, j, none⟩ v).setCell ⟨b, k, none⟩ x) := ((h.set2 i u).set2 j v).set2 k x
end Fw
end Go.Proofs.YtpecnljcgiicaaaDoor
