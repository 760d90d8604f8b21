/- K8: what follows, part by part: each part tells what it holds. -/
import Derived.Test.YtglehoekehiaiaaGreatDoorK7
namespace Go.Proofs.YtglehoekehiaiaaGreatDoor
open Go.RowKit
set_option linter.unusedVariables false
set_option linter.unusedSimpArgs false
set_option maxRecDepth 100000
set_option maxHeartbeats 32000000
namespace Fw
open Vc (NumsL Nums Lies LL Bls BlC InC Bl Co infoN own_base inV)
/- flow: the end of a block, all but its end; where jumps lead. -/
def dI : Vc.In := ⟨0, 0, [], 0, 0⟩
def endI (x : Bl) : Vc.In := x.ins.getD (x.ins.length - 1) dI
/-- an instruction where it lies -/
theorem ins_at {w : World} {g : Nat → Prop} {l : List Vc.In} {a : Option Addr} {n cp k : Nat} (h : LL InC 5 w g l (.slice a n cp)) (hk : k < l.length) : ∃ B o vs, a = some ⟨B, o, none⟩ ∧ g B ∧ B < w.heap.size ∧ w.cell? ⟨B, o + k * 5, none⟩ = some (.int .u8 ((l.getD k dI).op : Int)) ∧ w.cell? ⟨B, o + k * 5 + 1, none⟩ = some (.int .i64 (l.getD k dI).dst) ∧ w.cell? ⟨B, o + k * 5 + 2, none⟩ = some vs ∧ w.cell? ⟨B, o + k * 5 + 3, none⟩ = some (.int .i64 (l.getD k dI).n) ∧ w.cell? ⟨B, o + k * 5 + 4, none⟩ = some (.int .u32 (l.getD k dI).of) ∧ NumsL w g (l.getD k dI).src vs := by
 obtain ⟨a', cap, e, h2, h3, h4⟩ := h
 obtain ⟨B, o, rfl, hg, hlt, hp⟩ := h4 (by omega)
 obtain ⟨cs, hc, ⟨vs, rfl, hn⟩, hce⟩ := hp k _ (get?_getD l k dI hk)
 cases e
 exact ⟨B, o, vs, rfl, hg, hlt, hce 0 _ rfl, hce 1 _ rfl, hce 2 _ rfl, hce 3 _ rfl, hce 4 _ rfl, hn⟩
theorem iset5 (w : World) (b : Nat) (c0 c1 c2 c3 c4 : Value) (t : TypeId) (u0 u1 u2 u3 u4 : Value) (h : w.heap[b]? = some (.cells #[c0, c1, c2, c3, c4] t (0, 0))) :
    (((((w.setCell ⟨b, 0, none⟩ u0).setCell ⟨b, 1, none⟩ u1).setCell ⟨b, 2, none⟩ u2).setCell ⟨b, 3, none⟩ u3).setCell ⟨b, 4, none⟩ u4).heap[b]? = some (.cells #[u0, u1, u2, u3, u4] t (0, 0)) := set5 w b c0 c1 c2 c3 c4 t u0 u1 u2 u3 u4 h
theorem end_any (x : Bl) (hx : 0 < x.ins.length) (hl : x.ins.length ≤ 1099511627776) (g : Nat → Prop) (vi vn : Value) (w : World) (hi : LL InC 5 w g x.ins vi) (hn : ∃ a n c, vn = .slice a n c) :
    Calls Tryz.prog 71 #[.agg #[vi, vn, .int .i64 x.dep]] w fun e w' => ∃ vs, e = .returned (.agg #[.int .u8 ((endI x).op : Int), .int .i64 (endI x).dst, vs, .int .i64 (endI x).n, .int .u32 (endI x).of]) ∧ NumsL w g (endI x).src vs ∧ Below w.heap.size w w' := by
 obtain ⟨na, nn, nc, rfl⟩ := hn
 obtain ⟨ia, ic, rfl, -, -, -⟩ := id hi
 obtain ⟨p, hp⟩ : ∃ p, p = x.ins.length - 1 := ⟨_, rfl⟩
 obtain ⟨B, o, vs, rfl, hg, hlt, d0, d1, d2, d3, d4, hs⟩ := ins_at hi (k := p) (by omega)
 obtain ⟨sa, sc, rfl, -, -, -⟩ := id hs
 have he : endI x = x.ins.getD p dI := by unfold endI; rw [hp]
 rw [← he] at d0 d1 d2 d3 d4 hs
 clear he
 generalize endI x = ey at *
 obtain ⟨op, dst, src, nn2, of⟩ := ey
 simp only at d0 d1 d2 d3 d4 hs ⊢
 have hb2 : Below w.heap.size w ((w.alloc (.cells #[.slice (some ⟨B, o, none⟩) (p + 1) ic, .slice na nn nc, .int .i64 x.dep] 56)).alloc (.cells #[.int .u8 0, .int .i64 0, .slice none 0 0, .int .i64 0, .int .u32 0] 53)) := Vc.two_allocs w _ _
 obtain ⟨X, hX⟩ : ∃ X, X = (w.alloc (.cells #[.slice (some ⟨B, o, none⟩) (p + 1) ic, .slice na nn nc, .int .i64 x.dep] 56)).alloc (.cells #[.int .u8 0, .int .i64 0, .slice none 0 0, .int .i64 0, .int .u32 0] 53) := ⟨_, rfl⟩
 rw [← hX] at hb2
 have hz : X.heap.size = w.heap.size + 2 := by rw [hX]; simp
 have r0 : X.heap[w.heap.size]? = some (.cells #[.slice (some ⟨B, o, none⟩) (p + 1) ic, .slice na nn nc, .int .i64 x.dep] 56 (0, 0)) := by rw [hX, Below.heap_alloc _ _ _ (by simp)]; exact heap_alloc_new _ _
 have r1 : X.heap[w.heap.size + 1]? = some (.cells #[.int .u8 0, .int .i64 0, .slice none 0 0, .int .i64 0, .int .u32 0] 53 (0, 0)) := by
  have := heap_alloc_new (w.alloc (.cells #[.slice (some ⟨B, o, none⟩) (p + 1) ic, .slice na nn nc, .int .i64 x.dep] 56)) (.cells #[.int .u8 0, .int .i64 0, .slice none 0 0, .int .i64 0, .int .u32 0] 53)
  rw [show (w.alloc (.cells #[.slice (some ⟨B, o, none⟩) (p + 1) ic, .slice na nn nc, .int .i64 x.dep] 56)).heap.size = w.heap.size + 1 by simp, ← hX] at this; exact this
 have hlp : x.ins.length = p + 1 := by omega
 have q0 := fun (k : Nat) (v : Value) (h : w.cell? ⟨B, k, none⟩ = some v) => (hb2.cell (p := ⟨B, k, none⟩) hlt).trans h
 have e0 := q0 _ _ d0; have e1 := q0 _ _ d1; have e2 := q0 _ _ d2; have e3 := q0 _ _ d3; have e4 := q0 _ _ d4
 have z0 : X.cell? ⟨w.heap.size, 0, none⟩ = some (.slice (some ⟨B, o, none⟩) (p + 1) ic) := by rw [cell_of_row X _ 0 _ _ _ r0]; rfl
 have y0 : X.cell? ⟨w.heap.size + 1, 0, none⟩ = some (.int .u8 0) := by rw [cell_of_row X _ 0 _ _ _ r1]; rfl
 have y1 : X.cell? ⟨w.heap.size + 1, 1, none⟩ = some (.int .i64 0) := by rw [cell_of_row X _ 1 _ _ _ r1]; rfl
 have y2 : X.cell? ⟨w.heap.size + 1, 2, none⟩ = some (.slice none 0 0) := by rw [cell_of_row X _ 2 _ _ _ r1]; rfl
 have y3 : X.cell? ⟨w.heap.size + 1, 3, none⟩ = some (.int .i64 0) := by rw [cell_of_row X _ 3 _ _ _ r1]; rfl
 have y4 : X.cell? ⟨w.heap.size + 1, 4, none⟩ = some (.int .u32 0) := by rw [cell_of_row X _ 4 _ _ _ r1]; rfl
 have yf : ∀ j, X.frozen? ⟨w.heap.size + 1, j, none⟩ = false := fun j => frozen_of_row X _ j _ _ r1
 have hr := iset5 X (w.heap.size + 1) _ _ _ _ _ _ (.int .u8 (op : Int)) (.int .i64 dst) (.slice sa src.length sc) (.int .i64 nn2) (.int .u32 of) r1
 have hbf := bel5 (N := w.heap.size) (w.heap.size + 1) (by omega) hb2 (.int .u8 (op : Int)) (.int .i64 dst) (.slice sa src.length sc) (.int .i64 nn2) (.int .u32 of)
 have HR := hide hr; have HBf := hide hbf; have HS := hide hs
 have hpi : (p : Int) ≤ 1099511627776 := by omega
 rw [hlp]
 clear hb2 hz r0 r1 q0 d0 d1 d2 d3 d4 hr hbf hs hi hp hl hx hg hlp
 go_enter Tryz.func71, Tryz.ntmps71
 go_upto_region 1 with fail
 rw [show (w.alloc (.cells #[.slice (some ⟨B, o, none⟩) (p + 1) ic, .slice na nn nc, .int .i64 x.dep] 56)).alloc (.cells #[.int .u8 0, .int .i64 0, .slice none 0 0, .int .i64 0, .int .u32 0] 53) = X from hX.symm]
 clear hX
 go_wp2_with fail
 generalize ((((X.setCell ⟨w.heap.size + 1, 0, none⟩ (.int .u8 (op : Int))).setCell ⟨w.heap.size + 1, 1, none⟩ (.int .i64 dst)).setCell ⟨w.heap.size + 1, 2, none⟩ (.slice sa src.length sc)).setCell ⟨w.heap.size + 1, 3, none⟩ (.int .i64 nn2)).setCell ⟨w.heap.size + 1, 4, none⟩ (.int .u32 of) = W9 at *
 have c0 := cell_of_row W9 (w.heap.size + 1) 0 _ _ _ (unhide HR); have c1 := cell_of_row W9 (w.heap.size + 1) 1 _ _ _ (unhide HR); have c2 := cell_of_row W9 (w.heap.size + 1) 2 _ _ _ (unhide HR); have c3 := cell_of_row W9 (w.heap.size + 1) 3 _ _ _ (unhide HR); have c4 := cell_of_row W9 (w.heap.size + 1) 4 _ _ _ (unhide HR)
 simp only [List.getElem?_toArray, List.getElem?_cons_zero, List.getElem?_cons_succ] at c0 c1 c2 c3 c4
 exact bodyPost_ret (v := .agg #[.int .u8 (op : Int), .int .i64 dst, .slice sa src.length sc, .int .i64 nn2, .int .u32 of]) (by simp [results, Tryz.results71, go_sem, c0, c1, c2, c3, c4]) rfl ⟨_, rfl, unhide HS, unhide HBf⟩
theorem straight_any (x : Bl) (hx : 0 < x.ins.length) (hl : x.ins.length ≤ 1099511627776) (g : Nat → Prop) (vi vn : Value) (w : World) (hi : LL InC 5 w g x.ins vi) (hn : ∃ a n c, vn = .slice a n c) :
    Calls Tryz.prog 72 #[.agg #[vi, vn, .int .i64 x.dep]] w fun e w' => ∃ B o, e = .returned (.slice (some ⟨B, o, none⟩) (x.ins.length - 1) (x.ins.length - 1)) ∧ LL InC 5 w g (x.ins.take (x.ins.length - 1)) (.slice (some ⟨B, o, none⟩) (x.ins.length - 1) (x.ins.length - 1)) ∧ Below w.heap.size w w' := by
 obtain ⟨na, nn, nc, rfl⟩ := hn
 obtain ⟨ia, ic, e, hle, hnil, hp⟩ := hi
 subst e
 obtain ⟨p, hpp⟩ : ∃ p, x.ins.length = p + 1 := ⟨x.ins.length - 1, by omega⟩
 obtain ⟨B, o, rfl, hg, hlt, hc⟩ := hp hx
 have hfin : LL InC 5 w g (x.ins.take p) (.slice (some ⟨B, o, none⟩) p p) := by
  refine ⟨_, _, by rw [List.length_take]; congr 1; omega, by rw [List.length_take]; omega, (by intro h; cases h), fun h0 => ⟨B, o, rfl, hg, hlt, fun i y hy => hc i y ?_⟩⟩
  have hi := (List.getElem?_eq_some_iff.1 hy).1
  rw [List.length_take] at hi
  rw [List.getElem?_take_of_lt (by omega)] at hy
  exact hy
 have hic : p + 1 ≤ ic := by omega
 have HF := hide hfin
 have hb := Vc.one_alloc w (.cells #[.slice (some ⟨B, o, none⟩) (p + 1) ic, .slice na nn nc, .int .i64 x.dep] 56)
 have HB := hide hb
 have hpi : (p : Int) ≤ 1099511627776 := by omega
 have hpc : p ≤ ic := by omega
 rw [hpp, Nat.add_sub_cancel]
 clear hfin hb hp hc hnil hle hx hl hg hlt hpp
 go_enter Tryz.func72, Tryz.ntmps72
 go_wp2_with fail
 go_ret
 exact ⟨_, _, rfl, unhide HF, unhide HB⟩
end Fw
namespace Fw
open Vc (NumsL Nums Lies LL Bls BlC InC Bl Co infoN own_base)
/- flow: where jumps lead that are blocks alone; what is taken. -/
/-- code that may be gone over: of each block its end is there, and its ways as many as it tells -/
structure Cok (l : List Bl) : Prop where
 nok : Nok l
 one : 1 ≤ l.length
 ins : ∀ b ∈ l, 0 < b.ins.length ∧ b.ins.length ≤ 1099511627776
 jmp : ∀ b ∈ l, (endI b).op = 193 → b.next.length = 1
 brn : ∀ b ∈ l, (endI b).op = 194 → b.next.length = 2
def dB : Bl := ⟨[], [], 0⟩
def alone (x : Bl) : Bool := decide (x.ins.length = 1) && decide ((endI x).op = 193)
def bjF (l : List Bl) (fr : Nat) : Nat → Nat → Nat
 | 0, _ => fr
 | f + 1, t => if alone (l.getD t dB) = true then bjF l fr f ((l.getD t dB).next.getD 0 0).toNat else t
theorem bjF_yes (l : List Bl) (fr f t : Nat) (h : alone (l.getD t dB) = true) : bjF l fr (f + 1) t = bjF l fr f ((l.getD t dB).next.getD 0 0).toNat := if_pos h
theorem bjF_no (l : List Bl) (fr f t : Nat) (h : alone (l.getD t dB) = false) : bjF l fr (f + 1) t = t := by unfold bjF; rw [h]; rfl
theorem bj_lt {l : List Bl} (h : Cok l) {fr : Nat} (hf : fr < l.length) : ∀ f t, t < l.length → bjF l fr f t < l.length := by
 intro f
 induction f with
 | zero => intro t _; exact hf
 | succ f ih =>
   intro t ht
   cases ha : alone (l.getD t dB) with
   | false => rw [bjF_no _ _ _ _ ha]; exact ht
   | true =>
     rw [bjF_yes _ _ _ _ ha]
     have hm := getD_mem l t dB ht
     have h1 : (endI (l.getD t dB)).op = 193 := by unfold alone at ha; simp at ha; exact ha.2
     have h2 := h.jmp _ hm h1
     have h3 := h.nok.rng _ hm _ (getD_mem _ 0 0 (by omega))
     exact ih _ (by omega)
theorem behind_any (l : List Bl) (hc : Cok l) (fr : Nat) (hfr : fr < l.length) (vb : Value) (N : Nat) (w : World) (hB : Bls w (fun k => k < N) l vb) (hN : N ≤ w.heap.size) :
    Calls Tryz.prog 69 #[vb, .int .i64 (fr : Int)] w fun e w' => e = .returned (.int .i64 (bjF l fr l.length fr : Nat)) ∧ Below w.heap.size w w' := by
 obtain ⟨va, vc, rfl, -, -, -⟩ := id hB
 obtain ⟨n, hn⟩ : ∃ n, n = l.length := ⟨_, rfl⟩
 have hlen := hc.nok.len
 have hni : (n : Int) ≤ 1048576 := by omega
 obtain ⟨r, hr⟩ : ∃ r, r = bjF l fr n fr := ⟨_, rfl⟩
 rw [← hn] at hfr ⊢
 rw [← hr]
 have HB := hide hB; have HC := hide hc; have HN := hide hn; have HR := hide hr; have HFr := hide hfr; have HNw := hide hN
 clear hB hc hn hr hlen hfr hN
 go_enter Tryz.func69, Tryz.ntmps69
 go_wp2_with fail
 go_loopw [5, 10] (fun t c wr => ∃ (k a : Nat), k ≤ n ∧ a < n ∧ c = .int .i64 (k : Int) ∧ t = .int .i64 (a : Int) ∧ r = bjF l fr (n - k) a ∧ Below w.heap.size w wr) (fun _ c _ => n - (intOf c).toNat)
 case atStart => exact ⟨0, fr, Nat.zero_le _, unhide HFr, rfl, rfl, unhide HR, Below.refl _ _⟩
 case round =>
  obtain ⟨k, a, hk, ha, rfl, rfl, hr, hb⟩ := hrel
  by_cases hlt : k < n
  ·obtain ⟨f, hf⟩ : ∃ f, n - k = f + 1 := ⟨n - k - 1, by omega⟩
   have hf2 : n - (k + 1) = f := by omega
   rw [hf] at hr
   have hal : a < l.length := by rw [← unhide HN]; exact ha
   obtain ⟨x, hx⟩ : ∃ x, x = l.getD a dB := ⟨_, rfl⟩
   have hxl : l[a]? = some x := by rw [hx]; exact get?_getD _ _ _ hal
   have hm := List.mem_of_getElem? hxl
   obtain ⟨hi0, hi1⟩ := (unhide HC).ins x hm
   have hBw := bls_on (unhide HB) (hb.mono (unhide HNw))
   obtain ⟨Bb, ob, vi, vn, hva, hBN, hBl, -, d0, d1, d2, hin, hnn⟩ := blk_next hBw hxl
   subst hva
   obtain ⟨ia, ic, rfl, -, -, -⟩ := id hin
   obtain ⟨na, nc, rfl, -, -, -⟩ := id hnn
   obtain ⟨L, hL⟩ : ∃ L, L = x.ins.length := ⟨_, rfl⟩
   obtain ⟨M, hM⟩ : ∃ M, M = x.next.length := ⟨_, rfl⟩
   have hb1 := Vc.one_alloc wr (.cells #[.slice ia x.ins.length ic, .slice na x.next.length nc, .int .i64 x.dep] 56)
   have hai : (a : Int) < (n : Int) := by omega
   have hLi : (L : Int) ≤ 1099511627776 := by omega
   rw [← hL] at d0 hb1
   rw [← hM] at d1 hb1
   have hbx := hb.trans (hb1.mono hb.size)
   have hcall : ∀ W, Below wr.heap.size wr W → Calls Tryz.prog 71 #[.agg #[.slice ia L ic, .slice na M nc, .int .i64 x.dep]] W fun e w' => ∃ vs, e = .returned (.agg #[.int .u8 ((endI x).op : Int), .int .i64 (endI x).dst, vs, .int .i64 (endI x).n, .int .u32 (endI x).of]) ∧ Below W.heap.size W w' := fun W hW => by
    rw [hL, hM]
    refine (end_any x hi0 hi1 _ _ _ W (Vc.Inss.below hW hin) ⟨_, _, _, rfl⟩).mono ?_
    rintro e w' ⟨vs, rfl, -, hb⟩
    exact ⟨vs, rfl, hb⟩
   obtain ⟨op, hop⟩ : ∃ op, op = (endI x).op := ⟨_, rfl⟩
   rw [← hop] at hcall
   have HCall := hide (hcall _ hb1); have HBx := hide hbx; have HR2 := hide hr; have HX := hide hx; have HNn := hide hnn; have HB1 := hide hb1; have HI0 := hide hi0; have HOp := hide hop; have HL := hide hL; have HM := hide hM; have HXl := hide hxl
   have HF2 := hide hf2; have HLt := hide hlt
   clear hcall hr hx hnn hin hb1 hbx hop hm hi0 hi1 hL hM hxl hBw hb hf hf2 hal
   by_cases hL1 : L = 1
   ·subst hL1
    by_cases ho : op = 193
    ·subst ho
     have hA : alone x = true := by unfold alone; rw [← unhide HL, ← unhide HOp]; rfl
     have hM1 : M = 1 := by rw [unhide HM]; exact (unhide HC).jmp x (List.mem_of_getElem? (unhide HXl)) (unhide HOp).symm
     subst hM1
     obtain ⟨t, hz, htl, -⟩ := (unhide HC).nok.at_ (unhide HXl) (k := 0) (by rw [← unhide HM]; omega)
     have hst := unhide HR2
     rw [bjF_yes l fr f a (by rw [← unhide HX]; exact hA), ← unhide HX, hz, Int.toNat_natCast] at hst
     have hpost : ∀ w6, Below (wr.alloc (.cells #[.slice ia 1 ic, .slice na 1 nc, .int .i64 x.dep] 56)).heap.size (wr.alloc (.cells #[.slice ia 1 ic, .slice na 1 nc, .int .i64 x.dep] 56)) w6 → w6.cell? ⟨Bb, ob + a * 3 + 1, none⟩ = some (.slice na 1 nc) ∧ (∃ Bn on, na = some ⟨Bn, on, none⟩ ∧ w6.cell? ⟨Bn, on, none⟩ = some (.int .i64 (t : Int))) ∧ Below w.heap.size w w6 := fun w6 h6 => by
      have h7 : Below wr.heap.size wr w6 := (unhide HB1).trans (h6.mono (unhide HB1).size)
      refine ⟨(h7.cell (p := ⟨Bb, ob + a * 3 + 1, none⟩) hBl).trans d1, ?_, (unhide HBx).trans (h6.mono (unhide HBx).size)⟩
      obtain ⟨Bn, on, e1, e2, e3⟩ := nums_at (Vc.NumsL.below h7 (unhide HNn)) (k := 0) (by rw [← unhide HM]; omega)
      have e4 := e3 0 (by rw [← unhide HM]; omega)
      rw [hz, Nat.add_zero] at e4
      exact ⟨Bn, on, e1, e4⟩
     obtain ⟨Bn, on, hna, -⟩ := (hpost _ (Below.refl _ _)).2.1
     subst hna
     have hpost2 : ∀ w6, Below (wr.alloc (.cells #[.slice ia 1 ic, .slice (some ⟨Bn, on, none⟩) 1 nc, .int .i64 x.dep] 56)).heap.size (wr.alloc (.cells #[.slice ia 1 ic, .slice (some ⟨Bn, on, none⟩) 1 nc, .int .i64 x.dep] 56)) w6 → w6.cell? ⟨Bb, ob + a * 3 + 1, none⟩ = some (.slice (some ⟨Bn, on, none⟩) 1 nc) ∧ w6.cell? ⟨Bn, on, none⟩ = some (.int .i64 (t : Int)) ∧ Below w.heap.size w w6 := fun w6 h6 => by
      obtain ⟨k1, ⟨B9, o9, k2, k3⟩, k4⟩ := hpost w6 h6
      cases k2
      exact ⟨k1, k3, k4⟩
     have HP := hide hpost2
     have HSt := hide hst; have HZ := hide hz; have HTl := hide htl
     clear hst hz htl hA hpost hpost2
     go_wp2_with (go_at_call 71; refine (unhide HCall).mono ?_; rintro e w6 ⟨vs, rfl, hb6⟩; obtain ⟨j1, j2, j3⟩ := unhide HP w6 hb6; have HJ := hide j3; clear hb6 j3)
     rename_i hK
     refine hK _ _ ?_
     go_simp
     go_wp2_with fail
     go_roundw
     case rel => exact ⟨k + 1, t, unhide HLt, by rw [unhide HN]; exact unhide HTl, by go_num, rfl, by rw [unhide HF2]; exact unhide HSt, unhide HJ⟩
     case measure => have := unhide HLt; simp [intOf]; omega
    ·have hA : alone x = false := by unfold alone; rw [← unhide HOp]; simp [ho]
     have hst := unhide HR2
     rw [bjF_no l fr f a (by rw [← unhide HX]; exact hA)] at hst
     have hob : ((op : Int) != 193) = true := by simp; omega
     have HSt := hide hst
     clear hst hA ho
     go_wp2_with (go_at_call 71; refine (unhide HCall).mono ?_; rintro e w6 ⟨vs, rfl, hb6⟩; have HJ := hide ((unhide HBx).trans (hb6.mono (unhide HBx).size)); clear hb6)
     rename_i hK
     refine hK _ _ ?_
     go_simp
     go_wp2_with fail
     go_ret
     exact ⟨ret_int (by rw [unhide HSt]), unhide HJ⟩
   ·have hA : alone x = false := by unfold alone; rw [← unhide HL]; simp [hL1]
    have hst := unhide HR2
    rw [bjF_no l fr f a (by rw [← unhide HX]; exact hA)] at hst
    have hLg : (1 : Int) < (L : Int) := by have := unhide HI0; have := unhide HL; omega
    have HSt := hide hst
    clear hst hA hL1
    go_wp2_with fail
    go_ret
    exact ⟨ret_int (by rw [unhide HSt]), unhide HBx⟩
  ·obtain rfl : k = n := by omega
   have hst : r = fr := by rw [hr, Nat.sub_self]; rfl
   have HSt := hide hst; have HB9 := hide hb
   clear hst hr hb hlt hk
   go_wp2_with fail
   go_ret
   exact ⟨ret_int (by rw [unhide HSt]), unhide HB9⟩
end Fw
namespace Fw
open Vc (NumsL Nums Lies LL Bls BlC InC Bl Co infoN own_base RowT)
/- flow: blocks of the call's own; all Next told anew. -/
/-- blocks in a row of the call's own; their lists lie elsewhere -/
structure Bo (w : World) (N B : Nat) (A : Nat → Prop) (cap : Nat) (l : List Bl) : Prop where
 nb : N ≤ B
 bt : RowT w B 56
 cap : l.length ≤ cap
 it : ∀ (i : Nat) (x : Bl), l[i]? = some x → ∃ vi vn, w.cell? ⟨B, i * 3, none⟩ = some vi ∧ w.cell? ⟨B, i * 3 + 1, none⟩ = some vn ∧ w.cell? ⟨B, i * 3 + 2, none⟩ = some (.int .i64 x.dep) ∧ LL InC 5 w (fun k => k ≠ B ∧ ¬ A k) x.ins vi ∧ NumsL w (fun k => k ≠ B ∧ ¬ A k) x.next vn
/-- all that was there stays, but one block -/
structure Fo (B : Nat) (w w' : World) : Prop where
 os : w'.os = w.os
 tape : w'.tape = w.tape
 output : w'.output = w.output
 size : w.heap.size ≤ w'.heap.size
 keep : ∀ k, k < w.heap.size → k ≠ B → w'.heap[k]? = w.heap[k]?
theorem Fo.refl (B : Nat) (w : World) : Fo B w w := ⟨rfl, rfl, rfl, Nat.le_refl _, fun _ _ _ => rfl⟩
theorem Fo.trans {B : Nat} {w w1 w2 : World} (h : Fo B w w1) (k : Fo B w1 w2) : Fo B w w2 := ⟨k.os.trans h.os, k.tape.trans h.tape, k.output.trans h.output, Nat.le_trans h.size k.size, fun j h1 h2 => (k.keep j (Nat.lt_of_lt_of_le h1 h.size) h2).trans (h.keep j h1 h2)⟩
theorem Fo.of {B : Nat} {w w' : World} (h : Below w.heap.size w w') : Fo B w w' := ⟨h.os, h.tape, h.output, h.size, fun k hk _ => h.block k hk⟩
theorem Fo.set {B : Nat} {w w1 : World} (h : Fo B w w1) (i : Nat) (v : Value) : Fo B w (w1.setCell ⟨B, i, none⟩ v) := ⟨h.os, h.tape, h.output, by simpa using h.size, fun k h1 h2 => (heap_setCell_other w1 ⟨B, i, none⟩ k v h2).trans (h.keep k h1 h2)⟩
theorem Fo.below {B N : Nat} {w w' : World} (h : Fo B w w') (hB : N ≤ B) (hN : N ≤ w.heap.size) : Below N w w' := ⟨h.os, h.tape, h.output, h.size, fun k hk => h.keep k (by omega) (by omega)⟩
theorem Bo.lt {w : World} {A : Nat → Prop} {N B cap : Nat} {l : List Bl} (h : Bo w N B A cap l) : B < w.heap.size := h.bt.lt
/-- where all that was there stays -/
theorem Bo.move {w w' : World} {A : Nat → Prop} {N B cap : Nat} {l : List Bl} (h : Bo w N B A cap l) (hk : ∀ k, k < w.heap.size → w'.heap[k]? = w.heap[k]?) (hs : w.heap.size ≤ w'.heap.size) : Bo w' N B A cap l := by
 have hB := hk B h.lt
 have c : ∀ o v, w.cell? ⟨B, o, none⟩ = some v → w'.cell? ⟨B, o, none⟩ = some v := fun o v e => (World.cell?_of_block (a := ⟨B, o, none⟩) hB).trans e
 refine ⟨h.nb, h.bt.move hB, h.cap, fun i x hx => ?_⟩
 obtain ⟨vi, vn, k0, k1, k2, k3, k4⟩ := h.it i x hx
 have hm : Vc.Mv w w' (fun k => k ≠ B ∧ ¬ A k) (fun k => k ≠ B ∧ ¬ A k) := fun k hlt hg => ⟨hg, hk k hlt⟩
 exact ⟨vi, vn, c _ _ k0, c _ _ k1, c _ _ k2, k3.moved hm hs (fun _ _ q => q.moved hm), k4.moved hm⟩
theorem Bo.below {w w' : World} {A : Nat → Prop} {N B cap : Nat} {l : List Bl} (h : Bo w N B A cap l) (hb : Below w.heap.size w w') : Bo w' N B A cap l := h.move (fun k hk => hb.block k hk) hb.size
/-- a block's Next told -/
theorem Bo.setNext {w : World} {A : Nat → Prop} {N B cap i : Nat} {l : List Bl} {x : Bl} (h : Bo w N B A cap l) (hx : l[i]? = some x) {z : List Int} {vn : Value} (hn : NumsL w (fun k => k ≠ B ∧ ¬ A k) z vn) : Bo (w.setCell ⟨B, i * 3 + 1, none⟩ vn) N B A cap (l.set i ⟨x.ins, z, x.dep⟩) := by
 have hm : Vc.Mv w (w.setCell ⟨B, i * 3 + 1, none⟩ vn) (fun k => k ≠ B ∧ ¬ A k) (fun k => k ≠ B ∧ ¬ A k) := fun k _ hg => ⟨hg, heap_setCell_other w ⟨B, i * 3 + 1, none⟩ k vn hg.1⟩
 have hs : w.heap.size ≤ (w.setCell ⟨B, i * 3 + 1, none⟩ vn).heap.size := by simp
 have o : ∀ o v, o ≠ i * 3 + 1 → w.cell? ⟨B, o, none⟩ = some v → (w.setCell ⟨B, i * 3 + 1, none⟩ vn).cell? ⟨B, o, none⟩ = some v := fun o v ho e => by
  rw [World.cell?_setCell_other _ _ _ _ (by intro e2; injection e2 with _ e3 _; omega)]; exact e
 refine ⟨h.nb, h.bt.set, by simpa using h.cap, fun j y hy => ?_⟩
 rw [List.getElem?_set] at hy
 by_cases e : i = j
 ·subst e
  rw [if_pos rfl, if_pos (List.getElem?_eq_some_iff.1 hx).1] at hy
  cases hy
  obtain ⟨vi, vn0, k0, k1, k2, k3, k4⟩ := h.it i x hx
  exact ⟨vi, vn, o _ _ (by omega) k0, World.cell?_setCell_same w _ vn k1, o _ _ (by omega) k2, k3.moved hm hs (fun _ _ q => q.moved hm), hn.moved hm⟩
 ·rw [if_neg e] at hy
  obtain ⟨vi, vn0, k0, k1, k2, k3, k4⟩ := h.it j y hy
  exact ⟨vi, vn0, o _ _ (by omega) k0, o _ _ (by omega) k1, o _ _ (by omega) k2, k3.moved hm hs (fun _ _ q => q.moved hm), k4.moved hm⟩
/-- something is written elsewhere -/
theorem Bo.setA {w : World} {A : Nat → Prop} {N B cap a i : Nat} {l : List Bl} (h : Bo w N B A cap l) (ha : A a) (hAB : a ≠ B) (v : Value) : Bo (w.setCell ⟨a, i, none⟩ v) N B A cap l := by
 have o : ∀ k, k ≠ a → (w.setCell ⟨a, i, none⟩ v).heap[k]? = w.heap[k]? := fun k hk => heap_setCell_other w ⟨a, i, none⟩ k v hk
 have hB := o B (fun e => hAB e.symm)
 have c : ∀ o v', w.cell? ⟨B, o, none⟩ = some v' → (w.setCell ⟨a, i, none⟩ v).cell? ⟨B, o, none⟩ = some v' := fun o v' e => (World.cell?_of_block (a := ⟨B, o, none⟩) hB).trans e
 refine ⟨h.nb, h.bt.move hB, h.cap, fun j x hx => ?_⟩
 obtain ⟨vi, vn, k0, k1, k2, k3, k4⟩ := h.it j x hx
 have hm : Vc.Mv w (w.setCell ⟨a, i, none⟩ v) (fun k => k ≠ B ∧ ¬ A k) (fun k => k ≠ B ∧ ¬ A k) := fun k _ hg => ⟨hg, o k fun e => hg.2 (e ▸ ha)⟩
 exact ⟨vi, vn, c _ _ k0, c _ _ k1, c _ _ k2, k3.moved hm (by simp) (fun _ _ q => q.moved hm), k4.moved hm⟩
theorem Bo.bls {w : World} {A : Nat → Prop} {N B cap n : Nat} {l : List Bl} (h : Bo w N B A cap l) (hn : n = l.length) (g : Nat → Prop) (hg : ∀ k, k < w.heap.size → g k) : Bls w g l (.slice (some ⟨B, 0, none⟩) n cap) := by
 subst hn
 refine ⟨_, _, rfl, h.cap, (by intro h; cases h), fun _ => ⟨B, 0, rfl, hg B h.lt, h.lt, fun i x hx => ?_⟩⟩
 obtain ⟨vi, vn, k0, k1, k2, k3, k4⟩ := h.it i x hx
 have hm : Vc.Mv w w (fun k => k ≠ B ∧ ¬ A k) g := fun k hlt _ => ⟨hg k hlt, rfl⟩
 refine ⟨[vi, vn, .int .i64 x.dep], rfl, ⟨vi, vn, rfl, k3.moved hm (Nat.le_refl _) (fun _ _ q => q.moved hm), k4.moved hm⟩, fun j u hu => ?_⟩
 rw [Nat.zero_add]
 match j, hu with
 | 0, hu => cases hu; exact k0
 | 1, hu => cases hu; exact k1
 | 2, hu => cases hu; exact k2
 | j + 3, hu => simp at hu
/-- a number told by a list -/
def tell (r : List Int) (z : Int) : Int := r.getD z.toNat 0
def tellB (r : List Int) (x : Bl) : Bl := ⟨x.ins, x.next.map (tell r), x.dep⟩
/-- the first ones are told -/
def half {α : Type} (f : α → α) (l : List α) (k : Nat) : List α := (l.take k).map f ++ l.drop k
theorem half_0 {α : Type} (f : α → α) (l : List α) : half f l 0 = l := by simp [half]
theorem half_all {α : Type} (f : α → α) (l : List α) : half f l l.length = l.map f := by simp [half]
theorem half_len {α : Type} (f : α → α) (l : List α) (k : Nat) : (half f l k).length = l.length := by simp only [half, List.length_append, List.length_map, List.length_take, List.length_drop]; omega
theorem half_at {α : Type} (f : α → α) (l : List α) (k : Nat) (h : k < l.length) : (half f l k)[k]? = l[k]? := by
 unfold half
 rw [List.getElem?_append_right (by simp; omega), List.length_map, List.length_take, List.getElem?_drop]
 congr 1; omega
theorem half_step {α : Type} (f : α → α) (l : List α) (k : Nat) {x : α} (h : l[k]? = some x) : (half f l k).set k (f x) = half f l (k + 1) := by
 have hk := (List.getElem?_eq_some_iff.1 h).1
 have hx := (List.getElem?_eq_some_iff.1 h).2
 unfold half
 rw [List.set_append_right _ _ (by simp; omega), List.take_succ_eq_append_getElem hk, List.map_append, hx]
 have e1 : k - ((l.take k).map f).length = 0 := by simp; omega
 rw [e1, List.drop_eq_getElem_cons hk, List.set_cons_zero, List.map_cons, List.map_nil, List.append_assoc]
 rfl
theorem tellNext_any (l : List Bl) (hl : l.length ≤ 1048576) (hnl : ∀ b ∈ l, b.next.length ≤ 1048576) (r : List Int) (hr : ∀ b ∈ l, ∀ z ∈ b.next, 0 ≤ z ∧ z < (r.length : Int)) (N B : Nat) (A : Nat → Prop) (cap : Nat) (vr : Value) (w : World) (h : Bo w N B A cap l) (hv : NumsL w (fun k => k < w.heap.size ∧ k ≠ B) r vr) (hrl : r.length ≤ 1048576) (hA : ∀ k, A k → k < w.heap.size) :
    Calls Tryz.prog 68 #[.slice (some ⟨B, 0, none⟩) l.length cap, vr] w fun e w' => e = .returned (.tuple #[]) ∧ Bo w' N B A cap (l.map (tellB r)) ∧ Fo B w w' := by
 obtain ⟨ra, rc, rfl, -, -, -⟩ := id hv
 obtain ⟨n, hn⟩ : ∃ n, n = l.length := ⟨_, rfl⟩
 obtain ⟨R, hR⟩ : ∃ R, R = r.length := ⟨_, rfl⟩
 have hni : (n : Int) ≤ 1048576 := by omega
 have hRi : (R : Int) ≤ 1048576 := by omega
 rw [← hn, ← hR]
 have HH := hide h; have HV := hide hv; have HNl := hide hnl; have HRr := hide hr; have HN := hide hn; have HR := hide hR
 clear h hv hnl hr hn hR hl hrl
 go_enter Tryz.func68, Tryz.ntmps68
 go_wp2_with fail
 go_loopw [10] (fun c wr => ∃ k : Nat, k ≤ n ∧ c = .int .i64 (k : Int) ∧ Bo wr N B A cap (half (tellB r) l k) ∧ Fo B w wr) (fun c _ => n - (intOf c).toNat)
 case atStart => exact ⟨0, Nat.zero_le _, rfl, by rw [half_0]; exact unhide HH, Fo.refl _ _⟩
 case round =>
  obtain ⟨k, hk, rfl, hBo, hFo⟩ := hrel
  by_cases hlt : k < n
  ·obtain ⟨x, hx⟩ : ∃ x, l[k]? = some x := ⟨_, List.getElem?_eq_getElem (by rw [← unhide HN]; exact hlt)⟩
   have hm := List.mem_of_getElem? hx
   have hx2 : (half (tellB r) l k)[k]? = some x := by rw [half_at _ _ _ (by rw [← unhide HN]; exact hlt)]; exact hx
   obtain ⟨vi, vn, d0, d1, d2, hin, hnn⟩ := hBo.it k x hx2
   obtain ⟨na, nc, rfl, -, -, -⟩ := id hnn
   have hxl := unhide HNl x hm
   obtain ⟨m, hm2⟩ : ∃ m, m = x.next.length := ⟨_, rfl⟩
   have hcl := clone_ro x.next _ _ wr hnn (by omega)
   rw [← hm2] at d1 hcl hxl
   have hmi : (m : Int) ≤ 1048576 := by omega
   have hBlt := hBo.lt
   have HX := hide hx; have HX2 := hide hx2; have HBo := hide hBo; have HFo := hide hFo; have HCl := hide hcl; have HM := hide hm2; have HMm := hide hm; have HLt := hide hlt
   have hki : (k : Int) < (n : Int) := by omega
   clear hx hx2 hBo hFo hcl hm2 hm hxl hnn hin d0 d2 hlt hk
   go_upto_region 4 with (go_at_call 57; refine (unhide HCl).mono ?_; rintro e w1 ⟨v1, rfl, ho1, hb1⟩; obtain ⟨ga, gc, rfl, hgc⟩ := ho1.sl)
   rw [← unhide HM] at ho1 ⊢
   have hfo1 : Fo B wr w1 := Fo.of hb1
   have HO1 := hide ho1; have HB1 := hide hb1
   clear ho1 hb1 d1 hgc
   go_wp2_with fail
   go_loopw [21] (fun c wq => ∃ j : Nat, j ≤ m ∧ c = .int .i64 (j : Int) ∧ Ro wq wr.heap.size (.slice ga m gc) (half (tell r) x.next j) ∧ Below wr.heap.size wr wq) (fun c _ => m - (intOf c).toNat)
   case atStart => exact ⟨0, Nat.zero_le _, rfl, by rw [half_0]; exact unhide HO1, unhide HB1⟩
   case round =>
    generalize wr = wq at *
    obtain ⟨j, hj, rfl, hRj, hbj⟩ := hrel
    by_cases hjm : j < m
    ·have hjx : j < x.next.length := by rw [← unhide HM]; exact hjm
     obtain ⟨z, hz⟩ : ∃ z, x.next[j]? = some z := ⟨_, List.getElem?_eq_getElem hjx⟩
     have hzr := unhide HRr x (unhide HMm) z (List.mem_of_getElem? hz)
     have hzj : (half (tell r) x.next j)[j]? = some z := by rw [half_at _ _ _ hjx]; exact hz
     have hjl : j < (half (tell r) x.next j).length := by rw [half_len]; exact hjx
     obtain ⟨g', cp', e, -, hgl, hrc, hrf, -⟩ := hRj.at_ (by omega)
     simp only [Value.slice.injEq] at e
     obtain ⟨rfl, -, rfl⟩ := e
     have x1 := hrc j hjl
     have x1f := hrf j
     rw [List.getD_eq_getElem?_getD, hzj, Option.getD_some] at x1
     obtain ⟨a, ha⟩ : ∃ a : Nat, z = (a : Int) := ⟨z.toNat, by omega⟩
     subst ha
     have hfw : Fo B w wq := (unhide HFo).trans (Fo.of hbj)
     obtain ⟨Br, or_, hra, -, hrr⟩ := nums_at ((unhide HV).moved (w' := wq) (g' := fun k => k ≠ B) fun k _ hk => ⟨hk.2, hfw.keep k hk.1 hk.2⟩) (k := a) (by omega)
     subst hra
     have x2 := hrr a (by omega)
     obtain ⟨y, hy⟩ : ∃ y, y = r.getD a 0 := ⟨_, rfl⟩
     rw [← hy] at x2
     have hset := half_step (tell r) x.next j hz
     rw [show tell r (a : Int) = y by unfold tell; rw [Int.toNat_natCast, hy]] at hset
     have hR9 := hRj.set hjl y
     rw [hset] at hR9
     have hB9 := hbj.setCell (p := ⟨g', j, none⟩) (hRj.lt g' rfl).1 (.int .i64 y)
     have haR : (a : Int) < (R : Int) := by rw [unhide HR]; omega
     have hji : (j : Int) < (m : Int) := by omega
     have HR9 := hide hR9; have HB9 := hide hB9
     clear hR9 hB9 hset hy hfw hRj hbj hrc hrf hzj hjl hz hzr hrr hjx hgl
     go_wp2_with fail
     go_roundw
     case rel => exact ⟨j + 1, by omega, by go_num, unhide HR9, unhide HB9⟩
     case measure => simp [intOf]; omega
    ·obtain rfl : j = m := by omega
     rw [unhide HM, half_all] at hRj
     have hBo9 := (unhide HBo).below hbj
     have hns : NumsL wq (fun k => k ≠ B ∧ ¬ A k) (x.next.map (tell r)) (.slice ga j gc) := by
      have h5 := hRj.nums
      rw [← unhide HM] at h5
      exact h5.moved fun k _ hk => ⟨⟨by omega, fun hk2 => by have := hA k hk2; have := (unhide HFo).size; omega⟩, rfl⟩
     have hset := hBo9.setNext (unhide HX2) hns
     have hst := half_step (tellB r) l k (unhide HX)
     rw [show tellB r x = ⟨x.ins, x.next.map (tell r), x.dep⟩ from rfl] at hst
     rw [hst] at hset
     obtain ⟨vi, vn, d0, d1, d2, -, -⟩ := hBo9.it k x (unhide HX2)
     have d1f := hBo9.bt.frozen (k * 3 + 1)
     have hfin := ((unhide HFo).trans (Fo.of hbj)).set (k * 3 + 1) (.slice ga j gc)
     have HS := hide hset; have HF := hide hfin
     clear hset hst hfin hBo9 hns hRj hbj hjm hj d0 d2
     go_wp2_with fail
     go_roundw
     case rel => exact ⟨k + 1, unhide HLt, by go_num, unhide HS, unhide HF⟩
     case measure => have := unhide HLt; simp [intOf]; omega
  ·obtain rfl : k = n := by omega
   rw [unhide HN, half_all] at hBo
   have HBo := hide hBo; have HFo := hide hFo
   clear hBo hFo hlt hk
   go_wp2_with fail
   exact bodyPost_end (v := .tuple #[]) (by simp [results, Tryz.results68, go_sem]) rfl ⟨rfl, unhide HBo, unhide HFo⟩
end Fw
namespace Fw
open Vc (NumsL Nums Lies LL Bls BlC InC Bl Co infoN infoBl own_base RowT)
/- flow: code without blocks that can't be reached. -/
def srt (l : List Int) : List Int := l.mergeSort fun x y => decide (x ≤ y)
def rch (l : List Bl) : List Int := srt (nz (walk (nxs l)).ent)
def anw (r : List Int) (n k : Nat) : List Int := (List.range k).foldl (fun a i => a.set (r.getD i 0).toNat (i : Int)) (List.replicate n 0)
def pick (l : List Bl) (r : List Int) : List Bl := r.map fun b => l.getD b.toNat dB
def trimB (l : List Bl) : List Bl := (pick l (rch l)).map (tellB (anw (rch l) l.length (rch l).length))
theorem anw_succ (r : List Int) (n k : Nat) : anw r n (k + 1) = (anw r n k).set (r.getD k 0).toNat (k : Int) := by unfold anw; rw [List.range_succ, List.foldl_append]; rfl
theorem anw_len (r : List Int) (n k : Nat) : (anw r n k).length = n := by
 induction k with
 | zero => simp [anw]
 | succ k ih => rw [anw_succ, List.length_set]; exact ih
/-- so many blocks are laid -/
def part (l : List Bl) (r : List Int) (k : Nat) : List Bl := (pick l (r.take k)) ++ List.replicate (r.length - k) dB
theorem part_len (l : List Bl) (r : List Int) (k : Nat) (h : k ≤ r.length) : (part l r k).length = r.length := by simp [part, pick]; omega
theorem part_all (l : List Bl) (r : List Int) : part l r r.length = pick l r := by simp [part]
theorem part_at (l : List Bl) (r : List Int) (k : Nat) (h : k < r.length) : (part l r k)[k]? = some dB := by
 unfold part
 rw [List.getElem?_append_right (by simp [pick]; omega), List.getElem?_replicate]
 simp [pick]; omega
theorem part_step (l : List Bl) (r : List Int) (k : Nat) (h : k < r.length) : (part l r k).set k (l.getD (r.getD k 0).toNat dB) = part l r (k + 1) := by
 unfold part
 have e1 : (pick l (r.take k)).length = k := by simp [pick]; omega
 rw [List.set_append_right _ _ (by omega), e1, Nat.sub_self, show r.length - k = (r.length - (k + 1)) + 1 by omega, List.replicate_succ, List.set_cons_zero, List.take_succ_eq_append_getElem h]
 rw [show pick l (r.take k ++ [r[k]]) = pick l (r.take k) ++ [l.getD (r.getD k 0).toNat dB] by unfold pick; rw [List.map_append, getD_get _ _ _ h]; rfl, List.append_assoc]
 rfl
theorem made3 (n i : Nat) (h : i < n) : (madeCells (Value.agg #[.slice none 0 0, .slice none 0 0, .int .i64 0]).cells (n * 3))[i * 3]? = some (.slice none 0 0) ∧ (madeCells (Value.agg #[.slice none 0 0, .slice none 0 0, .int .i64 0]).cells (n * 3))[i * 3 + 1]? = some (.slice none 0 0) ∧ (madeCells (Value.agg #[.slice none 0 0, .slice none 0 0, .int .i64 0]).cells (n * 3))[i * 3 + 2]? = some (.int .i64 0) := by
 have hc : (Value.agg #[.slice none 0 0, .slice none 0 0, .int .i64 0]).cells = #[.slice none 0 0, .slice none 0 0, .int .i64 0] := rfl
 rw [hc]
 unfold madeCells
 refine ⟨?_, ?_, ?_⟩ <;> rw [Array.getElem?_map, Array.getElem?_range, if_pos (by omega)] <;> simp [Nat.mul_mod_left, Nat.mul_add_mod_self_right, Nat.add_mod]
theorem Bo.made (w : World) (A : Nat → Prop) (l : List Bl) (r : List Int) (hr : r.length ≤ 1048576) : Bo (w.alloc (.cells (madeCells (Value.agg #[.slice none 0 0, .slice none 0 0, .int .i64 0]).cells (r.length * 3)) 56)) w.heap.size w.heap.size A r.length (part l r 0) := by
 have hb := heap_alloc_new w (.cells (madeCells (Value.agg #[.slice none 0 0, .slice none 0 0, .int .i64 0]).cells (r.length * 3)) 56)
 refine ⟨Nat.le_refl _, ⟨_, hb⟩, by rw [part_len _ _ _ (Nat.zero_le _)]; exact Nat.le_refl _, fun i x hx => ?_⟩
 have hi := (List.getElem?_eq_some_iff.1 hx).1
 rw [part_len _ _ _ (Nat.zero_le _)] at hi
 have hd : x = dB := by
  have : (part l r 0)[i]? = some dB := by unfold part pick; simp [hi]
  rw [this] at hx; exact (Option.some.inj hx).symm
 subst hd
 obtain ⟨m0, m1, m2⟩ := made3 r.length i hi
 refine ⟨_, _, by rw [cell_of_row _ _ _ _ _ _ hb]; exact m0, by rw [cell_of_row _ _ _ _ _ _ hb]; exact m1, by rw [cell_of_row _ _ _ _ _ _ hb]; exact m2, Vc.LL_nil _ _ _ _, ⟨none, 0, rfl, Nat.le_refl _, fun _ => rfl, fun h => by simp [dB] at h⟩⟩
/-- a block laid whole -/
theorem Bo.setAll {w : World} {A : Nat → Prop} {N B cap i : Nat} {l : List Bl} {x y : Bl} (h : Bo w N B A cap l) (hx : l[i]? = some x) {vi vn : Value} (hi : LL InC 5 w (fun k => k ≠ B ∧ ¬ A k) y.ins vi) (hn : NumsL w (fun k => k ≠ B ∧ ¬ A k) y.next vn) :
    Bo (((w.setCell ⟨B, i * 3, none⟩ vi).setCell ⟨B, i * 3 + 1, none⟩ vn).setCell ⟨B, i * 3 + 2, none⟩ (.int .i64 y.dep)) N B A cap (l.set i y) := by
 have ot : ∀ k, k ≠ B → (((w.setCell ⟨B, i * 3, none⟩ vi).setCell ⟨B, i * 3 + 1, none⟩ vn).setCell ⟨B, i * 3 + 2, none⟩ (.int .i64 y.dep)).heap[k]? = w.heap[k]? := fun k hk => by
  rw [heap_setCell_other _ _ _ _ (by exact hk), heap_setCell_other _ _ _ _ (by exact hk), heap_setCell_other _ _ _ _ (by exact hk)]
 have hm : Vc.Mv w (((w.setCell ⟨B, i * 3, none⟩ vi).setCell ⟨B, i * 3 + 1, none⟩ vn).setCell ⟨B, i * 3 + 2, none⟩ (.int .i64 y.dep)) (fun k => k ≠ B ∧ ¬ A k) (fun k => k ≠ B ∧ ¬ A k) := fun k _ hg => ⟨hg, ot k hg.1⟩
 have hs : w.heap.size ≤ (((w.setCell ⟨B, i * 3, none⟩ vi).setCell ⟨B, i * 3 + 1, none⟩ vn).setCell ⟨B, i * 3 + 2, none⟩ (.int .i64 y.dep)).heap.size := by simp
 have ne : ∀ a b : Nat, a ≠ b → (⟨B, a, none⟩ : Addr) ≠ ⟨B, b, none⟩ := fun a b hab e => by injection e with _ e3 _; exact hab e3
 have o : ∀ o v, o ≠ i * 3 → o ≠ i * 3 + 1 → o ≠ i * 3 + 2 → w.cell? ⟨B, o, none⟩ = some v → (((w.setCell ⟨B, i * 3, none⟩ vi).setCell ⟨B, i * 3 + 1, none⟩ vn).setCell ⟨B, i * 3 + 2, none⟩ (.int .i64 y.dep)).cell? ⟨B, o, none⟩ = some v := fun o v h0 h1 h2 e => by
  rw [World.cell?_setCell_other _ _ _ _ (ne _ _ (Ne.symm h2)), World.cell?_setCell_other _ _ _ _ (ne _ _ (Ne.symm h1)), World.cell?_setCell_other _ _ _ _ (ne _ _ (Ne.symm h0))]; exact e
 obtain ⟨vi0, vn0, k0, k1, k2, -, -⟩ := h.it i x hx
 refine ⟨h.nb, (h.bt.set.set).set, by simpa using h.cap, fun j z hz => ?_⟩
 rw [List.getElem?_set] at hz
 by_cases e : i = j
 ·subst e
  rw [if_pos rfl, if_pos (List.getElem?_eq_some_iff.1 hx).1] at hz
  cases hz
  refine ⟨vi, vn, ?_, ?_, ?_, hi.moved hm hs (fun _ _ q => q.moved hm), hn.moved hm⟩
  ·rw [World.cell?_setCell_other _ _ _ _ (ne _ _ (by omega)), World.cell?_setCell_other _ _ _ _ (ne _ _ (by omega))]; exact World.cell?_setCell_same w _ vi k0
  ·rw [World.cell?_setCell_other _ _ _ _ (ne _ _ (by omega))]
   exact World.cell?_setCell_same _ _ vn ((World.cell?_setCell_other _ _ _ _ (ne _ _ (by omega))).trans k1)
  ·exact World.cell?_setCell_same _ _ _ (((World.cell?_setCell_other _ _ _ _ (ne _ _ (by omega))).trans (World.cell?_setCell_other _ _ _ _ (ne _ _ (by omega)))).trans k2)
 ·rw [if_neg e] at hz
  obtain ⟨vi1, vn1, j0, j1, j2, j3, j4⟩ := h.it j z hz
  exact ⟨vi1, vn1, o _ _ (by omega) (by omega) (by omega) j0, o _ _ (by omega) (by omega) (by omega) j1, o _ _ (by omega) (by omega) (by omega) j2, j3.moved hm hs (fun _ _ q => q.moved hm), j4.moved hm⟩
theorem Fk.three {a b : Nat} {w w1 : World} (h : Fk a b w w1) (i j k : Nat) (u v x : Value) : Fk a b w (((w1.setCell ⟨b, i, none⟩ u).setCell ⟨b, j, none⟩ v).setCell ⟨b, k, none⟩ x) := ((h.set2 i u).set2 j v).set2 k x
end Fw
namespace Fw
open Vc (NumsL Nums Lies LL Bls BlC InC Bl Co infoN infoBl own_base RowT cob cob_cells)
/- flow: trimmed. -/
theorem srt_mem (l : List Int) (x : Int) : x ∈ srt l ↔ x ∈ l := List.mem_mergeSort
theorem srt_len (l : List Int) : (srt l).length = l.length := List.length_mergeSort _
theorem go_ent (nx : List (List Nat)) (f b : Nat) (p : Int) (s : St) : s.ent.length + 1 ≤ (go nx (f + 1) b p s).ent.length := by
 rw [go_succ]
 have key : ∀ f, (∀ b p s, s.ent.length ≤ (go nx f b p s).ent.length) := by
  intro f
  induction f with
  | zero => intro b p s; exact Nat.le_refl _
  | succ f ih =>
    intro b p s
    rw [go_succ]
    have k2 : ∀ (l : List Nat) (t : Int) (q : St), q.ent.length ≤ (l.foldl (way nx f t) q).ent.length := by
     intro l t
     induction l with
     | nil => intro q; exact Nat.le_refl _
     | cons x r ihl =>
       intro q
       refine Nat.le_trans ?_ (ihl _)
       unfold way; split
       ·exact ih _ _ _
       ·exact Nat.le_refl _
    have := k2 (nx.getD b []) (s.ent.length : Int) (mark s b p)
    simp only [mark, List.length_append, List.length_cons, List.length_nil] at this ⊢
    omega
 have k2 : ∀ (l : List Nat) (t : Int) (q : St), q.ent.length ≤ (l.foldl (way nx f t) q).ent.length := by
  intro l t
  induction l with
  | nil => intro q; exact Nat.le_refl _
  | cons x r ihl =>
    intro q
    refine Nat.le_trans ?_ (ihl _)
    unfold way; split
    ·exact key f _ _ _
    ·exact Nat.le_refl _
 have := k2 (nx.getD b []) (s.ent.length : Int) (mark s b p)
 simp only [mark, List.length_append, List.length_cons, List.length_nil] at this ⊢
 omega
theorem walk_inv {l : List Bl} (h : Cok l) : Inv l.length (walk (nxs l)) ∧ 1 ≤ (walk (nxs l)).ent.length := by
 have h1 := h.one
 obtain ⟨n, hn⟩ : ∃ n, l.length = n + 1 := ⟨l.length - 1, by omega⟩
 unfold walk
 rw [nxs_len]
 refine ⟨?_, ?_⟩
 ·have := (go_inv (nxs l) h.nok.inn l.length 0 (-1) (start l.length) (by rw [nxs_len]; exact Inv.start _) (by rw [nxs_len]; omega) (by rw [getD_get _ _ _ (by simp [start]; omega)]; simp [start]) (by omega) (by simp [start])).1
  rw [nxs_len] at this; exact this
 ·rw [hn]
  have := go_ent (nxs l) n 0 (-1) (start (n + 1))
  simp only [start, List.length_nil] at this
  exact this
theorem rch_ok {l : List Bl} (h : Cok l) : 1 ≤ (rch l).length ∧ (rch l).length ≤ l.length ∧ ∀ z ∈ rch l, 0 ≤ z ∧ z < (l.length : Int) := by
 obtain ⟨h1, h2⟩ := walk_inv h
 unfold rch
 rw [srt_len, nz_len]
 refine ⟨h2, by have := h1.ec; omega, fun z hz => ?_⟩
 rw [srt_mem] at hz
 unfold nz at hz
 obtain ⟨x, hx, rfl⟩ := List.mem_map.1 hz
 have := h1.eb x hx
 omega
theorem pick_mem {l : List Bl} (h : Cok l) {r : List Int} (hr : ∀ z ∈ r, 0 ≤ z ∧ z < (l.length : Int)) : ∀ b ∈ pick l r, b ∈ l := by
 intro b hb
 unfold pick at hb
 obtain ⟨z, hz, rfl⟩ := List.mem_map.1 hb
 have := hr z hz
 exact getD_mem _ _ _ (by omega)
theorem Ro.nums2 {w : World} {N g n c : Nat} {l : List Int} (h : Ro w N (.slice (some ⟨g, 0, none⟩) n c) l) (G : Nat → Prop) (hG : G g) : NumsL w G l (.slice (some ⟨g, 0, none⟩) n c) := by
 obtain ⟨a, c', e, hle⟩ := h.sl
 simp only [Value.slice.injEq] at e
 obtain ⟨rfl, rfl, rfl⟩ := e
 refine ⟨_, _, rfl, hle, (by intro h; cases h), fun h0 => ⟨g, 0, rfl, hG, fun j hj => ?_⟩⟩
 rw [Nat.zero_add]; exact (h.cells hj).1
theorem set4c (w : World) (b : Nat) (c0 c1 c2 c3 : Value) (t : TypeId) (u0 u1 u2 u3 : Value) (h : w.heap[b]? = some (.cells #[c0, c1, c2, c3] t (0, 0))) :
    ((((w.setCell ⟨b, 0, none⟩ u0).setCell ⟨b, 1, none⟩ u1).setCell ⟨b, 2, none⟩ u2).setCell ⟨b, 3, none⟩ u3).heap[b]? = some (.cells #[u0, u1, u2, u3] t (0, 0)) := by
 have h0 := (heap_setCell_same w b 0 _ _ u0 h).trans rfl
 have h1 := (heap_setCell_same _ b 1 _ _ u1 h0).trans rfl
 have h2 := (heap_setCell_same _ b 2 _ _ u2 h1).trans rfl
 exact (heap_setCell_same _ b 3 _ _ u3 h2).trans rfl
theorem field1 (a b c d e : Value) (W : World) : (Instr.field 65 (.agg #[a, b, c, d, e]) 1).run Tryz.prog W = .ok b W := by
 have hu := Tryz.underlying65
 simp [Instr.field, run_underlying hu, asAgg, go_sem]
theorem Bo.blsA {w : World} {A : Nat → Prop} {N B cap n : Nat} {l : List Bl} (h : Bo w N B A cap l) (hn : n = l.length) (g : Nat → Prop) (hg : ∀ k, k < w.heap.size → k = B ∨ ¬ A k → g k) : Bls w g l (.slice (some ⟨B, 0, none⟩) n cap) := by
 subst hn
 refine ⟨_, _, rfl, h.cap, (by intro h; cases h), fun _ => ⟨B, 0, rfl, hg B h.lt (.inl rfl), h.lt, fun i x hx => ?_⟩⟩
 obtain ⟨vi, vn, k0, k1, k2, k3, k4⟩ := h.it i x hx
 have hm : Vc.Mv w w (fun k => k ≠ B ∧ ¬ A k) g := fun k hlt hk => ⟨hg k hlt (.inr hk.2), rfl⟩
 refine ⟨[vi, vn, .int .i64 x.dep], rfl, ⟨vi, vn, rfl, k3.moved hm (Nat.le_refl _) (fun _ _ q => q.moved hm), k4.moved hm⟩, fun j u hu => ?_⟩
 rw [Nat.zero_add]
 match j, hu with
 | 0, hu => cases hu; exact k0
 | 1, hu => cases hu; exact k1
 | 2, hu => cases hu; exact k2
 | j + 3, hu => simp at hu
theorem trimmed_F (l : List Bl) (hc : Cok l) (pa re : Int) (rs : Bool) (g F : Nat → Prop) (vb : Value) (w : World) (hB : Bls w g l vb) (hg : ∀ k, g k → k < w.heap.size ∧ ¬ F k) (hF : ∀ k, F k → k < w.heap.size) :
    Calls Tryz.prog 42 #[.agg #[.int .i64 pa, .int .i64 re, .bool rs, vb]] w fun e w' => ∃ v', e = .returned (.agg #[.int .i64 pa, .int .i64 re, .bool rs, v']) ∧ Bls w' (fun k => k < w'.heap.size ∧ ¬ F k) (trimB l) v' ∧ Below w.heap.size w w' := by
 obtain ⟨va, vc, rfl, -, -, -⟩ := id hB
 obtain ⟨i0, hi, hz0, hz1, hz2⟩ := info_parts infoN
 obtain ⟨ib, hib, hb0, hb1, hb2⟩ := info_parts infoBl
 obtain ⟨hr1, hr2, hr3⟩ := rch_ok hc
 have hlen := hc.nok.len
 obtain ⟨n, hn⟩ : ∃ n, n = l.length := ⟨_, rfl⟩
 obtain ⟨R, hR⟩ : ∃ R, R = (rch l).length := ⟨_, rfl⟩
 have hmkI := fun wx => run_make (P := Tryz.prog) wx 31 3 i0 (.int .i64 0) Tryz.underlying31 hi hz0 .i64 .i64 (n : Int) (n : Int) (by omega) (by omega) (by rw [hz2]; omega) (by omega)
 have hmkB := fun wx => run_make (P := Tryz.prog) wx 27 56 ib (.agg #[.slice none 0 0, .slice none 0 0, .int .i64 0]) Tryz.underlying27 hib hb0 .i64 .i64 (R : Int) (R : Int) (by omega) (by omega) (by rw [hb2]; omega) (by omega)
 rw [hz1] at hmkI
 rw [hb1] at hmkB
 simp only [Int.toNat_natCast, Nat.mul_one] at hmkI hmkB
 obtain ⟨X, hX⟩ : ∃ X, X = (w.alloc (.cells (cob pa re rs (.slice va n vc)) 29)).alloc (.cells (cob 0 0 false (.slice none 0 0)) 29) := ⟨_, rfl⟩
 have hXb : Below w.heap.size w X := by rw [hX]; exact Vc.two_allocs w _ _
 have hXz : X.heap.size = w.heap.size + 2 := by rw [hX]; simp
 have r0 : X.heap[w.heap.size]? = some (.cells (cob pa re rs (.slice va n vc)) 29 (0, 0)) := by rw [hX, Below.heap_alloc _ _ _ (by simp)]; exact heap_alloc_new _ _
 have r1 : X.heap[w.heap.size + 1]? = some (.cells (cob 0 0 false (.slice none 0 0)) 29 (0, 0)) := by
  have := heap_alloc_new (w.alloc (.cells (cob pa re rs (.slice va n vc)) 29)) (.cells (cob 0 0 false (.slice none 0 0)) 29)
  rw [show (w.alloc (.cells (cob pa re rs (.slice va n vc)) 29)).heap.size = w.heap.size + 1 by simp, ← hX] at this; exact this
 have hBX : Bls X g l (.slice va l.length vc) := hB.moved (fun k _ h => ⟨h, hXb.block k (hg k h).1⟩) hXb.size
 have hwk := walkOf_any l hc.nok hc.one g (.slice va l.length vc) X hBX (fun k h => by have := (hg k h).1; omega)
 rw [← hn] at hwk hB ⊢
 have hBw : Bls w (fun k => k < w.heap.size ∧ ¬ F k) l (.slice va n vc) := hB.moved (fun k _ h => ⟨hg k h, rfl⟩) (Nat.le_refl _)
 obtain ⟨c0, c1, c2, c3, cf, cl⟩ := cob_cells r0
 have HC := hide hc; have HN := hide hn; have HR := hide hR; have HXb := hide hXb; have HXz := hide hXz; have HR0 := hide r0; have HR1 := hide r1; have HW := hide hwk; have HBw := hide hBw; have H1 := hide hr1; have H2 := hide hr2; have H3 := hide hr3
 have HLn := hide hlen
 have hni : (n : Int) ≤ 1048576 := by omega
 have hRi : (R : Int) ≤ 1048576 := by omega
 have HFF := hide hF
 clear hF hc hn hR hXb hXz r0 r1 hwk hBw hr1 hr2 hr3 hB hBX hg hlen
 go_enter Tryz.func42, Tryz.ntmps42
 go_upto_region 1 with fail
 rw [show (w.alloc (.cells #[.int .i64 pa, .int .i64 re, .bool rs, .slice va n vc] 29)).alloc (.cells #[.int .i64 0, .int .i64 0, .bool false, .slice none 0 0] 29) = X from hX.symm]
 clear hX
 have hfd := field1
 go_upto_region 2 with (go_at_call 27; refine (unhide HW).mono ?_; rintro e w1 ⟨ve, vf, vt, vl, rfl, k1, k2, k3, k4, hb1⟩; obtain ⟨ea, ec, rfl, -⟩ := k1.sl; obtain ⟨fa, fc, rfl, -⟩ := k2.sl; obtain ⟨ta, tc, rfl, -⟩ := k3.sl; obtain ⟨la, lc, rfl, -⟩ := k4.sl; have K1 := hide k1; have HB1 := hide hb1; clear k1 k2 k3 k4 hb1)
 have hso := sort_ro (unhide K1) (by rw [nz_len]; have := unhide H1; unfold rch at this; rw [srt_len, nz_len] at this; omega) (by rw [nz_len]; have := (walk_inv (unhide HC)).1.ec; have := unhide HLn; omega)
 have hb3 : Below w.heap.size w w1 := (unhide HXb).trans ((unhide HB1).mono (by have := unhide HXz; omega))
 have q1 := ((unhide HB1).block _ (by have := unhide HXz; omega)).trans (unhide HR0)
 have q2 := ((unhide HB1).block _ (by have := unhide HXz; omega)).trans (unhide HR1)
 have hpost : ∀ w2, Below X.heap.size w1 w2 → w2.heap[w.heap.size]? = some (.cells (cob pa re rs (.slice va n vc)) 29 (0, 0)) ∧ w2.heap[w.heap.size + 1]? = some (.cells (cob 0 0 false (.slice none 0 0)) 29 (0, 0)) ∧ Below w.heap.size w w2 := fun w2 h2 =>
  ⟨(h2.block _ (by have := unhide HXz; omega)).trans q1, (h2.block _ (by have := unhide HXz; omega)).trans q2, hb3.trans (h2.mono (by have := unhide HXz; omega))⟩
 have HSo := hide hso; have HPo := hide hpost
 clear hso hpost hb3 q1 q2 c0 c1 c2 c3 cf cl hfd
 go_upto_region 3 with (go_at_call 67; refine (unhide HSo).mono ?_; rintro e w2 ⟨rfl, k1, hb2⟩; have KS := hide k1; have HB2 := hide hb2; clear k1 hb2)
 have hks : Ro w2 X.heap.size (.slice ea (nz (walk (nxs l)).ent).length ec) (rch l) := unhide KS
 have hlR : (nz (walk (nxs l)).ent).length = R := by rw [unhide HR]; unfold rch; rw [srt_len]
 rw [hlR] at hks ⊢
 obtain ⟨q1, q2, hb3⟩ := unhide HPo w2 (unhide HB2)
 obtain ⟨g1, c1', e, hg1, hg1l, hrc, -, -⟩ := hks.at_ (by have := unhide H1; omega)
 rw [← unhide HR] at e
 simp only [Value.slice.injEq] at e
 obtain ⟨rfl, -, rfl⟩ := e
 obtain ⟨c0, c1, c2, c3, cf, cl⟩ := cob_cells q1
 obtain ⟨W4, hW4⟩ : ∃ W4, W4 = (w2.alloc (.cells (madeCells (Value.int .i64 0).cells n) 3)).alloc (.cells (madeCells (Value.agg #[.slice none 0 0, .slice none 0 0, .int .i64 0]).cells (R * 3)) 56) := ⟨_, rfl⟩
 have ha1 := Vc.one_alloc w2 (.cells (madeCells (Value.int .i64 0).cells n) 3)
 have hz1' : (w2.alloc (.cells (madeCells (Value.int .i64 0).cells n) 3)).heap.size = w2.heap.size + 1 := by simp
 have ha2 := Vc.one_alloc (w2.alloc (.cells (madeCells (Value.int .i64 0).cells n) 3)) (.cells (madeCells (Value.agg #[.slice none 0 0, .slice none 0 0, .int .i64 0]).cells (R * 3)) 56)
 have hbo := Bo.made (w2.alloc (.cells (madeCells (Value.int .i64 0).cells n) 3)) (fun k => k = w2.heap.size ∨ k = w.heap.size ∨ k = w.heap.size + 1 ∨ F k) l (rch l) (by have := unhide H2; have := unhide HLn; omega)
 rw [← unhide HR, hz1', ← hW4] at hbo
 rw [hz1', ← hW4] at ha2
 have hro := ((Ro.made w2 n (by have := unhide HLn; have := unhide HN; omega)).below (w' := W4) (by rw [hz1']; exact ha2))
 have hb24 : Below w2.heap.size w2 W4 := ha1.trans (ha2.mono (by omega))
 have HHro := hide hro; have HHbo := hide hbo; have HB24 := hide hb24; have HRc := hide hrc; have HQ1 := hide q1; have HQ2 := hide q2; have HB3 := hide hb3; have HG1 := hide hg1l
 have HG0 := hide hg1
 have t3 : (w2.alloc (.cells (madeCells (Value.int .i64 0).cells n) 3)).cell? ⟨w.heap.size, 3, none⟩ = some (.slice va n vc) := (ha1.cell (p := ⟨w.heap.size, 3, none⟩) cl).trans c3
 clear ha1 ha2 hbo hro hb24 hrc q1 q2 hb3 hg1l hg1 hks hz1' KS HPo HSo
 go_upto_region 5 with fail
 rw [show (w2.alloc (.cells (madeCells #[.int .i64 0] n) 3)).alloc (.cells (madeCells #[.slice none 0 0, .slice none 0 0, .int .i64 0] (R * 3)) 56) = W4 from hW4.symm]
 clear hW4 c0 c1 c2 c3 cf t3 hmkI hmkB
 have hz4 : w2.heap.size + 2 ≤ W4.heap.size := by have := (unhide HHbo).lt; omega
 have hne : w2.heap.size ≠ w2.heap.size + 1 := by omega
 have hkeep : ∀ wr, Fk w2.heap.size (w2.heap.size + 1) W4 wr → ∀ k, k < w2.heap.size → wr.heap[k]? = w2.heap[k]? := fun wr hf k hk => (hf.keep k (by omega) (by omega)).trans ((unhide HB24).block k hk)
 have HKeep := hide hkeep; have HZ4 := hide hz4
 clear hkeep hz4
 go_wp2_with fail
 go_loopw [23] (fun c wr => ∃ k : Nat, k ≤ R ∧ c = .int .i64 (k : Int) ∧ Ro wr w2.heap.size (.slice (some ⟨w2.heap.size, 0, none⟩) n n) (anw (rch l) n k) ∧ Bo wr (w2.heap.size + 1) (w2.heap.size + 1) (fun k => k = w2.heap.size ∨ k = w.heap.size ∨ k = w.heap.size + 1 ∨ F k) R (part l (rch l) k) ∧ Fk w2.heap.size (w2.heap.size + 1) W4 wr) (fun c _ => R - (intOf c).toNat)
 case atStart => exact ⟨0, Nat.zero_le _, rfl, unhide HHro, unhide HHbo, Fk.refl _ _ _⟩
 case round =>
  obtain ⟨k, hk, rfl, hRo, hBo, hFk⟩ := hrel
  by_cases hlt : k < R
  ·have hkr : k < (rch l).length := by rw [← unhide HR]; exact hlt
   have hkp := unhide HKeep wr hFk
   have x1 := (World.cell?_of_block (a := ⟨g1, k, none⟩) (hkp g1 (unhide HG1))).trans (unhide HRc k hkr)
   obtain ⟨z, hz⟩ : ∃ z, z = (rch l).getD k 0 := ⟨_, rfl⟩
   have hzr := unhide H3 z (by rw [hz]; exact getD_mem _ _ _ hkr)
   obtain ⟨b, hb⟩ : ∃ b : Nat, z = (b : Int) := ⟨z.toNat, by omega⟩
   rw [← hz, hb] at x1
   have hbl : b < l.length := by omega
   have hbn : (b : Int) < (n : Int) := by rw [unhide HN]; omega
   have c3 : wr.cell? ⟨w.heap.size, 3, none⟩ = some (.slice va n vc) := (World.cell?_of_block (a := ⟨w.heap.size, 3, none⟩) (hkp _ cl)).trans (cob_cells (unhide HQ1)).2.2.2.1
   have hbw : Below w.heap.size w wr := ⟨hFk.os.trans ((unhide HB24).os.trans (unhide HB3).os), hFk.tape.trans ((unhide HB24).tape.trans (unhide HB3).tape), hFk.output.trans ((unhide HB24).output.trans (unhide HB3).output), by have := hFk.size; have := (unhide HB24).size; have := (unhide HB3).size; omega, fun k hk => (hkp k (by omega)).trans ((unhide HB3).block k hk)⟩
   have hBl := (unhide HBw).moved (w' := wr) (g' := fun k => k < w.heap.size ∧ ¬ F k) (fun k _ h => ⟨h, hbw.block k h.1⟩) hbw.size
   obtain ⟨x, hx⟩ : ∃ x, l[b]? = some x := ⟨_, List.getElem?_eq_getElem hbl⟩
   obtain ⟨Bb, ob, vi, vn, hva, hBN, hBbl, -, d0, d1, d2, hin, hnn⟩ := blk_next hBl hx
   subst hva
   obtain ⟨ia, ic, rfl, -, -, -⟩ := id hin
   obtain ⟨na, nc, rfl, -, -, -⟩ := id hnn
   have ha := (hRo.cells (i := b) (by rw [anw_len, unhide HN]; exact hbl))
   obtain ⟨a1, a1f⟩ := ha
   have hpx := part_at l (rch l) k hkr
   obtain ⟨pi, pn, e0, e1, e2, -, -⟩ := hBo.it k dB hpx
   have ef := hBo.bt.frozen
   have hnA : ∀ j, (⟨w2.heap.size, b, none⟩ : Addr) ≠ ⟨w2.heap.size + 1, j, none⟩ := fun j e => by injection e with e3; omega
   have hxd : x = l.getD ((rch l).getD k 0).toNat dB := by rw [← hz, hb, Int.toNat_natCast, List.getD_eq_getElem?_getD, hx]; rfl
   have hmv : Vc.Mv wr (wr.setCell ⟨w2.heap.size, b, none⟩ (.int .i64 (k : Int))) (fun k => k < w.heap.size ∧ ¬ F k) (fun k => k ≠ w2.heap.size + 1 ∧ ¬ (k = w2.heap.size ∨ k = w.heap.size ∨ k = w.heap.size + 1 ∨ F k)) := fun q _ hq => by
    have h9 : q < w.heap.size := hq.1
    exact ⟨⟨by omega, fun h => by rcases h with h | h | h | h <;> first | omega | exact hq.2 h⟩, heap_setCell_other wr ⟨w2.heap.size, b, none⟩ q _ (by show q ≠ w2.heap.size; omega)⟩
   have hin2 := LL.moved hmv (by simp) (fun _ _ q => q.moved hmv) hin
   have hnn2 := hnn.moved hmv
   have hBo2 := hBo.setA (i := b) (.inl rfl) (by omega) (.int .i64 (k : Int))
   have hset := hBo2.setAll (y := x) hpx hin2 hnn2
   rw [hxd, part_step l (rch l) k hkr, ← hxd] at hset
   have hRo2 := hRo.set (i := b) (by rw [anw_len, unhide HN]; exact hbl) (k : Int)
   have has := anw_succ (rch l) n k
   rw [← hz, hb, Int.toNat_natCast] at has
   rw [← has] at hRo2
   have hRo3 : Ro ((((wr.setCell ⟨w2.heap.size, b, none⟩ (.int .i64 (k : Int))).setCell ⟨w2.heap.size + 1, k * 3, none⟩ (.slice ia x.ins.length ic)).setCell ⟨w2.heap.size + 1, k * 3 + 1, none⟩ (.slice na x.next.length nc)).setCell ⟨w2.heap.size + 1, k * 3 + 2, none⟩ (.int .i64 x.dep)) w2.heap.size (.slice (some ⟨w2.heap.size, 0, none⟩) n n) (anw (rch l) n (k + 1)) := hRo2.keep fun q hq => by
    have h9 : w2.heap.size = q := Option.some.inj hq
    have hne' : q ≠ w2.heap.size + 1 := by omega
    rw [heap_setCell_other _ _ _ _ (by exact hne'), heap_setCell_other _ _ _ _ (by exact hne'), heap_setCell_other _ _ _ _ (by exact hne')]
   have hF3 := (hFk.set1 b (.int .i64 (k : Int))).three (k * 3) (k * 3 + 1) (k * 3 + 2) (.slice ia x.ins.length ic) (.slice na x.next.length nc) (.int .i64 x.dep)
   have hki : (k : Int) < (R : Int) := by omega
   have HSet := hide hset; have HRo3 := hide hRo3; have HF3 := hide hF3; have HLt := hide hlt
   clear hset hRo3 hF3 hRo2 has hBo2 hin2 hnn2 hmv hin hnn hRo hBo hFk hBl hbw hkp hz hb hzr hxd hx hpx hkr hbl hlt hk
   go_upto_region 9 with fail
   have ot : ∀ q o v, q ≠ w2.heap.size → wr.cell? ⟨q, o, none⟩ = some v → (wr.setCell ⟨w2.heap.size, b, none⟩ (.int .i64 (k : Int))).cell? ⟨q, o, none⟩ = some v := fun q o v hq e => by
    rw [World.cell?_setCell_other _ _ _ _ (by intro e2; injection e2 with e3; exact hq e3.symm)]; exact e
   have c3' := ot _ _ _ (by omega) c3
   have d0' := ot _ _ _ (by omega) d0; have d1' := ot _ _ _ (by omega) d1; have d2' := ot _ _ _ (by omega) d2
   have e0' := ot _ _ _ (by omega) e0; have e1' := ot _ _ _ (by omega) e1; have e2' := ot _ _ _ (by omega) e2
   have ef' : ∀ o, (wr.setCell ⟨w2.heap.size, b, none⟩ (.int .i64 (k : Int))).frozen? ⟨w2.heap.size + 1, o, none⟩ = false := fun o => by
    rw [World.frozen?_of_block (w := wr) (heap_setCell_other wr ⟨w2.heap.size, b, none⟩ _ _ (by show w2.heap.size + 1 ≠ w2.heap.size; omega))]; exact ef o
   clear ot c3 d0 d1 d2 e0 e1 e2 ef a1 a1f x1
   generalize wr.setCell ⟨w2.heap.size, b, none⟩ (.int .i64 (k : Int)) = W5 at *
   go_wp2_with fail
   go_roundw
   case rel => exact ⟨k + 1, by have := unhide HLt; omega, by go_num, unhide HRo3, unhide HSet, unhide HF3⟩
   case measure => have := unhide HLt; simp [intOf]; omega
  ·obtain rfl : k = R := by omega
   rw [show part l (rch l) k = pick l (rch l) by rw [unhide HR, part_all]] at hBo
   have hkp := unhide HKeep wr hFk
   have hbw : Below w.heap.size w wr := ⟨hFk.os.trans ((unhide HB24).os.trans (unhide HB3).os), hFk.tape.trans ((unhide HB24).tape.trans (unhide HB3).tape), hFk.output.trans ((unhide HB24).output.trans (unhide HB3).output), by have := hFk.size; have := (unhide HB24).size; have := (unhide HB3).size; omega, fun k hk => (hkp k (by omega)).trans ((unhide HB3).block k hk)⟩
   have q0 := (hkp w.heap.size cl).trans (unhide HQ1)
   have q2 := (hkp (w.heap.size + 1) (by have := (Array.getElem?_eq_some_iff.1 (unhide HQ2)).1; omega)).trans (unhide HQ2)
   have hBlt := hBo.lt
   have hBo6 := hBo.setA (i := 3) (.inr (.inl rfl)) (by omega) (.slice (some ⟨w2.heap.size + 1, 0, none⟩) k k)
   have hRo6 : Ro (wr.setCell ⟨w.heap.size, 3, none⟩ (.slice (some ⟨w2.heap.size + 1, 0, none⟩) k k)) w2.heap.size (.slice (some ⟨w2.heap.size, 0, none⟩) n n) (anw (rch l) n k) := hRo.keep fun q hq => by
    have h9 : w2.heap.size = q := Option.some.inj hq
    exact heap_setCell_other wr ⟨w.heap.size, 3, none⟩ q _ (by show q ≠ w.heap.size; omega)
   have hq6 : (wr.setCell ⟨w.heap.size, 3, none⟩ (.slice (some ⟨w2.heap.size + 1, 0, none⟩) k k)).heap[w.heap.size]? = some (.cells (cob pa re rs (.slice (some ⟨w2.heap.size + 1, 0, none⟩) k k)) 29 (0, 0)) := (heap_setCell_same wr w.heap.size 3 _ _ _ q0).trans rfl
   have hq7 : (wr.setCell ⟨w.heap.size, 3, none⟩ (.slice (some ⟨w2.heap.size + 1, 0, none⟩) k k)).heap[w.heap.size + 1]? = some (.cells (cob 0 0 false (.slice none 0 0)) 29 (0, 0)) := (heap_setCell_other wr ⟨w.heap.size, 3, none⟩ _ _ (by show w.heap.size + 1 ≠ w.heap.size; omega)).trans q2
   have hbw6 := hbw.setCell (p := ⟨w.heap.size, 3, none⟩) (Nat.le_refl _) (.slice (some ⟨w2.heap.size + 1, 0, none⟩) k k)
   have hs6 : (wr.setCell ⟨w.heap.size, 3, none⟩ (.slice (some ⟨w2.heap.size + 1, 0, none⟩) k k)).heap.size = wr.heap.size := by simp
   obtain ⟨c0, c1, c2, c3, cf, cl2⟩ := cob_cells q0
   have HBo6 := hide hBo6; have HRo6 := hide hRo6; have HQ6 := hide hq6; have HQ7 := hide hq7; have HBw6 := hide hbw6; have HS6 := hide hs6; have HBlt := hide hBlt
   clear hBo6 hRo6 hq6 hq7 hbw6 hs6 hBlt hBo hRo hFk hkp hbw q0 q2 hlt hk
   go_upto_region 12 with fail
   generalize wr.setCell ⟨w.heap.size, 3, none⟩ (.slice (some ⟨w2.heap.size + 1, 0, none⟩) k k) = W6 at *
   clear c0 c1 c2 c3 cf cl2
   have hpl : (pick l (rch l)).length = k := by rw [unhide HR]; unfold pick; rw [List.length_map]
   have hpm := pick_mem (unhide HC) (unhide H3)
   have hcall := tellNext_any (pick l (rch l)) (by rw [hpl]; have := unhide H2; have := unhide HLn; have := unhide HR; omega) (fun b hb => (unhide HC).nok.nlen b (hpm b hb)) (anw (rch l) n k) (fun b hb z hz => by rw [anw_len, unhide HN]; exact (unhide HC).nok.rng b (hpm b hb) z hz) (w2.heap.size + 1) (w2.heap.size + 1) (fun k => k = w2.heap.size ∨ k = w.heap.size ∨ k = w.heap.size + 1 ∨ F k) k (.slice (some ⟨w2.heap.size, 0, none⟩) n n) W6 (unhide HBo6) ((unhide HRo6).nums2 _ ⟨by have := unhide HS6; have := unhide HBlt; omega, by omega⟩) (by rw [anw_len]; have := unhide HLn; have := unhide HN; omega) (fun q hq => by have := unhide HS6; have := unhide HBlt; rcases hq with h | h | h | h <;> first | omega | (have := unhide HFF q h; omega))
   rw [hpl] at hcall
   have hfin : (pick l (rch l)).map (tellB (anw (rch l) n k)) = trimB l := by unfold trimB; rw [← unhide HN, ← unhide HR]
   rw [hfin] at hcall
   have hpost : ∀ w7, Bo w7 (w2.heap.size + 1) (w2.heap.size + 1) (fun k => k = w2.heap.size ∨ k = w.heap.size ∨ k = w.heap.size + 1 ∨ F k) k (trimB l) → Fo (w2.heap.size + 1) W6 w7 → w7.heap[w.heap.size]? = some (.cells (cob pa re rs (.slice (some ⟨w2.heap.size + 1, 0, none⟩) k k)) 29 (0, 0)) ∧ w7.heap[w.heap.size + 1]? = some (.cells (cob 0 0 false (.slice none 0 0)) 29 (0, 0)) ∧ Below w.heap.size w w7 ∧ Bls ((((w7.setCell ⟨w.heap.size + 1, 0, none⟩ (.int .i64 pa)).setCell ⟨w.heap.size + 1, 1, none⟩ (.int .i64 re)).setCell ⟨w.heap.size + 1, 2, none⟩ (.bool rs)).setCell ⟨w.heap.size + 1, 3, none⟩ (.slice (some ⟨w2.heap.size + 1, 0, none⟩) k k)) (fun q => q < ((((w7.setCell ⟨w.heap.size + 1, 0, none⟩ (.int .i64 pa)).setCell ⟨w.heap.size + 1, 1, none⟩ (.int .i64 re)).setCell ⟨w.heap.size + 1, 2, none⟩ (.bool rs)).setCell ⟨w.heap.size + 1, 3, none⟩ (.slice (some ⟨w2.heap.size + 1, 0, none⟩) k k)).heap.size ∧ ¬ F q) (trimB l) (.slice (some ⟨w2.heap.size + 1, 0, none⟩) k k) := fun w7 h1 h2 => by
    have h6 := unhide HS6
    have h8 := unhide HBlt
    refine ⟨(h2.keep _ (by omega) (by omega)).trans (unhide HQ6), (h2.keep _ (by omega) (by omega)).trans (unhide HQ7), (unhide HBw6).trans (h2.below (by omega) (by omega)), ?_⟩
    have hb := (((h1.setA (a := w.heap.size + 1) (i := 0) (.inr (.inr (.inl rfl))) (by omega) (.int .i64 pa)).setA (a := w.heap.size + 1) (i := 1) (.inr (.inr (.inl rfl))) (by omega) (.int .i64 re)).setA (a := w.heap.size + 1) (i := 2) (.inr (.inr (.inl rfl))) (by omega) (.bool rs)).setA (a := w.heap.size + 1) (i := 3) (.inr (.inr (.inl rfl))) (by omega) (.slice (some ⟨w2.heap.size + 1, 0, none⟩) k k)
    refine hb.blsA ?_ _ (fun q hq h => ⟨hq, fun hf => by rcases h with h | h; (have := unhide HFF q hf; omega); exact h (.inr (.inr (.inr hf)))⟩)
    unfold trimB; rw [List.length_map, hpl]
   have HCall := hide hcall; have HPost := hide hpost
   clear hcall hpost hpl hpm hfin HKeep HHro HHbo
   go_wp2_with (go_at_call 68; refine (unhide HCall).mono ?_; rintro e w7 ⟨rfl, h1, h2⟩; obtain ⟨j1, j2, j3, j4⟩ := unhide HPost w7 h1 h2; obtain ⟨c0, c1, c2, c3, cf, cl3⟩ := cob_cells j1; obtain ⟨y0, y1, y2, y3, yf, yl⟩ := cob_cells j2; have HJ2 := hide j2; have HJ3 := hide j3; have HJ4 := hide j4; clear h1 h2 j1 j2 j3 j4)
   have hr8 := set4c w7 (w.heap.size + 1) _ _ _ _ _ (.int .i64 pa) (.int .i64 re) (.bool rs) (.slice (some ⟨w2.heap.size + 1, 0, none⟩) k k) (unhide HJ2)
   have hb8 := Vc.bel4 (unhide HJ3) (w.heap.size + 1) (Nat.le_succ _) (.int .i64 pa) (.int .i64 re) (.bool rs) (.slice (some ⟨w2.heap.size + 1, 0, none⟩) k k)
   generalize (((w7.setCell ⟨w.heap.size + 1, 0, none⟩ (.int .i64 pa)).setCell ⟨w.heap.size + 1, 1, none⟩ (.int .i64 re)).setCell ⟨w.heap.size + 1, 2, none⟩ (.bool rs)).setCell ⟨w.heap.size + 1, 3, none⟩ (.slice (some ⟨w2.heap.size + 1, 0, none⟩) k k) = W8 at *
   have u0 := cell_of_row W8 (w.heap.size + 1) 0 _ _ _ hr8; have u1 := cell_of_row W8 (w.heap.size + 1) 1 _ _ _ hr8; have u2 := cell_of_row W8 (w.heap.size + 1) 2 _ _ _ hr8; have u3 := cell_of_row W8 (w.heap.size + 1) 3 _ _ _ hr8
   simp only [List.getElem?_toArray, List.getElem?_cons_zero, List.getElem?_cons_succ] at u0 u1 u2 u3
   exact bodyPost_ret (v := .agg #[.int .i64 pa, .int .i64 re, .bool rs, .slice (some ⟨w2.heap.size + 1, 0, none⟩) k k]) (by simp [results, Tryz.results42, go_sem, u0, u1, u2, u3]) rfl ⟨_, rfl, unhide HJ4, hb8⟩
theorem trimmed_any (l : List Bl) (hc : Cok l) (pa re : Int) (rs : Bool) (g : Nat → Prop) (vb : Value) (w : World) (hB : Bls w g l vb) (hg : ∀ k, g k → k < w.heap.size) :
    Calls Tryz.prog 42 #[.agg #[.int .i64 pa, .int .i64 re, .bool rs, vb]] w fun e w' => ∃ v', e = .returned (.agg #[.int .i64 pa, .int .i64 re, .bool rs, v']) ∧ Bls w' (fun k => k < w'.heap.size) (trimB l) v' ∧ Below w.heap.size w w' := by
 refine (trimmed_F l hc pa re rs g (fun _ => False) vb w hB (fun k h => ⟨hg k h, fun h => h⟩) (fun k h => h.elim)).mono ?_
 rintro e w' ⟨v', rfl, h, hb⟩
 exact ⟨v', rfl, h.moved (fun k hk _ => ⟨hk, rfl⟩) (Nat.le_refl _), hb⟩
end Fw
namespace Fw
open Vc (NumsL Nums Lies LL Bls BlC InC Bl Co infoN infoBl own_base RowT)
/- flow: what is taken by each block. -/
def wy1 (o : List Int) (n : Nat) : List Int := o.set n (o.getD n 0 + 1)
def wys (nx : List (List Nat)) (k : Nat) : List Int := (List.range k).foldl (fun o b => (nx.getD b []).foldl wy1 o) (List.replicate nx.length 0)
theorem wys_succ (nx : List (List Nat)) (k : Nat) : wys nx (k + 1) = (nx.getD k []).foldl wy1 (wys nx k) := by unfold wys; rw [List.range_succ, List.foldl_append]; rfl
structure WyI (n c : Nat) (o : List Int) : Prop where
 len : o.length = n
 row : ∀ i, i < n → 0 ≤ o.getD i 0 ∧ o.getD i 0 ≤ (c : Int)
theorem WyI.step {n c : Nat} {o : List Int} (h : WyI n c o) {x : Nat} (hx : x < n) : WyI n (c + 1) (wy1 o x) := by
 refine ⟨by simp [wy1, h.len], fun i hi => ?_⟩
 unfold wy1
 rw [getD_set _ _ _ _ (by rw [h.len]; exact hx)]
 have h1 := h.row x hx
 have h2 := h.row i hi
 split <;> omega
theorem WyI.steps {n : Nat} : ∀ (r : List Nat) {c : Nat} {o : List Int} (h : WyI n c o) (hx : ∀ x ∈ r, x < n), WyI n (c + r.length) (r.foldl wy1 o) := by
 intro r
 induction r with
 | nil => intro c o h _; exact h
 | cons x r ih =>
   intro c o h hx
   have := ih (h.step (hx x (List.mem_cons_self ..))) fun y hy => hx y (List.mem_cons_of_mem _ hy)
   simpa [Nat.add_assoc, Nat.add_comm 1] using this
theorem WyI.mono {n c d : Nat} {o : List Int} (h : WyI n c o) (hc : c ≤ d) : WyI n d o := ⟨h.len, fun i hi => by have := h.row i hi; omega⟩
theorem wys_inv {nx : List (List Nat)} (hn : In nx) (hl : ∀ b, (nx.getD b []).length ≤ 1048576) : ∀ k, WyI nx.length (k * 1048576) (wys nx k) := by
 intro k
 induction k with
 | zero => exact ⟨by simp [wys], fun i hi => by rw [show wys nx 0 = List.replicate nx.length 0 from rfl, getD_get _ _ _ (by simpa using hi)]; simp⟩
 | succ k ih => rw [wys_succ]; exact (WyI.steps _ ih (hn k)).mono (by have := hl k; omega)
def wyj (l : List Int) (o : List Int) (j : Nat) : List Int := ((l.map Int.toNat).take j).foldl wy1 o
theorem wyj_succ (l : List Int) (o : List Int) {j x : Nat} (h : (l.map Int.toNat)[j]? = some x) : wyj l o (j + 1) = wy1 (wyj l o j) x := by unfold wyj; rw [fold_take _ _ _ _ h]
theorem wyj_all (l : List Int) (o : List Int) : wyj l o l.length = (l.map Int.toNat).foldl wy1 o := by unfold wyj; rw [List.take_of_length_le (by simp)]
def takes1 (x : Bl) (ways : List Int) : Bool := decide ((endI x).op = 193) && (decide (x.next.getD 0 0 ≠ 0) && decide (ways.getD (x.next.getD 0 0).toNat 0 = 1))
def tks (l : List Bl) (ways : List Int) (k : Nat) : List Int := (List.range k).foldl (fun o i => if takes1 (l.getD i dB) ways = true then o.set i ((l.getD i dB).next.getD 0 0) else o) (List.replicate l.length (-1))
def takes (l : List Bl) : List Int := tks l (wys (nxs l) l.length) l.length
theorem tks_succ (l : List Bl) (ways : List Int) (k : Nat) : tks l ways (k + 1) = if takes1 (l.getD k dB) ways = true then (tks l ways k).set k ((l.getD k dB).next.getD 0 0) else tks l ways k := by unfold tks; rw [List.range_succ, List.foldl_append]; rfl
theorem tks_len (l : List Bl) (ways : List Int) (k : Nat) : (tks l ways k).length = l.length := by
 induction k with
 | zero => simp [tks]
 | succ k ih => rw [tks_succ]; split <;> simp [ih]
theorem takesOf_any (l : List Bl) (hc : Cok l) (N : Nat) (vb : Value) (w : World) (hB : Bls w (fun k => k < N) l vb) (hN : N ≤ w.heap.size) :
    Calls Tryz.prog 73 #[vb] w fun e w' => ∃ v, e = .returned v ∧ Ro w' w.heap.size v (takes l) ∧ Below w.heap.size w w' := by
 obtain ⟨va, vc, rfl, -, -, -⟩ := id hB
 obtain ⟨i0, hi, hz0, hz1, hz2⟩ := info_parts infoN
 have hlen := hc.nok.len
 obtain ⟨n, hn⟩ : ∃ n, n = l.length := ⟨_, rfl⟩
 have hmk := fun wx => run_make (P := Tryz.prog) wx 31 3 i0 (.int .i64 0) Tryz.underlying31 hi hz0 .i64 .i64 (n : Int) (n : Int) (by omega) (by omega) (by rw [hz2]; omega) (by omega)
 rw [hz1] at hmk
 simp only [Int.toNat_natCast, Nat.mul_one] at hmk
 rw [show (Value.int IntKind.i64 0).cells = #[Value.int IntKind.i64 0] from rfl] at hmk
 have hro := Ro.made w n (by omega)
 have hb1 := Vc.one_alloc w (.cells (madeCells (Value.int .i64 0).cells n) 3)
 rw [show (Value.int IntKind.i64 0).cells = #[Value.int IntKind.i64 0] from rfl] at hro hb1
 rw [← hn] at hlen ⊢
 have hn1 : 1 ≤ n := by rw [hn]; exact hc.one
 have HB := hide hB; have HC := hide hc; have HN := hide hn; have HNw := hide hN; have HRo := hide hro; have HB1 := hide hb1; have HLn := hide hlen; have HN1 := hide hn1
 have hni : (n : Int) ≤ 1048576 := by omega
 clear hB hc hn hN hro hb1 hlen hn1
 go_enter Tryz.func73, Tryz.ntmps73
 go_wp2_with fail
 generalize w.alloc (.cells (madeCells #[.int .i64 0] n) 3) = W1 at *
 go_loopw [17] (fun c wr => ∃ k : Nat, k ≤ n ∧ c = .int .i64 (k : Int) ∧ Ro wr w.heap.size (.slice (some ⟨w.heap.size, 0, none⟩) n n) (wys (nxs l) k) ∧ Below w.heap.size w wr) (fun c _ => n - (intOf c).toNat)
 case atStart => exact ⟨0, Nat.zero_le _, rfl, by rw [show wys (nxs l) 0 = List.replicate n 0 by rw [unhide HN]; simp [wys, nxs_len]]; exact unhide HRo, unhide HB1⟩
 case round =>
  obtain ⟨k, hk, rfl, hR, hb⟩ := hrel
  by_cases hlt : k < n
  ·obtain ⟨x, hx⟩ : ∃ x, l[k]? = some x := ⟨_, List.getElem?_eq_getElem (by rw [← unhide HN]; exact hlt)⟩
   have hBw := bls_on (unhide HB) (hb.mono (unhide HNw))
   obtain ⟨Bb, ob, vi, vn, hva, hBN, hBl, -, d0, d1, d2, hin, hnn⟩ := blk_next hBw hx
   subst hva
   obtain ⟨ia, ic, rfl, -, -, -⟩ := id hin
   obtain ⟨na, nc, rfl, -, -, -⟩ := id hnn
   have hxl : x.next.length ≤ 1048576 := (unhide HC).nok.nlen x (List.mem_of_getElem? hx)
   have hwi := wys_inv (nx := nxs l) (unhide HC).nok.inn (nxs_rows (unhide HC).nok) k
   rw [nxs_len] at hwi
   obtain ⟨m, hm⟩ : ∃ m, m = x.next.length := ⟨_, rfl⟩
   rw [← hm] at d1 hxl
   have hmi : (m : Int) ≤ 1048576 := by omega
   have hbx := Vc.one_alloc wr (.cells #[.slice ia x.ins.length ic, .slice na m nc, .int .i64 x.dep] 56)
   have hR1 := hR.below hbx
   have hkn : (k : Int) < (n : Int) := by omega
   have HX := hide hx; have HNn := hide hnn; have HM := hide hm; have HWi := hide hwi; have HR1 := hide hR1; have HB := hide hb; have HBx := hide (hb.trans (hbx.mono hb.size)); have HLt := hide hlt
   clear hx hnn hin hm hwi hbx hR1 hR hb hBw hlt hk hxl HRo HB1
   go_wp2_with fail
   generalize wr.alloc (.cells #[.slice ia x.ins.length ic, .slice na m nc, .int .i64 x.dep] 56) = WX at *
   clear d0 d1 d2
   go_loopw [24] (fun c wq => ∃ j : Nat, j ≤ m ∧ c = .int .i64 (j : Int) ∧ Ro wq w.heap.size (.slice (some ⟨w.heap.size, 0, none⟩) n n) (wyj x.next (wys (nxs l) k) j) ∧ Below w.heap.size w wq) (fun c _ => m - (intOf c).toNat)
   case atStart => exact ⟨0, Nat.zero_le _, rfl, unhide HR1, unhide HBx⟩
   case round =>
    generalize wr = wq at *
    obtain ⟨j, hj, rfl, hRj, hbj⟩ := hrel
    by_cases hjm : j < m
    ·obtain ⟨t, hz, htl, hgt⟩ := (unhide HC).nok.at_ (unhide HX) (k := j) (by rw [← unhide HM]; exact hjm)
     obtain ⟨Bn, on, hna, -, hnc⟩ := nums_at (nums_via (unhide HNn) ((unhide HB).mono (unhide HNw)) (hbj.mono (unhide HNw))) (k := j) (by rw [← unhide HM]; exact hjm)
     subst hna
     have x1 := hnc j (by rw [← unhide HM]; exact hjm)
     rw [hz] at x1
     have hwj : WyI l.length (k * 1048576 + j) (wyj x.next (wys (nxs l) k) j) := by
      have h5 := WyI.steps ((x.next.map Int.toNat).take j) (unhide HWi) (fun y hy => by have h6 := List.mem_of_mem_take hy; rw [← nxs_at (unhide HX)] at h6; have := (unhide HC).nok.inn k y h6; rw [nxs_len] at this; exact this)
      exact h5.mono (by rw [List.length_take]; omega)
     have hst := wyj_succ x.next (wys (nxs l) k) hgt
     obtain ⟨x2, x2f⟩ := hRj.cells (i := t) (by rw [hwj.len]; exact htl)
     have hyr := hwj.row t htl
     have hR9 := hRj.set (i := t) (by rw [hwj.len]; exact htl) ((wyj x.next (wys (nxs l) k) j).getD t 0 + 1)
     rw [show (wyj x.next (wys (nxs l) k) j).set t ((wyj x.next (wys (nxs l) k) j).getD t 0 + 1) = wyj x.next (wys (nxs l) k) (j + 1) by rw [hst]; rfl] at hR9
     obtain ⟨y, hy⟩ : ∃ y, y = (wyj x.next (wys (nxs l) k) j).getD t 0 := ⟨_, rfl⟩
     rw [← hy] at x2 hyr hR9
     have hB9 := hbj.setCell (p := ⟨w.heap.size, t, none⟩) (Nat.le_refl _) (.int .i64 (y + 1))
     have hy1 : y ≤ 2199023255552 := by have := unhide HLt; have := unhide HLn; omega
     have hy0 := hyr.1
     have htn : (t : Int) < (n : Int) := by rw [unhide HN]; omega
     have hji : (j : Int) < (m : Int) := by omega
     have HR9 := hide hR9; have HB9 := hide hB9
     clear hR9 hB9 hst hy hRj hbj hnc hwj hgt hz htl hyr
     go_wp2_with fail
     go_roundw
     case rel => exact ⟨j + 1, by omega, by go_num, unhide HR9, unhide HB9⟩
     case measure => simp [intOf]; omega
    ·obtain rfl : j = m := by omega
     have hfin : wyj x.next (wys (nxs l) k) j = wys (nxs l) (k + 1) := by rw [unhide HM, wyj_all, wys_succ, nxs_at (unhide HX)]
     rw [hfin] at hRj
     have HRj := hide hRj; have HBj := hide hbj
     clear hRj hbj hfin hjm hj
     go_wp2_with fail
     go_roundw
     case rel => exact ⟨k + 1, unhide HLt, by go_num, unhide HRj, unhide HBj⟩
     case measure => have := unhide HLt; simp [intOf]; omega
  ·obtain rfl : k = n := by omega
   obtain ⟨ways, hways⟩ : ∃ ways, ways = wys (nxs l) k := ⟨_, rfl⟩
   have hwi := wys_inv (nx := nxs l) (unhide HC).nok.inn (nxs_rows (unhide HC).nok) k
   rw [nxs_len, ← hways] at hwi
   rw [← hways] at hR
   have hrep := fun W h => repeat_any k (unhide HN1) (unhide HLn) wr.heap.size 0 W h
   have HR := hide hR; have HBq := hide hb; have HWi := hide hwi; have HWays := hide hways; have HRep := hide hrep
   have hal := Vc.one_alloc wr (.cells #[.int .i64 (-1)] 3)
   have HAl := hide hal
   have hx0 : (wr.alloc (.cells #[.int .i64 (-1)] 3)).cell? ⟨wr.heap.size, 0, none⟩ = some (.int .i64 (-1)) := by
    have := heap_alloc_new wr (.cells #[.int .i64 (-1)] 3)
    rw [cell_of_row _ _ _ _ _ _ this]; rfl
   have HX0 := hide hx0
   clear hR hb hwi hways hrep hal hx0 hlt hk HRo HB1
   go_wp2_with (go_at_call 30; refine (unhide HRep _ (unhide HX0)).mono ?_; rintro e w3 ⟨v3, rfl, ho3, hb3⟩; obtain ⟨go, co, rfl, hgo, -, -, -, -⟩ := ho3.at_ (by rw [List.length_replicate]; exact unhide HN1))
   rw [List.length_replicate] at ho3
   have hs3 : wr.heap.size < w3.heap.size := by have := hb3.size; simp at this; omega
   have hbe : Below w.heap.size w w3 := (unhide HBq).trans (((unhide HAl).trans (hb3.mono (unhide HAl).size)).mono (unhide HBq).size)
   have hR3 := ((unhide HR).below (unhide HAl)).below hb3
   have h9 : (wr.alloc (.cells #[.int .i64 (-1)] 3)).heap.size = wr.heap.size + 1 := by simp
   have hgo2 : w.heap.size < go := by have := (unhide HBq).size; omega
   have hro3 := ho3.base (M := w.heap.size) (by have := (unhide HBq).size; omega)
   have HO := hide hro3; have HBe := hide hbe; have HR3 := hide hR3; have HGo := hide hgo2
   clear ho3 hb3 hs3 hbe hR3 hgo2 h9 hro3 hgo
   go_loopw [42] (fun c wq => ∃ i : Nat, i ≤ k ∧ c = .int .i64 (i : Int) ∧ Ro wq w.heap.size (.slice (some ⟨go, 0, none⟩) k co) (tks l ways i) ∧ Ro wq w.heap.size (.slice (some ⟨w.heap.size, 0, none⟩) k k) ways ∧ Below w.heap.size w wq) (fun c _ => k - (intOf c).toNat)
   case atStart => exact ⟨0, Nat.zero_le _, rfl, by rw [show tks l ways 0 = List.replicate k (-1) by rw [unhide HN]; rfl]; exact unhide HO, unhide HR3, unhide HBe⟩
   case round =>
    generalize wr = wq at *
    obtain ⟨i, hi9, rfl, hO, hW, hb⟩ := hrel
    by_cases hlt : i < k
    ·have hil : i < l.length := by rw [← unhide HN]; exact hlt
     obtain ⟨x, hx⟩ : ∃ x, x = l.getD i dB := ⟨_, rfl⟩
     have hxl : l[i]? = some x := by rw [hx]; exact get?_getD _ _ _ hil
     have hm := List.mem_of_getElem? hxl
     obtain ⟨hi0, hi1⟩ := (unhide HC).ins x hm
     have hBw := bls_on (unhide HB) (hb.mono (unhide HNw))
     obtain ⟨Bb, ob, vi, vn, hva, hBN, hBl, -, d0, d1, d2, hin, hnn⟩ := blk_next hBw hxl
     subst hva
     obtain ⟨ia, ic, rfl, -, -, -⟩ := id hin
     obtain ⟨na, nc, rfl, -, -, -⟩ := id hnn
     have hb1 := Vc.one_alloc wq (.cells #[.slice ia x.ins.length ic, .slice na x.next.length nc, .int .i64 x.dep] 56)
     have hst := tks_succ l ways i
     rw [← hx] at hst
     have hcall := end_any x hi0 hi1 _ (.slice ia x.ins.length ic) (.slice na x.next.length nc) (wq.alloc (.cells #[.slice ia x.ins.length ic, .slice na x.next.length nc, .int .i64 x.dep] 56)) (Vc.Inss.below hb1 hin) ⟨_, _, _, rfl⟩
     have hpost : ∀ w6, Below (wq.alloc (.cells #[.slice ia x.ins.length ic, .slice na x.next.length nc, .int .i64 x.dep] 56)).heap.size (wq.alloc (.cells #[.slice ia x.ins.length ic, .slice na x.next.length nc, .int .i64 x.dep] 56)) w6 → Ro w6 w.heap.size (.slice (some ⟨go, 0, none⟩) k co) (tks l ways i) ∧ Ro w6 w.heap.size (.slice (some ⟨w.heap.size, 0, none⟩) k k) ways ∧ Below w.heap.size w w6 ∧ w6.cell? ⟨wq.heap.size, 1, none⟩ = some (.slice na x.next.length nc) ∧ NumsL w6 (fun k => k < N) x.next (.slice na x.next.length nc) := fun w6 h6 => by
      have h7 := hb1.trans (h6.mono hb1.size)
      refine ⟨(hO.below hb1).below h6, (hW.below hb1).below h6, hb.trans (h7.mono hb.size), ?_, Vc.NumsL.below h7 hnn⟩
      rw [h6.cell (p := ⟨wq.heap.size, 1, none⟩) (by simp)]
      have := heap_alloc_new wq (.cells #[.slice ia x.ins.length ic, .slice na x.next.length nc, .int .i64 x.dep] 56)
      rw [cell_of_row _ _ _ _ _ _ this]; rfl
     obtain ⟨op, hop⟩ : ∃ op, op = (endI x).op := ⟨_, rfl⟩
     rw [← hop] at hcall
     have hiki : (i : Int) < (k : Int) := by omega
     have HCall := hide hcall; have HPost := hide hpost; have HSt := hide hst; have HOp := hide hop; have HLt := hide hlt; have HXl := hide hxl
     clear hcall hpost hst hop hlt hxl hx hm hi0 hi1 hBw hin hnn hb1 hO hW hb hil hi9
     by_cases ho : op = 193
     ·subst ho
      have hM1 : x.next.length = 1 := (unhide HC).jmp x (List.mem_of_getElem? (unhide HXl)) (unhide HOp).symm
      obtain ⟨t, hz, htl, -⟩ := (unhide HC).nok.at_ (unhide HXl) (k := 0) (by omega)
      obtain ⟨y, hy⟩ : ∃ y, y = ways.getD t 0 := ⟨_, rfl⟩
      have hst := unhide HSt
      have htk : takes1 x ways = (decide ((t : Int) ≠ 0) && decide (y = 1)) := by unfold takes1; rw [← unhide HOp, hz, Int.toNat_natCast, ← hy]; simp
      rw [htk, hz] at hst
      have hpost2 : ∀ w6, Below (wq.alloc (.cells #[.slice ia x.ins.length ic, .slice na x.next.length nc, .int .i64 x.dep] 56)).heap.size (wq.alloc (.cells #[.slice ia x.ins.length ic, .slice na x.next.length nc, .int .i64 x.dep] 56)) w6 → w6.cell? ⟨wq.heap.size, 1, none⟩ = some (.slice na 1 nc) ∧ (∃ Bn on, na = some ⟨Bn, on, none⟩ ∧ w6.cell? ⟨Bn, on, none⟩ = some (.int .i64 (t : Int))) ∧ w6.cell? ⟨w.heap.size, t, none⟩ = some (.int .i64 y) ∧ (w6.cell? ⟨go, i, none⟩ = some (.int .i64 ((tks l ways i).getD i 0)) ∧ w6.frozen? ⟨go, i, none⟩ = false) := fun w6 h6 => by
       obtain ⟨j1, j2, j3, j4, j5⟩ := unhide HPost w6 h6
       rw [hM1] at j4
       refine ⟨j4, ?_, ?_, j1.cells (by rw [tks_len, ← unhide HN]; exact unhide HLt)⟩
       ·obtain ⟨Bn, on, e1, -, e3⟩ := nums_at j5 (k := 0) (by omega)
        have e4 := e3 0 (by omega)
        rw [hz, Nat.add_zero] at e4
        exact ⟨Bn, on, e1, e4⟩
       ·rw [hy]; exact (j2.cells (by rw [(unhide HWi).len]; exact htl)).1
      obtain ⟨-, ⟨Bn, on, hna, -⟩, -⟩ := hpost2 _ (Below.refl _ _)
      subst hna
      have hpost3 : ∀ w6, Below (wq.alloc (.cells #[.slice ia x.ins.length ic, .slice (some ⟨Bn, on, none⟩) x.next.length nc, .int .i64 x.dep] 56)).heap.size (wq.alloc (.cells #[.slice ia x.ins.length ic, .slice (some ⟨Bn, on, none⟩) x.next.length nc, .int .i64 x.dep] 56)) w6 → w6.cell? ⟨wq.heap.size, 1, none⟩ = some (.slice (some ⟨Bn, on, none⟩) 1 nc) ∧ w6.cell? ⟨Bn, on, none⟩ = some (.int .i64 (t : Int)) ∧ w6.cell? ⟨w.heap.size, t, none⟩ = some (.int .i64 y) ∧ (w6.cell? ⟨go, i, none⟩ = some (.int .i64 ((tks l ways i).getD i 0)) ∧ w6.frozen? ⟨go, i, none⟩ = false) := fun w6 h6 => by
       obtain ⟨j4, ⟨B9, o9, k2, k3⟩, j6, j7⟩ := hpost2 w6 h6
       cases k2
       exact ⟨j4, k3, j6, j7⟩
      obtain ⟨u, hu⟩ : ∃ u, u = (tks l ways i).getD i 0 := ⟨_, rfl⟩
      rw [← hu] at hpost3
      have htk2 : (t : Int) < (k : Int) := by rw [unhide HN]; omega
      have HPost3 := hide hpost3
      clear hpost2 hpost3 htk hy hM1 hu htl hz
      have hgoset : ∀ w6, Below (wq.alloc (.cells #[.slice ia x.ins.length ic, .slice (some ⟨Bn, on, none⟩) x.next.length nc, .int .i64 x.dep] 56)).heap.size (wq.alloc (.cells #[.slice ia x.ins.length ic, .slice (some ⟨Bn, on, none⟩) x.next.length nc, .int .i64 x.dep] 56)) w6 → Ro (w6.setCell ⟨go, i, none⟩ (.int .i64 (t : Int))) w.heap.size (.slice (some ⟨go, 0, none⟩) k co) ((tks l ways i).set i (t : Int)) ∧ Ro (w6.setCell ⟨go, i, none⟩ (.int .i64 (t : Int))) w.heap.size (.slice (some ⟨w.heap.size, 0, none⟩) k k) ways ∧ Below w.heap.size w (w6.setCell ⟨go, i, none⟩ (.int .i64 (t : Int))) := fun w6 h6 => by
       obtain ⟨j1, j2, j3, -, -⟩ := unhide HPost w6 h6
       refine ⟨j1.set (by rw [tks_len, ← unhide HN]; exact unhide HLt) _, j2.keep fun q hq => ?_, j3.setCell (p := ⟨go, i, none⟩) (Nat.le_of_lt (unhide HGo)) _⟩
       have h9 : w.heap.size = q := Option.some.inj hq
       exact heap_setCell_other w6 ⟨go, i, none⟩ q _ (by show q ≠ go; have := unhide HGo; omega)
      have HGs := hide hgoset
      clear hgoset
      by_cases ht0 : t = 0
      ·subst ht0
       have hst' : tks l ways (i + 1) = tks l ways i := by rw [hst]; simp
       have HSt2 := hide hst'
       clear hst hst'
       go_wp2_with (go_at_call 71; refine (unhide HCall).mono ?_; rintro e w6 ⟨vs, rfl, -, hb6⟩; obtain ⟨j1, j2, j3, -, -⟩ := unhide HPost w6 hb6; obtain ⟨p1, p2, p3, p4, p5⟩ := unhide HPost3 w6 hb6; have J1 := hide j1; have J2 := hide j2; have J3 := hide j3; clear hb6 j1 j2 j3)
       rename_i hK
       refine hK _ _ ?_
       go_simp
       go_wp2_with fail
       go_roundw
       case rel => exact ⟨i + 1, unhide HLt, by go_num, by rw [unhide HSt2]; exact unhide J1, unhide J2, unhide J3⟩
       case measure => have := unhide HLt; simp [intOf]; omega
      ·have ht1 : ((t : Int) != 0) = true := by simp; omega
       by_cases hy1 : y = 1
       ·subst hy1
        have hst' : tks l ways (i + 1) = (tks l ways i).set i (t : Int) := by rw [hst]; simp; omega
        have HSt2 := hide hst'
        clear hst hst' ht0
        go_wp2_with (go_at_call 71; refine (unhide HCall).mono ?_; rintro e w6 ⟨vs, rfl, -, hb6⟩; obtain ⟨j1, j2, j3⟩ := unhide HGs w6 hb6; obtain ⟨p1, p2, p3, p4, p5⟩ := unhide HPost3 w6 hb6; have J1 := hide j1; have J2 := hide j2; have J3 := hide j3; clear hb6 j1 j2 j3)
        rename_i hK
        refine hK _ _ ?_
        go_simp
        go_wp2_with fail
        go_roundw
        case rel => exact ⟨i + 1, unhide HLt, by go_num, by rw [unhide HSt2]; exact unhide J1, unhide J2, unhide J3⟩
        case measure => have := unhide HLt; simp [intOf]; omega
       ·have hst' : tks l ways (i + 1) = tks l ways i := by rw [hst]; simp [hy1]
        have hyb : (y == 1) = false := by simpa using hy1
        have HSt2 := hide hst'
        clear hst hst' ht0 hy1
        go_wp2_with (go_at_call 71; refine (unhide HCall).mono ?_; rintro e w6 ⟨vs, rfl, -, hb6⟩; obtain ⟨j1, j2, j3, -, -⟩ := unhide HPost w6 hb6; obtain ⟨p1, p2, p3, p4, p5⟩ := unhide HPost3 w6 hb6; have J1 := hide j1; have J2 := hide j2; have J3 := hide j3; clear hb6 j1 j2 j3)
        rename_i hK
        refine hK _ _ ?_
        go_simp
        go_wp2_with fail
        go_roundw
        case rel => exact ⟨i + 1, unhide HLt, by go_num, by rw [unhide HSt2]; exact unhide J1, unhide J2, unhide J3⟩
        case measure => have := unhide HLt; simp [intOf]; omega
     ·have hno : takes1 x ways = false := by unfold takes1; rw [← unhide HOp]; simp [ho]
      have hst := unhide HSt
      rw [hno] at hst
      have hst' : tks l ways (i + 1) = tks l ways i := hst
      have hob : ((op : Int) != 193) = true := by simp; omega
      have HSt := hide hst'
      clear hst hst' hno ho
      go_wp2_with (go_at_call 71; refine (unhide HCall).mono ?_; rintro e w6 ⟨vs, rfl, -, hb6⟩; obtain ⟨j1, j2, j3, -, -⟩ := unhide HPost w6 hb6; have J1 := hide j1; have J2 := hide j2; have J3 := hide j3; clear hb6 j1 j2 j3)
      rename_i hK
      refine hK _ _ ?_
      go_simp
      go_wp2_with fail
      go_roundw
      case rel => exact ⟨i + 1, unhide HLt, by go_num, by rw [unhide HSt]; exact unhide J1, unhide J2, unhide J3⟩
      case measure => have := unhide HLt; simp [intOf]; omega
    ·obtain rfl : i = k := by omega
     have hfin : tks l ways i = takes l := by unfold takes; rw [unhide HWays, unhide HN]
     rw [hfin] at hO
     have HO9 := hide hO; have HB9 := hide hb
     clear hO hb hW hfin hlt hi9
     go_wp2_with fail
     go_ret
     exact ⟨_, rfl, unhide HO9, unhide HB9⟩
end Fw
end Go.Proofs.YtglehoekehiaiaaGreatDoor
