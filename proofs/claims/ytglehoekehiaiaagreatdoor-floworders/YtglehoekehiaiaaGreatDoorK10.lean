/- K10: what follows, part by part: each part tells what it holds. -/
import Derived.Test.YtglehoekehiaiaaGreatDoorK9
namespace Go.Proofs.YtglehoekehiaiaaGreatDoor
open Go.RowKit
set_option linter.unusedVariables false
set_option linter.unusedSimpArgs false
set_option maxRecDepth 100000
set_option maxHeartbeats 32000000
namespace Vc
/- vcode.blockMay. -/
def okAt (re : Int) (rs : Bool) (l : List In) (i : Nat) : Bool := match l[i]? with
 | some x => (ends x.op == decide (i + 1 = l.length)) && insM re rs x
 | none => true
def insAll (re : Int) (rs : Bool) (l : List In) : Bool := (List.range l.length).all (okAt re rs l)
def lastL (l : List In) (k : Int) : Bool := match l[l.length - 1]? with
 | some x => leads x.op k
 | none => false
def blkM (re : Int) (rs : Bool) (nb : Int) (b : Bl) : Bool :=
 (!(b.ins.length == 0) && (decide (0 ≤ b.dep) && decide (b.dep ≤ 64))) && (insAll re rs b.ins && (lastL b.ins b.next.length && allT b.next nb))
theorem insAll_no {re : Int} {rs : Bool} {l : List In} {k : Nat} (hk : k < l.length) (h : okAt re rs l k = false) : insAll re rs l = false := by
 unfold insAll
 rw [List.all_eq_false]
 exact ⟨k, List.mem_range.2 hk, by simp [h]⟩
theorem insAll_yes {re : Int} {rs : Bool} {l : List In} (h : ∀ k, k < l.length → okAt re rs l k = true) : insAll re rs l = true := by
 unfold insAll
 rw [List.all_eq_true]
 exact fun k hk => h k (List.mem_range.1 hk)
theorem blkM_any (c : Co) (x : Bl) (hx : WfB x) (g : Nat → Prop) (vb vi vn : Value) (w : World) (hT : Fms w) (hi : LL InC 5 w g x.ins vi) (hv : NumsL w g x.next vn) (a0 : Option Addr) (k0 : Nat) (hvb : vb = .slice a0 c.bl.length k0) (hk0 : c.bl.length ≤ 1099511627776) :
    Calls Tryz.prog 54 #[.agg #[.int .i64 c.pa, .int .i64 c.re, .bool c.rs, vb], .agg #[vi, vn, .int .i64 x.dep]] w fun e w' => e = .returned (.bool (blkM c.re c.rs c.bl.length x)) ∧ Below w.heap.size w w' := by
 subst hvb
 have hM := fun (y : In) (hy : y ∈ x.ins) v W h hh => insM_any c y (hx.ins y hy) g (.slice a0 c.bl.length k0) v W h hh ⟨_, _, _, rfl⟩
 have hA := fun W hh => allThere_any x.next c.bl.length g vn W hh hx.nlen
 have hop := fun (y : In) (hy : y ∈ x.ins) => (hx.ins y hy).op
 have hlen := hx.len
 have HV := hide hv; have HT := hide hT; have HI := hide hi
 obtain ⟨an, cn, rfl, _⟩ := hv
 obtain ⟨ai, ci, rfl, hci, _, hI⟩ := hi
 obtain ⟨pa, re, rs, bl⟩ := c
 have hR : blkM re rs bl.length x = ((!(x.ins.length == 0) && (decide (0 ≤ x.dep) && decide (x.dep ≤ 64))) && (insAll re rs x.ins && (lastL x.ins x.next.length && allT x.next bl.length))) := rfl
 have hno := fun k hk h => insAll_no (re := re) (rs := rs) (l := x.ins) (k := k) hk h
 have hyes := insAll_yes (re := re) (rs := rs) (l := x.ins)
 obtain ⟨ins, next, dep⟩ := x
 simp only at *
 generalize hbb : bl.length = nb at *
 clear hbb bl
 have HM := hide hM; have HA := hide hA; have HOp := hide hop; have HR := hide hR; have HNo := hide hno; have HYes := hide hyes; have HII := hide hI
 clear hM hA hop hR hno hyes hI hx hT
 generalize hnl : next.length = nl at *
 have HNl := hide hnl; clear hnl
 generalize hil : ins.length = il at *
 have HIl := hide hil; clear hil
 generalize hb3 : blkM re rs nb ⟨ins, next, dep⟩ = b3 at *
 have HB3 := hide hb3; clear hb3
 by_cases l0 : il = 0
 ·subst l0
  have HRR := hide (show b3 = false by rw [unhide HR]; rfl)
  go_enter Tryz.func54, Tryz.ntmps54
  go_wp2
  go_ret
  exact ⟨ret_bool (unhide HRR).symm, two_allocs _ _ _⟩
 have tl : ((il : Int) == 0) = false := by simp; omega
 by_cases d0 : dep < 0
 ·have HRR := hide (show b3 = false by rw [unhide HR]; simp; omega)
  clear l0
  go_enter Tryz.func54, Tryz.ntmps54
  go_wp2
  go_ret
  exact ⟨ret_bool (unhide HRR).symm, two_allocs _ _ _⟩
 have td : decide (dep < 0) = false := by simpa using d0
 by_cases d1 : dep ≤ 64
 case neg =>
  have HRR := hide (show b3 = false by rw [unhide HR]; simp [d1])
  have td1 : decide (dep > 64) = true := by simp; omega
  have td2 : decide (64 < dep) = true := by simp; omega
  clear l0 d0 d1
  go_enter Tryz.func54, Tryz.ntmps54
  go_wp2
  go_ret
  exact ⟨ret_bool (unhide HRR).symm, two_allocs _ _ _⟩
 have td1 : decide (dep > 64) = false := by simp; omega
 have td2 : decide (64 < dep) = false := by simp; omega
 have HRR := hide (show b3 = (insAll re rs ins && (lastL ins nl && allT next nb)) by rw [unhide HR]; simp [d1, l0]; intro; omega)
 have l1 : (1 : Int) ≤ il := by omega
 have HL0 := hide l0
 clear HR d0 d1 l0
 have hb0 := two_allocs w (.cells #[.int .i64 pa, .int .i64 re, .bool rs, .slice a0 nb k0] 29) (.cells #[.slice ai il ci, .slice an nl cn, .int .i64 dep] 56)
 obtain ⟨r0, r1⟩ := box2 (Below.refl ((w.alloc (.cells #[.int .i64 pa, .int .i64 re, .bool rs, .slice a0 nb k0] 29)).alloc (.cells #[.slice ai il ci, .slice an nl cn, .int .i64 dep] 56)).heap.size _)
 have hz : ((w.alloc (.cells #[.int .i64 pa, .int .i64 re, .bool rs, .slice a0 nb k0] 29)).alloc (.cells #[.slice ai il ci, .slice an nl cn, .int .i64 dep] 56)).heap.size = w.heap.size + 2 := by simp
 go_enter Tryz.func54, Tryz.ntmps54
 go_wp2_with fail
 generalize (w.alloc (.cells #[.int .i64 pa, .int .i64 re, .bool rs, .slice a0 nb k0] 29)).alloc (.cells #[.slice ai il ci, .slice an nl cn, .int .i64 dep] 56) = W at *
 have fin : ∀ (W' : World), Below W.heap.size W W' → Below w.heap.size w W' := fun W' h => Below.on hb0 h
 have FIN := hide fin; have HB0 := hide hb0; have HZ := hide hz
 generalize hBq : w.heap.size = B0 at *
 have HBq := hide hBq; clear hBq
 have cells : ∀ W', Below W.heap.size W W' → (W'.cell? ⟨B0, 0, none⟩ = some (.int .i64 pa) ∧ W'.cell? ⟨B0, 1, none⟩ = some (.int .i64 re) ∧ W'.cell? ⟨B0, 2, none⟩ = some (.bool rs) ∧ W'.cell? ⟨B0, 3, none⟩ = some (.slice a0 nb k0)) ∧ (W'.cell? ⟨B0 + 1, 0, none⟩ = some (.slice ai il ci) ∧ W'.cell? ⟨B0 + 1, 1, none⟩ = some (.slice an nl cn) ∧ W'.cell? ⟨B0 + 1, 2, none⟩ = some (.int .i64 dep)) := by
  intro W' h
  have q0 := (h.block B0 (by omega)).trans r0
  have q1 := (h.block (B0 + 1) (by omega)).trans r1
  refine ⟨⟨?_, ?_, ?_, ?_⟩, ?_, ?_, ?_⟩
  all_goals first | (rw [cell_of_row W' B0 _ _ _ _ q0]; rfl) | (rw [cell_of_row W' (B0 + 1) _ _ _ _ q1]; rfl)
 have CE := hide cells
 clear cells r0 r1 fin hz hb0
 obtain ⟨bi, oi, rfl, hgi, hbi, hit⟩ := unhide HII (by omega)
 have HIt := hide hit; have HBi := hide hbi
 clear hit hbi HII
 go_loopw [29] (fun c wr => ∃ j : Nat, c = .int .i64 j ∧ (j : Int) ≤ il ∧ (∀ i, i < j → okAt re rs ins i = true) ∧ Below W.heap.size W wr) (fun c _ => il - (intOf c).toNat)
 case atStart => exact ⟨0, rfl, by omega, fun i hi => absurd hi (by omega), Below.refl _ _⟩
 case round =>
  obtain ⟨j, rfl, hj, hall, hbel⟩ := hrel
  have HAll := hide hall; have HBel := hide hbel; clear hall
  by_cases hlt : (j : Int) < il
  ·obtain ⟨x, hx⟩ : ∃ x, ins[j]? = some x := ⟨_, List.getElem?_eq_getElem (by have := unhide HIl; omega)⟩
   have hmem : x ∈ ins := List.mem_of_getElem? hx
   obtain ⟨cs, hcl, ⟨v, rfl, hs⟩, hce⟩ := unhide HIt j x hx
   have hbw : Below w.heap.size w wr := by rw [unhide HBq]; exact unhide FIN _ hbel
   have cc := fun i u hu => (hbw.cell (p := ⟨bi, oi + j * 5 + i, none⟩) (by have := unhide HBi; rw [unhide HBq]; exact this)).trans (hce i u hu)
   have e0 := cc 0 _ rfl; have e1 := cc 1 _ rfl; have e2 := cc 2 _ rfl; have e3 := cc 3 _ rfl; have e4 := cc 4 _ rfl
   simp only [Nat.add_zero] at e0
   have hop := unhide HOp x hmem
   have hq := unhide HM x hmem v
   have hs2 := hs.below hbw
   obtain ⟨sa, sc, rfl, _⟩ := hs
   have hN : okAt re rs ins j = ((ends x.op == decide (j + 1 = il)) && insM re rs x) := by unfold okAt; rw [hx, unhide HIl]
   have HQ := hide hq; have HS2 := hide hs2; have HN := hide hN; have HOpx := hide hop; have HBw := hide hbw
   have HTr := hide (TC.below (unhide HT) hbw)
   clear hx hmem hcl hce cc hq hs2 hN hbw hj
   obtain ⟨op, dst, src, nn, of⟩ := x
   simp only at *
   generalize src.length = ln at *
   obtain ⟨p0, p1, p2, p3⟩ := (unhide CE wr hbel).1
   obtain ⟨q0, q1, q2⟩ := (unhide CE wr hbel).2
   have hz0 : B0 + 2 ≤ wr.heap.size := by have := hbel.size; have := unhide HZ; omega
   have hbi2 : bi < wr.heap.size := World.block_lt_of_cell? wr _ e0
   have HEe := hide (vends_any op hop)
   have hne0 : ¬ B0 = wr.heap.size := by omega
   have hne1 : ¬ B0 + 1 = wr.heap.size := by omega
   clear hop hbel
   cases hen : ends op with
   | false =>
     rw [hen] at HEe
     by_cases hj1 : j + 1 = il
     ·have tj : ((j : Int) == (il : Int) - 1) = true := by simp; omega
      have HF := hide (unhide HNo j (by omega) (by rw [unhide HN, hen]; simp [hj1]))
      clear hen hj1
      go_wp2_with fail
      refine (unhide HEe _).mono ?_
      rintro e w1 ⟨rfl, rfl⟩
      go_wp2
      go_ret
      exact ⟨ret_bool (by rw [unhide HRR, unhide HF]; rfl), (unhide HBw).alloc (unhide HBw).size _⟩
     ·have tj : ((j : Int) == (il : Int) - 1) = false := by simp; omega
      have HN2 := hide (show okAt re rs ins j = insM re rs ⟨op, dst, src, nn, of⟩ by rw [unhide HN, hen]; simp [hj1])
      clear hen hj1
      go_wp2_with fail
      refine (unhide HEe _).mono ?_
      rintro e w1 ⟨rfl, rfl⟩
      have hal := one_alloc wr (.cells #[.int .u8 (op : Int), .int .i64 dst, .slice sa ln sc, .int .i64 nn, .int .u32 of] 53)
      have rn := heap_alloc_new wr (.cells #[.int .u8 (op : Int), .int .i64 dst, .slice sa ln sc, .int .i64 nn, .int .u32 of] 53)
      generalize wr.alloc (.cells #[.int .u8 (op : Int), .int .i64 dst, .slice sa ln sc, .int .i64 nn, .int .u32 of] 53) = W1 at *
      have HC := hide (unhide HQ _ (TC.below (unhide HTr) hal) ((unhide HS2).below hal))
      have HAl := hide (Below.on (unhide HBel) hal)
      clear p0 p1 p2 p3 q0 q1 q2 e0 e1 e2 e3 e4 hal
      obtain ⟨p0, p1, p2, p3⟩ := (unhide CE W1 (unhide HAl)).1
      have e0 : W1.cell? ⟨wr.heap.size, 0, none⟩ = some (.int .u8 (op : Int)) := by rw [cell_of_row W1 _ 0 _ _ _ rn]; rfl
      have e1 : W1.cell? ⟨wr.heap.size, 1, none⟩ = some (.int .i64 dst) := by rw [cell_of_row W1 _ 1 _ _ _ rn]; rfl
      have e2 : W1.cell? ⟨wr.heap.size, 2, none⟩ = some (.slice sa ln sc) := by rw [cell_of_row W1 _ 2 _ _ _ rn]; rfl
      have e3 : W1.cell? ⟨wr.heap.size, 3, none⟩ = some (.int .i64 nn) := by rw [cell_of_row W1 _ 3 _ _ _ rn]; rfl
      have e4 : W1.cell? ⟨wr.heap.size, 4, none⟩ = some (.int .u32 of) := by rw [cell_of_row W1 _ 4 _ _ _ rn]; rfl
      clear rn
      go_wp2_with fail
      refine (unhide HC).mono ?_
      rintro e w1 ⟨rfl, hb1⟩
      have HBn := hide (Below.on (unhide HAl) hb1)
      clear hb1 HC HAl
      cases hi1 : insM re rs ⟨op, dst, src, nn, of⟩ with
      | false =>
        have HF := hide (unhide HNo j (by omega) ((unhide HN2).trans hi1))
        clear hi1
        go_wp2
        go_ret
        exact ⟨ret_bool (by rw [unhide HRR, unhide HF]; rfl), by rw [unhide HBq]; exact unhide FIN _ (unhide HBn)⟩
      | true =>
        have HOk := hide ((unhide HN2).trans hi1)
        clear hi1
        go_wp2
        go_roundw
        case rel => exact ⟨j + 1, by go_num, by omega, fun i hi => by
         by_cases e : i = j
         ·subst e; exact unhide HOk
         ·exact unhide HAll i (by omega), unhide HBn⟩
        case measure => simp [intOf]; omega
   | true =>
     rw [hen] at HEe
     by_cases hj1 : j + 1 = il
     ·have tj : ((j : Int) == (il : Int) - 1) = true := by simp; omega
      have HN2 := hide (show okAt re rs ins j = insM re rs ⟨op, dst, src, nn, of⟩ by rw [unhide HN, hen]; simp [hj1])
      clear hen hj1
      go_wp2_with fail
      refine (unhide HEe _).mono ?_
      rintro e w1 ⟨rfl, rfl⟩
      have hal := one_alloc wr (.cells #[.int .u8 (op : Int), .int .i64 dst, .slice sa ln sc, .int .i64 nn, .int .u32 of] 53)
      have rn := heap_alloc_new wr (.cells #[.int .u8 (op : Int), .int .i64 dst, .slice sa ln sc, .int .i64 nn, .int .u32 of] 53)
      generalize wr.alloc (.cells #[.int .u8 (op : Int), .int .i64 dst, .slice sa ln sc, .int .i64 nn, .int .u32 of] 53) = W1 at *
      have HC := hide (unhide HQ _ (TC.below (unhide HTr) hal) ((unhide HS2).below hal))
      have HAl := hide (Below.on (unhide HBel) hal)
      clear p0 p1 p2 p3 q0 q1 q2 e0 e1 e2 e3 e4 hal
      obtain ⟨p0, p1, p2, p3⟩ := (unhide CE W1 (unhide HAl)).1
      have e0 : W1.cell? ⟨wr.heap.size, 0, none⟩ = some (.int .u8 (op : Int)) := by rw [cell_of_row W1 _ 0 _ _ _ rn]; rfl
      have e1 : W1.cell? ⟨wr.heap.size, 1, none⟩ = some (.int .i64 dst) := by rw [cell_of_row W1 _ 1 _ _ _ rn]; rfl
      have e2 : W1.cell? ⟨wr.heap.size, 2, none⟩ = some (.slice sa ln sc) := by rw [cell_of_row W1 _ 2 _ _ _ rn]; rfl
      have e3 : W1.cell? ⟨wr.heap.size, 3, none⟩ = some (.int .i64 nn) := by rw [cell_of_row W1 _ 3 _ _ _ rn]; rfl
      have e4 : W1.cell? ⟨wr.heap.size, 4, none⟩ = some (.int .u32 of) := by rw [cell_of_row W1 _ 4 _ _ _ rn]; rfl
      clear rn
      go_wp2_with fail
      refine (unhide HC).mono ?_
      rintro e w1 ⟨rfl, hb1⟩
      have HBn := hide (Below.on (unhide HAl) hb1)
      clear hb1 HC HAl
      cases hi1 : insM re rs ⟨op, dst, src, nn, of⟩ with
      | false =>
        have HF := hide (unhide HNo j (by omega) ((unhide HN2).trans hi1))
        clear hi1
        go_wp2
        go_ret
        exact ⟨ret_bool (by rw [unhide HRR, unhide HF]; rfl), by rw [unhide HBq]; exact unhide FIN _ (unhide HBn)⟩
      | true =>
        have HOk := hide ((unhide HN2).trans hi1)
        clear hi1
        go_wp2
        go_roundw
        case rel => exact ⟨j + 1, by go_num, by omega, fun i hi => by
         by_cases e : i = j
         ·subst e; exact unhide HOk
         ·exact unhide HAll i (by omega), unhide HBn⟩
        case measure => simp [intOf]; omega
     ·have tj : ((j : Int) == (il : Int) - 1) = false := by simp; omega
      have HF := hide (unhide HNo j (by omega) (by rw [unhide HN, hen]; simp [hj1]))
      clear hen hj1
      go_wp2_with fail
      refine (unhide HEe _).mono ?_
      rintro e w1 ⟨rfl, rfl⟩
      go_wp2
      go_ret
      exact ⟨ret_bool (by rw [unhide HRR, unhide HF]; rfl), (unhide HBw).alloc (unhide HBw).size _⟩
  ·obtain rfl : j = il := by omega
   have HF := hide (unhide HYes (unhide HAll))
   obtain ⟨x, hx⟩ : ∃ x, ins[j - 1]? = some x := ⟨_, List.getElem?_eq_getElem (by have := unhide HIl; omega)⟩
   have hmem : x ∈ ins := List.mem_of_getElem? hx
   obtain ⟨cs, hcl, ⟨v, rfl, hs⟩, hce⟩ := unhide HIt (j - 1) x hx
   have hbw : Below w.heap.size w wr := by rw [unhide HBq]; exact unhide FIN _ hbel
   have e0 : wr.cell? ⟨bi, oi + (j - 1) * 5, none⟩ = some (.int .u8 (x.op : Int)) := (hbw.cell (p := ⟨bi, oi + (j - 1) * 5 + 0, none⟩) (by have := unhide HBi; rw [unhide HBq]; exact this)).trans (hce 0 _ rfl)
   have hl1 : lastL ins nl = leads x.op nl := by unfold lastL; rw [unhide HIl, hx]
   have HLd := hide (leads_any x.op (unhide HOp x hmem) nl)
   have HR2 := hide (show b3 = (leads x.op nl && allT next nb) by rw [unhide HRR, unhide HF, hl1]; rfl)
   have HBw := hide hbw
   clear hs hce hcl hx hmem hl1 hj hlt hbw
   obtain ⟨p0, p1, p2, p3⟩ := (unhide CE wr hbel).1
   obtain ⟨q0, q1, q2⟩ := (unhide CE wr hbel).2
   clear hbel
   generalize x.op = lop at *
   cases hld : leads lop nl with
   | false =>
     rw [hld] at HLd HR2
     clear hld
     go_wp2_with fail
     go_quiet (with_reducible refine Calls.quiet_of_same (unhide HLd _))
     go_wp2
     go_ret
     exact ⟨ret_bool (by rw [unhide HR2]; rfl), Below.on (unhide HBw) (drewn _ _)⟩
   | true =>
     rw [hld] at HLd HR2
     clear hld
     have HA2 := hide (fun W' (h : Below w.heap.size w W') => unhide HA W' ((unhide HV).below h))
     go_wp2_with fail
     go_region_with (first | (go_at_call 82; refine (unhide HLd _).mono ?_; rintro e w5 ⟨rfl, rfl⟩) | (go_at_call 83; refine (unhide HA2 _ (Below.on (unhide HBw) (drewn wr _))).mono ?_; rintro e w6 ⟨rfl, hb6⟩; have HB6 := hide (Below.on (Below.on (unhide HBw) (drewn wr _)) hb6); clear hb6))
     all_goals
      go_wp2
      go_ret
      exact ⟨ret_bool (by rw [unhide HR2]; rfl), unhide HB6⟩
/- vcode.Size, Check. -/
/-- how many instructions there are -/
def siz (l : List Bl) : Nat := (l.map fun b => b.ins.length).sum
theorem ret_v {a b : Value} (h : a = b) : Ending.returned a = .returned b := by rw [h]
theorem siz_take (l : List Bl) (j : Nat) (b : Bl) (h : l[j]? = some b) : siz (l.take (j + 1)) = siz (l.take j) + b.ins.length := by
  have hj := (List.getElem?_eq_some_iff.1 h).1
  have hb : l[j] = b := (List.getElem?_eq_some_iff.1 h).2
  unfold siz
  rw [List.take_succ_eq_append_getElem hj, hb]; simp
theorem siz_le (l : List Bl) (j : Nat) : siz (l.take j) ≤ siz l := by
  unfold siz
  conv => rhs; rw [← List.take_append_drop j l]
  rw [List.map_append, List.sum_append]; omega
theorem size_any (pa re : Int) (rs : Bool) (l : List Bl) (g : Nat → Prop) (v : Value) (w : World) (hv : Bls w g l v) (hl : l.length ≤ 1099511627776) (hz : siz l ≤ 1099511627776) :
    Calls Tryz.prog 53 #[.agg #[.int .i64 pa, .int .i64 re, .bool rs, v]] w fun e w' => e = .returned (.int .i64 (siz l)) ∧ Below w.heap.size w w' := by
  obtain ⟨a, cp, rfl, hcp, _, hA⟩ := hv
  have hst := fun j b h => siz_take l j b h
  have hsl := fun j => siz_le l j
  have hs0 : siz (l.take 0) = 0 := by simp [siz]
  have hsn : siz (l.take l.length) = siz l := by simp
  have HA := hide hA; have HSt := hide hst; have HSl := hide hsl; have HS0 := hide hs0; have HSn := hide hsn; have HZz := hide hz
  clear hA hst hsl hs0 hsn hz
  have hb0 := one_alloc w (.cells #[.int .i64 pa, .int .i64 re, .bool rs, .slice a l.length cp] 29)
  have HB0 := hide hb0; clear hb0
  generalize hL : l.length = n at *
  have HL := hide hL; clear hL
  go_enter Tryz.func53, Tryz.ntmps53
  go_wp2_with fail
  generalize w.alloc (.cells #[.int .i64 pa, .int .i64 re, .bool rs, .slice a n cp] 29) = W at *
  go_loopw [3, 9] (fun s c wr => ∃ j : Nat, s = .int .i64 (siz (l.take j)) ∧ c = .int .i64 j ∧ (j : Int) ≤ n ∧ Below w.heap.size w wr) (fun _ c _ => n - (intOf c).toNat)
  case atStart => exact ⟨0, by rw [unhide HS0]; rfl, rfl, by omega, unhide HB0⟩
  case round =>
    obtain ⟨j, rfl, rfl, hj, hbel⟩ := hrel
    by_cases hlt : (j : Int) < n
    · obtain ⟨x, hx⟩ : ∃ x, l[j]? = some x := ⟨_, List.getElem?_eq_getElem (by have := unhide HL; omega)⟩
      obtain ⟨b, o, rfl, hg, hblt, hit⟩ := unhide HA (by omega)
      obtain ⟨cs, hcl, ⟨vi, vn, rfl, hi, hn⟩, hce⟩ := hit j x hx
      have cc := fun i u hu => (hbel.cell (p := ⟨b, o + j * 3 + i, none⟩) hblt).trans (hce i u hu)
      have e0 := cc 0 _ rfl; have e1 := cc 1 _ rfl; have e2 := cc 2 _ rfl
      simp only [Nat.add_zero] at e0
      have hq := unhide HSt j x hx
      have hq2 := unhide HSl (j + 1)
      rw [hq] at hq2
      have hq3 : ((siz (l.take j) : Nat) : Int) + (x.ins.length : Int) ≤ 1099511627776 := by have := unhide HZz; omega
      have HQ := hide hq; have HBel := hide hbel
      obtain ⟨ai, ci, rfl, _⟩ := hi
      obtain ⟨an, cn, rfl, _⟩ := hn
      obtain ⟨ins, next, dep⟩ := x
      simp only at *
      clear hx hit hcl hce cc hq hq2 hj hbel
      generalize ins.length = il at *
      generalize next.length = nl at *
      generalize hsj : siz (l.take j) = sj at *
      have HSj := hide hsj; clear hsj
      have hb1 : b < wr.heap.size := World.block_lt_of_cell? wr _ e0
      go_wp2
      go_roundw
      case rel => exact ⟨j + 1, by rw [unhide HQ]; go_num, by go_num, by omega, (unhide HBel).alloc (unhide HBel).size _⟩
      case measure => simp [intOf]; omega
    · obtain rfl : j = n := by omega
      have HBel := hide hbel
      clear hj hlt hbel
      have hse : siz (l.take j) = siz l := unhide HSn
      have HSe := hide hse; clear hse
      go_wp2
      go_ret
      exact ⟨ret_int (by rw [unhide HSe]), unhide HBel⟩
/-- may code be? -/
def chk (c : Co) : Bool := (decide (0 ≤ c.pa) && decide (c.pa ≤ c.re) && decide (c.re ≤ 1024)) && (decide (1 ≤ c.bl.length) && decide (c.bl.length ≤ 4096) && decide (siz c.bl ≤ 16384)) && c.bl.all (blkM c.re c.rs c.bl.length)
theorem all_no {l : List Bl} {f : Bl → Bool} {j : Nat} {x : Bl} (h : l[j]? = some x) (h2 : f x = false) : l.all f = false := by
  rw [List.all_eq_false]
  exact ⟨x, List.mem_of_getElem? h, by simp [h2]⟩
theorem all_yes {l : List Bl} {f : Bl → Bool} (h : ∀ i x, i < l.length → l[i]? = some x → f x = true) : l.all f = true := by
  rw [List.all_eq_true]
  intro x hx
  obtain ⟨i, hi, rfl⟩ := List.getElem_of_mem hx
  exact h i _ hi (List.getElem?_eq_getElem hi)
theorem check_any (c : Co) (hc : WfC c) (g : Nat → Prop) (v : Value) (w : World) (hT : Fms w) (hv : Bls w g c.bl v) (hz : siz c.bl ≤ 1099511627776) :
    Calls Tryz.prog 26 #[.agg #[.int .i64 c.pa, .int .i64 c.re, .bool c.rs, v]] w fun e w' => e = .returned (errV (if chk c then 0 else 1)) ∧ Below w.heap.size w w' := by
  have hno : chk c = false → errV (if chk c then 0 else 1) = .iface 76 (.int .i64 1) := fun h => by rw [h]; exact errV_1
  have hyes : chk c = true → errV (if chk c then 0 else 1) = .nilIface := fun h => by rw [h]; exact errV_0
  have hS := fun W h => size_any c.pa c.re c.rs c.bl g v W h hc.len hz
  have hM := fun (x : Bl) (hx : x ∈ c.bl) vb vi vn W a b d => blkM_any c x (hc.bl x hx) g vb vi vn W a b d
  have hdef : chk c = ((decide (0 ≤ c.pa) && decide (c.pa ≤ c.re) && decide (c.re ≤ 1024)) && (decide (1 ≤ c.bl.length) && decide (c.bl.length ≤ 4096) && decide (siz c.bl ≤ 16384)) && c.bl.all (blkM c.re c.rs c.bl.length)) := rfl
  have hlen := hc.len
  have HV := hide hv; have HT := hide hT
  obtain ⟨a, cp, rfl, hcp, _, hA⟩ := hv
  have hdd : (1 ≤ c.bl.length ↔ (1 : Int) ≤ (c.bl.length : Int)) ∧ (c.bl.length ≤ 4096 ↔ (c.bl.length : Int) ≤ 4096) := by omega
  have ano := fun j x h h2 => all_no (l := c.bl) (f := blkM c.re c.rs c.bl.length) (j := j) (x := x) h h2
  have ayes := all_yes (l := c.bl) (f := blkM c.re c.rs c.bl.length)
  have HNo := hide hno; have HYes := hide hyes; have HS := hide hS; have HM := hide hM; have HD := hide hdef; have HA := hide hA; have ANo := hide ano; have AYes := hide ayes
  clear hno hyes hS hM hdef hA ano ayes hc hT hz hdd
  generalize hE : errV (if chk c then 0 else 1) = E at *
  have HE := hide hE; clear hE
  obtain ⟨pa, re, rs, bl⟩ := c
  simp only at *
  generalize hK : chk ⟨pa, re, rs, bl⟩ = K at *
  have HK := hide hK; clear hK
  have hb0 := one_alloc w (.cells #[.int .i64 pa, .int .i64 re, .bool rs, .slice a bl.length cp] 29)
  have rB := heap_alloc_new w (.cells #[.int .i64 pa, .int .i64 re, .bool rs, .slice a bl.length cp] 29)
  have hSz := unhide HS _ ((unhide HV).below hb0)
  have HB0 := hide hb0; have HSz := hide hSz; clear hb0 hSz HS
  generalize hL : bl.length = n at *
  have HL := hide hL; clear hL
  generalize hs : siz bl = sz at *
  have HSS := hide hs; clear hs
  have endNo : ∀ (P : Prop), K = false → True := fun _ _ => trivial
  clear endNo
  by_cases p0 : pa < 0
  · have HR := hide (unhide HNo (by rw [unhide HD]; simp; omega))
    go_enter Tryz.func26, Tryz.ntmps26
    go_wp2
    go_ret
    exact ⟨ret_v (unhide HR).symm, one_alloc _ _⟩
  have t0 : decide (pa < 0) = false := by simpa using p0
  by_cases p1 : re < pa
  · have HR := hide (unhide HNo (by rw [unhide HD]; simp; omega))
    have t1 : decide (pa > re) = true := by simp; omega
    clear p0
    go_enter Tryz.func26, Tryz.ntmps26
    go_wp2
    go_ret
    exact ⟨ret_v (unhide HR).symm, one_alloc _ _⟩
  have t1 : decide (re < pa) = false := by simpa using p1
  by_cases p2 : 1024 < re
  · have HR := hide (unhide HNo (by rw [unhide HD]; simp; omega))
    clear p0 p1
    go_enter Tryz.func26, Tryz.ntmps26
    go_wp2
    go_ret
    exact ⟨ret_v (unhide HR).symm, one_alloc _ _⟩
  have t2 : decide (1024 < re) = false := by simpa using p2
  by_cases p3 : (n : Int) < 1
  · have HR := hide (unhide HNo (by rw [unhide HD]; simp; omega))
    clear p0 p1 p2
    go_enter Tryz.func26, Tryz.ntmps26
    go_wp2
    go_ret
    exact ⟨ret_v (unhide HR).symm, one_alloc _ _⟩
  have t3 : decide ((n : Int) < 1) = false := by simpa using p3
  by_cases p4 : (4096 : Int) < n
  · have HR := hide (unhide HNo (by rw [unhide HD]; simp; omega))
    clear p0 p1 p2 p3
    go_enter Tryz.func26, Tryz.ntmps26
    go_wp2
    go_ret
    exact ⟨ret_v (unhide HR).symm, one_alloc _ _⟩
  have t4 : decide ((4096 : Int) < n) = false := by simpa using p4
  by_cases p5 : (16384 : Int) < sz
  · have HR := hide (unhide HNo (by rw [unhide HD]; simp; omega))
    clear p0 p1 p2 p3 p4
    go_enter Tryz.func26, Tryz.ntmps26
    go_wp2_with fail
    refine (unhide HSz).mono ?_
    rintro e w1 ⟨rfl, hb1⟩
    have HB1 := hide (Below.on (unhide HB0) hb1); clear hb1
    go_wp2
    go_ret
    exact ⟨ret_v (unhide HR).symm, unhide HB1⟩
  have t5 : decide ((16384 : Int) < sz) = false := by simpa using p5
  have HKK := hide (show K = bl.all (blkM re rs n) by rw [unhide HD]; rw [show (decide (0 ≤ pa) && decide (pa ≤ re) && decide (re ≤ 1024) && (decide (1 ≤ n) && decide (n ≤ 4096) && decide (sz ≤ 16384))) = true by simp; omega]; rfl)
  clear p0 p1 p2 p3 p4 p5
  go_enter Tryz.func26, Tryz.ntmps26
  go_wp2_with fail
  refine (unhide HSz).mono ?_
  rintro e w1 ⟨rfl, hb1⟩
  have c : w1.heap[w.heap.size]? = some (.cells #[.int .i64 pa, .int .i64 re, .bool rs, .slice a n cp] 29 (0, 0)) := (hb1.block _ (by simp)).trans rB
  have hbw := Below.on (unhide HB0) hb1
  have hBlt : w.heap.size < w1.heap.size := (Array.getElem?_eq_some_iff.1 c).1
  have cells : ∀ W', Below w1.heap.size w1 W' → W'.cell? ⟨w.heap.size, 0, none⟩ = some (.int .i64 pa) ∧ W'.cell? ⟨w.heap.size, 1, none⟩ = some (.int .i64 re) ∧ W'.cell? ⟨w.heap.size, 2, none⟩ = some (.bool rs) ∧ W'.cell? ⟨w.heap.size, 3, none⟩ = some (.slice a n cp) := by
    intro W' h
    have q := (h.block _ hBlt).trans c
    refine ⟨?_, ?_, ?_, ?_⟩ <;> (rw [cell_of_row W' _ _ _ _ _ q]; rfl)
  have CE := hide cells; have HBw := hide hbw; have HBl := hide hBlt
  obtain ⟨p0, p1, p2, p3⟩ := cells w1 (Below.refl _ _)
  clear hb1 c hbw cells HSz HB0 rB hBlt
  go_wp2_with fail
  go_loopw [40] (fun c wr => ∃ j : Nat, c = .int .i64 j ∧ (j : Int) ≤ n ∧ (∀ i x, i < j → bl[i]? = some x → blkM re rs n x = true) ∧ Below w1.heap.size w1 wr) (fun c _ => n - (intOf c).toNat)
  case atStart => exact ⟨0, rfl, by omega, fun i x hi => absurd hi (by omega), Below.refl _ _⟩
  case round =>
    obtain ⟨j, rfl, hj, hall, hbel⟩ := hrel
    have HAll := hide hall; clear hall p0 p1 p2 p3
    have hbW := Below.on (unhide HBw) hbel
    by_cases hlt : (j : Int) < n
    · obtain ⟨x, hx⟩ : ∃ x, bl[j]? = some x := ⟨_, List.getElem?_eq_getElem (by have := unhide HL; omega)⟩
      have hmem : x ∈ bl := List.mem_of_getElem? hx
      obtain ⟨b, o, rfl, hg, hblt, hit⟩ := unhide HA (by omega)
      obtain ⟨cs, hcl, ⟨vi, vn, rfl, hi, hn⟩, hce⟩ := hit j x hx
      have cc := fun i u hu => (hbW.cell (p := ⟨b, o + j * 3 + i, none⟩) hblt).trans (hce i u hu)
      have e0 := cc 0 _ rfl; have e1 := cc 1 _ rfl; have e2 := cc 2 _ rfl
      simp only [Nat.add_zero] at e0
      have hb1 : b < wr.heap.size := World.block_lt_of_cell? wr _ e0
      have HI := hide hi; have HN := hide hn
      obtain ⟨ai, ci, rfl, _⟩ := hi
      obtain ⟨an, cn, rfl, _⟩ := hn
      have HX := hide hx; have HBel := hide hbel; have HBW := hide hbW; have HMm := hide hmem
      have HZ := hide hbel.size
      clear hx hit hcl hce cc hj hbW hmem
      obtain ⟨ins, next, dep⟩ := x
      simp only at *
      generalize hil : ins.length = il at *
      generalize hnl : next.length = nl at *
      have Hil := hide hil; have Hnl := hide hnl; clear hil hnl
      go_upto_region 8 with fail
      have hal := one_alloc wr (.cells #[.slice ai il ci, .slice an nl cn, .int .i64 dep] 56)
      have rn := heap_alloc_new wr (.cells #[.slice ai il ci, .slice an nl cn, .int .i64 dep] 56)
      generalize wr.alloc (.cells #[.slice ai il ci, .slice an nl cn, .int .i64 dep] 56) = W1 at *
      have HAl := hide (Below.on hbel hal)
      have hW1 := Below.on (unhide HBW) hal
      have HC := hide (unhide HM ⟨ins, next, dep⟩ (unhide HMm) (.slice (some ⟨b, o, none⟩) n cp) (.slice ai il ci) (.slice an nl cn) W1 (TC.below (unhide HT) hW1) (Inss.below hW1 (unhide HI)) (NumsL.below hW1 (unhide HN)) _ _ rfl hlen)
      obtain ⟨p0, p1, p2, p3⟩ := unhide CE W1 (unhide HAl)
      clear e0 e1 e2
      have e0 : W1.cell? ⟨wr.heap.size, 0, none⟩ = some (.slice ai il ci) := by rw [cell_of_row W1 _ 0 _ _ _ rn]; rfl
      have e1 : W1.cell? ⟨wr.heap.size, 1, none⟩ = some (.slice an nl cn) := by rw [cell_of_row W1 _ 1 _ _ _ rn]; rfl
      have e2 : W1.cell? ⟨wr.heap.size, 2, none⟩ = some (.int .i64 dep) := by rw [cell_of_row W1 _ 2 _ _ _ rn]; rfl
      clear rn hal hW1 hbel hb1
      cases hm : blkM re rs n ⟨ins, next, dep⟩ with
      | false =>
        rw [hm] at HC
        have HR := hide (unhide HNo (by rw [unhide HKK]; exact unhide ANo j _ (unhide HX) hm))
        clear hm
        go_wp2_with fail
        refine (unhide HC).mono ?_
        rintro e w5 ⟨rfl, hb5⟩
        have HB5 := hide (Below.on (unhide HBw) (Below.on (unhide HAl) hb5)); clear hb5
        go_wp2
        go_ret
        exact ⟨ret_v (unhide HR).symm, unhide HB5⟩
      | true =>
        rw [hm] at HC
        have HOk := hide hm
        clear hm
        go_wp2_with fail
        refine (unhide HC).mono ?_
        rintro e w5 ⟨rfl, hb5⟩
        have HB5 := hide (Below.on (unhide HAl) hb5); clear hb5
        go_wp2
        go_roundw
        case rel => exact ⟨j + 1, by go_num, by omega, fun i x hi hx => by
          by_cases e : i = j
          · subst e
            obtain rfl := Option.some.inj ((unhide HX).symm.trans hx)
            exact unhide HOk
          · exact unhide HAll i x (by omega) hx, unhide HB5⟩
        case measure => simp [intOf]; omega
    · obtain rfl : j = n := by omega
      have HR := hide (unhide HYes (by rw [unhide HKK]; exact unhide AYes fun i x hi => unhide HAll i x (by have := unhide HL; omega)))
      have HBW := hide hbW
      clear hj hlt hbel hbW
      go_wp2
      go_ret
      exact ⟨ret_v (unhide HR).symm, unhide HBW⟩
end Vc
end Go.Proofs.YtglehoekehiaiaaGreatDoor
