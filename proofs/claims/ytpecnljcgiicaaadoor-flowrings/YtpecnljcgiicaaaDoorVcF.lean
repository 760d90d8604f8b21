/- vcode.blockMay. -/
import Derived.Test.YtpecnljcgiicaaaDoorVcE
namespace Go.Proofs.YtpecnljcgiicaaaDoor
open Go.RowKit
namespace Vc
set_option linter.unusedVariables false

def okAt (re : Int) (rs : Bool) (l : List In) (i : Nat) : Bool := match l[i]? with
  | some x => (ends x.op == decide (i + 1 = l.length)) && insM re rs x
  | none => true
def insAll (re : Int) (rs : Bool) (l : List In) : Bool := (List.range l.length).all (okAt re rs l)
def lastL (l : List In) (k : Int) : Bool := match l[l.length - 1]? with
  | some x => leads x.op k
  | none => false
def blkM (re : Int) (rs : Bool) (nb : Int) (b : Bl) : Bool :=
  (!(b.ins.length == 0) && (decide (0 ≤ b.dep) && decide (b.dep ≤ 64))) && (insAll re rs b.ins && (lastL b.ins b.next.length && allT b.next nb))

theorem insAll_no {re : Int} {rs : Bool} {l : List In} {k : Nat} (hk : k < l.length) (h : okAt re rs l k = false) : insAll re rs l = false := by
  unfold insAll
  rw [List.all_eq_false]
  exact ⟨k, List.mem_range.2 hk, by simp [h]⟩
theorem insAll_yes {re : Int} {rs : Bool} {l : List In} (h : ∀ k, k < l.length → okAt re rs l k = true) : insAll re rs l = true := by
  unfold insAll
  rw [List.all_eq_true]
  exact fun k hk => h k (List.mem_range.1 hk)

set_option maxRecDepth 100000 in
set_option maxHeartbeats 6400000 in
theorem blkM_any (c : Co) (x : Bl) (hx : WfB x) (g : Nat → Prop) (vb vi vn : Value) (w : World) (hT : Fms w) (hi : LL InC 5 w g x.ins vi) (hv : NumsL w g x.next vn) (a0 : Option Addr) (k0 : Nat) (hvb : vb = .slice a0 c.bl.length k0) (hk0 : c.bl.length ≤ 1099511627776) :
    Calls Tryd.prog 29 #[.agg #[.int .i64 c.pa, .int .i64 c.re, .bool c.rs, vb], .agg #[vi, vn, .int .i64 x.dep]] w fun e w' => e = .returned (.bool (blkM c.re c.rs c.bl.length x)) ∧ Below w.heap.size w w' := by
  subst hvb
  have hM := fun (y : In) (hy : y ∈ x.ins) v W h hh => insM_any c y (hx.ins y hy) g (.slice a0 c.bl.length k0) v W h hh ⟨_, _, _, rfl⟩
  have hA := fun W hh => allThere_any x.next c.bl.length g vn W hh hx.nlen
  have hop := fun (y : In) (hy : y ∈ x.ins) => (hx.ins y hy).op
  have hlen := hx.len
  have HV := hide hv; have HT := hide hT; have HI := hide hi
  obtain ⟨an, cn, rfl, _⟩ := hv
  obtain ⟨ai, ci, rfl, hci, _, hI⟩ := hi
  obtain ⟨pa, re, rs, bl⟩ := c
  have hR : blkM re rs bl.length x = ((!(x.ins.length == 0) && (decide (0 ≤ x.dep) && decide (x.dep ≤ 64))) && (insAll re rs x.ins && (lastL x.ins x.next.length && allT x.next bl.length))) := rfl
  have hno := fun k hk h => insAll_no (re := re) (rs := rs) (l := x.ins) (k := k) hk h
  have hyes := insAll_yes (re := re) (rs := rs) (l := x.ins)
  obtain ⟨ins, next, dep⟩ := x
  simp only at *
  generalize hbb : bl.length = nb at *
  clear hbb bl
  have HM := hide hM; have HA := hide hA; have HOp := hide hop; have HR := hide hR; have HNo := hide hno; have HYes := hide hyes; have HII := hide hI
  clear hM hA hop hR hno hyes hI hx hT
  generalize hnl : next.length = nl at *
  have HNl := hide hnl; clear hnl
  generalize hil : ins.length = il at *
  have HIl := hide hil; clear hil
  generalize hb3 : blkM re rs nb ⟨ins, next, dep⟩ = b3 at *
  have HB3 := hide hb3; clear hb3
  by_cases l0 : il = 0
  · subst l0
    have HRR := hide (show b3 = false by rw [unhide HR]; rfl)
    go_enter Tryd.func29, Tryd.ntmps29
    go_wp2
    go_ret
    exact ⟨ret_bool (unhide HRR).symm, two_allocs _ _ _⟩
  have tl : ((il : Int) == 0) = false := by simp; omega
  by_cases d0 : dep < 0
  · have HRR := hide (show b3 = false by rw [unhide HR]; simp; omega)
    clear l0
    go_enter Tryd.func29, Tryd.ntmps29
    go_wp2
    go_ret
    exact ⟨ret_bool (unhide HRR).symm, two_allocs _ _ _⟩
  have td : decide (dep < 0) = false := by simpa using d0
  by_cases d1 : dep ≤ 64
  case neg =>
    have HRR := hide (show b3 = false by rw [unhide HR]; simp [d1])
    have td1 : decide (dep > 64) = true := by simp; omega
    have td2 : decide (64 < dep) = true := by simp; omega
    clear l0 d0 d1
    go_enter Tryd.func29, Tryd.ntmps29
    go_wp2
    go_ret
    exact ⟨ret_bool (unhide HRR).symm, two_allocs _ _ _⟩
  have td1 : decide (dep > 64) = false := by simp; omega
  have td2 : decide (64 < dep) = false := by simp; omega
  have HRR := hide (show b3 = (insAll re rs ins && (lastL ins nl && allT next nb)) by rw [unhide HR]; simp [d1, l0]; intro; omega)
  have l1 : (1 : Int) ≤ il := by omega
  have HL0 := hide l0
  clear HR d0 d1 l0
  have hb0 := two_allocs w (.cells #[.int .i64 pa, .int .i64 re, .bool rs, .slice a0 nb k0] 25) (.cells #[.slice ai il ci, .slice an nl cn, .int .i64 dep] 32)
  obtain ⟨r0, r1⟩ := box2 (Below.refl ((w.alloc (.cells #[.int .i64 pa, .int .i64 re, .bool rs, .slice a0 nb k0] 25)).alloc (.cells #[.slice ai il ci, .slice an nl cn, .int .i64 dep] 32)).heap.size _)
  have hz : ((w.alloc (.cells #[.int .i64 pa, .int .i64 re, .bool rs, .slice a0 nb k0] 25)).alloc (.cells #[.slice ai il ci, .slice an nl cn, .int .i64 dep] 32)).heap.size = w.heap.size + 2 := by simp
  go_enter Tryd.func29, Tryd.ntmps29
  go_wp2_with fail
  generalize (w.alloc (.cells #[.int .i64 pa, .int .i64 re, .bool rs, .slice a0 nb k0] 25)).alloc (.cells #[.slice ai il ci, .slice an nl cn, .int .i64 dep] 32) = W at *
  have fin : ∀ (W' : World), Below W.heap.size W W' → Below w.heap.size w W' := fun W' h => Below.on hb0 h
  have FIN := hide fin; have HB0 := hide hb0; have HZ := hide hz
  generalize hBq : w.heap.size = B0 at *
  have HBq := hide hBq; clear hBq
  have cells : ∀ W', Below W.heap.size W W' → (W'.cell? ⟨B0, 0, none⟩ = some (.int .i64 pa) ∧ W'.cell? ⟨B0, 1, none⟩ = some (.int .i64 re) ∧ W'.cell? ⟨B0, 2, none⟩ = some (.bool rs) ∧ W'.cell? ⟨B0, 3, none⟩ = some (.slice a0 nb k0)) ∧ (W'.cell? ⟨B0 + 1, 0, none⟩ = some (.slice ai il ci) ∧ W'.cell? ⟨B0 + 1, 1, none⟩ = some (.slice an nl cn) ∧ W'.cell? ⟨B0 + 1, 2, none⟩ = some (.int .i64 dep)) := by
    intro W' h
    have q0 := (h.block B0 (by omega)).trans r0
    have q1 := (h.block (B0 + 1) (by omega)).trans r1
    refine ⟨⟨?_, ?_, ?_, ?_⟩, ?_, ?_, ?_⟩
    all_goals first | (rw [cell_of_row W' B0 _ _ _ _ q0]; rfl) | (rw [cell_of_row W' (B0 + 1) _ _ _ _ q1]; rfl)
  have CE := hide cells
  clear cells r0 r1 fin hz hb0
  obtain ⟨bi, oi, rfl, hgi, hbi, hit⟩ := unhide HII (by omega)
  have HIt := hide hit; have HBi := hide hbi
  clear hit hbi HII
  go_loopw [29] (fun c wr => ∃ j : Nat, c = .int .i64 j ∧ (j : Int) ≤ il ∧ (∀ i, i < j → okAt re rs ins i = true) ∧ Below W.heap.size W wr) (fun c _ => il - (intOf c).toNat)
  case atStart => exact ⟨0, rfl, by omega, fun i hi => absurd hi (by omega), Below.refl _ _⟩
  case round =>
    obtain ⟨j, rfl, hj, hall, hbel⟩ := hrel
    have HAll := hide hall; have HBel := hide hbel; clear hall
    by_cases hlt : (j : Int) < il
    · obtain ⟨x, hx⟩ : ∃ x, ins[j]? = some x := ⟨_, List.getElem?_eq_getElem (by have := unhide HIl; omega)⟩
      have hmem : x ∈ ins := List.mem_of_getElem? hx
      obtain ⟨cs, hcl, ⟨v, rfl, hs⟩, hce⟩ := unhide HIt j x hx
      have hbw : Below w.heap.size w wr := by rw [unhide HBq]; exact unhide FIN _ hbel
      have cc := fun i u hu => (hbw.cell (p := ⟨bi, oi + j * 5 + i, none⟩) (by have := unhide HBi; rw [unhide HBq]; exact this)).trans (hce i u hu)
      have e0 := cc 0 _ rfl; have e1 := cc 1 _ rfl; have e2 := cc 2 _ rfl; have e3 := cc 3 _ rfl; have e4 := cc 4 _ rfl
      simp only [Nat.add_zero] at e0
      have hop := unhide HOp x hmem
      have hq := unhide HM x hmem v
      have hs2 := hs.below hbw
      obtain ⟨sa, sc, rfl, _⟩ := hs
      have hN : okAt re rs ins j = ((ends x.op == decide (j + 1 = il)) && insM re rs x) := by unfold okAt; rw [hx, unhide HIl]
      have HQ := hide hq; have HS2 := hide hs2; have HN := hide hN; have HOpx := hide hop; have HBw := hide hbw
      have HTr := hide (TC.below (unhide HT) hbw)
      clear hx hmem hcl hce cc hq hs2 hN hbw hj
      obtain ⟨op, dst, src, nn, of⟩ := x
      simp only at *
      generalize src.length = ln at *
      obtain ⟨p0, p1, p2, p3⟩ := (unhide CE wr hbel).1
      obtain ⟨q0, q1, q2⟩ := (unhide CE wr hbel).2
      have hz0 : B0 + 2 ≤ wr.heap.size := by have := hbel.size; have := unhide HZ; omega
      have hbi2 : bi < wr.heap.size := World.block_lt_of_cell? wr _ e0
      have HEe := hide (vends_any op hop)
      have hne0 : ¬ B0 = wr.heap.size := by omega
      have hne1 : ¬ B0 + 1 = wr.heap.size := by omega
      clear hop hbel
      cases hen : ends op with
      | false =>
        rw [hen] at HEe
        by_cases hj1 : j + 1 = il
        · have tj : ((j : Int) == (il : Int) - 1) = true := by simp; omega
          have HF := hide (unhide HNo j (by omega) (by rw [unhide HN, hen]; simp [hj1]))
          clear hen hj1
          go_wp2_with fail
          refine (unhide HEe _).mono ?_
          rintro e w1 ⟨rfl, rfl⟩
          go_wp2
          go_ret
          exact ⟨ret_bool (by rw [unhide HRR, unhide HF]; rfl), (unhide HBw).alloc (unhide HBw).size _⟩
        · have tj : ((j : Int) == (il : Int) - 1) = false := by simp; omega
          have HN2 := hide (show okAt re rs ins j = insM re rs ⟨op, dst, src, nn, of⟩ by rw [unhide HN, hen]; simp [hj1])
          clear hen hj1
          go_wp2_with fail
          refine (unhide HEe _).mono ?_
          rintro e w1 ⟨rfl, rfl⟩
          have hal := one_alloc wr (.cells #[.int .u8 (op : Int), .int .i64 dst, .slice sa ln sc, .int .i64 nn, .int .u32 of] 29)
          have rn := heap_alloc_new wr (.cells #[.int .u8 (op : Int), .int .i64 dst, .slice sa ln sc, .int .i64 nn, .int .u32 of] 29)
          generalize wr.alloc (.cells #[.int .u8 (op : Int), .int .i64 dst, .slice sa ln sc, .int .i64 nn, .int .u32 of] 29) = W1 at *
          have HC := hide (unhide HQ _ (TC.below (unhide HTr) hal) ((unhide HS2).below hal))
          have HAl := hide (Below.on (unhide HBel) hal)
          clear p0 p1 p2 p3 q0 q1 q2 e0 e1 e2 e3 e4 hal
          obtain ⟨p0, p1, p2, p3⟩ := (unhide CE W1 (unhide HAl)).1
          have e0 : W1.cell? ⟨wr.heap.size, 0, none⟩ = some (.int .u8 (op : Int)) := by rw [cell_of_row W1 _ 0 _ _ _ rn]; rfl
          have e1 : W1.cell? ⟨wr.heap.size, 1, none⟩ = some (.int .i64 dst) := by rw [cell_of_row W1 _ 1 _ _ _ rn]; rfl
          have e2 : W1.cell? ⟨wr.heap.size, 2, none⟩ = some (.slice sa ln sc) := by rw [cell_of_row W1 _ 2 _ _ _ rn]; rfl
          have e3 : W1.cell? ⟨wr.heap.size, 3, none⟩ = some (.int .i64 nn) := by rw [cell_of_row W1 _ 3 _ _ _ rn]; rfl
          have e4 : W1.cell? ⟨wr.heap.size, 4, none⟩ = some (.int .u32 of) := by rw [cell_of_row W1 _ 4 _ _ _ rn]; rfl
          clear rn
          go_wp2_with fail
          refine (unhide HC).mono ?_
          rintro e w1 ⟨rfl, hb1⟩
          have HBn := hide (Below.on (unhide HAl) hb1)
          clear hb1 HC HAl
          cases hi1 : insM re rs ⟨op, dst, src, nn, of⟩ with
          | false =>
            have HF := hide (unhide HNo j (by omega) ((unhide HN2).trans hi1))
            clear hi1
            go_wp2
            go_ret
            exact ⟨ret_bool (by rw [unhide HRR, unhide HF]; rfl), by rw [unhide HBq]; exact unhide FIN _ (unhide HBn)⟩
          | true =>
            have HOk := hide ((unhide HN2).trans hi1)
            clear hi1
            go_wp2
            go_roundw
            case rel => exact ⟨j + 1, by go_num, by omega, fun i hi => by
              by_cases e : i = j
              · subst e; exact unhide HOk
              · exact unhide HAll i (by omega), unhide HBn⟩
            case measure => simp [intOf]; omega
      | true =>
        rw [hen] at HEe
        by_cases hj1 : j + 1 = il
        · have tj : ((j : Int) == (il : Int) - 1) = true := by simp; omega
          have HN2 := hide (show okAt re rs ins j = insM re rs ⟨op, dst, src, nn, of⟩ by rw [unhide HN, hen]; simp [hj1])
          clear hen hj1
          go_wp2_with fail
          refine (unhide HEe _).mono ?_
          rintro e w1 ⟨rfl, rfl⟩
          have hal := one_alloc wr (.cells #[.int .u8 (op : Int), .int .i64 dst, .slice sa ln sc, .int .i64 nn, .int .u32 of] 29)
          have rn := heap_alloc_new wr (.cells #[.int .u8 (op : Int), .int .i64 dst, .slice sa ln sc, .int .i64 nn, .int .u32 of] 29)
          generalize wr.alloc (.cells #[.int .u8 (op : Int), .int .i64 dst, .slice sa ln sc, .int .i64 nn, .int .u32 of] 29) = W1 at *
          have HC := hide (unhide HQ _ (TC.below (unhide HTr) hal) ((unhide HS2).below hal))
          have HAl := hide (Below.on (unhide HBel) hal)
          clear p0 p1 p2 p3 q0 q1 q2 e0 e1 e2 e3 e4 hal
          obtain ⟨p0, p1, p2, p3⟩ := (unhide CE W1 (unhide HAl)).1
          have e0 : W1.cell? ⟨wr.heap.size, 0, none⟩ = some (.int .u8 (op : Int)) := by rw [cell_of_row W1 _ 0 _ _ _ rn]; rfl
          have e1 : W1.cell? ⟨wr.heap.size, 1, none⟩ = some (.int .i64 dst) := by rw [cell_of_row W1 _ 1 _ _ _ rn]; rfl
          have e2 : W1.cell? ⟨wr.heap.size, 2, none⟩ = some (.slice sa ln sc) := by rw [cell_of_row W1 _ 2 _ _ _ rn]; rfl
          have e3 : W1.cell? ⟨wr.heap.size, 3, none⟩ = some (.int .i64 nn) := by rw [cell_of_row W1 _ 3 _ _ _ rn]; rfl
          have e4 : W1.cell? ⟨wr.heap.size, 4, none⟩ = some (.int .u32 of) := by rw [cell_of_row W1 _ 4 _ _ _ rn]; rfl
          clear rn
          go_wp2_with fail
          refine (unhide HC).mono ?_
          rintro e w1 ⟨rfl, hb1⟩
          have HBn := hide (Below.on (unhide HAl) hb1)
          clear hb1 HC HAl
          cases hi1 : insM re rs ⟨op, dst, src, nn, of⟩ with
          | false =>
            have HF := hide (unhide HNo j (by omega) ((unhide HN2).trans hi1))
            clear hi1
            go_wp2
            go_ret
            exact ⟨ret_bool (by rw [unhide HRR, unhide HF]; rfl), by rw [unhide HBq]; exact unhide FIN _ (unhide HBn)⟩
          | true =>
            have HOk := hide ((unhide HN2).trans hi1)
            clear hi1
            go_wp2
            go_roundw
            case rel => exact ⟨j + 1, by go_num, by omega, fun i hi => by
              by_cases e : i = j
              · subst e; exact unhide HOk
              · exact unhide HAll i (by omega), unhide HBn⟩
            case measure => simp [intOf]; omega
        · have tj : ((j : Int) == (il : Int) - 1) = false := by simp; omega
          have HF := hide (unhide HNo j (by omega) (by rw [unhide HN, hen]; simp [hj1]))
          clear hen hj1
          go_wp2_with fail
          refine (unhide HEe _).mono ?_
          rintro e w1 ⟨rfl, rfl⟩
          go_wp2
          go_ret
          exact ⟨ret_bool (by rw [unhide HRR, unhide HF]; rfl), (unhide HBw).alloc (unhide HBw).size _⟩
    · obtain rfl : j = il := by omega
      have HF := hide (unhide HYes (unhide HAll))
      obtain ⟨x, hx⟩ : ∃ x, ins[j - 1]? = some x := ⟨_, List.getElem?_eq_getElem (by have := unhide HIl; omega)⟩
      have hmem : x ∈ ins := List.mem_of_getElem? hx
      obtain ⟨cs, hcl, ⟨v, rfl, hs⟩, hce⟩ := unhide HIt (j - 1) x hx
      have hbw : Below w.heap.size w wr := by rw [unhide HBq]; exact unhide FIN _ hbel
      have e0 : wr.cell? ⟨bi, oi + (j - 1) * 5, none⟩ = some (.int .u8 (x.op : Int)) := (hbw.cell (p := ⟨bi, oi + (j - 1) * 5 + 0, none⟩) (by have := unhide HBi; rw [unhide HBq]; exact this)).trans (hce 0 _ rfl)
      have hl1 : lastL ins nl = leads x.op nl := by unfold lastL; rw [unhide HIl, hx]
      have HLd := hide (leads_any x.op (unhide HOp x hmem) nl)
      have HR2 := hide (show b3 = (leads x.op nl && allT next nb) by rw [unhide HRR, unhide HF, hl1]; rfl)
      have HBw := hide hbw
      clear hs hce hcl hx hmem hl1 hj hlt hbw
      obtain ⟨p0, p1, p2, p3⟩ := (unhide CE wr hbel).1
      obtain ⟨q0, q1, q2⟩ := (unhide CE wr hbel).2
      clear hbel
      generalize x.op = lop at *
      cases hld : leads lop nl with
      | false =>
        rw [hld] at HLd HR2
        clear hld
        go_wp2_with fail
        go_quiet (with_reducible refine Calls.quiet_of_same (unhide HLd _))
        go_wp2
        go_ret
        exact ⟨ret_bool (by rw [unhide HR2]; rfl), Below.on (unhide HBw) (drewn _ _)⟩
      | true =>
        rw [hld] at HLd HR2
        clear hld
        have HA2 := hide (fun W' (h : Below w.heap.size w W') => unhide HA W' ((unhide HV).below h))
        go_wp2_with fail
        go_region_with (first | (go_at_call 50; refine (unhide HLd _).mono ?_; rintro e w5 ⟨rfl, rfl⟩) | (go_at_call 51; refine (unhide HA2 _ (Below.on (unhide HBw) (drewn wr _))).mono ?_; rintro e w6 ⟨rfl, hb6⟩; have HB6 := hide (Below.on (Below.on (unhide HBw) (drewn wr _)) hb6); clear hb6))
        all_goals
          go_wp2
          go_ret
          exact ⟨ret_bool (by rw [unhide HR2]; rfl), unhide HB6⟩
end Vc
end Go.Proofs.YtpecnljcgiicaaaDoor
