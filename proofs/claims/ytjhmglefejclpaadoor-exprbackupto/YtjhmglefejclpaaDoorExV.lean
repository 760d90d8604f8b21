/- The checker: instr and list; expr.Check. -/
import Derived.Test.YtjhmglefejclpaaDoorExN
namespace Go.Proofs.YtjhmglefejclpaaDoor
open Go.RowKit
namespace Ex
set_option linter.unusedVariables false

/-- the checker's box -/
def Ck (w : World) (N q : Nat) : Prop := w.heap[N]? = some (.cells #[.int .i64 q] 68 (0, 0))
namespace Ck
variable {w : World} {N q : Nat}
theorem lt (h : Ck w N q) : N < w.heap.size := (Array.getElem?_eq_some_iff.1 h).1
theorem c0 (h : Ck w N q) : w.cell? ⟨N, 0, none⟩ = some (.int .i64 q) := cell_of_row w N 0 _ _ _ h
theorem fz (h : Ck w N q) : w.frozen? ⟨N, 0, none⟩ = false := by unfold Ck at h; simp [World.frozen?, h]
theorem below (h : Ck w N q) {w' : World} (hb : Below w.heap.size w w') : Ck w' N q := (hb.block N h.lt).trans h
theorem set (h : Ck w N q) (q' : Nat) : Ck (w.setCell ⟨N, 0, none⟩ (.int .i64 q')) N q' := heap_setCell_same w N 0 _ _ _ h
theorem kin (h : Ck w N q) : ¬ Kin w N := by
  rintro ⟨o, x, h2 | h2⟩
  all_goals
    rw [cell_of_row w N o _ _ _ h] at h2
    rcases o with _ | o
    · simp at h2
    · simp at h2
theorem moves (h : Ck w N q) {w' : World} (ht : Tn N w w') (g : Nat → Prop) : Moves w w' g g := fun k hk hkin hg => ⟨hg, ht.block k hk (fun e => h.kin (by cases e; exact hkin))⟩
theorem tb (h : Ck w N q) {w' : World} (ht : Tn N w w') (hT : Tb w) : Tb w' := by
  obtain ⟨⟨h1, t1, f1, e1⟩, ⟨h2, t2, f2, e2⟩⟩ := hT
  have n1 : 2 ≠ N := by
    rintro rfl
    have := e1.symm.trans h
    simp only [Option.some.injEq, Obj.cells.injEq] at this
    have h := congrArg Array.size this.1
    have hla : fmV.toArray.size = 192 := rfl
    rw [hla] at h; simp at h
  have n2 : 1 ≠ N := by
    rintro rfl
    have := e2.symm.trans h
    simp only [Option.some.injEq, Obj.cells.injEq] at this
    have h := congrArg Array.size this.1
    have hla : flV.toArray.size = 14 := rfl
    rw [hla] at h; simp at h
  exact ⟨⟨Nat.lt_of_lt_of_le h1 ht.size, t1, f1, (ht.block _ h1 (fun e => n1 (Option.some.inj e))).trans e1⟩, ⟨Nat.lt_of_lt_of_le h2 ht.size, t2, f2, (ht.block _ h2 (fun e => n2 (Option.some.inj e))).trans e2⟩⟩
end Ck
/-- what list says -/
def okL (q nest : Nat) (l : List Ins) : Bool := decide (q + cnt l ≤ 16384) && decide (nest ≤ 64) && may nest l
def okI (q nest : Nat) (i : Ins) : Bool := mayI nest i && decide (q + cnt i.body + cnt i.els ≤ 16384)
def CkPost (N : Nat) (b : Bool) (q : Nat) (w : World) (e : Ending) (w' : World) : Prop := ∃ q' : Nat, e = .returned (.bool b) ∧ Ck w' N q' ∧ Tn N w w' ∧ (b = true → q' = q)
def ChkP (l : List Ins) : Prop := ∀ (N q nest : Nat) (g : Nat → Prop) (v : Value) (w : World), Ck w N q → Code w g l v → Tb w → q ≤ 16384 → nest ≤ 65 → l.length ≤ 1099511627776 → Sz 1099511627776 l → Wf l →
  Calls Tryd.prog 31 #[.pointer (some ⟨N, 0, none⟩), v, .int .i64 nest] w (CkPost N (okL q nest l) (q + cnt l) w)

theorem okI_form {q nest : Nat} {i : Ins} (h : frm i.op = none) : okI q nest i = false := by simp [okI, mayI, one, h]
theorem okI_bnd {q nest : Nat} {i : Ins} (h : bnd (fr i.op) i.n i.re i.ls.length = false) : okI q nest i = false := by simp [okI, mayI, one, h]
theorem okI_alo {q nest : Nat} {i : Ins} (h : alo (fr i.op) i.n i.al i.of i.re i.body.length i.els.length i.ls.length = false) : okI q nest i = false := by simp [okI, mayI, one, h]
theorem alo_nil {f n al of re : Int} {lb le ll : Nat} (h : alo f n al of re lb le ll = true) (hb : blk f = false) : lb = 0 ∧ le = 0 := by
  unfold alo at h; unfold blk at hb
  simp only [decide_eq_true_eq, decide_eq_false_iff_not] at h hb
  omega
theorem cnt_0 {l : List Ins} (h : l.length = 0) : cnt l = 0 := by rw [List.eq_nil_of_length_eq_zero h, cnt_nil]
theorem okI_plain {q nest : Nat} {i : Ins} (hq : q ≤ 16384) (h0 : (frm i.op).isSome = true) (h1 : bnd (fr i.op) i.n i.re i.ls.length = true) (h2 : alo (fr i.op) i.n i.al i.of i.re i.body.length i.els.length i.ls.length = true) (hb : blk (fr i.op) = false) : okI q nest i = true ∧ cnt i.body = 0 ∧ cnt i.els = 0 := by
  have := alo_nil h2 hb
  have c1 := cnt_0 this.1
  have c2 := cnt_0 this.2
  exact ⟨by simp [okI, mayI, one, h0, h1, h2, hb, c1, c2]; omega, c1, c2⟩
theorem okI_blk {q nest : Nat} {i : Ins} (h0 : (frm i.op).isSome = true) (h1 : bnd (fr i.op) i.n i.re i.ls.length = true) (h2 : alo (fr i.op) i.n i.al i.of i.re i.body.length i.els.length i.ls.length = true) (hb : blk (fr i.op) = true) :
    okI q nest i = (okL q (nest + 1) i.body && okL (q + cnt i.body) (nest + 1) i.els) := by
  unfold okI okL mayI one
  rw [h0, h1, h2, hb]
  rw [Bool.eq_iff_iff]
  simp only [Bool.and_eq_true, Bool.or_eq_true, Bool.not_eq_true', decide_eq_true_eq, Bool.true_eq_false, false_or, true_and]
  constructor
  · rintro ⟨⟨⟨a, b⟩, c⟩, d⟩; exact ⟨⟨⟨by omega, by omega⟩, b⟩, ⟨by omega, by omega⟩, c⟩
  · rintro ⟨⟨⟨a, b⟩, c⟩, ⟨d, e⟩, f⟩; exact ⟨⟨⟨by omega, c⟩, f⟩, by omega⟩

set_option maxRecDepth 100000 in
set_option maxHeartbeats 3200000 in
theorem chki_any (i : Ins) (hib : ChkP i.body) (hie : ChkP i.els) {N q nest : Nat} {g : Nat → Prop} {vb ve vl : Value} {w : World} (hk : Ck w N q) (h1 : Code w g i.body vb) (h2 : Code w g i.els ve) (h3 : Lies g i.ls.length (Lab w i.ls) vl) (hT : Tb w) (hq : q ≤ 16384) (hn : nest ≤ 64) (sz : SzI 1099511627776 i) (wf : WfI i) :
    Calls Tryd.prog 43 #[.pointer (some ⟨N, 0, none⟩), .agg #[.int .u8 i.op, .int .i64 i.n, .int .u32 i.al, .int .u32 i.of, .int .u8 i.re, vb, ve, vl], .int .i64 nest] w (CkPost N (okI q nest i) (q + cnt i.body + cnt i.els) w) := by
  obtain ⟨o, ho⟩ : ∃ o : Nat, i.op = (o : Int) := ⟨i.op.toNat, by have := wf.1.1; omega⟩
  have ho2 : o < 256 := by have := wf.1.1; omega
  have H1 := hide h1; have H2 := hide h2; have H3 := hide h3; have SZ := hide sz; have WF := hide wf; have HK := hide hk; have HT := hide hT; have HIb := hide hib; have HIe := hide hie
  obtain ⟨ab, cb, rfl, _⟩ := h1
  obtain ⟨ae, ce, rfl, _⟩ := h2
  obtain ⟨al3, cl, rfl, _⟩ := h3
  clear hk hT hib hie
  have hfm := fun wx hx => form_any o ho2 wx hx
  rw [← ho] at hfm
  clear ho ho2
  have hb0 := one_alloc w (.cells #[.int .u8 i.op, .int .i64 i.n, .int .u32 i.al, .int .u32 i.of, .int .u8 i.re, .slice ab i.body.length cb, .slice ae i.els.length ce, .slice al3 i.ls.length cl] 50)
  have hbx : Bx (w.alloc (.cells #[.int .u8 i.op, .int .i64 i.n, .int .u32 i.al, .int .u32 i.of, .int .u8 i.re, .slice ab i.body.length cb, .slice ae i.els.length ce, .slice al3 i.ls.length cl] 50)) w.heap.size (.int .u8 i.op) (.int .i64 i.n) (.int .u32 i.al) (.int .u32 i.of) (.int .u8 i.re) (.slice ab i.body.length cb) (.slice ae i.els.length ce) (.slice al3 i.ls.length cl) := heap_alloc_new w _
  have HBx := hide hbx; have HB0 := hide hb0
  have hln : N < w.heap.size := (unhide HK).lt
  clear hbx hb0
  cases hx : fam i.op with
  | none =>
    have hno : okI q nest i = false := okI_form (by unfold frm; rw [hx]; rfl)
    rw [hno]
    rw [hx] at hfm
    simp only [formR, errV_1] at hfm
    have HF := hide hfm; clear hfm hx hno sz wf
    go_enter Tryd.func43, Tryd.ntmps43
    go_wp2_with fail
    refine (unhide HF _ ((unhide HT).1.below (unhide HB0))).mono ?_
    rintro e w1 ⟨rfl, hb1⟩
    have HB1 := hide (Below.on (unhide HB0) hb1); clear hb1
    go_wp2
    go_ret
    exact ⟨q, rfl, (unhide HK).below (unhide HB1), Tn.of (unhide HB1), fun e => absurd e (by decide)⟩
  | some x =>
    have hfo := fam_o hx
    obtain ⟨x1, x2, f, x4, x5, x6⟩ := x
    simp only at hfo
    have hfr : fr i.op = f := fr_of hx
    have hso : (frm i.op).isSome = true := by unfold frm; rw [hx]; rfl
    rw [hx] at hfm
    simp only [formR, errV_0] at hfm
    have hin := fun wx => inb_any i.op i.n i.al i.of i.re ab ae al3 i.body.length cb i.els.length ce i.ls.length cl f wx hfo sz.2.2.1
    have hnm := fun (wx : World) (hb : Below w.heap.size w wx) => hnm_any i f hfo wx ((unhide H1).below hb) ((unhide H2).below hb) (Labs.below (unhide H3) hb) sz
    have HF := hide hfm; have HIn := hide hin; have HNm := hide hnm; have HSo := hide hso; have HFr := hide hfr
    clear hfm hin hnm hx hso hfr
    cases hbd : bnd f i.n i.re i.ls.length with
    | false =>
      have hno : okI q nest i = false := okI_bnd (by rw [unhide HFr]; exact hbd)
      rw [hno]
      have HBd := hide hbd
      clear hno hbd sz wf hfo
      go_enter Tryd.func43, Tryd.ntmps43
      go_wp2_with fail
      refine (unhide HF _ ((unhide HT).1.below (unhide HB0))).mono ?_
      rintro e w1 ⟨rfl, hb1⟩
      have bx := (unhide HBx).below hb1
      obtain ⟨c0, c1, c2, c3, c4, c5, c6, c7⟩ := bx.cs
      have HB1 := hide (Below.on (unhide HB0) hb1)
      clear hb1 bx
      go_wp2_with fail
      refine (unhide HIn _).mono ?_
      rintro e w2 ⟨rfl, hb2⟩
      rw [unhide HBd]
      have HB2 := hide (Below.on (unhide HB1) hb2)
      clear hb2 c0 c1 c2 c3 c4 c5 c6 c7
      go_wp2
      go_ret
      exact ⟨q, rfl, (unhide HK).below (unhide HB2), Tn.of (unhide HB2), fun e => absurd e (by decide)⟩
    | true =>
      cases hal : alo f i.n i.al i.of i.re i.body.length i.els.length i.ls.length with
      | false =>
        have hno : okI q nest i = false := okI_alo (by rw [unhide HFr]; exact hal)
        rw [hno]
        have HBd := hide hbd; have HAl := hide hal
        clear hno hbd sz wf hfo hal
        go_enter Tryd.func43, Tryd.ntmps43
        go_wp2_with fail
        refine (unhide HF _ ((unhide HT).1.below (unhide HB0))).mono ?_
        rintro e w1 ⟨rfl, hb1⟩
        have bx := (unhide HBx).below hb1
        obtain ⟨c0, c1, c2, c3, c4, c5, c6, c7⟩ := bx.cs
        have HB1 := hide (Below.on (unhide HB0) hb1); have HX1 := hide bx
        clear hb1 bx
        go_wp2_with fail
        refine (unhide HIn _).mono ?_
        rintro e w2 ⟨rfl, hb2⟩
        rw [unhide HBd]
        have bx := (unhide HX1).below hb2
        have HB2 := hide (Below.on (unhide HB1) hb2)
        clear hb2 c0 c1 c2 c3 c4 c5 c6 c7
        obtain ⟨c0, c1, c2, c3, c4, c5, c6, c7⟩ := bx.cs
        clear bx
        go_wp2_with fail
        refine (unhide HNm _ (unhide HB2)).mono ?_
        rintro e w3 ⟨rfl, hb3⟩
        rw [unhide HAl]
        have HB3 := hide (Below.on (unhide HB2) hb3)
        clear hb3 c0 c1 c2 c3 c4 c5 c6 c7
        go_wp2
        go_ret
        exact ⟨q, rfl, (unhide HK).below (unhide HB3), Tn.of (unhide HB3), fun e => absurd e (by decide)⟩
      | true =>
        have hib := fun wx => ib_any f wx
        have HIB := hide hib
        have HBd := hide hbd; have HAl := hide hal
        clear hib hbd hal hfo
        go_enter Tryd.func43, Tryd.ntmps43
        go_wp2_with fail
        refine (unhide HF _ ((unhide HT).1.below (unhide HB0))).mono ?_
        rintro e w1 ⟨rfl, hb1⟩
        have bx := (unhide HBx).below hb1
        obtain ⟨c0, c1, c2, c3, c4, c5, c6, c7⟩ := bx.cs
        have HB1 := hide (Below.on (unhide HB0) hb1); have HX1 := hide bx
        clear hb1 bx
        go_wp2_with fail
        refine (unhide HIn _).mono ?_
        rintro e w2 ⟨rfl, hb2⟩
        rw [unhide HBd]
        have bx := (unhide HX1).below hb2
        have HB2 := hide (Below.on (unhide HB1) hb2); have HX2 := hide bx
        clear hb2 c0 c1 c2 c3 c4 c5 c6 c7
        obtain ⟨c0, c1, c2, c3, c4, c5, c6, c7⟩ := bx.cs
        clear bx
        go_wp2_with fail
        refine (unhide HNm _ (unhide HB2)).mono ?_
        rintro e w3 ⟨rfl, hb3⟩
        rw [unhide HAl]
        have bx := (unhide HX2).below hb3
        have HB3 := hide (Below.on (unhide HB2) hb3); have HX3 := hide bx
        clear hb3 c0 c1 c2 c3 c4 c5 c6 c7 bx
        go_wp2_with fail
        refine (unhide HIB _).mono ?_
        rintro e w4 ⟨rfl, rfl⟩
        have hkk := (unhide HK).below (unhide HB3)
        cases hbl : blk f with
        | false =>
          obtain ⟨y1, y2, y3⟩ := okI_plain (nest := nest) hq (unhide HSo) (by rw [unhide HFr]; exact unhide HBd) (by rw [unhide HFr]; exact unhide HAl) (by rw [unhide HFr]; exact hbl)
          have HY := hide (show _ ∧ _ ∧ _ from ⟨y1, y2, y3⟩)
          have HKK := hide hkk
          clear y1 y2 y3 hkk hbl sz wf
          go_wp2
          go_ret
          exact ⟨q, ret_bool (unhide HY).1.symm, unhide HKK, Tn.of (unhide HB3), fun _ => by have := unhide HY; omega⟩
        | true =>
          have hbk := okI_blk (q := q) (nest := nest) (unhide HSo) (by rw [unhide HFr]; exact unhide HBd) (by rw [unhide HFr]; exact unhide HAl) (by rw [unhide HFr]; exact hbl)
          have HBk := hide hbk
          have c5 := (unhide HX3).cs.2.2.2.2.2.1
          have hl1 := unhide HIb N q (nest + 1) g _ w3 hkk ((unhide H1).below (unhide HB3)) ((unhide HT).below (unhide HB3)) hq (by omega) sz.1 sz.2.2.2.1 wf.2.1
          rw [show (((nest + 1 : Nat)) : Int) = (nest : Int) + 1 by omega] at hl1
          have HL1 := hide hl1; have HKK := hide hkk
          have HTW := hide ((unhide HT).below (unhide HB3)); have HC2 := hide ((unhide H2).below (unhide HB3))
          clear hbk hl1 hkk hbl
          go_wp2_with fail
          refine (unhide HL1).mono ?_
          rintro e w5 ⟨q1, rfl, hk5, ht5, hq5⟩
          have hne : w.heap.size ≠ N := by omega
          have c6 := ((unhide HX3).tn ht5 hne).cs.2.2.2.2.2.2.1
          have HK5 := hide hk5; have HT5 := hide ht5
          have htw := Ck.tb (unhide HKK) ht5 (unhide HTW)
          have hc2 := (unhide HC2).move (Ck.moves (unhide HKK) ht5 g)
          cases ho1 : okL q (nest + 1) i.body with
          | false =>
            have hno : okI q nest i = false := by rw [unhide HBk, ho1]; rfl
            have HNo := hide hno
            clear hk5 ht5 hq5 hno ho1 c5 htw hc2 sz wf
            go_wp2
            go_ret
            exact ⟨q1, ret_bool (unhide HNo).symm, unhide HK5, Tn.on (Tn.of (unhide HB3)) (unhide HT5), fun e => absurd (e.symm.trans (unhide HNo)) (by decide)⟩
          | true =>
            have hq1 := hq5 ho1
            subst hq1
            have hle : q + cnt i.body ≤ 16384 := by
              unfold okL at ho1
              simp only [Bool.and_eq_true, decide_eq_true_eq] at ho1
              exact ho1.1.1
            have hl2 := unhide HIe N (q + cnt i.body) (nest + 1) g _ w5 hk5 hc2 htw hle (by omega) sz.2.1 sz.2.2.2.2 wf.2.2
            rw [show (((nest + 1 : Nat)) : Int) = (nest : Int) + 1 by omega] at hl2
            have HL2 := hide hl2
            have hyes : okI q nest i = okL (q + cnt i.body) (nest + 1) i.els := by rw [unhide HBk, ho1]; rfl
            have HYes := hide hyes
            clear hk5 ht5 hq5 ho1 c5 htw hc2 hl2 hyes sz wf hle
            go_wp2_with fail
            refine (unhide HL2).mono ?_
            rintro e w6 ⟨q2, rfl, hk6, ht6, hq6⟩
            have HK6 := hide hk6; have HT6 := hide (Tn.on (Tn.of (N := N) (unhide HB3)) (Tn.on (unhide HT5) ht6)); have HQ6 := hide hq6
            clear hk6 ht6 hq6 c6
            go_wp2
            go_ret
            exact ⟨q2, ret_bool (unhide HYes).symm, unhide HK6, unhide HT6, fun e => by rw [unhide HQ6 ((unhide HYes).symm.trans e)]⟩
end Ex
end Go.Proofs.YtjhmglefejclpaaDoor
