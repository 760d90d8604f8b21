/- The writer: block, fields, list; expr.Encode. -/
import Derived.Test.YtjhmglefejclpaaDoorExY
namespace Go.Proofs.YtjhmglefejclpaaDoor
open Go.RowKit
namespace Ex
set_option linter.unusedVariables false
set_option linter.unusedSimpArgs false

theorem may_blk {d : Nat} {i : Ins} (h : mayI d i = true) (hb : blk (fr i.op) = true) : may (d + 1) i.body = true ∧ may (d + 1) i.els = true := by
  unfold mayI at h
  rw [hb] at h
  simp only [Bool.and_eq_true, Bool.not_true, Bool.false_or] at h
  exact ⟨h.2.1.2, h.2.2⟩
theorem may_one {d : Nat} {i : Ins} (h : mayI d i = true) : bnd (fr i.op) i.n i.re i.ls.length = true ∧ ∃ x, fam i.op = some x := by
  unfold mayI one at h
  simp only [Bool.and_eq_true] at h
  refine ⟨h.1.1.2, ?_⟩
  have := h.1.1.1
  unfold frm at this
  cases hx : fam i.op with
  | none => rw [hx] at this; exact absurd this (by decide)
  | some x => exact ⟨x, rfl⟩
theorem len4 (a b c d : List Int) : (a ++ b ++ c ++ d).length = a.length + b.length + c.length + d.length := by simp only [List.length_append]

set_option maxRecDepth 100000 in
set_option maxHeartbeats 3200000 in
theorem blk_any (i : Ins) (hb : WrP i.body) (he : WrP i.els) {w : World} {N d : Nat} {zs : List Int} {vb ve vl : Value} (h : Wr w N zs) (h1 : Code w (· < N) i.body vb) (h2 : Code w (· < N) i.els ve) (h3 : Lies (· < N) i.ls.length (Lab w i.ls) vl)
    (m1 : may d i.body = true) (m2 : may d i.els = true) (hre : i.re = 0 ∨ i.re = 127 ∨ i.re = 126) (sz : SzI 1099511627776 i) (wf : WfI i)
    (hz : zs.length + ([kB i.re] ++ enc i.body ++ (if 0 < i.els.length then [5] ++ enc i.els else []) ++ [11]).length + 4000 ≤ 1099511627776) (hT : TC w 2 fmV) (hTN : 2 < N) :
    Calls Tryd.prog 55 #[.pointer (some ⟨N, 0, none⟩), .agg #[.int .u8 i.op, .int .i64 i.n, .int .u32 i.al, .int .u32 i.of, .int .u8 i.re, vb, ve, vl]] w fun e w' => e = .returned (.tuple #[]) ∧ Wr w' N (zs ++ ([kB i.re] ++ enc i.body ++ (if 0 < i.els.length then [5] ++ enc i.els else []) ++ [11])) ∧ Fr N w w' := by
  have H1 := hide h1; have H2 := hide h2
  obtain ⟨ab, cb, rfl, _⟩ := h1
  obtain ⟨ae, ce, rfl, _⟩ := h2
  obtain ⟨al3, cl, rfl, _⟩ := h3
  have hlt := h.lt
  have hkb : 0 ≤ kB i.re ∧ kB i.re ≤ 255 := by rcases hre with e | e | e <;> rw [e] <;> decide
  rw [len4] at hz
  have b0 := box1 w (.int .u8 i.op) (.int .i64 i.n) (.int .u32 i.al) (.int .u32 i.of) (.int .u8 i.re) (.slice ab i.body.length cb) (.slice ae i.els.length ce) (.slice al3 i.ls.length cl)
  have f0 := Fr.of (N := N) (one_alloc w (.cells #[.int .u8 i.op, .int .i64 i.n, .int .u32 i.al, .int .u32 i.of, .int .u8 i.re, .slice ab i.body.length cb, .slice ae i.els.length ce, .slice al3 i.ls.length cl] 50)) (Nat.le_of_lt hlt)
  have w0 := h.below (one_alloc w (.cells #[.int .u8 i.op, .int .i64 i.n, .int .u32 i.al, .int .u32 i.of, .int .u8 i.re, .slice ab i.body.length cb, .slice ae i.els.length ce, .slice al3 i.ls.length cl] 50))
  have hQ : w.heap.size ≠ N := by omega
  have hzl : zs.length + 1 + (enc i.body).length + 4000 ≤ 1099511627776 := by simp at hz; omega
  generalize hbb : [kB i.re] = KB at *
  have hkl : KB.length = 1 := by rw [← hbb]; rfl
  have F0 := hide f0; have B0 := hide b0; have W0 := hide w0; have HZ := hide hz; have HBB := hide hbb; have HB := hide hb; have HE := hide he; have HT := hide hT; have SZ := hide sz; have WF := hide wf; have M1 := hide m1; have M2 := hide m2; have HKL := hide hkl
  clear f0 b0 w0 hz hbb hb he h hT m1 m2 sz wf hre hkl
  go_enter Tryd.func55, Tryd.ntmps55
  go_wp2_with fail
  generalize (w.alloc (.cells #[.int .u8 i.op, .int .i64 i.n, .int .u32 i.al, .int .u32 i.of, .int .u8 i.re, .slice ab i.body.length cb, .slice ae i.els.length ce, .slice al3 i.ls.length cl] 50)) = w0 at *
  generalize hQn : w.heap.size = Q at *
  clear hQn
  refine (kb_any i.re _).mono ?_
  rintro e w1 ⟨rfl, rfl⟩
  go_wp2_with fail
  refine (one_any (kB i.re) (unhide W0) (by omega) hkb).mono ?_
  rintro e w1 ⟨rfl, hw1, hf1⟩
  rw [unhide HBB] at hw1
  have b1 := hf1.bx (unhide B0) hQ
  have c5 := b1.cs.2.2.2.2.2.1
  have fr1 := Fr.on (unhide F0) hf1
  have hl := unhide HB N d (zs ++ KB) _ w1 hw1 ((unhide H1).belowN fr1.lo) (unhide M1) (unhide WF).2.1 (unhide SZ).2.2.2.1 (unhide SZ).1 (by have := unhide HKL; rw [List.length_append]; omega) (TC.belowN (unhide HT) hTN fr1.lo) hTN
  have HL := hide hl; have B1 := hide b1; have F1 := hide fr1
  clear hl hw1 hf1 b1 fr1
  go_wp2_with fail
  refine (unhide HL).mono ?_
  rintro e w2 ⟨rfl, hw2, hf2⟩
  have b2 := hf2.bx (unhide B1) hQ
  have c6 := b2.cs.2.2.2.2.2.2.1
  have fr2 := Fr.on (unhide F1) hf2
  have HW2 := hide hw2; have B2 := hide b2; have F2 := hide fr2
  clear hw2 hf2 b2 fr2 c5
  by_cases hel : 0 < i.els.length
  · rw [if_pos hel] at HZ
    have hel2 : (0 : Int) < (i.els.length : Int) := by omega
    go_wp2_with fail
    refine (one_any 5 (unhide HW2) (by have h5 := unhide HZ; have := unhide HKL; simp only [List.length_append, List.length_cons, List.length_nil] at h5 ⊢; omega) (by omega)).mono ?_
    rintro e w3 ⟨rfl, hw3, hf3⟩
    have b3 := hf3.bx (unhide B2) hQ
    have d6 := b3.cs.2.2.2.2.2.2.1
    have fr3 := Fr.on (unhide F2) hf3
    have hl := unhide HE N d (zs ++ KB ++ enc i.body ++ [5]) _ w3 hw3 ((unhide H2).belowN fr3.lo) (unhide M2) (unhide WF).2.2 (unhide SZ).2.2.2.2 (unhide SZ).2.1 (by have h5 := unhide HZ; have := unhide HKL; simp only [List.length_append, List.length_cons, List.length_nil] at h5 ⊢; omega) (TC.belowN (unhide HT) hTN fr3.lo) hTN
    have HL2 := hide hl; have F3 := hide fr3
    clear hl hw3 hf3 b3 fr3 c6
    go_wp2_with fail
    refine (unhide HL2).mono ?_
    rintro e w4 ⟨rfl, hw4, hf4⟩
    have HW4 := hide hw4; have F4 := hide (Fr.on (unhide F3) hf4)
    clear hw4 hf4 d6
    go_wp2_with fail
    refine (one_any 11 (unhide HW4) (by have h5 := unhide HZ; have := unhide HKL; simp only [List.length_append, List.length_cons, List.length_nil] at h5 ⊢; omega) (by omega)).mono ?_
    rintro e w5 ⟨rfl, hw5, hf5⟩
    have HW5 := hide hw5; have F5 := hide (Fr.on (unhide F4) hf5)
    clear hw5 hf5
    go_wp2
    go_end0
    refine ⟨rfl, ?_, unhide F5⟩
    have := unhide HW5
    simpa using this
  · rw [if_neg hel] at HZ
    have hel2 : ¬ (0 : Int) < (i.els.length : Int) := by omega
    go_wp2_with fail
    refine (one_any 11 (unhide HW2) (by have h5 := unhide HZ; have := unhide HKL; simp only [List.length_append, List.length_cons, List.length_nil] at h5 ⊢; omega) (by omega)).mono ?_
    rintro e w5 ⟨rfl, hw5, hf5⟩
    have HW5 := hide hw5; have F5 := hide (Fr.on (unhide F2) hf5)
    clear hw5 hf5 c6
    go_wp2
    go_end0
    refine ⟨rfl, ?_, unhide F5⟩
    have := unhide HW5
    simpa using this

set_option maxRecDepth 100000 in
set_option maxHeartbeats 3200000 in
theorem fld_0 (i : Ins) (hib : WrP i.body) (hie : WrP i.els) {w : World} {N d : Nat} {zs : List Int} {vb ve vl : Value} (h : Wr w N zs) (h1 : Code w (· < N) i.body vb) (h2 : Code w (· < N) i.els ve) (h3 : Lies (· < N) i.ls.length (Lab w i.ls) vl)
    (hm : mayI d i = true) (x : Fam) (hx : fam i.op = some x) (ho : x.o = 0) (sz : SzI 1099511627776 i) (wf : WfI i) (hz : zs.length + (encI i).length + 4000 ≤ 1099511627776) (hT : TC w 2 fmV) (hTN : 2 < N) :
    Calls Tryd.prog 37 #[.pointer (some ⟨N, 0, none⟩), .agg #[.int .u8 i.op, .int .i64 i.n, .int .u32 i.al, .int .u32 i.of, .int .u8 i.re, vb, ve, vl]] w fun e w' => e = .returned (.tuple #[]) ∧ Wr w' N (zs ++ encI i) ∧ Fr N w w' := by
  obtain ⟨o, hop⟩ : ∃ o : Nat, i.op = (o : Int) := ⟨i.op.toNat, by have := wf.1.1; omega⟩
  have ho2 : o < 256 := by have := wf.1.1; omega
  have hfm := fun wx hx => form_any o ho2 wx hx
  rw [← hop] at hfm
  clear hop ho2
  obtain ⟨x1, x2, f, x4, x5, x6⟩ := x
  simp only at ho
  subst ho
  have hfr := fr_of hx
  rw [hx] at hfm
  simp only [formR, errV_0] at hfm
  have hbd := (may_one hm).1
  rw [hfr] at hbd
  obtain ⟨⟨o0, o1⟩, ⟨n0, n1⟩, ⟨a0, a1⟩, ⟨of0, of1⟩, ⟨r0, r1⟩, hls⟩ := wf.1
  have H1 := hide h1; have H2 := hide h2; have H3 := hide h3
  obtain ⟨ab, cb, rfl, _⟩ := h1
  obtain ⟨ae, ce, rfl, _⟩ := h2
  obtain ⟨al3, cl, rfl, _⟩ := h3
  have hlt := h.lt
  have b0 := box1 w (.int .u8 i.op) (.int .i64 i.n) (.int .u32 i.al) (.int .u32 i.of) (.int .u8 i.re) (.slice ab i.body.length cb) (.slice ae i.els.length ce) (.slice al3 i.ls.length cl)
  have g0 := one_alloc w (.cells #[.int .u8 i.op, .int .i64 i.n, .int .u32 i.al, .int .u32 i.of, .int .u8 i.re, .slice ab i.body.length cb, .slice ae i.els.length ce, .slice al3 i.ls.length cl] 50)
  have hQ : w.heap.size ≠ N := by omega
  have hE : encI i = [] := by unfold encI encF; rw [hfr]; rfl
  rw [hE] at hz
  have HF := hide hfm; have HG := hide g0; have B0 := hide b0; have HW := hide h; have HT := hide hT; have HE := hide hE; have HLs := hide hls; have SZ := hide sz; have WF := hide wf; have HIb := hide hib; have HIe := hide hie; have HM := hide hm; have HFr := hide hfr
  clear hfm g0 b0 h hT hE hls sz wf hib hie hm hx hfr hz
  go_enter Tryd.func37, Tryd.ntmps37
  go_wp2_with fail
  generalize (w.alloc (.cells #[.int .u8 i.op, .int .i64 i.n, .int .u32 i.al, .int .u32 i.of, .int .u8 i.re, .slice ab i.body.length cb, .slice ae i.els.length ce, .slice al3 i.ls.length cl] 50)) = w0 at *
  generalize hQn : w.heap.size = Q at *
  have HQ := hide hQn; clear hQn
  refine (unhide HF _ ((unhide HT).below (by rw [unhide HQ]; exact unhide HG))).mono ?_
  rintro e w1 ⟨rfl, hb1⟩
  have g1 : Below w.heap.size w w1 := Below.on (by rw [unhide HQ]; exact unhide HG) hb1
  have W1 := hide ((unhide HW).below g1); have B1 := hide ((unhide B0).below hb1); have F1 := hide (Fr.of (N := N) g1 (by have := unhide HQ; omega)); have HT1 := hide ((unhide HT).below g1)
  have K1 := hide ((unhide H1).below g1); have K2 := hide ((unhide H2).below g1); have K3 := hide (Labs.below (unhide H3) g1)
  clear g1 hb1 B0 HG HF HW H1 H2 H3 HT
  have HWe := hide (show Wr w1 N (zs ++ []) by rw [List.append_nil]; exact unhide W1); have HFe := F1
  go_wp2
  go_end0
  exact ⟨rfl, by have := unhide HWe; rw [unhide HE]; simpa using this, unhide HFe⟩

set_option maxRecDepth 100000 in
set_option maxHeartbeats 3200000 in
theorem fld_1 (i : Ins) (hib : WrP i.body) (hie : WrP i.els) {w : World} {N d : Nat} {zs : List Int} {vb ve vl : Value} (h : Wr w N zs) (h1 : Code w (· < N) i.body vb) (h2 : Code w (· < N) i.els ve) (h3 : Lies (· < N) i.ls.length (Lab w i.ls) vl)
    (hm : mayI d i = true) (x : Fam) (hx : fam i.op = some x) (ho : x.o = 1) (sz : SzI 1099511627776 i) (wf : WfI i) (hz : zs.length + (encI i).length + 4000 ≤ 1099511627776) (hT : TC w 2 fmV) (hTN : 2 < N) :
    Calls Tryd.prog 37 #[.pointer (some ⟨N, 0, none⟩), .agg #[.int .u8 i.op, .int .i64 i.n, .int .u32 i.al, .int .u32 i.of, .int .u8 i.re, vb, ve, vl]] w fun e w' => e = .returned (.tuple #[]) ∧ Wr w' N (zs ++ encI i) ∧ Fr N w w' := by
  obtain ⟨o, hop⟩ : ∃ o : Nat, i.op = (o : Int) := ⟨i.op.toNat, by have := wf.1.1; omega⟩
  have ho2 : o < 256 := by have := wf.1.1; omega
  have hfm := fun wx hx => form_any o ho2 wx hx
  rw [← hop] at hfm
  clear hop ho2
  obtain ⟨x1, x2, f, x4, x5, x6⟩ := x
  simp only at ho
  subst ho
  have hfr := fr_of hx
  rw [hx] at hfm
  simp only [formR, errV_0] at hfm
  have hbd := (may_one hm).1
  rw [hfr] at hbd
  obtain ⟨⟨o0, o1⟩, ⟨n0, n1⟩, ⟨a0, a1⟩, ⟨of0, of1⟩, ⟨r0, r1⟩, hls⟩ := wf.1
  have H1 := hide h1; have H2 := hide h2; have H3 := hide h3
  obtain ⟨ab, cb, rfl, _⟩ := h1
  obtain ⟨ae, ce, rfl, _⟩ := h2
  obtain ⟨al3, cl, rfl, _⟩ := h3
  have hlt := h.lt
  have b0 := box1 w (.int .u8 i.op) (.int .i64 i.n) (.int .u32 i.al) (.int .u32 i.of) (.int .u8 i.re) (.slice ab i.body.length cb) (.slice ae i.els.length ce) (.slice al3 i.ls.length cl)
  have g0 := one_alloc w (.cells #[.int .u8 i.op, .int .i64 i.n, .int .u32 i.al, .int .u32 i.of, .int .u8 i.re, .slice ab i.body.length cb, .slice ae i.els.length ce, .slice al3 i.ls.length cl] 50)
  have hQ : w.heap.size ≠ N := by omega
  have hE : encI i = Leb.bS 10 i.n := by unfold encI encF; rw [hfr]; rfl
  rw [hE] at hz
  have hzz : zs.length ≤ 1099511627776 := by omega
  have HF := hide hfm; have HG := hide g0; have B0 := hide b0; have HW := hide h; have HT := hide hT; have HE := hide hE; have HLs := hide hls; have SZ := hide sz; have WF := hide wf; have HIb := hide hib; have HIe := hide hie; have HM := hide hm; have HFr := hide hfr
  clear hfm g0 b0 h hT hE hls sz wf hib hie hm hx hfr hz
  go_enter Tryd.func37, Tryd.ntmps37
  go_wp2_with fail
  generalize (w.alloc (.cells #[.int .u8 i.op, .int .i64 i.n, .int .u32 i.al, .int .u32 i.of, .int .u8 i.re, .slice ab i.body.length cb, .slice ae i.els.length ce, .slice al3 i.ls.length cl] 50)) = w0 at *
  generalize hQn : w.heap.size = Q at *
  have HQ := hide hQn; clear hQn
  refine (unhide HF _ ((unhide HT).below (by rw [unhide HQ]; exact unhide HG))).mono ?_
  rintro e w1 ⟨rfl, hb1⟩
  have g1 : Below w.heap.size w w1 := Below.on (by rw [unhide HQ]; exact unhide HG) hb1
  have W1 := hide ((unhide HW).below g1); have B1 := hide ((unhide B0).below hb1); have F1 := hide (Fr.of (N := N) g1 (by have := unhide HQ; omega)); have HT1 := hide ((unhide HT).below g1)
  have K1 := hide ((unhide H1).below g1); have K2 := hide ((unhide H2).below g1); have K3 := hide (Labs.below (unhide H3) g1)
  clear g1 hb1 B0 HG HF HW H1 H2 H3 HT
  obtain ⟨c0, c1, c2, c3, c4, c5, c6, c7⟩ := (unhide B1).cs
  go_wp2_with fail
  refine (sgn_any i.n (unhide W1) hzz n0 n1).mono ?_
  rintro e w2 ⟨rfl, hw2, hf2⟩
  have HWe := hide hw2; have HFe := hide (Fr.on (unhide F1) hf2)
  clear hw2 hf2 c0 c1 c2 c3 c4 c5 c6 c7
  go_wp2
  go_end0
  exact ⟨rfl, by have := unhide HWe; rw [unhide HE]; simpa using this, unhide HFe⟩

set_option maxRecDepth 100000 in
set_option maxHeartbeats 3200000 in
theorem fld_2 (i : Ins) (hib : WrP i.body) (hie : WrP i.els) {w : World} {N d : Nat} {zs : List Int} {vb ve vl : Value} (h : Wr w N zs) (h1 : Code w (· < N) i.body vb) (h2 : Code w (· < N) i.els ve) (h3 : Lies (· < N) i.ls.length (Lab w i.ls) vl)
    (hm : mayI d i = true) (x : Fam) (hx : fam i.op = some x) (ho : x.o = 2) (sz : SzI 1099511627776 i) (wf : WfI i) (hz : zs.length + (encI i).length + 4000 ≤ 1099511627776) (hT : TC w 2 fmV) (hTN : 2 < N) :
    Calls Tryd.prog 37 #[.pointer (some ⟨N, 0, none⟩), .agg #[.int .u8 i.op, .int .i64 i.n, .int .u32 i.al, .int .u32 i.of, .int .u8 i.re, vb, ve, vl]] w fun e w' => e = .returned (.tuple #[]) ∧ Wr w' N (zs ++ encI i) ∧ Fr N w w' := by
  obtain ⟨o, hop⟩ : ∃ o : Nat, i.op = (o : Int) := ⟨i.op.toNat, by have := wf.1.1; omega⟩
  have ho2 : o < 256 := by have := wf.1.1; omega
  have hfm := fun wx hx => form_any o ho2 wx hx
  rw [← hop] at hfm
  clear hop ho2
  obtain ⟨x1, x2, f, x4, x5, x6⟩ := x
  simp only at ho
  subst ho
  have hfr := fr_of hx
  rw [hx] at hfm
  simp only [formR, errV_0] at hfm
  have hbd := (may_one hm).1
  rw [hfr] at hbd
  obtain ⟨⟨o0, o1⟩, ⟨n0, n1⟩, ⟨a0, a1⟩, ⟨of0, of1⟩, ⟨r0, r1⟩, hls⟩ := wf.1
  have H1 := hide h1; have H2 := hide h2; have H3 := hide h3
  obtain ⟨ab, cb, rfl, _⟩ := h1
  obtain ⟨ae, ce, rfl, _⟩ := h2
  obtain ⟨al3, cl, rfl, _⟩ := h3
  have hlt := h.lt
  have b0 := box1 w (.int .u8 i.op) (.int .i64 i.n) (.int .u32 i.al) (.int .u32 i.of) (.int .u8 i.re) (.slice ab i.body.length cb) (.slice ae i.els.length ce) (.slice al3 i.ls.length cl)
  have g0 := one_alloc w (.cells #[.int .u8 i.op, .int .i64 i.n, .int .u32 i.al, .int .u32 i.of, .int .u8 i.re, .slice ab i.body.length cb, .slice ae i.els.length ce, .slice al3 i.ls.length cl] 50)
  have hQ : w.heap.size ≠ N := by omega
  have hE : encI i = Leb.bS 10 i.n := by unfold encI encF; rw [hfr]; rfl
  rw [hE] at hz
  have hzz : zs.length ≤ 1099511627776 := by omega
  have HF := hide hfm; have HG := hide g0; have B0 := hide b0; have HW := hide h; have HT := hide hT; have HE := hide hE; have HLs := hide hls; have SZ := hide sz; have WF := hide wf; have HIb := hide hib; have HIe := hide hie; have HM := hide hm; have HFr := hide hfr
  clear hfm g0 b0 h hT hE hls sz wf hib hie hm hx hfr hz
  go_enter Tryd.func37, Tryd.ntmps37
  go_wp2_with fail
  generalize (w.alloc (.cells #[.int .u8 i.op, .int .i64 i.n, .int .u32 i.al, .int .u32 i.of, .int .u8 i.re, .slice ab i.body.length cb, .slice ae i.els.length ce, .slice al3 i.ls.length cl] 50)) = w0 at *
  generalize hQn : w.heap.size = Q at *
  have HQ := hide hQn; clear hQn
  refine (unhide HF _ ((unhide HT).below (by rw [unhide HQ]; exact unhide HG))).mono ?_
  rintro e w1 ⟨rfl, hb1⟩
  have g1 : Below w.heap.size w w1 := Below.on (by rw [unhide HQ]; exact unhide HG) hb1
  have W1 := hide ((unhide HW).below g1); have B1 := hide ((unhide B0).below hb1); have F1 := hide (Fr.of (N := N) g1 (by have := unhide HQ; omega)); have HT1 := hide ((unhide HT).below g1)
  have K1 := hide ((unhide H1).below g1); have K2 := hide ((unhide H2).below g1); have K3 := hide (Labs.below (unhide H3) g1)
  clear g1 hb1 B0 HG HF HW H1 H2 H3 HT
  obtain ⟨c0, c1, c2, c3, c4, c5, c6, c7⟩ := (unhide B1).cs
  go_wp2_with fail
  refine (sgn_any i.n (unhide W1) hzz n0 n1).mono ?_
  rintro e w2 ⟨rfl, hw2, hf2⟩
  have HWe := hide hw2; have HFe := hide (Fr.on (unhide F1) hf2)
  clear hw2 hf2 c0 c1 c2 c3 c4 c5 c6 c7
  go_wp2
  go_end0
  exact ⟨rfl, by have := unhide HWe; rw [unhide HE]; simpa using this, unhide HFe⟩

set_option maxRecDepth 100000 in
set_option maxHeartbeats 3200000 in
theorem fld_3 (i : Ins) (hib : WrP i.body) (hie : WrP i.els) {w : World} {N d : Nat} {zs : List Int} {vb ve vl : Value} (h : Wr w N zs) (h1 : Code w (· < N) i.body vb) (h2 : Code w (· < N) i.els ve) (h3 : Lies (· < N) i.ls.length (Lab w i.ls) vl)
    (hm : mayI d i = true) (x : Fam) (hx : fam i.op = some x) (ho : x.o = 3) (sz : SzI 1099511627776 i) (wf : WfI i) (hz : zs.length + (encI i).length + 4000 ≤ 1099511627776) (hT : TC w 2 fmV) (hTN : 2 < N) :
    Calls Tryd.prog 37 #[.pointer (some ⟨N, 0, none⟩), .agg #[.int .u8 i.op, .int .i64 i.n, .int .u32 i.al, .int .u32 i.of, .int .u8 i.re, vb, ve, vl]] w fun e w' => e = .returned (.tuple #[]) ∧ Wr w' N (zs ++ encI i) ∧ Fr N w w' := by
  obtain ⟨o, hop⟩ : ∃ o : Nat, i.op = (o : Int) := ⟨i.op.toNat, by have := wf.1.1; omega⟩
  have ho2 : o < 256 := by have := wf.1.1; omega
  have hfm := fun wx hx => form_any o ho2 wx hx
  rw [← hop] at hfm
  clear hop ho2
  obtain ⟨x1, x2, f, x4, x5, x6⟩ := x
  simp only at ho
  subst ho
  have hfr := fr_of hx
  rw [hx] at hfm
  simp only [formR, errV_0] at hfm
  have hbd := (may_one hm).1
  rw [hfr] at hbd
  obtain ⟨⟨o0, o1⟩, ⟨n0, n1⟩, ⟨a0, a1⟩, ⟨of0, of1⟩, ⟨r0, r1⟩, hls⟩ := wf.1
  have H1 := hide h1; have H2 := hide h2; have H3 := hide h3
  obtain ⟨ab, cb, rfl, _⟩ := h1
  obtain ⟨ae, ce, rfl, _⟩ := h2
  obtain ⟨al3, cl, rfl, _⟩ := h3
  have hlt := h.lt
  have b0 := box1 w (.int .u8 i.op) (.int .i64 i.n) (.int .u32 i.al) (.int .u32 i.of) (.int .u8 i.re) (.slice ab i.body.length cb) (.slice ae i.els.length ce) (.slice al3 i.ls.length cl)
  have g0 := one_alloc w (.cells #[.int .u8 i.op, .int .i64 i.n, .int .u32 i.al, .int .u32 i.of, .int .u8 i.re, .slice ab i.body.length cb, .slice ae i.els.length ce, .slice al3 i.ls.length cl] 50)
  have hQ : w.heap.size ≠ N := by omega
  have hE : encI i = Leb.bU 10 i.n := by unfold encI encF; rw [hfr]; rfl
  rw [hE] at hz
  have hzz : zs.length ≤ 1099511627776 := by omega
  have hn : 0 ≤ i.n ∧ i.n ≤ 4294967295 := by simpa [bnd] using hbd
  obtain ⟨m0, m1⟩ := hn
  have HF := hide hfm; have HG := hide g0; have B0 := hide b0; have HW := hide h; have HT := hide hT; have HE := hide hE; have HLs := hide hls; have SZ := hide sz; have WF := hide wf; have HIb := hide hib; have HIe := hide hie; have HM := hide hm; have HFr := hide hfr
  clear hfm g0 b0 h hT hE hls sz wf hib hie hm hx hfr hz
  go_enter Tryd.func37, Tryd.ntmps37
  go_wp2_with fail
  generalize (w.alloc (.cells #[.int .u8 i.op, .int .i64 i.n, .int .u32 i.al, .int .u32 i.of, .int .u8 i.re, .slice ab i.body.length cb, .slice ae i.els.length ce, .slice al3 i.ls.length cl] 50)) = w0 at *
  generalize hQn : w.heap.size = Q at *
  have HQ := hide hQn; clear hQn
  refine (unhide HF _ ((unhide HT).below (by rw [unhide HQ]; exact unhide HG))).mono ?_
  rintro e w1 ⟨rfl, hb1⟩
  have g1 : Below w.heap.size w w1 := Below.on (by rw [unhide HQ]; exact unhide HG) hb1
  have W1 := hide ((unhide HW).below g1); have B1 := hide ((unhide B0).below hb1); have F1 := hide (Fr.of (N := N) g1 (by have := unhide HQ; omega)); have HT1 := hide ((unhide HT).below g1)
  have K1 := hide ((unhide H1).below g1); have K2 := hide ((unhide H2).below g1); have K3 := hide (Labs.below (unhide H3) g1)
  clear g1 hb1 B0 HG HF HW H1 H2 H3 HT
  obtain ⟨c0, c1, c2, c3, c4, c5, c6, c7⟩ := (unhide B1).cs
  go_wp2_with fail
  refine (uns_any i.n (unhide W1) hzz m0 (by omega)).mono ?_
  rintro e w2 ⟨rfl, hw2, hf2⟩
  have HWe := hide hw2; have HFe := hide (Fr.on (unhide F1) hf2)
  clear hw2 hf2 c0 c1 c2 c3 c4 c5 c6 c7
  go_wp2
  go_end0
  exact ⟨rfl, by have := unhide HWe; rw [unhide HE]; simpa using this, unhide HFe⟩

set_option maxRecDepth 100000 in
set_option maxHeartbeats 3200000 in
theorem fld_5 (i : Ins) (hib : WrP i.body) (hie : WrP i.els) {w : World} {N d : Nat} {zs : List Int} {vb ve vl : Value} (h : Wr w N zs) (h1 : Code w (· < N) i.body vb) (h2 : Code w (· < N) i.els ve) (h3 : Lies (· < N) i.ls.length (Lab w i.ls) vl)
    (hm : mayI d i = true) (x : Fam) (hx : fam i.op = some x) (ho : x.o = 5) (sz : SzI 1099511627776 i) (wf : WfI i) (hz : zs.length + (encI i).length + 4000 ≤ 1099511627776) (hT : TC w 2 fmV) (hTN : 2 < N) :
    Calls Tryd.prog 37 #[.pointer (some ⟨N, 0, none⟩), .agg #[.int .u8 i.op, .int .i64 i.n, .int .u32 i.al, .int .u32 i.of, .int .u8 i.re, vb, ve, vl]] w fun e w' => e = .returned (.tuple #[]) ∧ Wr w' N (zs ++ encI i) ∧ Fr N w w' := by
  obtain ⟨o, hop⟩ : ∃ o : Nat, i.op = (o : Int) := ⟨i.op.toNat, by have := wf.1.1; omega⟩
  have ho2 : o < 256 := by have := wf.1.1; omega
  have hfm := fun wx hx => form_any o ho2 wx hx
  rw [← hop] at hfm
  clear hop ho2
  obtain ⟨x1, x2, f, x4, x5, x6⟩ := x
  simp only at ho
  subst ho
  have hfr := fr_of hx
  rw [hx] at hfm
  simp only [formR, errV_0] at hfm
  have hbd := (may_one hm).1
  rw [hfr] at hbd
  obtain ⟨⟨o0, o1⟩, ⟨n0, n1⟩, ⟨a0, a1⟩, ⟨of0, of1⟩, ⟨r0, r1⟩, hls⟩ := wf.1
  have H1 := hide h1; have H2 := hide h2; have H3 := hide h3
  obtain ⟨ab, cb, rfl, _⟩ := h1
  obtain ⟨ae, ce, rfl, _⟩ := h2
  obtain ⟨al3, cl, rfl, _⟩ := h3
  have hlt := h.lt
  have b0 := box1 w (.int .u8 i.op) (.int .i64 i.n) (.int .u32 i.al) (.int .u32 i.of) (.int .u8 i.re) (.slice ab i.body.length cb) (.slice ae i.els.length ce) (.slice al3 i.ls.length cl)
  have g0 := one_alloc w (.cells #[.int .u8 i.op, .int .i64 i.n, .int .u32 i.al, .int .u32 i.of, .int .u8 i.re, .slice ab i.body.length cb, .slice ae i.els.length ce, .slice al3 i.ls.length cl] 50)
  have hQ : w.heap.size ≠ N := by omega
  have hE : encI i = [0] := by unfold encI encF; rw [hfr]; rfl
  rw [hE] at hz
  have hzz : zs.length ≤ 1099511627776 := by omega
  have HF := hide hfm; have HG := hide g0; have B0 := hide b0; have HW := hide h; have HT := hide hT; have HE := hide hE; have HLs := hide hls; have SZ := hide sz; have WF := hide wf; have HIb := hide hib; have HIe := hide hie; have HM := hide hm; have HFr := hide hfr
  clear hfm g0 b0 h hT hE hls sz wf hib hie hm hx hfr hz
  go_enter Tryd.func37, Tryd.ntmps37
  go_wp2_with fail
  generalize (w.alloc (.cells #[.int .u8 i.op, .int .i64 i.n, .int .u32 i.al, .int .u32 i.of, .int .u8 i.re, .slice ab i.body.length cb, .slice ae i.els.length ce, .slice al3 i.ls.length cl] 50)) = w0 at *
  generalize hQn : w.heap.size = Q at *
  have HQ := hide hQn; clear hQn
  refine (unhide HF _ ((unhide HT).below (by rw [unhide HQ]; exact unhide HG))).mono ?_
  rintro e w1 ⟨rfl, hb1⟩
  have g1 : Below w.heap.size w w1 := Below.on (by rw [unhide HQ]; exact unhide HG) hb1
  have W1 := hide ((unhide HW).below g1); have B1 := hide ((unhide B0).below hb1); have F1 := hide (Fr.of (N := N) g1 (by have := unhide HQ; omega)); have HT1 := hide ((unhide HT).below g1)
  have K1 := hide ((unhide H1).below g1); have K2 := hide ((unhide H2).below g1); have K3 := hide (Labs.below (unhide H3) g1)
  clear g1 hb1 B0 HG HF HW H1 H2 H3 HT
  obtain ⟨c0, c1, c2, c3, c4, c5, c6, c7⟩ := (unhide B1).cs
  go_wp2_with fail
  refine (one_any 0 (unhide W1) hzz (by omega)).mono ?_
  rintro e w2 ⟨rfl, hw2, hf2⟩
  have HWe := hide hw2; have HFe := hide (Fr.on (unhide F1) hf2)
  clear hw2 hf2 c0 c1 c2 c3 c4 c5 c6 c7
  go_wp2
  go_end0
  exact ⟨rfl, by have := unhide HWe; rw [unhide HE]; simpa using this, unhide HFe⟩

set_option maxRecDepth 100000 in
set_option maxHeartbeats 3200000 in
theorem fld_8 (i : Ins) (hib : WrP i.body) (hie : WrP i.els) {w : World} {N d : Nat} {zs : List Int} {vb ve vl : Value} (h : Wr w N zs) (h1 : Code w (· < N) i.body vb) (h2 : Code w (· < N) i.els ve) (h3 : Lies (· < N) i.ls.length (Lab w i.ls) vl)
    (hm : mayI d i = true) (x : Fam) (hx : fam i.op = some x) (ho : x.o = 8) (sz : SzI 1099511627776 i) (wf : WfI i) (hz : zs.length + (encI i).length + 4000 ≤ 1099511627776) (hT : TC w 2 fmV) (hTN : 2 < N) :
    Calls Tryd.prog 37 #[.pointer (some ⟨N, 0, none⟩), .agg #[.int .u8 i.op, .int .i64 i.n, .int .u32 i.al, .int .u32 i.of, .int .u8 i.re, vb, ve, vl]] w fun e w' => e = .returned (.tuple #[]) ∧ Wr w' N (zs ++ encI i) ∧ Fr N w w' := by
  obtain ⟨o, hop⟩ : ∃ o : Nat, i.op = (o : Int) := ⟨i.op.toNat, by have := wf.1.1; omega⟩
  have ho2 : o < 256 := by have := wf.1.1; omega
  have hfm := fun wx hx => form_any o ho2 wx hx
  rw [← hop] at hfm
  clear hop ho2
  obtain ⟨x1, x2, f, x4, x5, x6⟩ := x
  simp only at ho
  subst ho
  have hfr := fr_of hx
  rw [hx] at hfm
  simp only [formR, errV_0] at hfm
  have hbd := (may_one hm).1
  rw [hfr] at hbd
  obtain ⟨⟨o0, o1⟩, ⟨n0, n1⟩, ⟨a0, a1⟩, ⟨of0, of1⟩, ⟨r0, r1⟩, hls⟩ := wf.1
  have H1 := hide h1; have H2 := hide h2; have H3 := hide h3
  obtain ⟨ab, cb, rfl, _⟩ := h1
  obtain ⟨ae, ce, rfl, _⟩ := h2
  obtain ⟨al3, cl, rfl, _⟩ := h3
  have hlt := h.lt
  have b0 := box1 w (.int .u8 i.op) (.int .i64 i.n) (.int .u32 i.al) (.int .u32 i.of) (.int .u8 i.re) (.slice ab i.body.length cb) (.slice ae i.els.length ce) (.slice al3 i.ls.length cl)
  have g0 := one_alloc w (.cells #[.int .u8 i.op, .int .i64 i.n, .int .u32 i.al, .int .u32 i.of, .int .u8 i.re, .slice ab i.body.length cb, .slice ae i.els.length ce, .slice al3 i.ls.length cl] 50)
  have hQ : w.heap.size ≠ N := by omega
  have hE : encI i = Leb.bU 10 ((i.ls.length : Int) - 1) ++ i.ls.flatMap (Leb.bU 10) := by unfold encI encF; rw [hfr]; rfl
  rw [hE] at hz
  have hzz : zs.length ≤ 1099511627776 := by omega
  have hll : 1 ≤ i.ls.length ∧ i.ls.length ≤ 257 := by simpa [bnd] using hbd
  obtain ⟨l0, l1⟩ := hll
  have hz4 : zs.length + 4000 ≤ 1099511627776 := by omega
  have HF := hide hfm; have HG := hide g0; have B0 := hide b0; have HW := hide h; have HT := hide hT; have HE := hide hE; have HLs := hide hls; have SZ := hide sz; have WF := hide wf; have HIb := hide hib; have HIe := hide hie; have HM := hide hm; have HFr := hide hfr
  clear hfm g0 b0 h hT hE hls sz wf hib hie hm hx hfr hz
  go_enter Tryd.func37, Tryd.ntmps37
  go_wp2_with fail
  generalize (w.alloc (.cells #[.int .u8 i.op, .int .i64 i.n, .int .u32 i.al, .int .u32 i.of, .int .u8 i.re, .slice ab i.body.length cb, .slice ae i.els.length ce, .slice al3 i.ls.length cl] 50)) = w0 at *
  generalize hQn : w.heap.size = Q at *
  have HQ := hide hQn; clear hQn
  refine (unhide HF _ ((unhide HT).below (by rw [unhide HQ]; exact unhide HG))).mono ?_
  rintro e w1 ⟨rfl, hb1⟩
  have g1 : Below w.heap.size w w1 := Below.on (by rw [unhide HQ]; exact unhide HG) hb1
  have W1 := hide ((unhide HW).below g1); have B1 := hide ((unhide B0).below hb1); have F1 := hide (Fr.of (N := N) g1 (by have := unhide HQ; omega)); have HT1 := hide ((unhide HT).below g1)
  have K1 := hide ((unhide H1).below g1); have K2 := hide ((unhide H2).below g1); have K3 := hide (Labs.below (unhide H3) g1)
  clear g1 hb1 B0 HG HF HW H1 H2 H3 HT
  obtain ⟨c0, c1, c2, c3, c4, c5, c6, c7⟩ := (unhide B1).cs
  go_wp2_with fail
  refine (labs_any (unhide W1) (unhide K3) l0 l1 hz4 (unhide HLs)).mono ?_
  rintro e w2 ⟨rfl, hw2, hf2⟩
  have HWe := hide hw2; have HFe := hide (Fr.on (unhide F1) hf2)
  clear hw2 hf2 c0 c1 c2 c3 c4 c5 c6 c7
  go_wp2
  go_end0
  exact ⟨rfl, by have := unhide HWe; rw [unhide HE]; simpa using this, unhide HFe⟩

set_option maxRecDepth 100000 in
set_option maxHeartbeats 3200000 in
theorem fld_6 (i : Ins) (hib : WrP i.body) (hie : WrP i.els) {w : World} {N d : Nat} {zs : List Int} {vb ve vl : Value} (h : Wr w N zs) (h1 : Code w (· < N) i.body vb) (h2 : Code w (· < N) i.els ve) (h3 : Lies (· < N) i.ls.length (Lab w i.ls) vl)
    (hm : mayI d i = true) (x : Fam) (hx : fam i.op = some x) (ho : x.o = 6) (sz : SzI 1099511627776 i) (wf : WfI i) (hz : zs.length + (encI i).length + 4000 ≤ 1099511627776) (hT : TC w 2 fmV) (hTN : 2 < N) :
    Calls Tryd.prog 37 #[.pointer (some ⟨N, 0, none⟩), .agg #[.int .u8 i.op, .int .i64 i.n, .int .u32 i.al, .int .u32 i.of, .int .u8 i.re, vb, ve, vl]] w fun e w' => e = .returned (.tuple #[]) ∧ Wr w' N (zs ++ encI i) ∧ Fr N w w' := by
  obtain ⟨o, hop⟩ : ∃ o : Nat, i.op = (o : Int) := ⟨i.op.toNat, by have := wf.1.1; omega⟩
  have ho2 : o < 256 := by have := wf.1.1; omega
  have hfm := fun wx hx => form_any o ho2 wx hx
  rw [← hop] at hfm
  clear hop ho2
  obtain ⟨x1, x2, f, x4, x5, x6⟩ := x
  simp only at ho
  subst ho
  have hfr := fr_of hx
  rw [hx] at hfm
  simp only [formR, errV_0] at hfm
  have hbd := (may_one hm).1
  rw [hfr] at hbd
  obtain ⟨⟨o0, o1⟩, ⟨n0, n1⟩, ⟨a0, a1⟩, ⟨of0, of1⟩, ⟨r0, r1⟩, hls⟩ := wf.1
  have H1 := hide h1; have H2 := hide h2; have H3 := hide h3
  obtain ⟨ab, cb, rfl, _⟩ := h1
  obtain ⟨ae, ce, rfl, _⟩ := h2
  obtain ⟨al3, cl, rfl, _⟩ := h3
  have hlt := h.lt
  have b0 := box1 w (.int .u8 i.op) (.int .i64 i.n) (.int .u32 i.al) (.int .u32 i.of) (.int .u8 i.re) (.slice ab i.body.length cb) (.slice ae i.els.length ce) (.slice al3 i.ls.length cl)
  have g0 := one_alloc w (.cells #[.int .u8 i.op, .int .i64 i.n, .int .u32 i.al, .int .u32 i.of, .int .u8 i.re, .slice ab i.body.length cb, .slice ae i.els.length ce, .slice al3 i.ls.length cl] 50)
  have hQ : w.heap.size ≠ N := by omega
  have hE : encI i = [kB i.re] ++ enc i.body ++ (if 0 < i.els.length then [5] ++ enc i.els else []) ++ [11] := by unfold encI encF; rw [hfr]; rfl
  rw [hE] at hz
  have hzz : zs.length ≤ 1099511627776 := by omega
  have hre : i.re = 0 ∨ i.re = 127 ∨ i.re = 126 := by simpa [bnd] using hbd
  have mb := may_blk hm (by rw [hfr]; rfl)
  have hzk := hz
  have HF := hide hfm; have HG := hide g0; have B0 := hide b0; have HW := hide h; have HT := hide hT; have HE := hide hE; have HLs := hide hls; have SZ := hide sz; have WF := hide wf; have HIb := hide hib; have HIe := hide hie; have HM := hide hm; have HFr := hide hfr
  clear hfm g0 b0 h hT hE hls sz wf hib hie hm hx hfr hz
  go_enter Tryd.func37, Tryd.ntmps37
  go_wp2_with fail
  generalize (w.alloc (.cells #[.int .u8 i.op, .int .i64 i.n, .int .u32 i.al, .int .u32 i.of, .int .u8 i.re, .slice ab i.body.length cb, .slice ae i.els.length ce, .slice al3 i.ls.length cl] 50)) = w0 at *
  generalize hQn : w.heap.size = Q at *
  have HQ := hide hQn; clear hQn
  refine (unhide HF _ ((unhide HT).below (by rw [unhide HQ]; exact unhide HG))).mono ?_
  rintro e w1 ⟨rfl, hb1⟩
  have g1 : Below w.heap.size w w1 := Below.on (by rw [unhide HQ]; exact unhide HG) hb1
  have W1 := hide ((unhide HW).below g1); have B1 := hide ((unhide B0).below hb1); have F1 := hide (Fr.of (N := N) g1 (by have := unhide HQ; omega)); have HT1 := hide ((unhide HT).below g1)
  have K1 := hide ((unhide H1).below g1); have K2 := hide ((unhide H2).below g1); have K3 := hide (Labs.below (unhide H3) g1)
  clear g1 hb1 B0 HG HF HW H1 H2 H3 HT
  obtain ⟨c0, c1, c2, c3, c4, c5, c6, c7⟩ := (unhide B1).cs
  go_wp2_with fail
  refine (blk_any i (unhide HIb) (unhide HIe) (d := d + 1) (unhide W1) (unhide K1) (unhide K2) (unhide K3) mb.1 mb.2 hre (unhide SZ) (unhide WF) hzk (unhide HT1) hTN).mono ?_
  rintro e w2 ⟨rfl, hw2, hf2⟩
  have HWe := hide hw2; have HFe := hide (Fr.on (unhide F1) hf2)
  clear hw2 hf2 c0 c1 c2 c3 c4 c5 c6 c7
  go_wp2
  go_end0
  exact ⟨rfl, by have := unhide HWe; rw [unhide HE]; simpa using this, unhide HFe⟩

set_option maxRecDepth 100000 in
set_option maxHeartbeats 3200000 in
theorem fld_7 (i : Ins) (hib : WrP i.body) (hie : WrP i.els) {w : World} {N d : Nat} {zs : List Int} {vb ve vl : Value} (h : Wr w N zs) (h1 : Code w (· < N) i.body vb) (h2 : Code w (· < N) i.els ve) (h3 : Lies (· < N) i.ls.length (Lab w i.ls) vl)
    (hm : mayI d i = true) (x : Fam) (hx : fam i.op = some x) (ho : x.o = 7) (sz : SzI 1099511627776 i) (wf : WfI i) (hz : zs.length + (encI i).length + 4000 ≤ 1099511627776) (hT : TC w 2 fmV) (hTN : 2 < N) :
    Calls Tryd.prog 37 #[.pointer (some ⟨N, 0, none⟩), .agg #[.int .u8 i.op, .int .i64 i.n, .int .u32 i.al, .int .u32 i.of, .int .u8 i.re, vb, ve, vl]] w fun e w' => e = .returned (.tuple #[]) ∧ Wr w' N (zs ++ encI i) ∧ Fr N w w' := by
  obtain ⟨o, hop⟩ : ∃ o : Nat, i.op = (o : Int) := ⟨i.op.toNat, by have := wf.1.1; omega⟩
  have ho2 : o < 256 := by have := wf.1.1; omega
  have hfm := fun wx hx => form_any o ho2 wx hx
  rw [← hop] at hfm
  clear hop ho2
  obtain ⟨x1, x2, f, x4, x5, x6⟩ := x
  simp only at ho
  subst ho
  have hfr := fr_of hx
  rw [hx] at hfm
  simp only [formR, errV_0] at hfm
  have hbd := (may_one hm).1
  rw [hfr] at hbd
  obtain ⟨⟨o0, o1⟩, ⟨n0, n1⟩, ⟨a0, a1⟩, ⟨of0, of1⟩, ⟨r0, r1⟩, hls⟩ := wf.1
  have H1 := hide h1; have H2 := hide h2; have H3 := hide h3
  obtain ⟨ab, cb, rfl, _⟩ := h1
  obtain ⟨ae, ce, rfl, _⟩ := h2
  obtain ⟨al3, cl, rfl, _⟩ := h3
  have hlt := h.lt
  have b0 := box1 w (.int .u8 i.op) (.int .i64 i.n) (.int .u32 i.al) (.int .u32 i.of) (.int .u8 i.re) (.slice ab i.body.length cb) (.slice ae i.els.length ce) (.slice al3 i.ls.length cl)
  have g0 := one_alloc w (.cells #[.int .u8 i.op, .int .i64 i.n, .int .u32 i.al, .int .u32 i.of, .int .u8 i.re, .slice ab i.body.length cb, .slice ae i.els.length ce, .slice al3 i.ls.length cl] 50)
  have hQ : w.heap.size ≠ N := by omega
  have hE : encI i = [kB i.re] ++ enc i.body ++ (if 0 < i.els.length then [5] ++ enc i.els else []) ++ [11] := by unfold encI encF; rw [hfr]; rfl
  rw [hE] at hz
  have hzz : zs.length ≤ 1099511627776 := by omega
  have hre : i.re = 0 ∨ i.re = 127 ∨ i.re = 126 := by simpa [bnd] using hbd
  have mb := may_blk hm (by rw [hfr]; rfl)
  have hzk := hz
  have HF := hide hfm; have HG := hide g0; have B0 := hide b0; have HW := hide h; have HT := hide hT; have HE := hide hE; have HLs := hide hls; have SZ := hide sz; have WF := hide wf; have HIb := hide hib; have HIe := hide hie; have HM := hide hm; have HFr := hide hfr
  clear hfm g0 b0 h hT hE hls sz wf hib hie hm hx hfr hz
  go_enter Tryd.func37, Tryd.ntmps37
  go_wp2_with fail
  generalize (w.alloc (.cells #[.int .u8 i.op, .int .i64 i.n, .int .u32 i.al, .int .u32 i.of, .int .u8 i.re, .slice ab i.body.length cb, .slice ae i.els.length ce, .slice al3 i.ls.length cl] 50)) = w0 at *
  generalize hQn : w.heap.size = Q at *
  have HQ := hide hQn; clear hQn
  refine (unhide HF _ ((unhide HT).below (by rw [unhide HQ]; exact unhide HG))).mono ?_
  rintro e w1 ⟨rfl, hb1⟩
  have g1 : Below w.heap.size w w1 := Below.on (by rw [unhide HQ]; exact unhide HG) hb1
  have W1 := hide ((unhide HW).below g1); have B1 := hide ((unhide B0).below hb1); have F1 := hide (Fr.of (N := N) g1 (by have := unhide HQ; omega)); have HT1 := hide ((unhide HT).below g1)
  have K1 := hide ((unhide H1).below g1); have K2 := hide ((unhide H2).below g1); have K3 := hide (Labs.below (unhide H3) g1)
  clear g1 hb1 B0 HG HF HW H1 H2 H3 HT
  obtain ⟨c0, c1, c2, c3, c4, c5, c6, c7⟩ := (unhide B1).cs
  go_wp2_with fail
  refine (blk_any i (unhide HIb) (unhide HIe) (d := d + 1) (unhide W1) (unhide K1) (unhide K2) (unhide K3) mb.1 mb.2 hre (unhide SZ) (unhide WF) hzk (unhide HT1) hTN).mono ?_
  rintro e w2 ⟨rfl, hw2, hf2⟩
  have HWe := hide hw2; have HFe := hide (Fr.on (unhide F1) hf2)
  clear hw2 hf2 c0 c1 c2 c3 c4 c5 c6 c7
  go_wp2
  go_end0
  exact ⟨rfl, by have := unhide HWe; rw [unhide HE]; simpa using this, unhide HFe⟩

set_option maxRecDepth 100000 in
set_option maxHeartbeats 3200000 in
theorem fld_4 (i : Ins) (hib : WrP i.body) (hie : WrP i.els) {w : World} {N d : Nat} {zs : List Int} {vb ve vl : Value} (h : Wr w N zs) (h1 : Code w (· < N) i.body vb) (h2 : Code w (· < N) i.els ve) (h3 : Lies (· < N) i.ls.length (Lab w i.ls) vl)
    (hm : mayI d i = true) (x : Fam) (hx : fam i.op = some x) (ho : x.o = 4) (sz : SzI 1099511627776 i) (wf : WfI i) (hz : zs.length + (encI i).length + 4000 ≤ 1099511627776) (hT : TC w 2 fmV) (hTN : 2 < N) :
    Calls Tryd.prog 37 #[.pointer (some ⟨N, 0, none⟩), .agg #[.int .u8 i.op, .int .i64 i.n, .int .u32 i.al, .int .u32 i.of, .int .u8 i.re, vb, ve, vl]] w fun e w' => e = .returned (.tuple #[]) ∧ Wr w' N (zs ++ encI i) ∧ Fr N w w' := by
  obtain ⟨o, hop⟩ : ∃ o : Nat, i.op = (o : Int) := ⟨i.op.toNat, by have := wf.1.1; omega⟩
  have ho2 : o < 256 := by have := wf.1.1; omega
  have hfm := fun wx hx => form_any o ho2 wx hx
  rw [← hop] at hfm
  clear hop ho2
  obtain ⟨x1, x2, f, x4, x5, x6⟩ := x
  simp only at ho
  subst ho
  have hfr := fr_of hx
  rw [hx] at hfm
  simp only [formR, errV_0] at hfm
  have hbd := (may_one hm).1
  rw [hfr] at hbd
  obtain ⟨⟨o0, o1⟩, ⟨n0, n1⟩, ⟨a0, a1⟩, ⟨of0, of1⟩, ⟨r0, r1⟩, hls⟩ := wf.1
  have H1 := hide h1; have H2 := hide h2; have H3 := hide h3
  obtain ⟨ab, cb, rfl, _⟩ := h1
  obtain ⟨ae, ce, rfl, _⟩ := h2
  obtain ⟨al3, cl, rfl, _⟩ := h3
  have hlt := h.lt
  have b0 := box1 w (.int .u8 i.op) (.int .i64 i.n) (.int .u32 i.al) (.int .u32 i.of) (.int .u8 i.re) (.slice ab i.body.length cb) (.slice ae i.els.length ce) (.slice al3 i.ls.length cl)
  have g0 := one_alloc w (.cells #[.int .u8 i.op, .int .i64 i.n, .int .u32 i.al, .int .u32 i.of, .int .u8 i.re, .slice ab i.body.length cb, .slice ae i.els.length ce, .slice al3 i.ls.length cl] 50)
  have hQ : w.heap.size ≠ N := by omega
  have hE : encI i = Leb.bU 10 i.al ++ Leb.bU 10 i.of := by unfold encI encF; rw [hfr]; rfl
  rw [hE] at hz
  have hzz : zs.length + 11 ≤ 1099511627776 := by omega
  have hll := Leb.bU_len 10 i.al
  have HF := hide hfm; have HG := hide g0; have B0 := hide b0; have HW := hide h; have HT := hide hT; have HE := hide hE; have HLs := hide hls; have SZ := hide sz; have WF := hide wf; have HIb := hide hib; have HIe := hide hie; have HM := hide hm; have HFr := hide hfr
  clear hfm g0 b0 h hT hE hls sz wf hib hie hm hx hfr hz
  go_enter Tryd.func37, Tryd.ntmps37
  go_wp2_with fail
  generalize (w.alloc (.cells #[.int .u8 i.op, .int .i64 i.n, .int .u32 i.al, .int .u32 i.of, .int .u8 i.re, .slice ab i.body.length cb, .slice ae i.els.length ce, .slice al3 i.ls.length cl] 50)) = w0 at *
  generalize hQn : w.heap.size = Q at *
  have HQ := hide hQn; clear hQn
  refine (unhide HF _ ((unhide HT).below (by rw [unhide HQ]; exact unhide HG))).mono ?_
  rintro e w1 ⟨rfl, hb1⟩
  have g1 : Below w.heap.size w w1 := Below.on (by rw [unhide HQ]; exact unhide HG) hb1
  have W1 := hide ((unhide HW).below g1); have B1 := hide ((unhide B0).below hb1); have F1 := hide (Fr.of (N := N) g1 (by have := unhide HQ; omega)); have HT1 := hide ((unhide HT).below g1)
  have K1 := hide ((unhide H1).below g1); have K2 := hide ((unhide H2).below g1); have K3 := hide (Labs.below (unhide H3) g1)
  clear g1 hb1 B0 HG HF HW H1 H2 H3 HT
  obtain ⟨c0, c1, c2, c3, c4, c5, c6, c7⟩ := (unhide B1).cs
  go_wp2_with fail
  refine (uns_any i.al (unhide W1) (by omega) a0 (by omega)).mono ?_
  rintro e w2 ⟨rfl, hw2, hf2⟩
  have b2 := hf2.bx (unhide B1) hQ
  clear c0 c1 c2 c3 c4 c5 c6 c7
  obtain ⟨c0, c1, c2, c3, c4, c5, c6, c7⟩ := b2.cs
  have HW2 := hide hw2; have F2 := hide (Fr.on (unhide F1) hf2)
  clear hw2 hf2 b2
  go_wp2_with fail
  refine (uns_any i.of (unhide HW2) (by rw [List.length_append]; omega) of0 (by omega)).mono ?_
  rintro e w3 ⟨rfl, hw3, hf3⟩
  have HWe := hide hw3; have HFe := hide (Fr.on (unhide F2) hf3)
  clear hw3 hf3 c0 c1 c2 c3 c4 c5 c6 c7
  go_wp2
  go_end0
  exact ⟨rfl, by have := unhide HWe; rw [unhide HE]; simpa using this, unhide HFe⟩

set_option maxRecDepth 100000 in
set_option maxHeartbeats 3200000 in
theorem fld_9 (i : Ins) (hib : WrP i.body) (hie : WrP i.els) {w : World} {N d : Nat} {zs : List Int} {vb ve vl : Value} (h : Wr w N zs) (h1 : Code w (· < N) i.body vb) (h2 : Code w (· < N) i.els ve) (h3 : Lies (· < N) i.ls.length (Lab w i.ls) vl)
    (hm : mayI d i = true) (x : Fam) (hx : fam i.op = some x) (ho : x.o = 9) (sz : SzI 1099511627776 i) (wf : WfI i) (hz : zs.length + (encI i).length + 4000 ≤ 1099511627776) (hT : TC w 2 fmV) (hTN : 2 < N) :
    Calls Tryd.prog 37 #[.pointer (some ⟨N, 0, none⟩), .agg #[.int .u8 i.op, .int .i64 i.n, .int .u32 i.al, .int .u32 i.of, .int .u8 i.re, vb, ve, vl]] w fun e w' => e = .returned (.tuple #[]) ∧ Wr w' N (zs ++ encI i) ∧ Fr N w w' := by
  obtain ⟨o, hop⟩ : ∃ o : Nat, i.op = (o : Int) := ⟨i.op.toNat, by have := wf.1.1; omega⟩
  have ho2 : o < 256 := by have := wf.1.1; omega
  have hfm := fun wx hx => form_any o ho2 wx hx
  rw [← hop] at hfm
  clear hop ho2
  obtain ⟨x1, x2, f, x4, x5, x6⟩ := x
  simp only at ho
  subst ho
  have hfr := fr_of hx
  rw [hx] at hfm
  simp only [formR, errV_0] at hfm
  have hbd := (may_one hm).1
  rw [hfr] at hbd
  obtain ⟨⟨o0, o1⟩, ⟨n0, n1⟩, ⟨a0, a1⟩, ⟨of0, of1⟩, ⟨r0, r1⟩, hls⟩ := wf.1
  have H1 := hide h1; have H2 := hide h2; have H3 := hide h3
  obtain ⟨ab, cb, rfl, _⟩ := h1
  obtain ⟨ae, ce, rfl, _⟩ := h2
  obtain ⟨al3, cl, rfl, _⟩ := h3
  have hlt := h.lt
  have b0 := box1 w (.int .u8 i.op) (.int .i64 i.n) (.int .u32 i.al) (.int .u32 i.of) (.int .u8 i.re) (.slice ab i.body.length cb) (.slice ae i.els.length ce) (.slice al3 i.ls.length cl)
  have g0 := one_alloc w (.cells #[.int .u8 i.op, .int .i64 i.n, .int .u32 i.al, .int .u32 i.of, .int .u8 i.re, .slice ab i.body.length cb, .slice ae i.els.length ce, .slice al3 i.ls.length cl] 50)
  have hQ : w.heap.size ≠ N := by omega
  have hE : encI i = Leb.bU 10 i.n ++ [0] := by unfold encI encF; rw [hfr]; rfl
  rw [hE] at hz
  have hzz : zs.length + 11 ≤ 1099511627776 := by omega
  have hll := Leb.bU_len 10 i.n
  have hn : 0 ≤ i.n ∧ i.n ≤ 4294967295 := by simpa [bnd] using hbd
  obtain ⟨m0, m1⟩ := hn
  have HF := hide hfm; have HG := hide g0; have B0 := hide b0; have HW := hide h; have HT := hide hT; have HE := hide hE; have HLs := hide hls; have SZ := hide sz; have WF := hide wf; have HIb := hide hib; have HIe := hide hie; have HM := hide hm; have HFr := hide hfr
  clear hfm g0 b0 h hT hE hls sz wf hib hie hm hx hfr hz
  go_enter Tryd.func37, Tryd.ntmps37
  go_wp2_with fail
  generalize (w.alloc (.cells #[.int .u8 i.op, .int .i64 i.n, .int .u32 i.al, .int .u32 i.of, .int .u8 i.re, .slice ab i.body.length cb, .slice ae i.els.length ce, .slice al3 i.ls.length cl] 50)) = w0 at *
  generalize hQn : w.heap.size = Q at *
  have HQ := hide hQn; clear hQn
  refine (unhide HF _ ((unhide HT).below (by rw [unhide HQ]; exact unhide HG))).mono ?_
  rintro e w1 ⟨rfl, hb1⟩
  have g1 : Below w.heap.size w w1 := Below.on (by rw [unhide HQ]; exact unhide HG) hb1
  have W1 := hide ((unhide HW).below g1); have B1 := hide ((unhide B0).below hb1); have F1 := hide (Fr.of (N := N) g1 (by have := unhide HQ; omega)); have HT1 := hide ((unhide HT).below g1)
  have K1 := hide ((unhide H1).below g1); have K2 := hide ((unhide H2).below g1); have K3 := hide (Labs.below (unhide H3) g1)
  clear g1 hb1 B0 HG HF HW H1 H2 H3 HT
  obtain ⟨c0, c1, c2, c3, c4, c5, c6, c7⟩ := (unhide B1).cs
  go_wp2_with fail
  refine (uns_any i.n (unhide W1) (by omega) m0 (by omega)).mono ?_
  rintro e w2 ⟨rfl, hw2, hf2⟩
  have HW2 := hide hw2; have F2 := hide (Fr.on (unhide F1) hf2)
  clear hw2 hf2 c0 c1 c2 c3 c4 c5 c6 c7
  go_wp2_with fail
  refine (one_any 0 (unhide HW2) (by rw [List.length_append]; omega) (by omega)).mono ?_
  rintro e w3 ⟨rfl, hw3, hf3⟩
  have HWe := hide hw3; have HFe := hide (Fr.on (unhide F2) hf3)
  clear hw3 hf3
  go_wp2
  go_end0
  exact ⟨rfl, by have := unhide HWe; rw [unhide HE]; simpa using this, unhide HFe⟩

theorem fld_any (i : Ins) (hib : WrP i.body) (hie : WrP i.els) {w : World} {N d : Nat} {zs : List Int} {vb ve vl : Value} (h : Wr w N zs) (h1 : Code w (· < N) i.body vb) (h2 : Code w (· < N) i.els ve) (h3 : Lies (· < N) i.ls.length (Lab w i.ls) vl)
    (hm : mayI d i = true) (sz : SzI 1099511627776 i) (wf : WfI i) (hz : zs.length + (encI i).length + 4000 ≤ 1099511627776) (hT : TC w 2 fmV) (hTN : 2 < N) :
    Calls Tryd.prog 37 #[.pointer (some ⟨N, 0, none⟩), .agg #[.int .u8 i.op, .int .i64 i.n, .int .u32 i.al, .int .u32 i.of, .int .u8 i.re, vb, ve, vl]] w fun e w' => e = .returned (.tuple #[]) ∧ Wr w' N (zs ++ encI i) ∧ Fr N w w' := by
  obtain ⟨x, hx⟩ := (may_one hm).2
  rcases fam_o hx with ho | ho | ho | ho | ho | ho | ho | ho | ho | ho
  · exact fld_0 i hib hie h h1 h2 h3 hm x hx ho sz wf hz hT hTN
  · exact fld_1 i hib hie h h1 h2 h3 hm x hx ho sz wf hz hT hTN
  · exact fld_2 i hib hie h h1 h2 h3 hm x hx ho sz wf hz hT hTN
  · exact fld_3 i hib hie h h1 h2 h3 hm x hx ho sz wf hz hT hTN
  · exact fld_4 i hib hie h h1 h2 h3 hm x hx ho sz wf hz hT hTN
  · exact fld_5 i hib hie h h1 h2 h3 hm x hx ho sz wf hz hT hTN
  · exact fld_6 i hib hie h h1 h2 h3 hm x hx ho sz wf hz hT hTN
  · exact fld_7 i hib hie h h1 h2 h3 hm x hx ho sz wf hz hT hTN
  · exact fld_8 i hib hie h h1 h2 h3 hm x hx ho sz wf hz hT hTN
  · exact fld_9 i hib hie h h1 h2 h3 hm x hx ho sz wf hz hT hTN
end Ex
end Go.Proofs.YtjhmglefejclpaaDoor
