/- The reader's instr of every form; list, by induction on the bytes that are left; expr.Decode. -/
import Derived.Test.YtjhmglefejclpaaDoorExJ
import Derived.Deep.AppendLies
namespace Go.Proofs.YtjhmglefejclpaaDoor
open Go.RowKit
namespace Ex
set_option linter.unusedVariables false

theorem fm_o : ∀ x ∈ fms, x.o = 0 ∨ x.o = 1 ∨ x.o = 2 ∨ x.o = 3 ∨ x.o = 4 ∨ x.o = 5 ∨ x.o = 6 ∨ x.o = 7 ∨ x.o = 8 ∨ x.o = 9 := by decide
theorem fam_o {n : Int} {x : Fam} (h : fam n = some x) : x.o = 0 ∨ x.o = 1 ∨ x.o = 2 ∨ x.o = 3 ∨ x.o = 4 ∨ x.o = 5 ∨ x.o = 6 ∨ x.o = 7 ∨ x.o = 8 ∨ x.o = 9 := fm_o x (List.mem_of_find?_eq_some h)
theorem ins_any {m : Nat} (ih : ListP m) {N len cap p k nest : Nat} {a : Option Addr} {zs : List Int} {w : World} (op : Nat) (hop : op < 256) (x : Fam) (hx : fam op = some x) (h : Rd w N a len cap zs p k 0) (hT : Tb w) (hn : blk x.o = true → nest < 64) (hm : len - p < m) :
    Calls Tryd.prog 49 #[.pointer (some ⟨N, 0, none⟩), .int .u8 op, .int .i64 nest] w (InsPost w N a len cap zs (pI (D zs) zs p k nest op)) := by
  rcases fam_o hx with ho | ho | ho | ho | ho | ho | ho | ho | ho | ho
  · exact ins_0 op hop x hx ho h hT
  · exact ins_1 op hop x hx ho h hT
  · exact ins_2 op hop x hx ho h hT
  · exact ins_3 op hop x hx ho h hT
  · by_cases hP : (pU zs p 4294967295).e = 0
    · exact ins_4_ok op hop x hx ho h hT hP
    · exact ins_4_no op hop x hx ho h hT hP
  · exact ins_5 op hop x hx ho h hT
  · have hn2 := hn (by rw [ho]; rfl)
    by_cases hP : (pB zs p jK).e = 0
    · exact ins_6_ok op hop x hx ho h hT hP ih hn2 hm
    · exact ins_6_no op hop x hx ho h hT hP hn2
  · have hn2 := hn (by rw [ho]; rfl)
    by_cases hP : (pB zs p jK).e = 0
    · exact ins_7_ok op hop x hx ho h hT hP ih hn2 hm
    · exact ins_7_no op hop x hx ho h hT hP hn2
  · exact ins_8 op hop x hx ho h hT
  · by_cases hP : (pU zs p 4294967295).e = 0
    · exact ins_9_ok op hop x hx ho h hT hP
    · exact ins_9_no op hop x hx ho h hT hP

theorem pB_no {zs : List Int} {p : Nat} {J : Int → Int} (h : ¬ (pB zs p J).e = 0) : (pB zs p J).v = 0 := by
  unfold pB at *
  split
  · rfl
  · rename_i h1
    rw [if_neg h1] at h
    split
    · rename_i h2; rw [if_pos h2] at h; exact absurd rfl h
    · rfl
theorem jO_some {k nest : Nat} {me : Bool} {c : Int} (h : jO k nest me c = 0) (h11 : ¬ c = 11) (h5 : ¬ c = 5) : ∃ x, fam c = some x ∧ ¬ k = 16384 ∧ (blk x.o = true → ¬ nest = 64) := by
  rw [jO_gen (by rintro (e | e); exact h11 e; exact h5 e.1)] at h
  cases hf : flt c with
  | true => rw [hf, if_pos rfl] at h; exact absurd h (by decide)
  | false =>
    rw [hf] at h
    cases hx : fam c with
    | none => simp [frm, hx] at h
    | some x =>
      simp only [frm, hx, Option.map_some, Bool.false_eq_true, if_false] at h
      refine ⟨x, rfl, fun e => ?_, fun e e2 => ?_⟩
      · rw [if_pos (.inl e)] at h; exact absurd h (by decide)
      · rw [if_pos (.inr ⟨e, e2⟩)] at h; exact absurd h (by decide)
theorem infoI : (Tryd.prog.info? 50).map (fun i => (i.zero, i.size, i.bytes)) = some (some (.agg #[.int .u8 0, .int .i64 0, .int .u32 0, .int .u32 0, .int .u8 0, .slice none 0 0, .slice none 0 0, .slice none 0 0]), 8, 104) := by kernel_rfl
theorem Rd.grown {w : World} {N : Nat} {a : Option Addr} {len cap : Nat} {zs : List Int} {p k : Nat} {e : Int} (h : Rd w N a len cap zs p k e) {row : Option Nat} {w' : World} (hg : w.grownBy w' row) (hr : ∀ q, row = some q → q ≠ N ∧ ∀ b o, a = some ⟨b, o, none⟩ → 0 < len → b ≠ q) : Rd w' N a len cap zs p k e := by
  refine ⟨(hg.block N h.lt (fun e => (hr N e.symm).1 rfl)).trans h.box, ?_, h.ne, h.nil, h.cap, h.at_, h.len, h.k⟩
  refine ⟨h.row.1, h.row.2.1, fun hl => ?_⟩
  obtain ⟨b, off, rfl, hlt, hc⟩ := h.row.2.2 hl
  have hb := hg.block b hlt (fun e => (hr b e.symm).2 b off rfl hl rfl)
  exact ⟨b, off, rfl, Nat.lt_of_lt_of_le hlt hg.size, fun i' hi => (World.cell?_of_block (a := ⟨b, off + i', none⟩) hb).trans (hc i' hi)⟩
theorem Tn.grown {N : Nat} {w w1 w2 : World} {row : Option Nat} (h : Tn N w w1) (hg : w1.grownBy w2 row) (hr : ∀ q, row = some q → w.heap.size ≤ q) : Tn N w w2 :=
  ⟨hg.os.trans h.os, hg.tape.trans h.tape, hg.output.trans h.output, Nat.le_trans h.size hg.size, fun k hk hne => (hg.block k (Nat.lt_of_lt_of_le hk h.size) (fun e => by have := hr k e.symm; omega)).trans (h.block k hk hne)⟩
/-- a new element's cells -/
theorem new_cel (w : World) (i : Ins) (vb ve vl : Value) (t : TypeId) : ∀ j u, (cel i vb ve vl)[j]? = some u → (w.alloc (.cells (cel i vb ve vl).toArray t)).cell? ((⟨w.heap.size, 0, none⟩ : Addr).add j) = some u := by
  intro j u hj
  have : ((⟨w.heap.size, 0, none⟩ : Addr).add j) = ⟨w.heap.size, j, none⟩ := by by_cases h : j = 0 <;> simp [Addr.add, h]
  rw [this]
  simp
  exact hj
theorem cel_one (i : Ins) {vb ve vl : Value} (h1 : IsSl vb) (h2 : IsSl ve) (h3 : IsSl vl) : ∀ u ∈ cel i vb ve vl, u.oneCell' = true := by
  obtain ⟨_, _, _, rfl⟩ := h1
  obtain ⟨_, _, _, rfl⟩ := h2
  obtain ⟨_, _, _, rfl⟩ := h3
  intro u hu
  simp only [cel, List.mem_cons, List.not_mem_nil, or_false] at hu
  rcases hu with rfl | rfl | rfl | rfl | rfl | rfl | rfl | rfl <;> rfl

/-- the relation of list's loop: what was read so far, and where the reader is -/
def LK (w : World) (N : Nat) (a : Option Addr) (len cap : Nat) (zs : List Int) (p nest : Nat) (me : Bool) (T : Out (List Ins × Int)) (S gk : Nat) (s : Value) (wr : World) : Prop :=
  ∃ (acc : List Ins) (p' k' : Nat) (er : Int), Rd wr N a len cap zs p' k' er ∧ Tn N w wr ∧ LBox wr S N nest me ∧ p + acc.length ≤ p' ∧ 2 * (len - p') + (if er = 0 then 1 else 0) ≤ gk ∧
    (er = 0 → OwnC wr S (S ≤ ·) s acc ∧ T.e = (D zs p' k' nest me).e ∧ T.at_ = (D zs p' k' nest me).at_ ∧ T.k = (D zs p' k' nest me).k ∧ ((D zs p' k' nest me).e = 0 → T.v = (acc ++ (D zs p' k' nest me).v.1, (D zs p' k' nest me).v.2))) ∧
    (¬ er = 0 → IsSl s ∧ T.e = er ∧ T.at_ = p' ∧ T.k = k')
theorem OwnC.isSl {w : World} {B : Nat} {G : Nat → Prop} {v : Value} {l : List Ins} (h : OwnC w B G v l) : IsSl v := by
  obtain ⟨a, c, rfl, _⟩ := h.shape
  exact ⟨_, _, _, rfl⟩
/-- the round's end -/
theorem lk_step {w w3 w4 w5 : World} {N : Nat} {a : Option Addr} {len cap : Nat} {zs : List Int} {p nest : Nat} {me : Bool} {T X : Out (List Ins × Int)} {S : Nat} {s : Value} {acc : List Ins} {p' k' g capn : Nat} {Y : Out Ins} {i : Ins} {vb ve vl : Value} {xs : List Value}
    (hS : w.heap.size = S) (hold : ∀ b o, a = some ⟨b, o, none⟩ → 0 < len → b < S) (hN : N < S) (hTn : Tn N w w3) (hs : OwnC w3 S (S ≤ ·) s acc)
    (hr4 : Rd w4 N a len cap zs Y.at_ Y.k Y.e) (hr3 : Rd w3 N a len cap zs p' k' 0) (ht4 : Tn N w3 w4) (hbx : LBox w4 S N nest me)
    (hok : Y.e = 0 → i = Y.v ∧ Code w4 (w3.heap.size ≤ ·) i.body vb ∧ Code w4 (w3.heap.size ≤ ·) i.els ve ∧ Lies (w3.heap.size ≤ ·) i.ls.length (Lab w4 i.ls) vl)
    (hx : (w4.alloc (.cells (cel i vb ve vl).toArray 50)).ownsRow S 50 8 s acc.length xs) (hi : Its (w4.alloc (.cells (cel i vb ve vl).toArray 50)) (own (S ≤ ·) s) acc xs)
    (hown : w5.ownsRow S 50 8 (.slice (some ⟨g, 0, none⟩) (acc.length + 1) capn) (acc.length + 1) (xs ++ cel i vb ve vl)) (hgrow : (w4.alloc (.cells (cel i vb ve vl).toArray 50)).grownBy w5 s.ownBlock) (hat : s.ownBlock = some g ∨ g = w4.heap.size + 1)
    (hp : p + acc.length + 1 ≤ Y.at_) (gk : Nat) (hgk : 2 * (len - Y.at_) + (if Y.e = 0 then 1 else 0) ≤ gk)
    (hTe : Y.e = 0 → T.e = (D zs Y.at_ Y.k nest me).e ∧ T.at_ = (D zs Y.at_ Y.k nest me).at_ ∧ T.k = (D zs Y.at_ Y.k nest me).k ∧ ((D zs Y.at_ Y.k nest me).e = 0 → T.v = (acc ++ Y.v :: (D zs Y.at_ Y.k nest me).v.1, (D zs Y.at_ Y.k nest me).v.2)))
    (hTn2 : ¬ Y.e = 0 → T.e = Y.e ∧ T.at_ = Y.at_ ∧ T.k = Y.k) : LK w N a len cap zs p nest me T S gk (.slice (some ⟨g, 0, none⟩) (acc.length + 1) capn) w5 := by
  have hsl := hs.lt
  have hz : w3.heap.size ≤ w4.heap.size := ht4.size
  have hw : S ≤ w3.heap.size := by rw [← hS]; exact hTn.size
  have hal := one_alloc w4 (.cells (cel i vb ve vl).toArray 50)
  have hq : ∀ q, s.ownBlock = some q → S + 3 ≤ q ∨ True := fun _ _ => .inr trivial
  have hne : ∀ q, s.ownBlock = some q → q ≠ N ∧ ∀ b o, a = some ⟨b, o, none⟩ → 0 < len → b ≠ q := fun q hq => ⟨by have := (hsl q hq).1; omega, fun b o e hl => by have := hold b o e hl; have := (hsl q hq).1; omega⟩
  have hr5 := (hr4.below hal).grown hgrow hne
  have ht5 : Tn N w w5 := (Tn.on (Tn.on hTn ht4) (Tn.of (N := N) hal)).grown hgrow (fun q hq => by have := (hsl q hq).1; omega)
  have hb5 : LBox w5 S N nest me := by
    refine (hbx.below hal).keep fun k h1 h2 => hgrow.block k (by have := hbx.lt; have := hal.size; omega) (fun e => ?_)
    obtain ⟨cur, hc⟩ := hs.block k e.symm
    have h3 := (ht4.block k (hsl k e.symm).2 (fun e2 => by cases e2; omega)).trans hc
    rcases (show k = S ∨ k = S + 1 ∨ k = S + 2 by omega) with rfl | rfl | rfl
    · have := h3.symm.trans hbx.x0; simp at this
    · have := h3.symm.trans hbx.x1; simp at this
    · have := h3.symm.trans hbx.x2; simp at this
  by_cases he : Y.e = 0
  · obtain ⟨hv, c1, c2, c3⟩ := hok he
    obtain ⟨e1, e2, e3, e4⟩ := hTe he
    have mv : Moves w4 (w4.alloc (.cells (cel i vb ve vl).toArray 50)) (w3.heap.size ≤ ·) (own (S ≤ ·) s) := moves_below hal fun k _ hk => ⟨fun e => by have := (hsl k e).2; have : w3.heap.size ≤ k := hk; omega, by have : w3.heap.size ≤ k := hk; show S ≤ k; omega⟩
    refine ⟨acc ++ [i], Y.at_, Y.k, 0, by rw [he] at hr5; exact hr5, ht5, hb5, by simp; omega, by rw [if_pos rfl]; rw [if_pos he] at hgk; exact hgk, fun _ => ⟨?_, e1, e2, e3, fun h0 => ?_⟩, fun h0 => absurd rfl h0⟩
    · exact OwnC.snoc hx hi (c1.move mv) (c2.move mv) (Labs.move mv c3) hown hgrow hat (by simp)
    · rw [e4 h0, ← hv]; simp
  · refine ⟨acc, Y.at_, Y.k, Y.e, hr5, ht5, hb5, by omega, by rw [if_neg he]; rw [if_neg he] at hgk; exact hgk, fun h0 => absurd h0 he, fun _ => ⟨⟨_, _, _, rfl⟩, hTn2 he⟩⟩

theorem D_step (zs : List Int) (p k nest : Nat) (me : Bool) (h : p ≤ zs.length) :
    (¬ (pB zs p (jO k nest me)).e = 0 → (D zs p k nest me).e = (pB zs p (jO k nest me)).e ∧ (D zs p k nest me).at_ = (pB zs p (jO k nest me)).at_ ∧ (D zs p k nest me).k = k) ∧
    ((pB zs p (jO k nest me)).e = 0 → ((pB zs p (jO k nest me)).v = 11 ∨ (pB zs p (jO k nest me)).v = 5) → D zs p k nest me = ⟨0, (pB zs p (jO k nest me)).at_, k, ([], (pB zs p (jO k nest me)).v)⟩) ∧
    ((pB zs p (jO k nest me)).e = 0 → ¬ ((pB zs p (jO k nest me)).v = 11 ∨ (pB zs p (jO k nest me)).v = 5) → ∀ Y, Y = pI (D zs) zs (pB zs p (jO k nest me)).at_ (k + 1) nest (pB zs p (jO k nest me)).v →
      (¬ Y.e = 0 → (D zs p k nest me).e = Y.e ∧ (D zs p k nest me).at_ = Y.at_ ∧ (D zs p k nest me).k = Y.k) ∧
      (Y.e = 0 → (D zs p k nest me).e = (D zs Y.at_ Y.k nest me).e ∧ (D zs p k nest me).at_ = (D zs Y.at_ Y.k nest me).at_ ∧ (D zs p k nest me).k = (D zs Y.at_ Y.k nest me).k ∧ ((D zs Y.at_ Y.k nest me).e = 0 → (D zs p k nest me).v = (Y.v :: (D zs Y.at_ Y.k nest me).v.1, (D zs Y.at_ Y.k nest me).v.2)))) := by
  refine ⟨fun he => ?_, fun he hc => ?_, fun he hc Y hY => ?_⟩
  · rw [D_eq zs p k nest me h]; unfold step; rw [Part.on_no he]; exact ⟨rfl, rfl, rfl⟩
  · rw [D_eq zs p k nest me h]; unfold step; rw [Part.on_ok he, if_pos hc]
  · have e1 : D zs p k nest me = Y.on ([], 0) fun a2 k2 i => (D zs a2 k2 nest me).on ([], 0) fun a3 k3 y => ⟨0, a3, k3, (i :: y.1, y.2)⟩ := by
      rw [D_eq zs p k nest me h]; unfold step; rw [Part.on_ok he, if_neg hc, hY]
    rw [e1]
    refine ⟨fun hy => ?_, fun hy => ?_⟩
    · rw [Out.on_no hy]; exact ⟨rfl, rfl, rfl⟩
    · rw [Out.on_ok hy]
      generalize D zs Y.at_ Y.k nest me = R
      by_cases hr : R.e = 0
      · rw [Out.on_ok hr]; exact ⟨hr.symm, rfl, rfl, fun _ => rfl⟩
      · rw [Out.on_no hr]; exact ⟨rfl, rfl, rfl, fun e => absurd e hr⟩

set_option maxRecDepth 100000 in
set_option maxHeartbeats 6400000 in
theorem list_step {m : Nat} (ih : ListP m) : ListP (m + 1) := by
  intro N len cap p k nest a zs me w h hT hn hm
  obtain ⟨i0, hi, hz0, hz1, hz2⟩ := info_parts infoI
  have hzl := h.zlen
  have hN := h.lt
  have hold := h.old
  have hat := h.at_
  have hlen := h.len
  have HR := hide h; have HT := hide hT; have HIh := hide ih; have HOld := hide hold
  clear h hT ih hold
  go_enter Tryd.func35, Tryd.ntmps35
  go_wp2_with fail
  obtain ⟨hb0, hbx, hz⟩ := three_boxes w N nest me
  generalize ((w.alloc (.cells #[.pointer (some ⟨N, 0, none⟩)] 102)).alloc (.cells #[.int .i64 nest] 3)).alloc (.cells #[.bool me] 4) = w2 at *
  have HR2 := hide ((unhide HR).below hb0); have HT2 := hide (Tn.of (N := N) hb0); have HX := hide hbx
  clear hb0 hbx hz
  generalize hS : w.heap.size = S at *
  have HS := hide hS; clear hS
  go_loopg [8] (2 * (len - p) + 1) (fun gk s wr => LK w N a len cap zs p nest me (D zs p k nest me) S gk s wr)
  case atStart => exact ⟨[], p, k, 0, unhide HR2, unhide HT2, unhide HX, by simp, by simp, fun _ => ⟨OwnC_nil _ _ _, rfl, rfl, rfl, fun _ => by simp⟩, fun h0 => absurd rfl h0⟩
  case round =>
    clear HR2 HT2 HX
    obtain ⟨acc, p', k', er, hr, ht, hbx, hpl, hgk, hok, hno⟩ := hrel
    have q0 := hbx.c0; have q1 := hbx.c1; have q2 := hbx.c2
    have hTr := Tb.turn (unhide HT) (unhide HR) ht
    have HTr := hide hTr; have HRr := hide hr; have HTn := hide ht; have HX := hide hbx
    by_cases he : er = 0
    · subst he
      obtain ⟨hown, hT1, hT2, hT3, hT4⟩ := hok rfl
      have hD := D_step zs p' k' nest me (by rw [hzl]; exact hr.at_)
      have hP := pB_bd zs p' (jO k' nest me) (by rw [hzl]; exact hr.at_)
      have hPn := fun h => pB_no (zs := zs) (p := p') (J := jO k' nest me) h
      have ho := obO_any (b0 := S) (b1 := S + 1) (b2 := S + 1 + 1) hr hTr hn q0 q1 q2
      generalize pB zs p' (jO k' nest me) = P at *
      have hpk := hr.k
      have hpa := hr.at_
      rw [if_pos rfl] at hgk
      have HOwn := hide hown; have HD := hide hD; have HPb := hide hP; have HO := hide ho; have HT14 := hide (show _ ∧ _ ∧ _ ∧ _ from ⟨hT1, hT2, hT3, hT4⟩)
      obtain ⟨sa, sc, rfl, _⟩ := hown.shape
      clear hown hT1 hT2 hT3 hT4 hD hP ho hok hno hTr ht hbx hr q1 q2
      by_cases hPe : P.e = 0
      · obtain ⟨hP1, hP2, hP3⟩ := unhide HPb |>.2.2 hPe
        have hP4 := (unhide HPb).2.1
        by_cases h11 : P.v = 11
        · have hD2 := (unhide HD).2.1 hPe (.inl h11)
          rw [hPe, h11] at HO
          rw [h11] at hD2
          have HD2 := hide hD2
          clear hD2 hPe h11 hP1 hP2 hP3 hP4 hPn hgk hpl
          go_wp2_with fail
          refine (unhide HO).mono ?_
          rintro e w3 ⟨rfl, hr3, ht3⟩
          have hx := (unhide HX).tn ht3 (by omega)
          have q0 := hx.c0
          have c3 := hr3.c3
          rw [errV_0] at c3
          have HR3 := hide hr3; have HT3 := hide ht3
          clear hr3 ht3 hx
          go_wp2
          go_ret2
          have hh := unhide HT14
          rw [unhide HD2] at hh
          refine ⟨_, _, rfl, ⟨_, _, _, rfl⟩, ?_, Tn.on (unhide HTn) (unhide HT3), fun _ => ?_, fun e => absurd hh.1 e⟩
          · rw [hh.1, hh.2.1, hh.2.2.1]; exact unhide HR3
          · rw [hh.2.2.2 rfl]
            refine ⟨rfl, ?_⟩
            simp only [List.append_nil]
            have := OwnC.turn (unhide HRr) (unhide HT3) (unhide HOwn)
            exact this.code fun q hq hg => by
              have : S ≤ q := by rcases hg with hg | hg; exact hg; exact hg
              rw [unhide HS]; exact this
        by_cases h5 : P.v = 5
        · have hD2 := (unhide HD).2.1 hPe (.inr h5)
          rw [hPe, h5] at HO
          rw [h5] at hD2
          have HD2 := hide hD2
          clear hD2 hPe h11 h5 hP1 hP2 hP3 hP4 hPn hgk hpl
          go_wp2_with fail
          refine (unhide HO).mono ?_
          rintro e w3 ⟨rfl, hr3, ht3⟩
          have hx := (unhide HX).tn ht3 (by omega)
          have q0 := hx.c0
          have c3 := hr3.c3
          rw [errV_0] at c3
          have HR3 := hide hr3; have HT3 := hide ht3
          clear hr3 ht3 hx
          go_wp2
          go_ret2
          have hh := unhide HT14
          rw [unhide HD2] at hh
          refine ⟨_, _, rfl, ⟨_, _, _, rfl⟩, ?_, Tn.on (unhide HTn) (unhide HT3), fun _ => ?_, fun e => absurd hh.1 e⟩
          · rw [hh.1, hh.2.1, hh.2.2.1]; exact unhide HR3
          · rw [hh.2.2.2 rfl]
            refine ⟨rfl, ?_⟩
            simp only [List.append_nil]
            have := OwnC.turn (unhide HRr) (unhide HT3) (unhide HOwn)
            exact this.code fun q hq hg => by
              have : S ≤ q := by rcases hg with hg | hg; exact hg; exact hg
              rw [unhide HS]; exact this
        obtain ⟨x, hx, hk1, hk2⟩ := jO_some hP3 h11 h5
        have hD3 := (unhide HD).2.2 hPe (by rintro (e | e); exact h11 e; exact h5 e) _ rfl
        have hlt : p' < len := by omega
        obtain ⟨c, hc⟩ : ∃ c : Nat, P.v = (c : Int) ∧ c < 256 := by
          obtain ⟨_, _, _, _, v0, v1⟩ := (unhide HRr).byte hlt
          rw [← hP2] at v0 v1
          exact ⟨P.v.toNat, by omega, by omega⟩
        have t11 : (P.v == 11) = false := by simpa using h11
        have t5 : (P.v == 5) = false := by simpa using h5
        rw [hc.1] at t11 t5 hx hD3 HO
        have hyb := pI_bd zs (D zs) (fun a k n m h => D_bd zs a k n m h) P.at_ (k' + 1) nest c (by omega)
        have hins := fun (wx : World) (h : Rd wx N a len cap zs P.at_ (k' + 1) 0) (hT : Tb wx) => ins_any (unhide HIh) (nest := nest) c hc.2 x hx h hT (fun e => by have := hk2 e; omega) (by omega)
        generalize pI (D zs) zs P.at_ (k' + 1) nest c = Y at *
        rw [hPe] at HO
        have HIns := hide hins; have HD3 := hide hD3; have HY := hide hyb
        have hcl := hc.2
        clear hins hD3 hyb hx hk2 hPe hP2 hP3 hP4 h11 h5 hc hPn
        go_wp2_with fail
        refine (unhide HO).mono ?_
        rintro e w3 ⟨rfl, hr3, ht3⟩
        have hx3 := (unhide HX).tn ht3 (by omega)
        have q0 := hx3.c0; have q1 := hx3.c1
        have c3 := hr3.c3
        rw [errV_0] at c3
        have c2 := hr3.c2; have f2 := hr3.fz 2
        have hrk := hr3.set_k (k' + 1) (by omega)
        have hx4 := hx3.tn (Tn.set N 2 w3 (.int .i64 ((k' + 1 : Nat) : Int))) (by omega)
        have ht4 := Tn.on ht3 (Tn.set N 2 w3 (.int .i64 ((k' + 1 : Nat) : Int)))
        have q04 := hx4.c0; have q14 := hx4.c1
        have htb4 := Tb.turn (unhide HTr) (unhide HRr) ht4
        have hown4 := OwnC.turn (unhide HRr) ht4 (unhide HOwn)
        rw [show ((((k' + 1 : Nat)) : Int)) = (k' : Int) + 1 by omega] at hrk hx4 ht4 q04 q14 htb4 hown4
        have HRk := hide hrk; have HX4 := hide hx4; have HT4 := hide ht4; have HTb4 := hide htb4; have HOwn4 := hide hown4
        clear hr3 ht3 hx3 hrk hx4 ht4 htb4 hown4 HOwn HX
        go_wp2_with fail
        generalize w3.setCell ⟨N, 2, none⟩ (.int .i64 ((k' : Int) + 1)) = w4 at *
        refine (unhide HIns _ (unhide HRk) (unhide HTb4)).mono ?_
        rintro e w5 ⟨i, vb, ve, vl, rfl, hr5, ht5, ⟨⟨b1, b2, b3, rfl⟩, ⟨b4, b5, b6, rfl⟩, ⟨b7, b8, b9, rfl⟩⟩, hok5⟩
        have hx5 := (unhide HX4).tn ht5 (by omega)
        obtain ⟨xs, hxo, hit⟩ := (OwnC.turn (unhide HRk) ht5 (unhide HOwn4)).below (one_alloc w5 (.cells (cel i (.slice b1 b2 b3) (.slice b4 b5 b6) (.slice b7 b8 b9)).toArray 50))
        have HXo := hide hxo; have HIt := hide hit; have HR5 := hide hr5; have HT5 := hide ht5; have HX5 := hide hx5; have HOk5 := hide hok5
        have hsz := ((unhide HOwn4).turn (unhide HRk) ht5)
        have hS5 : S ≤ w5.heap.size := by have := hx5.lt; omega
        clear hxo hit hr5 ht5 hx5 hok5 hsz q0 q1 q04 q14 c3 c2 f2
        have hal : acc.length ≤ 1099511627776 := by omega
        go_wp2_with (at_builtin; refine wpList_append_lies _ rfl (.tmp 35) (.tmp 40) 25 rfl S 50 i0 (.agg #[.int .u8 0, .int .i64 0, .int .u32 0, .int .u32 0, .int .u8 0, .slice none 0 0, .slice none 0 0, .slice none 0 0]) 8 104 Tryd.underlying25 hi hz0 hz1 hz2 rfl (by decide) (.slice sa acc.length sc) acc.length xs rfl (unhide HXo) ⟨w5.heap.size, 0, none⟩ 1 1 (cel i (.slice b1 b2 b3) (.slice b4 b5 b6) (.slice b7 b8 b9)) rfl rfl ?c1 ?c2 (by omega) ?c3 ?c4 ?c5 (w5.heap.size + 1) ?c6 ?_)
        case c1 => exact new_cel w5 i _ _ _ _
        case c2 => exact cel_one i ⟨_, _, _, rfl⟩ ⟨_, _, _, rfl⟩ ⟨_, _, _, rfl⟩
        case c3 => unfold maxLen; omega
        case c4 => omega
        case c5 => simp; omega
        case c6 => simp
        intro g capn w6 hown6 hgrow hat6 hlt6
        have hh := unhide HT14
        have hyb := unhide HY
        have hstep := lk_step (w := w) (p := p) (T := D zs p k nest me) (X := D zs p k nest me) (unhide HS) (fun b o e hl => by have := unhide HOld b o e hl; have := unhide HS; omega) (by omega) (Tn.on (unhide HTn) (unhide HT4)) (unhide HOwn4) (unhide HR5) (unhide HRk) (unhide HT5) (unhide HX5) (unhide HOk5) (unhide HXo) (unhide HIt) hown6 hgrow hat6 (by have := hyb.1; omega) (gk - 1) (by have := hyb.1; have := hyb.2; split <;> omega)
          (fun hy => by
            obtain ⟨e1, e2, e3, e4⟩ := (unhide HD3).2 hy
            refine ⟨hh.1.trans e1, hh.2.1.trans e2, hh.2.2.1.trans e3, fun h0 => ?_⟩
            rw [hh.2.2.2 (by rw [e1]; exact h0), e4 h0])
          (fun hy => by
            obtain ⟨e1, e2, e3⟩ := (unhide HD3).1 hy
            exact ⟨hh.1.trans e1, hh.2.1.trans e2, hh.2.2.1.trans e3⟩)
        have HStep := hide hstep
        clear hstep hown6 hgrow hat6 hlt6 hh hyb
        go_wp2
        go_roundg (gk - 1)
        case measure => omega
        case rel => exact unhide HStep
      · have hv := hPn hPe
        have hD1 := (unhide HD).1 hPe
        rw [hv] at HO
        have HE := hide hPe; have HD1 := hide hD1
        clear hPe hv hD1 hPn hgk hpl
        go_wp2_with fail
        refine (unhide HO).mono ?_
        rintro e w3 ⟨rfl, hr3, ht3⟩
        have hx := (unhide HX).tn ht3 (by omega)
        have q0 := hx.c0
        have c3 := hr3.c3
        rw [errV_pos (unhide HE)] at c3
        have HR3 := hide hr3; have HT3 := hide ht3
        clear hr3 ht3 hx
        go_wp2
        go_ret2
        have hh := unhide HT14
        obtain ⟨e1, e2, e3⟩ := unhide HD1
        refine ⟨_, _, rfl, ⟨_, _, _, rfl⟩, ?_, Tn.on (unhide HTn) (unhide HT3), fun e => absurd ((hh.1.trans e1).symm.trans e) (unhide HE), fun _ => rfl⟩
        rw [hh.1, hh.2.1, hh.2.2.1, e1, e2, e3]; exact unhide HR3
    · obtain ⟨⟨sa, sl, sc, rfl⟩, hT1, hT2, hT3⟩ := hno he
      have HE := hide he; have HT13 := hide (show _ ∧ _ ∧ _ from ⟨hT1, hT2, hT3⟩)
      clear hok hno hT1 hT2 hT3 he hgk hpl hr ht hTr hbx
      go_wp2_with fail
      refine (obO_err (nest := nest) (me := me) (unhide HRr) (unhide HE)).mono ?_
      rintro e w3 ⟨rfl, hr3, ht3⟩
      have hx := (unhide HX).tn ht3 (by omega)
      have q0 := hx.c0
      have c3 := hr3.c3
      rw [errV_pos (unhide HE)] at c3
      have HR3 := hide hr3; have HT3 := hide ht3
      clear hr3 ht3 hx q1 q2
      go_wp2
      go_ret2
      obtain ⟨e1, e2, e3⟩ := unhide HT13
      refine ⟨_, _, rfl, ⟨_, _, _, rfl⟩, ?_, Tn.on (unhide HTn) (unhide HT3), fun e => absurd (e1.symm.trans e) (unhide HE), fun _ => rfl⟩
      rw [e1, e2, e3]; exact unhide HR3
theorem list_any : ∀ m, ListP m
  | 0 => fun N len cap p k nest a zs me w h hT hn hm => by omega
  | m + 1 => list_step (list_any m)
end Ex
end Go.Proofs.YtjhmglefejclpaaDoor
