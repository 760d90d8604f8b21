/- The writer's list; expr.Encode. -/
import Derived.Test.YtjhmglefejclpaaDoorExZ
namespace Go.Proofs.YtjhmglefejclpaaDoor
open Go.RowKit
namespace Ex
set_option linter.unusedVariables false
set_option linter.unusedSimpArgs false

theorem enc_take {l : List Ins} {j : Nat} (h : j < l.length) : enc (l.take (j + 1)) = enc (l.take j) ++ [l[j].op] ++ encI l[j] := by
  rw [List.take_succ_eq_append_getElem h, enc_app, enc_cons, enc_nil]; simp
theorem enc_take_le (l : List Ins) (j : Nat) : (enc (l.take j)).length ≤ (enc l).length := by
  have h : enc l = enc (l.take j) ++ enc (l.drop j) := by rw [← enc_app, List.take_append_drop]
  rw [h, List.length_append]; omega

set_option maxRecDepth 100000 in
set_option maxHeartbeats 3200000 in
theorem wl_any (l : List Ins) : WrP l := by
  refine ind2 (P := WrP) (fun l ih => ?_) l
  intro N d zs v w h hv hm hw hs hl hz hT hTN
  obtain ⟨a, ca, rfl, hca, _, hA⟩ := hv
  have hlt := h.lt
  by_cases h0 : 0 < l.length
  · obtain ⟨ba, oa, rfl, hgb, hla⟩ := hA h0
    have HLa := hide hla; have HIh := hide ih; have HM := hide hm; have HWf := hide hw; have HSz := hide hs; have HT := hide hT; have HZ := hide hz; have HW := hide h; have HGb := hide hgb
    clear hA hla ih hm hw hs hT h hz hgb
    generalize hln : l.length = n at *
    have HN := hide hln; clear hln
    go_enter Tryd.func24, Tryd.ntmps24
    go_wp2_with fail
    go_loopw [8] (fun c wr => ∃ j : Nat, c = .int .i64 j ∧ (j : Int) ≤ n ∧ Wr wr N (zs ++ enc (l.take j)) ∧ Fr N w wr) (fun c _ => n - (intOf c).toNat)
    case atStart => exact ⟨0, rfl, by omega, by simpa [enc_nil] using unhide HW, Fr.of (Below.refl _ _) (Nat.le_of_lt hlt)⟩
    case round =>
      obtain ⟨j, rfl, hj, hwr, hfr⟩ := hrel
      by_cases hlt2 : (j : Int) < n
      · have ja : j < l.length := by have := unhide HN; omega
        have iA := ItemAt.move (moves_belowN hfr.lo) (hfr.lo.block ba (unhide HGb)) (Items_get (unhide HLa) j ja)
        have hI := unhide HIh l[j] (List.getElem_mem ja)
        have sA := Sz_get (unhide HSz) l[j] (List.getElem_mem ja)
        have wA := Wf_get (unhide HWf) l[j] (List.getElem_mem ja)
        have mA := may_get (unhide HM) l[j] (List.getElem_mem ja)
        have hE := enc_take ja
        have hEl := enc_take_le l (j + 1)
        generalize hx : l[j] = x at *
        rw [hE, List.length_append, List.length_append] at hEl
        simp only [List.length_cons, List.length_nil] at hEl
        obtain ⟨vb, ve, vl, hc, k1, k2, k3⟩ := iA
        have K1 := hide k1; have K2 := hide k2; have K3 := hide k3
        obtain ⟨d1, db1, rfl, _⟩ := k1
        obtain ⟨d2, db2, rfl, _⟩ := k2
        obtain ⟨d3, db3, rfl, _⟩ := k3
        obtain ⟨e0, e1, e2, e3, e4, e5, e6, e7⟩ := hc
        have hrl := hwr.lt
        have g0 := one_alloc wr (.cells #[.int .u8 x.op, .int .i64 x.n, .int .u32 x.al, .int .u32 x.of, .int .u8 x.re, .slice d1 x.body.length db1, .slice d2 x.els.length db2, .slice d3 x.ls.length db3] 50)
        have b0 := box1 wr (.int .u8 x.op) (.int .i64 x.n) (.int .u32 x.al) (.int .u32 x.of) (.int .u8 x.re) (.slice d1 x.body.length db1) (.slice d2 x.els.length db2) (.slice d3 x.ls.length db3)
        have hone := one_any x.op (hwr.below g0) (by have := unhide HZ; rw [List.length_append]; omega) wA.1.1
        have f0 := Fr.on hfr (Fr.of (N := N) g0 (Nat.le_of_lt hrl))
        have hQ : wr.heap.size ≠ N := by omega
        have k1' := (unhide K1).below g0; have k2' := (unhide K2).below g0; have k3' := Labs.below (unhide K3) g0
        have HOne := hide hone; have F0 := hide f0; have B0 := hide b0; have HE := hide hE; have HEl := hide hEl; have HI := hide hI; have SA := hide sA; have WA := hide wA; have MA := hide mA; have K1' := hide k1'; have K2' := hide k2'; have K3' := hide k3'
        clear hone f0 b0 hE hEl hI sA wA mA k1' k2' k3' hx g0 hwr hfr hrl ja hj K1 K2 K3
        go_wp2_with fail
        generalize wr.alloc (.cells #[.int .u8 x.op, .int .i64 x.n, .int .u32 x.al, .int .u32 x.of, .int .u8 x.re, .slice d1 x.body.length db1, .slice d2 x.els.length db2, .slice d3 x.ls.length db3] 50) = w0 at *
        generalize wr.heap.size = Q at *
        refine (unhide HOne).mono ?_
        rintro e w1 ⟨rfl, hw1, hf1⟩
        have b1 := hf1.bx (unhide B0) hQ
        obtain ⟨c0, c1, c2, c3, c4, c5, c6, c7⟩ := b1.cs
        have fr1 := Fr.on (unhide F0) hf1
        have hfl := fld_any x (unhide HI).1 (unhide HI).2 hw1 ((unhide K1').belowN hf1.lo) ((unhide K2').belowN hf1.lo) (Labs.belowN (unhide K3') hf1.lo) (unhide MA) (unhide SA) (unhide WA) (by have := unhide HZ; have := unhide HEl; simp only [List.length_append, List.length_cons, List.length_nil]; omega) (TC.belowN (unhide HT) hTN fr1.lo) hTN
        have HFl := hide hfl; have F1 := hide fr1
        clear hfl hw1 hf1 b1 fr1 e0 e1 e2 e3 e4 e5 e6 e7
        go_wp2_with fail
        refine (unhide HFl).mono ?_
        rintro e w2 ⟨rfl, hw2, hf2⟩
        have HW2 := hide hw2; have F2 := hide (Fr.on (unhide F1) hf2)
        clear hw2 hf2 c0 c1 c2 c3 c4 c5 c6 c7
        go_wp2
        go_roundw
        case rel => exact ⟨j + 1, by go_num, by omega, by rw [unhide HE]; have := unhide HW2; simpa using this, unhide F2⟩
        case measure => simp [intOf]; omega
      · obtain rfl : j = n := by omega
        have htk : l.take j = l := by rw [← unhide HN]; exact List.take_length
        rw [htk] at hwr
        have HWr := hide hwr; have HFr := hide hfr
        clear hj hlt2 htk hwr hfr
        go_wp2
        go_end0
        exact ⟨rfl, unhide HWr, unhide HFr⟩
  · have hlz : l = [] := List.eq_nil_of_length_eq_zero (by omega)
    subst hlz
    simp only [List.length_nil] at *
    have HW := hide (show Wr w N (zs ++ enc []) by rw [enc_nil, List.append_nil]; exact h)
    clear hA hca h0 ih hm hw hs hl hz hT h
    go_enter Tryd.func24, Tryd.ntmps24
    go_wp2_with fail
    go_loopw [8] (fun c wr => c = .int .i64 0 ∧ wr = w) (fun c _ => 0)
    case atStart => exact ⟨rfl, rfl⟩
    case round =>
      obtain ⟨rfl, rfl⟩ := hrel
      go_wp2
      go_end0
      exact ⟨rfl, unhide HW, Fr.of (Below.refl _ _) (Nat.le_of_lt hlt)⟩

theorem encF_len (f n al of re : Int) (eb ee : List Int) (el : Nat) (ls : List Int) (h : ¬ f = 8 ∨ ls.length ≤ 257) : (encF f n al of re eb ee el ls).length ≤ 2838 + eb.length + ee.length := by
  have h1 := Leb.bS_len 10 n; have h2 := Leb.bU_len 10 n; have h3 := Leb.bU_len 10 al; have h4 := Leb.bU_len 10 of; have h5 := Leb.bU_len 10 ((ls.length : Int) - 1); have h6 := flat_len ls
  unfold encF
  split
  · omega
  · split
    · omega
    · split
      · rw [List.length_append]; omega
      · split
        · simp; omega
        · split
          · have h7 : (if 0 < el then [5] ++ ee else []).length ≤ 1 + ee.length := by
              by_cases he : 0 < el
              · rw [if_pos he]; simp; omega
              · rw [if_neg he]; simp
            rw [List.length_append, List.length_append, List.length_append]
            simp only [List.length_cons, List.length_nil]
            omega
          · split
            · rename_i e
              rw [List.length_append]
              rcases h with h | h
              · exact absurd e h
              · omega
            · split
              · simp only [List.length_append, List.length_cons, List.length_nil]; omega
              · simp
theorem enc_len (l : List Ins) : ∀ d, may d l = true → (enc l).length ≤ 2900 * cnt l := by
  refine ind (P := fun l => ∀ d, may d l = true → (enc l).length ≤ 2900 * cnt l) ?_ ?_ l
  · intro d _; rw [enc_nil]; simp
  · intro op n al of re b e ls r hb he hr d hm
    rw [may_cons, Bool.and_eq_true] at hm
    rw [enc_cons, cnt_cons]
    have h1 := hr d hm.2
    have hmi := hm.1
    have hls : ¬ fr op = 8 ∨ ls.length ≤ 257 := by
      by_cases e8 : fr op = 8
      · right
        have := (may_one hmi).1
        simp only [e8] at this
        simp [bnd] at this
        exact this.2
      · exact .inl e8
    have h2 := encF_len (fr op) n al of re (enc b) (enc e) e.length ls hls
    have hbe : (enc b).length ≤ 2900 * cnt b ∧ (enc e).length ≤ 2900 * cnt e := by
      cases hbl : blk (fr op) with
      | true => have := may_blk hmi hbl; exact ⟨hb _ this.1, he _ this.2⟩
      | false =>
        have hal : alo (fr op) n al of re b.length e.length ls.length = true := by unfold mayI one at hmi; simp only [Bool.and_eq_true] at hmi; exact hmi.1.2
        have := alo_nil hal hbl
        rw [List.eq_nil_of_length_eq_zero this.1, List.eq_nil_of_length_eq_zero this.2, enc_nil]; simp
    unfold encI
    simp only [List.length_append, List.length_cons, List.length_nil]
    omega
theorem mayB_parts {l : List Ins} (h : mayB l = true) : cnt l ≤ 16384 ∧ may 0 l = true := by
  unfold mayB okL at h
  simp only [Bool.and_eq_true, decide_eq_true_eq, Nat.zero_add] at h
  exact ⟨h.1.1, h.2⟩
theorem mayB_of {l : List Ins} (h : cnt l ≤ 16384) (hm : may 0 l = true) : mayB l = true := by unfold mayB okL; simp [h, hm]

def EncPost (w : World) (l : List Ins) (e : Ending) (w' : World) : Prop := ∃ (a : Option Addr) (len cap : Nat), e = .returned (.tuple #[.slice a len cap, errV (if mayB l = true then 0 else 1)]) ∧ Below w.heap.size w w' ∧ (mayB l = true → Bs w' a len cap (enc l ++ [11])) ∧ (mayB l = false → a = none ∧ len = 0 ∧ cap = 0)
theorem wr_new (w : World) : Wr (w.alloc (.cells #[.slice none 0 0] 57)) w.heap.size [] := ⟨_, heap_alloc_new w _, World.ownsRow_nil _ _ _ _, by simp⟩
theorem Wr.bs {w : World} {N : Nat} {zs : List Int} (h : Wr w N zs) (hz : 0 < zs.length) (hl : zs.length ≤ 1099511627776) : ∃ g cap, w.cell? ⟨N, 0, none⟩ = some (.slice (some ⟨g, 0, none⟩) zs.length cap) ∧ Bs w (some ⟨g, 0, none⟩) zs.length cap zs := by
  obtain ⟨v, h1, h2, h3⟩ := h
  obtain ⟨g, cap, rfl, hr, hc, _⟩ := own_shape h2 hz h3
  exact ⟨g, cap, by rw [cell_of_row w N 0 _ _ _ h1]; rfl, hr, by simp, hc, hl⟩

set_option maxRecDepth 100000 in
set_option maxHeartbeats 1600000 in
theorem encode_any (l : List Ins) {g : Nat → Prop} {v : Value} {w : World} (hv : Code w g l v) (hT : Tb w) (hl : l.length ≤ 1099511627776) (hs : Sz 1099511627776 l) (hw : Wf l) :
    Calls Tryd.prog 12 #[v] w (EncPost w l) := by
  have hc := check_any l hv hT hl hs hw
  have HV := hide hv
  obtain ⟨a, ca, rfl, _⟩ := hv
  have HC := hide hc; have HT := hide hT; have HS := hide hs; have HW := hide hw
  clear hc hT hs hw
  cases hm : mayB l with
  | false =>
    rw [hm, if_neg (by decide), errV_1] at HC
    have HMm := hide hm
    clear hm
    go_enter Tryd.func12, Tryd.ntmps12
    go_wp2_with fail
    refine (unhide HC).mono ?_
    rintro e w1 ⟨rfl, hb⟩
    have HB := hide hb; clear hb
    go_wp2
    go_ret2
    exact ⟨none, 0, 0, by rw [unhide HMm, if_neg (by decide), errV_1]; rfl, unhide HB, fun e => absurd (e.symm.trans (unhide HMm)) (by decide), fun _ => ⟨rfl, rfl, rfl⟩⟩
  | true =>
    rw [hm, if_pos rfl, errV_0] at HC
    obtain ⟨hcnt, hmay⟩ := mayB_parts hm
    have hel := enc_len l 0 hmay
    have HM := hide hmay; have HMm := hide hm
    clear hm hmay
    go_enter Tryd.func12, Tryd.ntmps12
    go_wp2_with fail
    refine (unhide HC).mono ?_
    rintro e w1 ⟨rfl, hb⟩
    have g1 := one_alloc w1 (.cells #[.slice none 0 0] 57)
    have hb2 := Below.on hb g1
    have hTw := (unhide HT).below hb2
    have hlw := wl_any l w1.heap.size 0 [] _ _ (wr_new w1) (((unhide HV).below hb).move (moves_below (g' := (· < w1.heap.size)) g1 (fun k hk _ => hk))) (unhide HM) (unhide HW) (unhide HS) hl (by simp; omega) hTw.1 (by have := ((unhide HT).below hb).1.1; exact this)
    have HL := hide hlw; have HB := hide hb; have G1 := hide g1
    clear hlw hb hb2 hTw g1
    go_wp2_with fail
    refine (unhide HL).mono ?_
    rintro e w2 ⟨rfl, hw2, hf2⟩
    rw [List.nil_append] at hw2
    have HW2 := hide hw2; have F2 := hide hf2
    clear hw2 hf2
    go_wp2_with fail
    refine (one_any 11 (unhide HW2) (by omega) (by omega)).mono ?_
    rintro e w3 ⟨rfl, hw3, hf3⟩
    obtain ⟨gg, gc, hcell, hbs⟩ := hw3.bs (by simp) (by simp; omega)
    have hbel : Below w.heap.size w w3 := by
      have h1 := unhide HB
      have h2 := (unhide G1).trans ((unhide F2).lo.trans hf3.lo)
      exact h1.trans (h2.mono h1.size)
    have HBs := hide hbs; have HBel := hide hbel
    clear hw3 hf3 hbs hbel
    generalize (enc l ++ [11]).length = en at *
    go_wp2
    go_ret2
    exact ⟨some ⟨gg, 0, none⟩, en, gc, by rw [unhide HMm, if_pos rfl, errV_0]; rfl, unhide HBel, fun _ => unhide HBs, fun e => absurd (e.symm.trans (unhide HMm)) (by decide)⟩
end Ex
end Go.Proofs.YtjhmglefejclpaaDoor
