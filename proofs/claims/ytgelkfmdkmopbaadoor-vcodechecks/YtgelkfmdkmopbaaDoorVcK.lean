/- vcode.appendLine. -/
import Derived.Test.YtgelkfmdkmopbaaDoorVcJ
import Derived.Deep.DeepCutAuto
namespace Go.Proofs.YtgelkfmdkmopbaaDoor
open Go.RowKit
namespace Vc
set_option linter.unusedVariables false

/-- the tables, in blocks below B -/
structure Tbs (B : Nat) (w : World) : Prop where
  f : Fms w
  n : Nms w
  p : P10 w
  b0 : 4 < B
  b1 : 1 < B
  b2 : 2 < B
  b3 : 3 < B
  b4 : 5 < B
theorem TS.fr {w w' : World} {B g : Nat} {l : List (List UInt8)} (h : TS w g l) (hb : Below B w w') (hg : g < B) : TS w' g l := fun j s hj => (hb.cell (p := ⟨g, j, none⟩) hg).trans (h j s hj)
theorem Tbs.fr {w w' : World} {B : Nat} (h : Tbs B w) (hf : Below B w w') : Tbs B w' := by
  refine ⟨?_, ⟨TS.fr h.n.1 hf h.b1, TS.fr h.n.2.1 hf h.b2, TS.fr h.n.2.2 hf h.b3⟩, ?_, h.b0, h.b1, h.b2, h.b3, h.b4⟩
  · obtain ⟨h1, t, fr, h2⟩ := h.f
    have e := (hf.block _ h.b0).trans h2
    exact ⟨(Array.getElem?_eq_some_iff.1 e).1, t, fr, e⟩
  · have hg : Tryd.prog.globalNamed "internal/strconv.uint64pow10" = some 5 := by kernel_rfl
    have hp := h.p
    unfold P10 Lib.TabIs at *
    simp only [World.var?, hg, Option.bind_some] at hp ⊢
    rw [hf.block _ h.b4]
    exact hp
theorem Tbs.of {w : World} (h1 : Fms w) (h2 : Nms w) (h3 : P10 w) : Tbs w.heap.size w := by
  refine ⟨h1, h2, h3, h1.1, block_lt_of_cell (h2.1 0 _ rfl), block_lt_of_cell (h2.2.1 0 _ rfl), block_lt_of_cell (h2.2.2 0 _ rfl), ?_⟩
  have hg : Tryd.prog.globalNamed "internal/strconv.uint64pow10" = some 5 := by kernel_rfl
  unfold P10 Lib.TabIs at h3
  simp only [World.var?, hg, Option.bind_some] at h3
  rcases Nat.lt_or_ge 5 w.heap.size with h' | h'
  · exact h'
  · rw [Array.getElem?_eq_none h'] at h3; simp at h3
theorem NumsL.fr {w w' : World} {B : Nat} {g : Nat → Prop} {l : List Int} {v : Value} (h : NumsL w g l v) (hb : Below B w w') (hg : ∀ k, g k → k < B) : NumsL w' g l v := h.moved fun k _ hk => ⟨hk, hb.block k (hg k hk)⟩

def pGiv (d : Int) : List UInt8 := if d != -1 then [114] ++ dec d ++ [32, 61, 32] else []
def pSrc (l : List Int) : List UInt8 := l.flatMap fun r => [32, 114] ++ dec r
def pNum (op : Nat) (n : Int) : List UInt8 := if numd op then [32] ++ dec n else []
def pOf (op : Nat) (o : Int) : List UInt8 := if acc op then [32, 43] ++ dec o else []
def pTo (l : List Int) : List UInt8 := l.flatMap fun r => [32] ++ dec r
def pNext (op : Nat) (l : List Int) : List UInt8 := if ends op && decide (0 < l.length) then [32, 45, 62] ++ pTo l else []
def line (x : In) (next : List Int) : List UInt8 := [32, 32] ++ pGiv x.dst ++ nam x.op ++ pSrc x.src ++ pNum x.op x.n ++ pOf x.op x.of ++ pNext x.op next ++ [10]
/-- so far -/
def Iv (B : Nat) (W0 : World) (v : Value) (l : List UInt8) (wx : World) : Prop := ∃ a n c, v = .slice a n c ∧ Bd wx B (.slice a n c) l ∧ Fr B W0 wx
theorem fm_take (f : Int → List UInt8) (l : List Int) (j : Nat) (z : Int) (h : l[j]? = some z) : (l.take (j + 1)).flatMap f = (l.take j).flatMap f ++ f z := by
  have hj := (List.getElem?_eq_some_iff.1 h).1
  have hb : l[j] = z := (List.getElem?_eq_some_iff.1 h).2
  rw [List.take_succ_eq_append_getElem hj, hb, List.flatMap_append]; simp
theorem fm_le (f : Int → List UInt8) (l : List Int) (j : Nat) : ((l.take j).flatMap f).length ≤ (l.flatMap f).length := by
  conv => rhs; rw [← List.take_append_drop j l]
  rw [List.flatMap_append, List.length_append]; omega

set_option maxRecDepth 100000 in
set_option maxHeartbeats 6400000 in
theorem line_any (x : In) (hx : WfI x) (next : List Int) (hn : ∀ z ∈ next, i64 z) (hnl : next.length ≤ 1099511627776) (g : Nat → Prop) (vs vn vo : Value) (xs : List UInt8) (B : Nat) (w : World) (hT : Tbs B w)
    (hs : NumsL w g x.src vs) (hnx : NumsL w g next vn) (hg : ∀ k, g k → k < B) (hB : B ≤ w.heap.size) (hBd : Bd w B vo xs) (hlen : xs.length + (line x next).length ≤ 1099511627776) :
    Calls Tryd.prog 25 #[vo, .agg #[.int .u8 (x.op : Int), .int .i64 x.dst, vs, .int .i64 x.n, .int .u32 x.of], vn] w fun e w' => ∃ v', e = .returned v' ∧ Iv B w v' (xs ++ line x next) w' := by
  obtain ⟨L1, h1⟩ : ∃ L, xs ++ [32, 32] = L := ⟨_, rfl⟩
  obtain ⟨L2, h2⟩ : ∃ L, L1 ++ pGiv x.dst = L := ⟨_, rfl⟩
  obtain ⟨L3, h3⟩ : ∃ L, L2 ++ nam x.op = L := ⟨_, rfl⟩
  obtain ⟨L4, h4⟩ : ∃ L, L3 ++ pSrc x.src = L := ⟨_, rfl⟩
  obtain ⟨L5, h5⟩ : ∃ L, L4 ++ pNum x.op x.n = L := ⟨_, rfl⟩
  obtain ⟨L6, h6⟩ : ∃ L, L5 ++ pOf x.op x.of = L := ⟨_, rfl⟩
  obtain ⟨L7, h7⟩ : ∃ L, L6 ++ pNext x.op next = L := ⟨_, rfl⟩
  have h8 : xs ++ line x next = L7 ++ [10] := by rw [← h7, ← h6, ← h5, ← h4, ← h3, ← h2, ← h1]; simp [line]
  have hl8 : (L7 ++ [10]).length ≤ 1099511627776 := by rw [← h8, List.length_append]; exact hlen
  have l7 : L7.length + 1 ≤ 1099511627776 := by simpa using hl8
  have l6 : L6.length + (pNext x.op next).length = L7.length := by rw [← h7, List.length_append]
  have l5 : L5.length + (pOf x.op x.of).length = L6.length := by rw [← h6, List.length_append]
  have l4 : L4.length + (pNum x.op x.n).length = L5.length := by rw [← h5, List.length_append]
  have l3 : L3.length + (pSrc x.src).length = L4.length := by rw [← h4, List.length_append]
  have l2 : L2.length + (nam x.op).length = L3.length := by rw [← h3, List.length_append]
  have l1 : L1.length + (pGiv x.dst).length = L2.length := by rw [← h2, List.length_append]
  have l0 : xs.length + 2 = L1.length := by rw [← h1, List.length_append]; rfl
  rw [h8]
  have H1 := hide h1; have H2 := hide h2; have H3 := hide h3; have H4 := hide h4; have H5 := hide h5; have H6 := hide h6; have H7 := hide h7
  have E7 := hide l7; have E6 := hide l6; have E5 := hide l5; have E4 := hide l4; have E3 := hide l3; have E2 := hide l2; have E1 := hide l1; have E0 := hide l0
  generalize hL8 : L7 ++ [10] = L8 at *
  have H8 := hide hL8
  clear h1 h2 h3 h4 h5 h6 h7 h8 hl8 hL8 l7 l6 l5 l4 l3 l2 l1 l0 hlen
  have HNle := hide hnl; have HS := hide hs; have HNx := hide hnx; have HX := hide hx; have HN := hide hn; have HG := hide hg; have HBd := hide hBd; have HB := hide hB; have HT := hide hT
  have hgv := fun W => gives_any x vs W (by obtain ⟨a, c, e, _⟩ := hs; exact ⟨_, _, _, e⟩)
  have HGv := hide hgv
  obtain ⟨sa, sc, rfl, _⟩ := hs
  obtain ⟨na, nc, rfl, _⟩ := hnx
  obtain ⟨oa, oc, rfl, _⟩ := hBd.shape
  obtain ⟨op, dst, src, nn, of⟩ := x
  simp only at *
  have hop := (unhide HX).op; simp only at hop
  have hb0 := one_alloc w (.cells #[.int .u8 (op : Int), .int .i64 dst, .slice sa src.length sc, .int .i64 nn, .int .u32 of] 50)
  have rB := heap_alloc_new w (.cells #[.int .u8 (op : Int), .int .i64 dst, .slice sa src.length sc, .int .i64 nn, .int .u32 of] 50)
  clear hx hn hnl hg hB hBd hT hgv
  generalize hsl : src.length = sl at *
  generalize hnl : next.length = nl at *
  generalize hxl : xs.length = xl at *
  have HSl := hide hsl; have HNl := hide hnl; have HXl := hide hxl; clear hsl hnl hxl
  go_enter Tryd.func25, Tryd.ntmps25
  go_upto_region 1 with fail
  generalize w.alloc (.cells #[.int .u8 (op : Int), .int .i64 dst, .slice sa sl sc, .int .i64 nn, .int .u32 of] 50) = W0 at *
  have F0 : Fr B w W0 := Fr.of (unhide HB) hb0
  have hBW : B ≤ W0.heap.size := Nat.le_trans (unhide HB) hb0.size
  have hce : ∀ wx, Fr B W0 wx → w.heap.size < wx.heap.size ∧ wx.cell? ⟨w.heap.size, 0, none⟩ = some (.int .u8 (op : Int)) ∧ wx.cell? ⟨w.heap.size, 1, none⟩ = some (.int .i64 dst) ∧ wx.cell? ⟨w.heap.size, 2, none⟩ = some (.slice sa sl sc) ∧ wx.cell? ⟨w.heap.size, 3, none⟩ = some (.int .i64 nn) ∧ wx.cell? ⟨w.heap.size, 4, none⟩ = some (.int .u32 of) := by
    intro wx hf
    have q := hf.row (by decide) rB
    refine ⟨(Array.getElem?_eq_some_iff.1 q).1, ?_, ?_, ?_, ?_, ?_⟩ <;> (rw [cell_of_row wx _ _ _ _ _ q]; rfl)
  have hsz : ∀ wx, Fr B W0 wx → B ≤ wx.heap.size := fun wx hf => Nat.le_trans hBW hf.1.size
  have htb : ∀ wx, Fr B W0 wx → Tbs B wx := fun wx hf => ((unhide HT).fr F0.1).fr hf.1
  have hsr : ∀ wx, Fr B W0 wx → NumsL wx g src (.slice sa sl sc) := fun wx hf => ((unhide HS).fr F0.1 (unhide HG)).fr hf.1 (unhide HG)
  have hnr : ∀ wx, Fr B W0 wx → NumsL wx g next (.slice na nl nc) := fun wx hf => ((unhide HNx).fr F0.1 (unhide HG)).fr hf.1 (unhide HG)
  have HF0 := hide F0; have HCE := hide hce; have HSz := hide hsz; have HTb := hide htb; have HSr := hide hsr; have HNr := hide hnr
  have hbd0 := (unhide HBd).below hb0
  have HBd0 := hide hbd0; have HBW := hide hBW
  clear F0 hBW hce hsz htb hsr hnr rB hb0 hbd0 HBd HS HNx HT
  go_wp2_with (at_builtin; refine wp_app _ rfl (.tmp 11) (.const (.string ⟨#[32, 32]⟩)) rfl B _ xs [32, 32] rfl (unhide HBd0) rfl (by have := unhide E0; have := unhide E1; have := unhide E2; have := unhide E3; have := unhide E4; have := unhide E5; have := unhide E6; have := unhide E7; have := unhide HXl; simp; omega) (unhide HBW) ?_)
  intro a1 n1 c1 w1 hbd1 hfr1
  rw [unhide H1] at hbd1
  have HBd1 := hide hbd1; have HF1 := hide hfr1
  obtain ⟨z0, e0, e1, e2, e3, e4⟩ := unhide HCE _ hfr1
  clear hbd1 hfr1 HBd0
  go_wp2_with fail
  refine (unhide HGv _).mono ?_
  rintro e w2 ⟨rfl, hb2⟩
  have hfr2 : Fr B W0 w2 := (unhide HF1).on (Fr.of (unhide HSz _ (unhide HF1)) hb2)
  have HBd2 := hide ((unhide HBd1).below hb2); have HF2 := hide hfr2
  clear e0 e1 e2 e3 e4 z0 HBd1 HF1 hb2
  obtain ⟨z0, e0, e1, e2, e3, e4⟩ := unhide HCE _ hfr2
  clear hfr2
  go_upto_if 14 with fail
  go_cut [0] (fun v wx => Iv B W0 v L2 wx)
  case first =>
    cases hgd : (dst != -1) with
    | false =>
      have hL : L2 = L1 := by rw [← unhide H2]; simp [pGiv, hgd]
      have HL := hide hL; clear hL hgd
      go_wp2_with fail
      go_meet
      exact ⟨_, _, _, rfl, by rw [unhide HL]; exact unhide HBd2, unhide HF2⟩
    | true =>
      obtain ⟨d, hd⟩ : ∃ d, dec dst = d := ⟨_, rfl⟩
      obtain ⟨y1, hy1⟩ : ∃ y, [114] ++ d = y := ⟨_, rfl⟩
      obtain ⟨y2, hy2⟩ : ∃ y, y1 ++ [32, 61, 32] = y := ⟨_, rfl⟩
      have hg2 : pGiv dst = y2 := by rw [← hy2, ← hy1, ← hd]; simp [pGiv, hgd]
      have hdl := dec_len dst (unhide HX).dst
      rw [hd] at hdl
      have hyl : y1.length = d.length + 1 := by rw [← hy1, List.length_append, Nat.add_comm]; rfl
      have q1 := fun w => cat (A := ⟨#[114]⟩) (B := str d) (C := str y1) rfl rfl (by rw [hy1]) (by simp; omega) w
      have q2 := fun w => cat (A := str y1) (B := ⟨#[32, 61, 32]⟩) (C := str y2) rfl rfl (by rw [← hy2]) (by simp; omega) w
      have HL := hide (show L1 ++ y2 = L2 by rw [← hg2]; exact unhide H2)
      have EL := hide (show L1.length + y2.length = L2.length by rw [← unhide HL, List.length_append])
      clear hgd hy1 hy2 hg2 hdl hyl
      have hit := itoa_any dst (unhide HX).dst _ (unhide HTb _ (unhide HF2)).p
      rw [hd] at hit
      have HIt := hide hit; clear hit
      go_wp2_with fail
      refine (unhide HIt).mono ?_
      rintro e w3 ⟨rfl, hb3⟩
      have HF3 := hide (Fr.on (unhide HF2) (Fr.of (unhide HSz _ (unhide HF2)) hb3)); have HBd3 := hide (Bd.below (unhide HBd2) hb3)
      clear hb3 HIt
      clear hd
      obtain ⟨z0, e0, e1, e2, e3, e4⟩ := unhide HCE _ (unhide HF3)
      go_wp2_with (at_builtin; refine wp_app _ rfl (.tmp 15) (.tmp 20) rfl B _ L1 y2 rfl (unhide HBd3) rfl (by have := unhide E0; have := unhide E1; have := unhide E2; have := unhide E3; have := unhide E4; have := unhide E5; have := unhide E6; have := unhide E7; have := unhide EL; omega) (unhide HSz _ (unhide HF3)) ?_)
      intro a4 n4 c4 w4 hbd4 hfr4
      rw [unhide HL] at hbd4
      have HBd4 := hide hbd4; have HF4 := hide (Fr.on (unhide HF3) hfr4)
      clear hbd4 hfr4
      go_wp2_with fail
      go_meet
      exact ⟨_, _, _, rfl, unhide HBd4, unhide HF4⟩
  case rest =>
    obtain ⟨a5, n5, c5, rfl, hbd5, hfr5⟩ := hcut
    have HBd5 := hide hbd5; have HF5 := hide hfr5
    clear e0 e1 e2 e3 e4 z0 HBd2 HF2 hbd5
    obtain ⟨z0, e0, e1, e2, e3, e4⟩ := unhide HCE _ hfr5
    have hnm := nam_any op hop _ (unhide HTb _ hfr5).n
    obtain ⟨d, hd⟩ : ∃ d, nam op = d := ⟨_, rfl⟩
    rw [hd] at hnm
    have HL := hide (show L2 ++ d = L3 by rw [← hd]; exact unhide H3)
    have EL := hide (show L2.length + d.length = L3.length by rw [← unhide HL, List.length_append])
    have HNm := hide hnm
    clear hnm hd hfr5
    go_wp2_with fail
    refine (unhide HNm).mono ?_
    rintro e w6 ⟨rfl, rfl⟩
    go_wp2_with (at_builtin; refine wp_app _ rfl (.tmp 22) (.tmp 25) rfl B _ L2 d rfl (unhide HBd5) rfl (by have := unhide E0; have := unhide E1; have := unhide E2; have := unhide E3; have := unhide E4; have := unhide E5; have := unhide E6; have := unhide E7; have := unhide EL; omega) (unhide HSz _ (unhide HF5)) ?_)
    intro a6 n6 c6 w6 hbd6 hfr6
    rw [unhide HL] at hbd6
    have HBd6 := hide hbd6; have hF6 := Fr.on (unhide HF5) hfr6
    have HF6 := hide hF6
    clear e0 e1 e2 e3 e4 z0 hbd6 hfr6 HBd5 HF5 HNm HL EL
    obtain ⟨z0, e0, e1, e2, e3, e4⟩ := unhide HCE _ hF6
    clear hF6
    have hst := fun j z h => fm_take (fun r => [32, 114] ++ dec r) src j z h
    have hle := fun j => fm_le (fun r => [32, 114] ++ dec r) src j
    have HSt := hide hst; have HLe := hide hle; clear hst hle
    have hsl := (unhide HX).len; simp only at hsl; rw [unhide HSl] at hsl
    go_wp2_with fail
    go_loopw [0, 30] (fun v c wr => ∃ j : Nat, c = .int .i64 j ∧ (j : Int) ≤ sl ∧ Iv B W0 v (L3 ++ pSrc (src.take j)) wr) (fun _ c _ => sl - (intOf c).toNat)
    case atStart => exact ⟨0, rfl, by omega, _, _, _, rfl, by simpa [pSrc] using unhide HBd6, unhide HF6⟩
    case round =>
      obtain ⟨j, rfl, hj, a7, n7, c7, rfl, hbd7, hfr7⟩ := hrel
      have HBd7 := hide hbd7; have HF7 := hide hfr7
      clear e0 e1 e2 e3 e4 z0 hbd7
      obtain ⟨z0, e0, e1, e2, e3, e4⟩ := unhide HCE _ hfr7
      by_cases hlt : (j : Int) < sl
      · obtain ⟨z, hz⟩ : ∃ z, src[j]? = some z := ⟨_, List.getElem?_eq_getElem (by have := unhide HSl; omega)⟩
        have hmem : z ∈ src := List.mem_of_getElem? hz
        obtain ⟨_, _, esl, _, _, hsq⟩ := unhide HSr _ hfr7
        simp only [Value.slice.injEq] at esl
        obtain ⟨rfl, hq0, rfl⟩ := esl
        clear hq0
        obtain ⟨sb, so, rfl, _, hnum⟩ := hsq (by have := unhide HSl; omega)
        have cz : wr.cell? ⟨sb, so + j, none⟩ = some (.int .i64 z) := by
          have := hnum j (by have := unhide HSl; omega)
          rw [this]; simp [List.getD, hz]
        have hzi := (unhide HX).src z hmem
        obtain ⟨d, hd⟩ : ∃ d, dec z = d := ⟨_, rfl⟩
        obtain ⟨y, hy⟩ : ∃ y, [32, 114] ++ d = y := ⟨_, rfl⟩
        have hdl := dec_len z hzi
        rw [hd] at hdl
        have q1 := fun w => cat (A := ⟨#[32, 114]⟩) (B := str d) (C := str y) rfl rfl (by rw [hy]) (by simp; omega) w
        obtain ⟨P1, hP1⟩ : ∃ P, L3 ++ pSrc (src.take j) = P := ⟨_, rfl⟩
        have hP2 : L3 ++ pSrc (src.take (j + 1)) = P1 ++ y := by rw [← hP1]; unfold pSrc; rw [unhide HSt j z hz, hd, hy]; simp
        have hPl : P1.length + y.length ≤ L4.length := by
          have a1 := unhide HLe (j + 1); have a2 := unhide E3
          have a3 : (L3 ++ pSrc (src.take (j + 1))).length = P1.length + y.length := by rw [hP2, List.length_append]
          rw [List.length_append] at a3; unfold pSrc at a3 a2; omega
        rw [hP1] at HBd7
        have HP2 := hide hP2; have HPl := hide hPl
        clear hz hmem hsq hnum hdl hP1 hP2 hPl hj hy
        have hit := itoa_any z hzi _ (unhide HTb _ (unhide HF7)).p
        rw [hd] at hit
        have HIt := hide hit; clear hit
        go_wp2_with fail
        refine (unhide HIt).mono ?_
        rintro e w3 ⟨rfl, hb3⟩
        have HF3 := hide (Fr.on (unhide HF7) (Fr.of (unhide HSz _ (unhide HF7)) hb3)); have HBd3 := hide (Bd.below (unhide HBd7) hb3)
        clear hb3 HIt
        clear hd hzi hfr7
        go_wp2_with (at_builtin; refine wp_app _ rfl (.tmp 34) (.tmp 37) rfl B _ P1 y rfl (unhide HBd3) rfl (by have := unhide E0; have := unhide E1; have := unhide E2; have := unhide E3; have := unhide E4; have := unhide E5; have := unhide E6; have := unhide E7; have := unhide HPl; omega) (unhide HSz _ (unhide HF3)) ?_)
        intro a4 n4 c4 w4 hbd4 hfr4
        have HBd4 := hide hbd4; have HF4 := hide (Fr.on (unhide HF3) hfr4)
        clear hbd4 hfr4
        go_wp2
        go_roundw
        case rel => exact ⟨j + 1, by go_num, by omega, _, _, _, rfl, by rw [unhide HP2]; exact unhide HBd4, unhide HF4⟩
        case measure => simp [intOf]; omega
      · obtain rfl : j = sl := by omega
        have hbd8 : Bd wr B (.slice a7 n7 c7) L4 := by
          have := unhide HBd7
          rw [← unhide HSl, List.take_length] at this
          rw [← unhide H4]; exact this
        have HBd8 := hide hbd8
        clear hj hlt hbd8 HBd7 hfr7 HSt HLe
        have hnb := fun W => numd_any op hop W
        have HNb := hide hnb; clear hnb
        go_wp2_with fail
        refine (unhide HNb _).mono ?_
        rintro e w8 ⟨rfl, rfl⟩
        go_upto_if 42 with fail
        go_cut [0] (fun v wx => Iv B W0 v L5 wx)
        case first =>
          cases hq : numd op with
          | false =>
            have HL := hide (show L5 = L4 by rw [← unhide H5]; simp [pNum, hq])
            clear hq
            go_wp2_with fail
            go_meet
            exact ⟨_, _, _, rfl, by rw [unhide HL]; exact unhide HBd8, unhide HF7⟩
          | true =>
            obtain ⟨d, hd⟩ : ∃ d, dec nn = d := ⟨_, rfl⟩
            obtain ⟨y, hy⟩ : ∃ y, [32] ++ d = y := ⟨_, rfl⟩
            have hp : pNum op nn = y := by rw [← hy, ← hd]; simp [pNum, hq]
            have hdl := dec_len nn (unhide HX).n
            rw [hd] at hdl
            have q1 := fun w => cat (A := ⟨#[32]⟩) (B := str d) (C := str y) rfl rfl (by rw [hy]) (by simp; omega) w
            have HL := hide (show L4 ++ y = L5 by rw [← hp]; exact unhide H5)
            have EL := hide (show L4.length + y.length = L5.length by rw [← unhide HL, List.length_append])
            clear hq hy hp hdl
            have hit := fint_any nn (unhide HX).n _ (unhide HTb _ (unhide HF7)).p
            rw [hd] at hit
            have HIt := hide hit; clear hit
            go_wp2_with fail
            refine (unhide HIt).mono ?_
            rintro e w3 ⟨rfl, hb3⟩
            have HF3 := hide (Fr.on (unhide HF7) (Fr.of (unhide HSz _ (unhide HF7)) hb3)); have HBd3 := hide (Bd.below (unhide HBd8) hb3)
            clear hb3 HIt
            clear hd
            go_wp2_with (at_builtin; refine wp_app _ rfl (.tmp 43) (.tmp 47) rfl B _ L4 y rfl (unhide HBd3) rfl (by have := unhide E0; have := unhide E1; have := unhide E2; have := unhide E3; have := unhide E4; have := unhide E5; have := unhide E6; have := unhide E7; have := unhide EL; omega) (unhide HSz _ (unhide HF3)) ?_)
            intro a4 n4 c4 w4 hbd4 hfr4
            rw [unhide HL] at hbd4
            have HBd4 := hide hbd4; have HF4 := hide (Fr.on (unhide HF3) hfr4)
            clear hbd4 hfr4
            go_wp2_with fail
            go_meet
            exact ⟨_, _, _, rfl, unhide HBd4, unhide HF4⟩
        case rest =>
          obtain ⟨a9, n9, c9, rfl, hbd9, hfr9⟩ := hcut
          have HBd9 := hide hbd9; have HF9 := hide hfr9
          clear e0 e1 e2 e3 e4 z0 HBd8 HF7 hbd9 HNb
          obtain ⟨z0, e0, e1, e2, e3, e4⟩ := unhide HCE _ hfr9
          have HAc := hide (acc_any op hop _ (unhide HTb _ hfr9).f)
          clear hfr9
          go_wp2_with fail
          refine (unhide HAc).mono ?_
          rintro e w10 ⟨rfl, hb10⟩
          have hF10 := Fr.on (unhide HF9) (Fr.of (unhide HSz _ (unhide HF9)) hb10)
          have HF10 := hide hF10; have HBd10 := hide ((unhide HBd9).below hb10)
          clear e0 e1 e2 e3 e4 z0 HBd9 HF9 hb10 HAc
          obtain ⟨z0, e0, e1, e2, e3, e4⟩ := unhide HCE _ hF10
          clear hF10
          go_upto_if 51 with fail
          go_cut [0] (fun v wx => Iv B W0 v L6 wx)
          case first =>
            cases hq : acc op with
            | false =>
              have HL := hide (show L6 = L5 by rw [← unhide H6]; simp [pOf, hq])
              clear hq
              go_wp2_with fail
              go_meet
              exact ⟨_, _, _, rfl, by rw [unhide HL]; exact unhide HBd10, unhide HF10⟩
            | true =>
              obtain ⟨on, rfl⟩ : ∃ k : Nat, of = k := ⟨of.toNat, by have := (unhide HX).of0; simp only at this; omega⟩
              have hon : on < 4294967296 := by have := (unhide HX).of1; simp only at this; omega
              obtain ⟨d, hd⟩ : ∃ d, dec (on : Int) = d := ⟨_, rfl⟩
              obtain ⟨y, hy⟩ : ∃ y, [32, 43] ++ d = y := ⟨_, rfl⟩
              have hp : pOf op on = y := by rw [← hy, ← hd]; simp [pOf, hq]
              have hdl := dec_len (on : Int) ⟨by omega, by omega⟩
              rw [hd] at hdl
              have q1 := fun w => cat (A := ⟨#[32, 43]⟩) (B := str d) (C := str y) rfl rfl (by rw [hy]) (by simp; omega) w
              have HL := hide (show L5 ++ y = L6 by rw [← hp]; exact unhide H6)
              have EL := hide (show L5.length + y.length = L6.length by rw [← unhide HL, List.length_append])
              clear hq hy hp hdl
              have hit := fuint_any on hon _ (unhide HTb _ (unhide HF10)).p
              rw [hd] at hit
              have HIt := hide hit; clear hit
              go_wp2_with fail
              refine (unhide HIt).mono ?_
              rintro e w3 ⟨rfl, hb3⟩
              have HF3 := hide (Fr.on (unhide HF10) (Fr.of (unhide HSz _ (unhide HF10)) hb3)); have HBd3 := hide (Bd.below (unhide HBd10) hb3)
              clear hb3 HIt
              clear hd
              go_wp2_with (at_builtin; refine wp_app _ rfl (.tmp 52) (.tmp 57) rfl B _ L5 y rfl (unhide HBd3) rfl (by have := unhide E0; have := unhide E1; have := unhide E2; have := unhide E3; have := unhide E4; have := unhide E5; have := unhide E6; have := unhide E7; have := unhide EL; omega) (unhide HSz _ (unhide HF3)) ?_)
              intro a4 n4 c4 w4 hbd4 hfr4
              rw [unhide HL] at hbd4
              have HBd4 := hide hbd4; have HF4 := hide (Fr.on (unhide HF3) hfr4)
              clear hbd4 hfr4
              go_wp2_with fail
              go_meet
              exact ⟨_, _, _, rfl, unhide HBd4, unhide HF4⟩
          case rest =>
            obtain ⟨a11, n11, c11, rfl, hbd11, hfr11⟩ := hcut
            have HBd11 := hide hbd11; have HF11 := hide hfr11
            clear e0 e1 e2 e3 e4 z0 HBd10 HF10 hbd11
            obtain ⟨z0, e0, e1, e2, e3, e4⟩ := unhide HCE _ hfr11
            clear hfr11
            have HEn := hide (fun W => vends_any op hop W)
            have H7p := hide (show 0 < L7.length by have := unhide E0; have := unhide E1; have := unhide E2; have := unhide E3; have := unhide E4; have := unhide E5; have := unhide E6; have := unhide E7; omega)
            cases hen : ends op with
            | false =>
              rw [hen] at HEn
              have HL := hide (show L7 = L6 by rw [← unhide H7]; simp [pNext, hen])
              have HBd12 := hide (show Bd wc B (.slice a11 n11 c11) L7 by rw [unhide HL]; exact unhide HBd11)
              clear hen HBd11 HL
              go_wp2_with fail
              refine (unhide HEn _).mono ?_
              rintro e w12 ⟨rfl, rfl⟩
              have HBe := hide (Bd.below (unhide HBd12) (one_alloc _ (.cells #[.int .u8 10] 5)))
              have HFe := hide (Fr.on (unhide HF11) (Fr.of (unhide HSz _ (unhide HF11)) (one_alloc _ (.cells #[.int .u8 10] 5))))
              go_wp2_with (at_builtin; refine wp_appb _ rfl (.tmp 81) (.tmp 82) rfl B _ L7 [10] (unhide H7p) rfl (unhide HBe) _ 1 1 rfl rfl (cell_one_new _ _ _) (by have := unhide E0; have := unhide E1; have := unhide E2; have := unhide E3; have := unhide E4; have := unhide E5; have := unhide E6; have := unhide E7; simp; omega) (unhide HSz _ (unhide HFe)) ?_)
              intro a20 n20 c20 w20 hbd20 hfr20
              rw [unhide H8] at hbd20
              have HBd20 := hide hbd20; have HF20 := hide (Fr.on (unhide HF0) (Fr.on (unhide HFe) hfr20))
              clear hbd20 hfr20
              go_wp2
              go_ret
              exact ⟨_, rfl, _, _, _, rfl, unhide HBd20, unhide HF20⟩
            | true =>
              rw [hen] at HEn
              by_cases hn0 : nl = 0
              · subst hn0
                have hnil : next = [] := List.eq_nil_of_length_eq_zero (unhide HNl)
                have HL := hide (show L7 = L6 by rw [← unhide H7, hnil]; simp [pNext])
                have HBd12 := hide (show Bd wc B (.slice a11 n11 c11) L7 by rw [unhide HL]; exact unhide HBd11)
                clear hen HBd11 HL hnil
                go_wp2_with fail
                refine (unhide HEn _).mono ?_
                rintro e w12 ⟨rfl, rfl⟩
                have HBe := hide (Bd.below (unhide HBd12) (one_alloc _ (.cells #[.int .u8 10] 5)))
                have HFe := hide (Fr.on (unhide HF11) (Fr.of (unhide HSz _ (unhide HF11)) (one_alloc _ (.cells #[.int .u8 10] 5))))
                go_wp2_with (at_builtin; refine wp_appb _ rfl (.tmp 81) (.tmp 82) rfl B _ L7 [10] (unhide H7p) rfl (unhide HBe) _ 1 1 rfl rfl (cell_one_new _ _ _) (by have := unhide E0; have := unhide E1; have := unhide E2; have := unhide E3; have := unhide E4; have := unhide E5; have := unhide E6; have := unhide E7; simp; omega) (unhide HSz _ (unhide HFe)) ?_)
                intro a20 n20 c20 w20 hbd20 hfr20
                rw [unhide H8] at hbd20
                have HBd20 := hide hbd20; have HF20 := hide (Fr.on (unhide HF0) (Fr.on (unhide HFe) hfr20))
                clear hbd20 hfr20
                go_wp2
                go_ret
                exact ⟨_, rfl, _, _, _, rfl, unhide HBd20, unhide HF20⟩
              · have tn : decide ((nl : Int) > 0) = true := by simp; omega
                have tn2 : decide ((0 : Int) < nl) = true := by simp; omega
                have tn3 : (0 : Int) < nl := by omega
                have hp : pNext op next = [32, 45, 62] ++ pTo next := by unfold pNext; rw [hen, unhide HNl]; simp; omega
                obtain ⟨M1, hM1⟩ : ∃ M, L6 ++ [32, 45, 62] = M := ⟨_, rfl⟩
                have HM2 := hide (show M1 ++ pTo next = L7 by rw [← hM1, List.append_assoc, ← hp]; exact unhide H7)
                have HMl := hide (show L6.length + 3 = M1.length by rw [← hM1, List.length_append]; rfl)
                have HMm := hide (show M1.length + (pTo next).length = L7.length by rw [← unhide HM2, List.length_append])
                have HM1 := hide hM1
                clear hen hp hM1 hn0
                go_wp2_with fail
                refine (unhide HEn _).mono ?_
                rintro e w12 ⟨rfl, rfl⟩
                go_wp2_with (at_builtin; refine wp_app _ rfl (.tmp 67) (.const (.string ⟨#[32, 45, 62]⟩)) rfl B _ L6 [32, 45, 62] rfl (unhide HBd11) rfl (by have := unhide E0; have := unhide E1; have := unhide E2; have := unhide E3; have := unhide E4; have := unhide E5; have := unhide E6; have := unhide E7; have := unhide HMl; have := unhide HMm; simp; omega) (unhide HSz _ (unhide HF11)) ?_)
                intro a13 n13 c13 w13 hbd13 hfr13
                rw [unhide HM1] at hbd13
                have HBd13 := hide hbd13; have HF13 := hide (Fr.on (unhide HF11) hfr13)
                clear e0 e1 e2 e3 e4 z0 HBd11 HF11 hbd13 hfr13
                have hst := fun j z h => fm_take (fun r => [32] ++ dec r) next j z h
                have hle := fun j => fm_le (fun r => [32] ++ dec r) next j
                have HSt := hide hst; have HLe := hide hle; clear hst hle
                have hnle := unhide HNle
                go_wp2_with fail
                go_loopw [0, 71] (fun v c wr => ∃ j : Nat, c = .int .i64 j ∧ (j : Int) ≤ nl ∧ Iv B W0 v (M1 ++ pTo (next.take j)) wr) (fun _ c _ => nl - (intOf c).toNat)
                case atStart => exact ⟨0, rfl, by omega, _, _, _, rfl, by simpa [pTo] using unhide HBd13, unhide HF13⟩
                case round =>
                  obtain ⟨j, rfl, hj, a14, n14, c14, rfl, hbd14, hfr14⟩ := hrel
                  have HBd14 := hide hbd14; have HF14 := hide hfr14
                  clear hbd14
                  by_cases hlt : (j : Int) < nl
                  · obtain ⟨z, hz⟩ : ∃ z, next[j]? = some z := ⟨_, List.getElem?_eq_getElem (by have := unhide HNl; omega)⟩
                    have hmem : z ∈ next := List.mem_of_getElem? hz
                    obtain ⟨_, _, esl, _, _, hsq⟩ := unhide HNr _ hfr14
                    simp only [Value.slice.injEq] at esl
                    obtain ⟨rfl, hq0, rfl⟩ := esl
                    clear hq0
                    obtain ⟨sb, so, rfl, _, hnum⟩ := hsq (by have := unhide HNl; omega)
                    have cz : wr.cell? ⟨sb, so + j, none⟩ = some (.int .i64 z) := by
                      have := hnum j (by have := unhide HNl; omega)
                      rw [this]; simp [List.getD, hz]
                    have hzi := unhide HN z hmem
                    obtain ⟨d, hd⟩ : ∃ d, dec z = d := ⟨_, rfl⟩
                    obtain ⟨y, hy⟩ : ∃ y, [32] ++ d = y := ⟨_, rfl⟩
                    have hdl := dec_len z hzi
                    rw [hd] at hdl
                    have q1 := fun w => cat (A := ⟨#[32]⟩) (B := str d) (C := str y) rfl rfl (by rw [hy]) (by simp; omega) w
                    obtain ⟨P1, hP1⟩ : ∃ P, M1 ++ pTo (next.take j) = P := ⟨_, rfl⟩
                    have hP2 : M1 ++ pTo (next.take (j + 1)) = P1 ++ y := by rw [← hP1]; unfold pTo; rw [unhide HSt j z hz, hd, hy]; simp
                    have hPl : P1.length + y.length ≤ L7.length := by
                      have a1 := unhide HLe (j + 1); have a2 := unhide HMm
                      have a3 : (M1 ++ pTo (next.take (j + 1))).length = P1.length + y.length := by rw [hP2, List.length_append]
                      rw [List.length_append] at a3; unfold pTo at a3 a2; omega
                    rw [hP1] at HBd14
                    have HP2 := hide hP2; have HPl := hide hPl
                    clear hz hmem hsq hnum hdl hP1 hP2 hPl hj hy
                    have hit := itoa_any z hzi _ (unhide HTb _ (unhide HF14)).p
                    rw [hd] at hit
                    have HIt := hide hit; clear hit
                    go_wp2_with fail
                    refine (unhide HIt).mono ?_
                    rintro e w3 ⟨rfl, hb3⟩
                    have HF3 := hide (Fr.on (unhide HF14) (Fr.of (unhide HSz _ (unhide HF14)) hb3)); have HBd3 := hide (Bd.below (unhide HBd14) hb3)
                    clear hb3 HIt
                    clear hd hzi hfr14
                    go_wp2_with (at_builtin; refine wp_app _ rfl (.tmp 75) (.tmp 78) rfl B _ P1 y rfl (unhide HBd3) rfl (by have := unhide E0; have := unhide E1; have := unhide E2; have := unhide E3; have := unhide E4; have := unhide E5; have := unhide E6; have := unhide E7; have := unhide HPl; omega) (unhide HSz _ (unhide HF3)) ?_)
                    intro a4 n4 c4 w4 hbd4 hfr4
                    have HBd4 := hide hbd4; have HF4 := hide (Fr.on (unhide HF3) hfr4)
                    clear hbd4 hfr4
                    go_wp2
                    go_roundw
                    case rel => exact ⟨j + 1, by go_num, by omega, _, _, _, rfl, by rw [unhide HP2]; exact unhide HBd4, unhide HF4⟩
                    case measure => simp [intOf]; omega
                  · obtain rfl : j = nl := by omega
                    have hbd15 : Bd wr B (.slice a14 n14 c14) L7 := by
                      have := unhide HBd14
                      rw [← unhide HNl, List.take_length] at this
                      rw [← unhide HM2]; exact this
                    have HBd15 := hide hbd15
                    clear hj hlt hbd15 HBd14 hfr14 HSt HLe
                    have HBe := hide (Bd.below (unhide HBd15) (one_alloc _ (.cells #[.int .u8 10] 5)))
                    have HFe := hide (Fr.on (unhide HF14) (Fr.of (unhide HSz _ (unhide HF14)) (one_alloc _ (.cells #[.int .u8 10] 5))))
                    go_wp2_with (at_builtin; refine wp_appb _ rfl (.tmp 81) (.tmp 82) rfl B _ L7 [10] (unhide H7p) rfl (unhide HBe) _ 1 1 rfl rfl (cell_one_new _ _ _) (by have := unhide E0; have := unhide E1; have := unhide E2; have := unhide E3; have := unhide E4; have := unhide E5; have := unhide E6; have := unhide E7; simp; omega) (unhide HSz _ (unhide HFe)) ?_)
                    intro a20 n20 c20 w20 hbd20 hfr20
                    rw [unhide H8] at hbd20
                    have HBd20 := hide hbd20; have HF20 := hide (Fr.on (unhide HF0) (Fr.on (unhide HFe) hfr20))
                    clear hbd20 hfr20
                    go_wp2
                    go_ret
                    exact ⟨_, rfl, _, _, _, rfl, unhide HBd20, unhide HF20⟩
end Vc
end Go.Proofs.YtgelkfmdkmopbaaDoor
