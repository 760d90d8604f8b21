/- flow: the walk. -/
import Derived.Test.YtpecnljcgiicaaaDoorFwA
import Derived.Deep.Cut
namespace Go.Proofs.YtpecnljcgiicaaaDoor
open Go.RowKit
namespace Fw
set_option linter.unusedVariables false
set_option linter.unusedSimpArgs false
open Vc (NumsL Nums Lies LL Bls BlC InC Bl In Co infoN own_base)

def nxs (l : List Bl) : List (List Nat) := l.map fun b => b.next.map Int.toNat
/-- so much code may be gone over -/
structure Nok (l : List Bl) : Prop where
  len : l.length ≤ 1048576
  nlen : ∀ b ∈ l, b.next.length ≤ 1048576
  rng : ∀ b ∈ l, ∀ z ∈ b.next, 0 ≤ z ∧ z < (l.length : Int)
theorem nxs_len (l : List Bl) : (nxs l).length = l.length := by simp [nxs]
theorem nxs_at {l : List Bl} {b : Nat} {x : Bl} (h : l[b]? = some x) : (nxs l).getD b [] = x.next.map Int.toNat := by
  rw [List.getD_eq_getElem?_getD, nxs, List.getElem?_map, h]; rfl
theorem Nok.inn {l : List Bl} (h : Nok l) : In (nxs l) := by
  intro b x hx
  rw [nxs_len]
  by_cases hb : b < l.length
  · have e := List.getElem?_eq_getElem hb
    rw [nxs_at e] at hx
    obtain ⟨z, hz, rfl⟩ := List.mem_map.1 hx
    have := h.rng _ (List.getElem_mem hb) z hz; omega
  · rw [getD_out _ _ _ (by rw [nxs_len]; omega)] at hx; cases hx
theorem Nok.at_ {l : List Bl} (h : Nok l) {b : Nat} {x : Bl} (hx : l[b]? = some x) {k : Nat} (hk : k < x.next.length) : ∃ n : Nat, x.next.getD k 0 = (n : Int) ∧ n < l.length ∧ (x.next.map Int.toNat)[k]? = some n := by
  have hm := List.mem_of_getElem? hx
  have hz := getD_mem x.next k 0 hk
  have := h.rng x hm _ hz
  refine ⟨(x.next.getD k 0).toNat, by omega, by omega, ?_⟩
  rw [List.getElem?_map, get?_getD x.next k 0 hk]; rfl
theorem fold_take {α β : Type} (f : α → β → α) (l : List β) (k : Nat) (a : α) {y : β} (h : l[k]? = some y) : (l.take (k + 1)).foldl f a = f ((l.take k).foldl f a) y := by
  have hk := (List.getElem?_eq_some_iff.1 h).1
  rw [List.take_succ_eq_append_getElem hk, List.foldl_append, (List.getElem?_eq_some_iff.1 h).2]; rfl
/-- a block of code where it lies: its Next -/
theorem blk_next {w : World} {g : Nat → Prop} {l : List Bl} {b : Nat} {x : Bl} {a : Option Addr} {n cp : Nat} (h : Bls w g l (.slice a n cp)) (hx : l[b]? = some x) : ∃ B o vi vn, a = some ⟨B, o, none⟩ ∧ g B ∧ B < w.heap.size ∧ n = l.length ∧
    w.cell? ⟨B, o + b * 3, none⟩ = some vi ∧ w.cell? ⟨B, o + b * 3 + 1, none⟩ = some vn ∧ w.cell? ⟨B, o + b * 3 + 2, none⟩ = some (.int .i64 x.dep) ∧ LL InC 5 w g x.ins vi ∧ NumsL w g x.next vn := by
  obtain ⟨a', cap, e, h2, h3, h4⟩ := h
  have hb := (List.getElem?_eq_some_iff.1 hx).1
  obtain ⟨B, o, rfl, hg, hlt, hp⟩ := h4 (by omega)
  obtain ⟨cs, hc, ⟨vi, vn, rfl, hi, hn⟩, hce⟩ := hp b x hx
  cases e
  exact ⟨B, o, vi, vn, rfl, hg, hlt, rfl, hce 0 vi rfl, hce 1 vn rfl, hce 2 _ rfl, hi, hn⟩

theorem bls_on {w w' : World} {N : Nat} {l : List Bl} {v : Value} (h : Bls w (fun k => k < N) l v) (hb : Below N w w') : Bls w' (fun k => k < N) l v := h.moved (fun k _ hg => ⟨hg, hb.block k hg⟩) hb.size
theorem nums_on {w w' : World} {N : Nat} {l : List Int} {v : Value} (h : NumsL w (fun k => k < N) l v) (hb : Below N w w') : NumsL w' (fun k => k < N) l v := h.moved (fun k _ hg => ⟨hg, hb.block k hg⟩)
theorem nums_at {w : World} {g : Nat → Prop} {l : List Int} {a : Option Addr} {n cp k : Nat} (h : NumsL w g l (.slice a n cp)) (hk : k < l.length) : ∃ B o, a = some ⟨B, o, none⟩ ∧ g B ∧ ∀ i, i < l.length → w.cell? ⟨B, o + i, none⟩ = some (.int .i64 (l.getD i 0)) := by
  obtain ⟨a', cap, e, h2, h3, h4⟩ := h
  obtain ⟨B, o, rfl, hg, hp⟩ := h4 (by omega)
  cases e
  exact ⟨B, o, rfl, hg, hp⟩

/-- behind so many ways out of a block -/
def qs (nx : List (List Nat)) (l : List Int) (f : Nat) (t : Int) (s : St) (k : Nat) : St := ((l.map Int.toNat).take k).foldl (way nx f t) s
theorem qs_0 (nx : List (List Nat)) (l : List Int) (f : Nat) (t : Int) (s : St) : qs nx l f t s 0 = s := rfl
theorem qs_yes (nx : List (List Nat)) (l : List Int) (f : Nat) (t : Int) (s : St) {k n : Nat} (h : (l.map Int.toNat)[k]? = some n) (ht : (qs nx l f t s k).tn.getD n 0 = -1) : qs nx l f t s (k + 1) = go nx f n t (qs nx l f t s k) := by
  unfold qs at *; rw [fold_take _ _ _ _ h]; exact if_pos ht
theorem qs_no (nx : List (List Nat)) (l : List Int) (f : Nat) (t : Int) (s : St) {k n : Nat} (h : (l.map Int.toNat)[k]? = some n) (ht : ¬ (qs nx l f t s k).tn.getD n 0 = -1) : qs nx l f t s (k + 1) = qs nx l f t s k := by
  unfold qs at *; rw [fold_take _ _ _ _ h]; exact if_neg ht
theorem qs_all (nx : List (List Nat)) (l : List Int) (f : Nat) (t : Int) (s : St) : qs nx l f t s l.length = (l.map Int.toNat).foldl (way nx f t) s := by
  unfold qs; rw [List.take_of_length_le (by simp)]
theorem qs_inv {l : List Bl} (hl : Nok l) {x : Bl} {b : Nat} (hx : l[b]? = some x) {f : Nat} {t : Int} (h0 : -1 ≤ t) {s : St} (hI : Inv l.length s) (ht : t < (s.ent.length : Int)) (k : Nat) : Inv l.length (qs (nxs l) x.next f t s k) ∧ On s (qs (nxs l) x.next f t s k) := by
  have := way_inv (nxs l) hl.inn f t h0 ((x.next.map Int.toNat).take k) (fun y hy => by rw [← nxs_at hx] at hy; exact hl.inn b y (List.mem_of_mem_take hy)) s (by rw [nxs_len]; exact hI) ht
  rw [nxs_len] at this; exact this
def WbE (w : World) (N B : Nat) (vb : Value) (s : St) (vt : Value) : Prop := ∃ ve vf vl, Wb w N B vb s ve vf vt vl

set_option maxRecDepth 100000 in
set_option maxHeartbeats 3200000 in
theorem enter_any (l : List Bl) (hl : Nok l) (N : Nat) (vb : Value) : ∀ (f b : Nat) (p : Int) (s : St), Inv l.length s → s.tn.count (-1) ≤ f → b < l.length → s.tn.getD b 0 = -1 → -1 ≤ p → p < (s.ent.length : Int) →
    ∀ (B : Nat) (ve vf vt vl : Value) (w : World), Wb w N B vb s ve vf vt vl → Bls w (fun k => k < N) l vb →
    Calls Tryd.prog 31 #[.pointer (some ⟨B, 0, none⟩), .int .i64 (b : Int), .int .i64 p] w fun e w' => e = .returned (.tuple #[]) ∧ (∃ ve' vf' vl', Wb w' N B vb (go (nxs l) f b p s) ve' vf' vt vl') ∧ Below N w w' := by
  intro f
  induction f with
  | zero =>
    intro b p s hI hc hb ht
    exact absurd (List.count_pos_iff.2 (ht ▸ getD_mem s.tn b 0 (by rw [hI.tl]; exact hb))) (by omega)
  | succ f ih =>
    intro b p s hI hc hb ht hp0 hp1 B ve vf vt vl w hW hB
    obtain ⟨va, vc, rfl, -, -, -⟩ := id hB
    have hbt : b < s.tn.length := by rw [hI.tl]; exact hb
    obtain ⟨i0, hi, hz0, hz1, hz2⟩ := info_parts infoN
    obtain ⟨gt, tcap, rfl, hgN, hglt, htc, htf, _⟩ := hW.rt.at_ (by omega)
    obtain ⟨ea, ec, rfl, hec⟩ := hW.re.sl
    obtain ⟨c0, c1, c2, c3, c4, cf, cl⟩ := wb_cells hW.bx
    rw [nz_len] at c1
    have htn : (s.tn.length : Int) = (l.length : Int) := by rw [hI.tl]
    have hbi : (b : Int) < (s.tn.length : Int) := by omega
    have hcb := htc b hbt
    have hfb := htf b
    have hmk := hI.mark hb ht hp0 hp1
    have hcm : (mark s b p).tn.count (-1) ≤ f := by
      have := count_set hbt ht (x := (s.ent.length : Int)) (by omega)
      simp only [mark]; omega
    have hen : s.ent.length ≤ 1048576 := by have := hI.ec; have := hl.len; omega
    obtain ⟨t, hte⟩ : ∃ t, t = s.ent.length := ⟨_, rfl⟩
    obtain ⟨hW1, hb1⟩ := hW.turn hbt (t : Int)
    have HI := hide hI; have HC := hide hcm; have HM := hide hmk; have HL := hide hl; have HB := hide hB; have HW1 := hide hW1; have HB1 := hide hb1; have HP0 := hide hp0; have HP1 := hide hp1; have HT := hide ht; have HW := hide hW
    have HEn := hide hen
    have HTe := hide hte
    rw [← hte] at c1
    have hN1 : w.heap.size ≤ (w.setCell ⟨gt, b, none⟩ (.int .i64 (t : Int))).heap.size := by simp
    have HN1 := hide hN1
    clear hI hc hcm hmk hl hB hW1 hb1 hp0 hp1 ht hW htc htf hen hte htn hN1
    go_enter Tryd.func31, Tryd.ntmps31
    go_upto_region 2 with fail
    generalize w.setCell ⟨gt, b, none⟩ (.int .i64 (t : Int)) = w1 at *
    clear c0 c1 c2 c3 c4 cf cl hcb hfb
    obtain ⟨c0, c1, c2, c3, c4, cf, cl⟩ := wb_cells (unhide HW1).bx
    rw [nz_len, ← unhide HTe] at c1
    have hA := (unhide HW1).below (Vc.one_alloc w1 (.cells #[.int .i64 (b : Int)] 3))
    have hS : N ≤ w1.heap.size := by have := (unhide HW1).lt; have := (unhide HW1).nb; omega
    have hLn : (nz s.ent).length = t := by rw [nz_len, unhide HTe]
    have hAR : (w1.alloc (.cells #[.int .i64 (b : Int)] 3)).ownsRow N 3 1 (.slice ea t ec) t (iv (nz s.ent)) := by have := hA.re; unfold Ro at this; rw [hLn] at this; exact this
    have HA2 := hide hA; have HS2 := hide hS; have HLn2 := hide hLn; have HAR2 := hide hAR
    clear hA hS hLn hAR c0 c2 c3 c4
    go_wp2_with (at_builtin; refine wpList_append_own_at _ rfl (.tmp 25) (.tmp 27) 26 rfl N 3 i0 (.int .i64 0) 1 8 Tryd.underlying26 hi hz0 hz1 hz2 rfl (by decide) (.slice ea t ec) t (iv (nz s.ent)) rfl (unhide HAR2) ⟨w1.heap.size, 0, none⟩ 1 1 [.int .i64 (b : Int)] rfl rfl (cell_one_new _ _ _) (one_ones _) ?d32 ?d42 ?d52 ?_)
    case d32 => have := unhide HEn; have := unhide HTe; unfold maxLen; omega
    case d42 => have := unhide HEn; have := unhide HTe; omega
    case d52 => have := (unhide HA2).lt; have := (unhide HA2).nb; omega
    intro v2 w2 hown hgrow _ hat
    obtain ⟨a2, cp2, rfl⟩ := own_slice hown
    obtain ⟨g1, g2, g3⟩ := (unhide HA2).pushE (by rw [unhide HLn2]; exact hown) (by rw [unhide HLn2]; exact hgrow) (by rw [unhide HLn2]; exact hat_of hat (by simp))
    obtain ⟨c0, c1, c2, c3, c4, cf, cl⟩ := wb_cells g1
    have HG2 := hide g2; have HB2 := hide ((Below.mono (Vc.one_alloc w1 (.cells #[.int .i64 (b : Int)] 3)) (unhide HS2)).trans g3)
    clear g1 g2 g3 hown hgrow hat c0 c2 c3 c4 HA2 HAR2
    go_upto_region 3 with fail
    generalize w2.setCell ⟨B, 1, none⟩ (.slice a2 (t + 1) cp2) = w3 at *
    clear c1 cf cl
    obtain ⟨c0, c1, c2, c3, c4, cf, cl⟩ := wb_cells (unhide HG2).bx
    obtain ⟨fa, fc, rfl, hfc⟩ := (unhide HG2).rf.sl
    have hLn : s.fr.length = t := by have := (unhide HI).fl; rw [this, unhide HTe]
    have hA := (unhide HG2).below (Vc.one_alloc w3 (.cells #[.int .i64 p] 3))
    have hS : N ≤ w3.heap.size := by have := (unhide HG2).lt; have := (unhide HG2).nb; omega
    have hAR : (w3.alloc (.cells #[.int .i64 p] 3)).ownsRow N 3 1 (.slice fa t fc) t (iv s.fr) := by have := hA.rf; unfold Ro at this; simp only at this; rw [hLn] at this; exact this
    simp only [hLn] at c2
    have HA3 := hide hA; have HS3 := hide hS; have HLn3 := hide hLn; have HAR3 := hide hAR
    clear hA hS hLn hAR c0 c1 c3 c4 hfc
    go_wp2_with (at_builtin; refine wpList_append_own_at _ rfl (.tmp 35) (.tmp 37) 26 rfl N 3 i0 (.int .i64 0) 1 8 Tryd.underlying26 hi hz0 hz1 hz2 rfl (by decide) (.slice fa t fc) t (iv (s.fr)) rfl (unhide HAR3) ⟨w3.heap.size, 0, none⟩ 1 1 [.int .i64 p] rfl rfl (cell_one_new _ _ _) (one_ones _) ?d33 ?d43 ?d53 ?_)
    case d33 => have := unhide HEn; have := unhide HTe; unfold maxLen; omega
    case d43 => have := unhide HEn; have := unhide HTe; omega
    case d53 => have := (unhide HA3).lt; have := (unhide HA3).nb; omega
    intro v2 w2 hown hgrow _ hat
    obtain ⟨a3, cp3, rfl⟩ := own_slice hown
    obtain ⟨g1, g2, g3⟩ := (unhide HA3).pushF (by rw [unhide HLn3]; exact hown) (by rw [unhide HLn3]; exact hgrow) (by rw [unhide HLn3]; exact hat_of hat (by simp))
    obtain ⟨c0, c1, c2, c3, c4, cf, cl⟩ := wb_cells g1
    have HG3 := hide g2; have HB3 := hide ((Below.mono (Vc.one_alloc w3 (.cells #[.int .i64 p] 3)) (unhide HS3)).trans g3)
    clear g1 g2 g3 hown hgrow hat c0 c1 c3 c4 HA3 HAR3
    go_upto_region 4 with fail
    generalize w2.setCell ⟨B, 2, none⟩ (.slice a3 (t + 1) cp3) = w4 at *
    clear c2 cf cl
    obtain ⟨x, hx⟩ : ∃ x, l[b]? = some x := ⟨_, List.getElem?_eq_getElem hb⟩
    have hbe : Below N w w4 := (unhide HB1).trans ((unhide HB2).trans (unhide HB3))
    have hB4 := bls_on (unhide HB) hbe
    have hWm : Wb w4 N B (.slice va l.length vc) (mark s b p) (.slice a2 (t + 1) cp2) (.slice a3 (t + 1) cp3) (.slice (some ⟨gt, 0, none⟩) s.tn.length tcap) vl := by
      have := unhide HG3; unfold mark; rw [← unhide HTe]; exact this
    obtain ⟨c0, c1, c2, c3, c4, cf, cl⟩ := wb_cells hWm.bx
    obtain ⟨Bb, ob, vi, vn, rfl, hBN, hBl, -, d0, d1, d2, -, hnn⟩ := blk_next hB4 hx
    obtain ⟨na, nc, rfl, hnc, hn0, -⟩ := id hnn
    have hnl : x.next.length ≤ 1048576 := (unhide HL).nlen x (List.mem_of_getElem? hx)
    obtain ⟨m, hm⟩ : ∃ m, m = x.next.length := ⟨_, rfl⟩
    have HBe := hide hbe; have HB4 := hide hB4; have HWm := hide hWm; have HX := hide hx; have HNn := hide hnn; have HNl := hide hnl; have HMl := hide hm
    have hbl : (b : Int) < (l.length : Int) := by omega
    rw [← hm] at d1 hnl
    have hmi : (m : Int) ≤ 1048576 := by omega
    clear hbe hB4 hWm c1 c2 c3 c4 cf cl d0 d2 hx hnn hn0 hnc hm HG3 HB1 HB2 HB3 HG2 HW1 HN1 hnl HS2 HS3 HLn2 HLn3
    go_wp2_with fail
    go_loopw [50] (fun c wr => ∃ (k : Nat), k ≤ m ∧ c = .int .i64 (k : Int) ∧ WbE wr N B (.slice (some ⟨Bb, ob, none⟩) l.length vc) (qs (nxs l) x.next f (t : Int) (mark s b p) k) (.slice (some ⟨gt, 0, none⟩) s.tn.length tcap) ∧ Below N w4 wr) (fun c _ => m - (intOf c).toNat)
    case atStart => exact ⟨0, Nat.zero_le _, rfl, ⟨_, _, _, unhide HWm⟩, Below.refl _ _⟩
    case round =>
      obtain ⟨k, hk, rfl, ⟨ve', vf', vl', hWk⟩, hbk⟩ := hrel
      have hen2 : (mark s b p).ent.length = t + 1 := by rw [unhide HTe]; simp [mark]
      obtain ⟨hIk, hOk⟩ := qs_inv (f := f) (t := (t : Int)) (unhide HL) (unhide HX) (by omega) (unhide HM) (by omega) k
      by_cases hlt : k < m
      · obtain ⟨n, hz, hnl, hgn⟩ := (unhide HL).at_ (unhide HX) (k := k) (by rw [← unhide HMl]; exact hlt)
        obtain ⟨Bn, on, rfl, hBnN, hnc⟩ := nums_at (nums_on (unhide HNn) hbk) (k := k) (by rw [← unhide HMl]; exact hlt)
        have hck := hnc k (by rw [← unhide HMl]; exact hlt)
        rw [hz] at hck
        obtain ⟨gt', tcap', e, -, -, htc, -, -⟩ := hWk.rt.at_ (by rw [hIk.tl]; omega)
        simp only [Value.slice.injEq, Option.some.injEq, Addr.mk.injEq] at e
        obtain ⟨⟨rfl, -⟩, -, rfl⟩ := e
        have hct := htc n (by rw [hIk.tl]; exact hnl)
        obtain ⟨c0, c1, c2, c3, c4, cf, cl⟩ := wb_cells hWk.bx
        have hnl2 : (n : Int) < (s.tn.length : Int) := by rw [(unhide HI).tl]; omega
        have HK := hide hWk; have HIk := hide hIk; have HOk := hide hOk; have HGn := hide hgn; have HNl2 := hide hnl
        obtain ⟨z, hzq⟩ : ∃ z, z = (qs (nxs l) x.next f (t : Int) (mark s b p) k).tn.getD n 0 := ⟨_, rfl⟩
        rw [← hzq] at hct
        by_cases hq : z = -1
        · subst hq
          have hq := hzq.symm
          have HQ := hide hq; have HE2 := hide hen2
          clear hWk hIk hOk hgn hnl hq hzq htc hnc hz c0 c1 c2 c4 cf hen2
          go_wp2_with (go_at_call 31; refine (ih n (t : Int) _ (unhide HIk) (Nat.le_trans (unhide HOk).c (unhide HC)) (unhide HNl2) (unhide HQ) (by omega) (by have := (unhide HOk).e; have := unhide HE2; omega) B _ _ _ _ _ (unhide HK) (bls_on (unhide HB4) hbk)).mono ?_; rintro e w5 ⟨rfl, ⟨ve5, vf5, vl5, hW5⟩, hb5⟩)
          go_roundw
          case rel => exact ⟨k + 1, by omega, by go_num, ⟨_, _, _, by rw [qs_yes _ _ _ _ _ (unhide HGn) (unhide HQ)]; exact hW5⟩, hbk.trans hb5⟩
          case measure => simp [intOf]; omega
        · have hqb : (z == -1) = false := by simpa using hq
          have HQ := hide (show ¬ (qs (nxs l) x.next f (t : Int) (mark s b p) k).tn.getD n 0 = -1 by rw [← hzq]; exact hq)
          clear hWk hIk hOk hgn hnl hq hzq htc hnc hz c0 c1 c2 c4 cf hen2
          go_wp2_with fail
          go_roundw
          case rel => exact ⟨k + 1, by omega, by go_num, ⟨_, _, _, by rw [qs_no _ _ _ _ _ (unhide HGn) (unhide HQ)]; exact unhide HK⟩, hbk⟩
          case measure => simp [intOf]; omega
      · obtain rfl : k = m := by omega
        obtain ⟨q, hq⟩ : ∃ q, q = qs (nxs l) x.next f (t : Int) (mark s b p) k := ⟨_, rfl⟩
        rw [← hq] at hWk hIk hOk
        obtain ⟨L, hL⟩ : ∃ L, L = q.lf.length := ⟨_, rfl⟩
        have hLl : L ≤ 1048576 := by have := hIk.ll; have := hIk.ec; have := (unhide HL).len; omega
        obtain ⟨c0, c1, c2, c3, c4, cf, cl⟩ := wb_cells hWk.bx
        obtain ⟨la, lc, rfl, -⟩ := hWk.rl.sl
        have hLn : (nz q.lf).length = L := by rw [nz_len, hL]
        have hA := hWk.below (Vc.one_alloc wr (.cells #[.int .i64 (b : Int)] 3))
        have hS : N ≤ wr.heap.size := by have := hWk.lt; have := hWk.nb; omega
        have hAR : (wr.alloc (.cells #[.int .i64 (b : Int)] 3)).ownsRow N 3 1 (.slice la L lc) L (iv (nz q.lf)) := by have := hA.rl; unfold Ro at this; rw [hLn] at this; exact this
        simp only [hLn] at c4
        have HA := hide hA; have HS := hide hS; have HLn := hide hLn; have HAR := hide hAR; have HQ := hide hq; have HI2 := hide hIk; have HO2 := hide hOk; have HLl := hide hLl; have HL2 := hide hL; have HBk := hide hbk; have HE2 := hide hen2
        clear hA hS hLn hAR hq hIk hOk hLl hL hWk c0 c1 c2 c3 hbk hen2
        go_wp2_with (at_builtin; refine wpList_append_own_at _ rfl (.tmp 71) (.tmp 73) 26 rfl N 3 i0 (.int .i64 0) 1 8 Tryd.underlying26 hi hz0 hz1 hz2 rfl (by decide) (.slice la L lc) L (iv (nz q.lf)) rfl (unhide HAR) ⟨wr.heap.size, 0, none⟩ 1 1 [.int .i64 (b : Int)] rfl rfl (cell_one_new _ _ _) (one_ones _) ?d3 ?d4 ?d5 ?_)
        case d3 => have := unhide HLl; unfold maxLen; omega
        case d4 => have := unhide HLl; omega
        case d5 => have := (unhide HA).lt; have := (unhide HA).nb; omega
        intro v2 w2 hown hgrow _ hat
        obtain ⟨a9, cp9, rfl⟩ := own_slice hown
        obtain ⟨g1, g2, g3⟩ := (unhide HA).pushL (by rw [unhide HLn]; exact hown) (by rw [unhide HLn]; exact hgrow) (by rw [unhide HLn]; exact hat_of hat (by simp))
        obtain ⟨c0, c1, c2, c3, c4, cf, cl⟩ := wb_cells g1
        have HG := hide g2; have HB := hide ((Below.mono (Vc.one_alloc wr (.cells #[.int .i64 (b : Int)] 3)) (unhide HS)).trans g3)
        clear g1 g2 g3 hown hgrow hat c0 c1 c2 c3 HA HAR
        go_wp2
        have hst : go (nxs l) (f + 1) b p s = ⟨q.ent, q.fr, q.tn, q.lf ++ [b]⟩ := by
          rw [go_succ, nxs_at (unhide HX), ← qs_all, ← unhide HMl, ← unhide HTe, ← unhide HQ]
        have hfin := unhide HG
        rw [← hst] at hfin
        exact bodyPost_end (v := .tuple #[]) (by simp [results, Tryd.results31, go_sem]) rfl ⟨rfl, ⟨_, _, _, hfin⟩, (unhide HBe).trans ((unhide HBk).trans (unhide HB))⟩
end Fw
end Go.Proofs.YtpecnljcgiicaaaDoor
