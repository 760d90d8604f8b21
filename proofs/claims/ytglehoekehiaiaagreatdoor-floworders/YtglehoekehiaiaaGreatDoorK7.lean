/- K7: what follows, part by part: each part tells what it holds. -/
import Derived.Test.YtglehoekehiaiaaGreatDoorK6
import Derived.Test.YtglehoekehiaiaaGreatDoorK4
namespace Go.Proofs.YtglehoekehiaiaaGreatDoor
open Go.RowKit
set_option linter.unusedVariables false
set_option linter.unusedSimpArgs false
set_option maxRecDepth 100000
set_option maxHeartbeats 32000000
namespace Fw
open Vc (NumsL Nums Lies LL Bls BlC InC Bl In Co infoN own_base)
/- flow: the tree; the ways back. -/
theorem treeOf_any {n : Nat} (s : St) (hI : Inv n s) (h1 : 1 ≤ s.ent.length) (hn : n ≤ 1048576) (ah : List (List Nat)) (hA : AhO n ah) (hAl : ∀ b, (ah.getD b []).length ≤ 2097152) (vb ve vf vt vl va : Value) (w : World) (he : NumsL w (fun k => k < w.heap.size) (nz s.ent) ve) (hf : NumsL w (fun k => k < w.heap.size) s.fr vf) (ht : NumsL w (fun k => k < w.heap.size) s.tn vt) (ha : Rws w (fun k => k < w.heap.size) ah va)
    (sb : ∃ a n c, vb = .slice a n c) (sl : ∃ a n c, vl = .slice a n c) :
    Calls Tryz.prog 31 #[.agg #[vb, ve, vf, vt, vl], va] w fun e w' => ∃ v, e = .returned v ∧ Ro w' w.heap.size v (tree s ah) ∧ Below w.heap.size w w' := by
 obtain ⟨L, hL⟩ : ∃ L, L = s.fr.length := ⟨_, rfl⟩
 have hLe : L = s.ent.length := by rw [hL, hI.fl]
 have hLn : L ≤ 1048576 := by have := hI.ec; omega
 have hL1 : 1 ≤ L := by omega
 have hwd := wis_inv hI hA (s.fr.length - 1) (Nat.le_refl _)
 have hwl : Lo L (widest s ah) := by rw [hL]; exact hwd.out
 have hup : Up L s.fr := by have := hI.up; rw [hLe]; exact this
 have hlt := hf
 obtain ⟨ba, bn, bc, rfl⟩ := sb
 obtain ⟨la, ln, lc, rfl⟩ := sl
 obtain ⟨ea, ec, rfl, -, -, -⟩ := id he
 obtain ⟨fa, fc, rfl, -, -, -⟩ := id hf
 obtain ⟨ta, tc, rfl, -, -, -⟩ := id ht
 obtain ⟨aa, ac, rfl, -, -, -⟩ := id ha
 obtain ⟨W, hW⟩ : ∃ W, W = w.alloc (.cells (wbc (.slice ba bn bc) (.slice ea (nz s.ent).length ec) (.slice fa s.fr.length fc) (.slice ta s.tn.length tc) (.slice la ln lc)) 65) := ⟨_, rfl⟩
 have hbW : Below w.heap.size w W := by rw [hW]; exact Vc.one_alloc w _
 have hWz : W.heap.size = w.heap.size + 1 := by rw [hW]; simp
 have hWb : W.heap[w.heap.size]? = some (.cells (wbc (.slice ba bn bc) (.slice ea (nz s.ent).length ec) (.slice fa s.fr.length fc) (.slice ta s.tn.length tc) (.slice la ln lc)) 65 (0, 0)) := by rw [hW]; exact heap_alloc_new _ _
 have hcl := clone_ro s.fr _ (.slice fa s.fr.length fc) W (hf.moved (g' := fun k => k < w.heap.size) fun k _ hk => ⟨hk, hbW.block k hk⟩) (by rw [← hL]; omega)
 obtain ⟨c0, c1, c2, c3, c4, cf, cl⟩ := wb_cells hWb
 have up : ∀ (X : World), Below W.heap.size W X → ∀ k, k < w.heap.size → k < X.heap.size ∧ X.heap[k]? = w.heap[k]? := fun X hX k hk => ⟨by have := hX.size; omega, (hX.block k (by omega)).trans (hbW.block k hk)⟩
 have hwide : ∀ X, Below W.heap.size W X → Calls Tryz.prog 58 #[.agg #[.slice ba bn bc, .slice ea (nz s.ent).length ec, .slice fa s.fr.length fc, .slice ta s.tn.length tc, .slice la ln lc], .slice aa ah.length ac] X fun e w' => ∃ v, e = .returned v ∧ Ro w' X.heap.size v (widest s ah) ∧ Below X.heap.size X w' := fun X hX =>
  widest_any s hI h1 hn ah hA hAl _ _ _ _ _ _ X (he.moved fun k _ hk => up X hX k hk) (hf.moved fun k _ hk => up X hX k hk) (ht.moved fun k _ hk => up X hX k hk) (ha.moved (fun k _ hk => up X hX k hk) (by have := hX.size; omega)) ⟨_, _, _, rfl⟩ ⟨_, _, _, rfl⟩
 have HCl := hide hcl; have HWi := hide hwide; have HBW := hide hbW; have HWb := hide hWb; have HL := hide hL; have HWl := hide hwl; have HUp := hide hup; have HL1 := hide hL1; have HWz := hide hWz
 have hLi : (L : Int) ≤ 1048576 := by omega
 clear hI h1 hn hA hAl he hf ht ha hcl hwide hbW hWb up hLe hLn hL hwd hwl hup hlt hL1 hWz
 go_enter Tryz.func31, Tryz.ntmps31
 go_upto_region 1 with fail
 rw [show w.alloc (.cells #[.slice ba bn bc, .slice ea (nz s.ent).length ec, .slice fa s.fr.length fc, .slice ta s.tn.length tc, .slice la ln lc] 65) = W from hW.symm]
 clear hW
 go_upto_region 2 with (go_at_call 57; refine (unhide HCl).mono ?_; rintro e w1 ⟨v1, rfl, ho1, hb1⟩; obtain ⟨ob, oc, rfl, hob, hobl, -, -, -⟩ := ho1.at_ (by rw [← unhide HL]; exact unhide HL1))
 rw [← unhide HL] at ho1 ⊢
 obtain ⟨d0, d1, d2, d3, d4, df, dl⟩ := wb_cells ((hb1.block w.heap.size cl).trans (unhide HWb))
 have HO1 := hide ho1; have HB1 := hide hb1
 clear ho1 hb1 c0 c1 c2 c3 c4 cf cl hob
 go_wp2_with (go_at_call 58; refine (unhide HWi _ (unhide HB1)).mono ?_; rintro e w2 ⟨v2, rfl, ho2, hb2⟩; obtain ⟨wb, wc, rfl, hwb, hwbl, -, -, -⟩ := ho2.at_ (by rw [(unhide HWl).len]; exact unhide HL1))
 obtain ⟨wd, hwd⟩ : ∃ wd, wd = widest s ah := ⟨_, rfl⟩
 have hwl := unhide HWl
 rw [← hwd] at ho2 hwl ⊢
 have hne : wb ≠ ob := by omega
 have hwc : ∀ wr, Fk ob ob w2 wr → ∀ i, i < L → wr.cell? ⟨wb, i, none⟩ = some (.int .i64 (wd.getD i 0)) := fun wr hf i hi => by
  have := (ho2.cells (i := i) (by rw [hwl.len]; exact hi)).1
  exact (World.cell?_of_block (a := ⟨wb, i, none⟩) (hf.keep wb hne hne)).trans this
 have hr0 : Ro w2 W.heap.size (.slice (some ⟨ob, 0, none⟩) L oc) s.fr := (unhide HO1).below hb2
 have hobW := (hr0.lt ob rfl).1
 rw [hwl.len]
 have hbe : Below W.heap.size W w2 := (unhide HB1).trans (hb2.mono (unhide HB1).size)
 have HWc := hide hwc; have HR0 := hide hr0; have HBe := hide hbe; have HWl2 := hide hwl; have HWd := hide hwd; have HObW := hide hobW
 clear hwc hr0 hbe hwl hwd ho2 hb2 d0 d1 d2 d3 d4 df dl hwb hwbl hobl hne hobW
 go_loopw [15] (fun c wr => ∃ k : Nat, k ≤ L ∧ c = .int .i64 (k : Int) ∧ Ro wr W.heap.size (.slice (some ⟨ob, 0, none⟩) L oc) (trs wd s.fr k) ∧ Fk ob ob w2 wr) (fun c _ => L - (intOf c).toNat)
 case atStart => exact ⟨0, Nat.zero_le _, rfl, unhide HR0, Fk.refl _ _ _⟩
 case round =>
  obtain ⟨k, hk, rfl, hRk, hFk⟩ := hrel
  by_cases hlt : k < L
  ·have x1 := unhide HWc wr hFk k hlt
   have hUk := trs_up (unhide HWl2) (unhide HUp) k (Nat.le_of_lt hlt)
   obtain ⟨b, hb⟩ : ∃ b, b = wd.getD k 0 := ⟨_, rfl⟩
   have hb1 : -1 ≤ b := by rw [hb]; exact (unhide HWl2).row k hlt
   rw [← hb] at x1
   have hkL : (k : Int) < (L : Int) := by omega
   have hsu := trs_succ wd s.fr k
   rw [← hb] at hsu
   have HRk := hide hRk; have HFk := hide hFk; have HUk := hide hUk; have HSu := hide hsu; have HLt := hide hlt; have HK := hide hk
   clear hRk hFk hUk hsu hlt hb hk
   go_wp2_with fail
   clear x1
   go_loopg [] (k + 1) (fun f wq => ∃ cur : List Int, Up L cur ∧ cur.getD k 0 < (f : Int) ∧ cutF f cur k b = cutF (k + 1) (trs wd s.fr k) k b ∧ Ro wq W.heap.size (.slice (some ⟨ob, 0, none⟩) L oc) cur ∧ Fk ob ob w2 wq)
   case atStart => exact ⟨_, unhide HUk, by have := ((unhide HUk).row k (unhide HLt)).2; omega, rfl, unhide HRk, unhide HFk⟩
   case round =>
    generalize wr = wq at *
    obtain ⟨cur, hU, hg, hcut, hRq, hFq⟩ := hrel
    have hkl : k < cur.length := by rw [hU.len]; exact unhide HLt
    have hk1 := hU.row k (unhide HLt)
    obtain ⟨x1, x1f⟩ := hRq.cells (i := k) hkl
    by_cases hc : b < cur.getD k 0
    ·obtain ⟨f, rfl⟩ : ∃ f, gk = f + 1 := ⟨gk - 1, by omega⟩
     obtain ⟨h1, h2⟩ := cut_step hU (unhide HLt) hb1 hc
     rw [cutF_yes f cur k b hc] at hcut
     obtain ⟨a, ha⟩ : ∃ a : Nat, cur.getD k 0 = (a : Int) := ⟨(cur.getD k 0).toNat, by omega⟩
     rw [ha] at x1 hc hg hk1
     rw [ha, Int.toNat_natCast] at hcut h1 h2
     have x2 := (hRq.cells (i := a) (by rw [hU.len]; have := unhide HLt; omega)).1
     obtain ⟨x, hx⟩ : ∃ x, x = cur.getD a 0 := ⟨_, rfl⟩
     rw [← hx] at x2 hcut h1 h2
     have haL : (a : Int) < (L : Int) := by omega
     have HR9 := hide (hRq.set hkl x); have HF9 := hide (hFq.set1 k (.int .i64 x)); have HCut := hide hcut; have HU1 := hide h1; have HU2 := hide h2
     clear hRq hFq hcut hU h1 h2 hx ha hk1
     go_wp2_with fail
     go_roundg f
     case measure => omega
     case rel => exact ⟨_, unhide HU1, by have := unhide HU2; omega, unhide HCut, unhide HR9, unhide HF9⟩
    ·rw [cutF_no gk cur k b hc] at hcut
     obtain ⟨z, hz⟩ : ∃ z, z = cur.getD k 0 := ⟨_, rfl⟩
     rw [← hz] at x1 hc
     have HCut := hide hcut; have HRq := hide hRq; have HFq := hide hFq
     clear hcut hRq hFq hU hg hk1 hz
     go_wp2_with fail
     go_roundw
     case rel => exact ⟨k + 1, unhide HLt, by go_num, by rw [unhide HSu, ← unhide HCut]; exact unhide HRq, unhide HFq⟩
     case measure => have := unhide HLt; simp [intOf]; omega
  ·obtain rfl : k = L := by omega
   have hfin : trs wd s.fr k = tree s ah := by unfold tree; rw [← unhide HWd, (unhide HWl2).len]
   rw [hfin] at hRk
   have HR := hide (hRk.base (unhide HBW).size); have HB9 := hide ((unhide HBW).trans (((unhide HBe).trans (hFk.below (unhide HObW) (unhide HObW))).mono (unhide HBW).size))
   clear hRk hFk hfin hlt hk
   go_wp2_with fail
   go_ret
   exact ⟨_, rfl, unhide HR, unhide HB9⟩
end Fw
namespace Fw
/- flow, plain: ways back, loops, what is over what. -/
/-- the begins of the ways back -/
def wb1 (s : St) (t : List Int) (k : Nat) (o : List (List Nat)) (x : Nat) : List (List Nat) := if cov t (s.tn.getD x 0) (k + 1) (k : Int) = true then o.set x (o.getD x [] ++ [s.ent.getD k 0]) else o
def wbs (nx : List (List Nat)) (s : St) (t : List Int) (k : Nat) : List (List Nat) := (List.range k).foldl (fun o k => (nx.getD (s.ent.getD k 0) []).foldl (wb1 s t k) o) (List.replicate nx.length [])
def waysBack (nx : List (List Nat)) (s : St) (t : List Int) : List (List Nat) := wbs nx s t s.ent.length
theorem wbs_succ (nx : List (List Nat)) (s : St) (t : List Int) (k : Nat) : wbs nx s t (k + 1) = (nx.getD (s.ent.getD k 0) []).foldl (wb1 s t k) (wbs nx s t k) := by unfold wbs; rw [List.range_succ, List.foldl_append]; rfl
theorem wb1_no {s : St} {t : List Int} {k : Nat} {o : List (List Nat)} {x : Nat} (h : cov t (s.tn.getD x 0) (k + 1) (k : Int) = false) : wb1 s t k o x = o := by unfold wb1; rw [h]; rfl
theorem wb1_yes {s : St} {t : List Int} {k : Nat} {o : List (List Nat)} {x : Nat} (h : cov t (s.tn.getD x 0) (k + 1) (k : Int) = true) : wb1 s t k o x = o.set x (o.getD x [] ++ [s.ent.getD k 0]) := by unfold wb1; rw [h]; rfl
structure WbI (n c : Nat) (o : List (List Nat)) : Prop where
 len : o.length = n
 row : ∀ l ∈ o, l.length ≤ c ∧ ∀ x ∈ l, x < n
theorem WbI.start (n : Nat) : WbI n 0 (List.replicate n []) := ⟨by simp, fun l hl => by rw [(List.mem_replicate.1 hl).2]; simp⟩
theorem WbI.mono {n c d : Nat} {o : List (List Nat)} (h : WbI n c o) (hc : c ≤ d) : WbI n d o := ⟨h.len, fun l hl => ⟨Nat.le_trans (h.row l hl).1 hc, (h.row l hl).2⟩⟩
theorem WbI.step {n c : Nat} {o : List (List Nat)} {s : St} {t : List Int} {k x : Nat} (h : WbI n c o) (hx : x < n) (hk : s.ent.getD k 0 < n) : WbI n (c + 1) (wb1 s t k o x) := by
 unfold wb1
 split
 ·refine ⟨by simp [h.len], fun l hl => ?_⟩
  rcases List.mem_or_eq_of_mem_set hl with h2 | rfl
  ·have := h.row l h2; exact ⟨by omega, this.2⟩
  ·have hm := h.row _ (getD_mem o x [] (by rw [h.len]; exact hx))
   refine ⟨by simp only [List.length_append, List.length_cons, List.length_nil]; omega, fun y hy => ?_⟩
   rcases List.mem_append.1 hy with h3 | h3
   ·exact hm.2 y h3
   ·rw [List.mem_singleton.1 h3]; exact hk
 ·exact h.mono (Nat.le_succ _)
theorem WbI.steps {n : Nat} {s : St} {t : List Int} {k : Nat} (hk : s.ent.getD k 0 < n) : ∀ (l : List Nat) {c : Nat} {o : List (List Nat)} (h : WbI n c o) (hx : ∀ x ∈ l, x < n), WbI n (c + l.length) (l.foldl (wb1 s t k) o) := by
 intro l
 induction l with
 | nil => intro c o h _; exact h
 | cons x r ih =>
   intro c o h hx
   have := ih (h.step (s := s) (t := t) (k := k) (hx x (List.mem_cons_self ..)) hk) fun y hy => hx y (List.mem_cons_of_mem _ hy)
   exact this.mono (by simp; omega)
theorem wbs_inv {nx : List (List Nat)} (hn : In nx) {s : St} (hI : Inv nx.length s) (t : List Int) (hl : ∀ b, (nx.getD b []).length ≤ 1048576) : ∀ k, k ≤ s.ent.length → WbI nx.length (k * 1048576) (wbs nx s t k) := by
 intro k
 induction k with
 | zero => intro _; exact (WbI.start _)
 | succ k ih =>
   intro hk
   rw [wbs_succ]
   exact ((ih (by omega)).steps (hI.eb _ (getD_mem _ _ _ (by omega))) _ (hn _)).mono (by have := hl (s.ent.getD k 0); omega)
/-- those that wait, and what is in -/
structure Sp where
 inn : List Bool
 wt : List Nat
def come1 (s : Sp) (b : Nat) : Sp := if s.inn.getD b false = true then s else ⟨s.inn.set b true, s.wt ++ [b]⟩
def spread (ah : List (List Nat)) : Nat → Sp → Sp
 | 0, s => s
 | f + 1, s => if s.wt = [] then s else spread ah f ((ah.getD (s.wt.getD (s.wt.length - 1) 0) []).foldl come1 ⟨s.inn, s.wt.take (s.wt.length - 1)⟩)
def lay (n h : Nat) : Sp := ⟨(List.replicate n false).set h true, []⟩
def around (ah : List (List Nat)) (h : Nat) (bg : List Nat) : List Nat :=
 (List.range ah.length).filter fun b => (spread ah (ah.length + 1) (bg.foldl come1 (lay ah.length h))).inn.getD b false
structure SpI (n : Nat) (s : Sp) : Prop where
 len : s.inn.length = n
 lt : ∀ x ∈ s.wt, x < n
 ct : s.wt.length + s.inn.count false ≤ n
theorem countB_set {l : List Bool} {b : Nat} (h : b < l.length) (hb : l.getD b false = false) : (l.set b true).count false + 1 = l.count false := by
 have e : false = l[b] := by rw [← hb, List.getD_eq_getElem?_getD, List.getElem?_eq_getElem h]; rfl
 rw [List.count_set (by exact h)]
 have h1 : 0 < l.count false := List.count_pos_iff.2 (e ▸ List.getElem_mem h)
 simp [← e]
 omega
theorem come1_yes {s : Sp} {b : Nat} (h : s.inn.getD b false = true) : come1 s b = s := if_pos h
theorem come1_no {s : Sp} {b : Nat} (h : s.inn.getD b false = false) : come1 s b = ⟨s.inn.set b true, s.wt ++ [b]⟩ := by unfold come1; rw [h]; rfl
theorem SpI.come {n : Nat} {s : Sp} (h : SpI n s) {b : Nat} (hb : b < n) : SpI n (come1 s b) := by
 cases hc : s.inn.getD b false with
 | true => rw [come1_yes hc]; exact h
 | false =>
   rw [come1_no hc]
   have := countB_set (by rw [h.len]; exact hb) hc
   refine ⟨by simp [h.len], fun x hx => ?_, by have := h.ct; simp only [List.length_append, List.length_cons, List.length_nil]; omega⟩
   rcases List.mem_append.1 hx with h2 | h2
   ·exact h.lt x h2
   ·rw [List.mem_singleton.1 h2]; exact hb
/-- what is left to be done -/
def Sp.left (s : Sp) : Nat := s.wt.length + s.inn.count false
theorem come1_left {n : Nat} {s : Sp} (h : SpI n s) {b : Nat} (hb : b < n) : (come1 s b).left = s.left := by
 cases hc : s.inn.getD b false with
 | true => rw [come1_yes hc]
 | false =>
   rw [come1_no hc]
   have := countB_set (by rw [h.len]; exact hb) hc
   simp only [Sp.left, List.length_append, List.length_cons, List.length_nil]; omega
theorem comes_inv {n : Nat} : ∀ (l : List Nat) {s : Sp} (h : SpI n s) (hx : ∀ x ∈ l, x < n), SpI n (l.foldl come1 s) ∧ (l.foldl come1 s).left = s.left := by
 intro l
 induction l with
 | nil => intro s h _; exact ⟨h, rfl⟩
 | cons x r ih =>
   intro s h hx
   have hb := hx x (List.mem_cons_self ..)
   obtain ⟨k1, k2⟩ := ih (h.come hb) fun y hy => hx y (List.mem_cons_of_mem _ hy)
   exact ⟨k1, k2.trans (come1_left h hb)⟩
theorem lay_inv (n h : Nat) : SpI n (lay n h) := by
 refine ⟨by simp [lay], by simp [lay], ?_⟩
 simp only [lay, List.length_nil, Nat.zero_add]
 exact Nat.le_trans List.count_le_length (by simp)
theorem spread_none (ah : List (List Nat)) (f : Nat) (s : Sp) (h : s.wt = []) : spread ah f s = s := by cases f; rfl; exact if_pos h
theorem spread_some (ah : List (List Nat)) (f : Nat) (s : Sp) (h : ¬ s.wt = []) : spread ah (f + 1) s = spread ah f ((ah.getD (s.wt.getD (s.wt.length - 1) 0) []).foldl come1 ⟨s.inn, s.wt.take (s.wt.length - 1)⟩) := if_neg h
theorem pop_inv {n : Nat} {s : Sp} (h : SpI n s) (hw : ¬ s.wt = []) : SpI n ⟨s.inn, s.wt.take (s.wt.length - 1)⟩ ∧ (⟨s.inn, s.wt.take (s.wt.length - 1)⟩ : Sp).left + 1 = s.left := by
 have hl := List.length_pos_iff.2 hw
 have ht : (s.wt.take (s.wt.length - 1)).length = s.wt.length - 1 := by rw [List.length_take]; omega
 refine ⟨⟨h.len, fun x hx => h.lt x (List.mem_of_mem_take hx), by have := h.ct; simp only [ht]; omega⟩, by simp only [Sp.left, ht]; omega⟩
/-- loops: heads, and their blocks -/
def loops (nx : List (List Nat)) : List (Nat × List Nat) :=
 (List.range nx.length).filterMap fun h => if (waysBack nx (walk nx) (tree (walk nx) (ahead nx))).getD h [] = [] then none else some (h, around (ahead nx) h ((waysBack nx (walk nx) (tree (walk nx) (ahead nx))).getD h []))
/-- of each block the nearest one over it -/
def ovs (s : St) (t : List Int) (n k : Nat) : List Int := (List.range k).foldl (fun o k => if t.getD k 0 = -1 then o else o.set (s.ent.getD k 0) ((s.ent.getD (t.getD k 0).toNat 0 : Nat) : Int)) (List.replicate n (-1))
def over (nx : List (List Nat)) : List Int := ovs (walk nx) (tree (walk nx) (ahead nx)) nx.length (tree (walk nx) (ahead nx)).length
theorem ovs_succ (s : St) (t : List Int) (n k : Nat) : ovs s t n (k + 1) = if t.getD k 0 = -1 then ovs s t n k else (ovs s t n k).set (s.ent.getD k 0) ((s.ent.getD (t.getD k 0).toNat 0 : Nat) : Int) := by unfold ovs; rw [List.range_succ, List.foldl_append]; rfl
theorem ovs_len (s : St) (t : List Int) (n k : Nat) : (ovs s t n k).length = n := by
 induction k with
 | zero => simp [ovs]
 | succ k ih => rw [ovs_succ]; split <;> simp [ih]
end Fw
namespace Fw
open Vc (NumsL Nums Lies LL Bls BlC InC Bl In Co infoN own_base)
/- flow: the ways back: the walk of it. -/
def bw (s : St) (t : List Int) (k : Nat) (l : List Int) (o : List (List Nat)) (j : Nat) : List (List Nat) := ((l.map Int.toNat).take j).foldl (wb1 s t k) o
theorem bw_succ (s : St) (t : List Int) (k : Nat) (l : List Int) (o : List (List Nat)) {j x : Nat} (h : (l.map Int.toNat)[j]? = some x) : bw s t k l o (j + 1) = wb1 s t k (bw s t k l o j) x := by unfold bw; rw [fold_take _ _ _ _ h]
theorem bw_all (s : St) (t : List Int) (k : Nat) (l : List Int) (o : List (List Nat)) : bw s t k l o l.length = (l.map Int.toNat).foldl (wb1 s t k) o := by unfold bw; rw [List.take_of_length_le (by simp)]
theorem nxs_rows {l : List Bl} (hl : Nok l) (b : Nat) : ((nxs l).getD b []).length ≤ 1048576 := by
 by_cases hb : b < l.length
 ·have e := List.getElem?_eq_getElem hb
  rw [nxs_at e, List.length_map]; exact hl.nlen _ (List.getElem_mem hb)
 ·rw [getD_out _ _ _ (by rw [nxs_len]; omega)]; simp
theorem waysBack_any (l : List Bl) (hl : Nok l) (s : St) (hI : Inv l.length s) (tl : List Int) (hU : Up s.ent.length tl) (P : Nat) (vb ve vf vt vl v : Value) (w : World) (hP : w.heap[P]? = some (.cells (wbc vb ve vf vt vl) 65 (0, 0))) (hB : Bls w (fun k => k < w.heap.size) l vb) (he : NumsL w (fun k => k < w.heap.size) (nz s.ent) ve) (ht : NumsL w (fun k => k < w.heap.size) s.tn vt) (hv : NumsL w (fun k => k < w.heap.size) tl v) :
    Calls Tryz.prog 48 #[.pointer (some ⟨P, 0, none⟩), v, .func (.func 49) #[] #[]] w fun e w' => ∃ v, e = .returned v ∧ Rws w' (fun k => w.heap.size ≤ k ∧ k < w'.heap.size) (waysBack (nxs l) s tl) v ∧ Below w.heap.size w w' := by
 obtain ⟨va, vc, rfl, -, -, -⟩ := id hB
 obtain ⟨ea, ec, rfl, -, -, -⟩ := id he
 obtain ⟨ta, tc, rfl, -, -, -⟩ := id ht
 obtain ⟨i0, hi, hz0, hz1, hz2⟩ := info_parts infoN
 obtain ⟨ir, hir, hr0, hr1, hr2⟩ := info_parts infoR
 have hlen := hl.len
 obtain ⟨n, hn⟩ : ∃ n, n = l.length := ⟨_, rfl⟩
 obtain ⟨L, hL⟩ : ∃ L, L = s.ent.length := ⟨_, rfl⟩
 have hLn : L ≤ n := by have := hI.ec; omega
 have hmk := fun wx => run_make (P := Tryz.prog) wx 36 31 ir (.slice none 0 0) Tryz.underlying36 hir hr0 .i64 .i64 (n : Int) (n : Int) (by omega) (by omega) (by rw [hr2]; omega) (by omega)
 rw [hr1] at hmk
 simp only [Int.toNat_natCast, Nat.mul_one] at hmk
 rw [show (Value.slice none 0 0).cells = #[Value.slice none 0 0] from rfl] at hmk
 rw [← hn] at hlen
 have hG := Gr.start w n
 have hb1 := Vc.one_alloc w (.cells (madeCells #[.slice none 0 0] n) 31)
 have hcell : ∀ wr : World, Below w.heap.size w wr → wr.cell? ⟨P, 0, none⟩ = some (.slice va n vc) ∧ wr.cell? ⟨P, 1, none⟩ = some (.slice ea L ec) ∧ wr.cell? ⟨P, 3, none⟩ = some (.slice ta n tc) := fun wr hb => by
  have := wb_cells ((hb.block P (Array.getElem?_eq_some_iff.1 hP).1).trans hP)
  obtain ⟨k0, k1, _, k3, _⟩ := this
  rw [hI.tl, ← hn] at k3
  rw [nz_len, ← hL] at k1
  rw [← hn] at k0
  exact ⟨k0, k1, k3⟩
 obtain ⟨c0, c1, c3⟩ := hcell w (Below.refl _ _)
 obtain ⟨d0, d1, d3⟩ := hcell _ hb1
 have HCell := hide hcell
 have HB := hide hB; have HE := hide he; have HT := hide ht; have HV := hide hv; have HL := hide hl; have HI := hide hI; have HU := hide hU; have HN := hide hn; have HLl := hide hL; have HLen := hide hlen; have HG := hide hG; have HB1 := hide hb1; have HLn := hide hLn
 have hni : (n : Int) ≤ 1048576 := by omega
 have hLi : (L : Int) ≤ 1048576 := by omega
 clear hB he ht hv hl hI hU hn hL hlen hG hb1 hcell hP hLn
 go_enter Tryz.func48, Tryz.ntmps48
 go_wp2_with fail
 generalize w.alloc (.cells (madeCells #[.slice none 0 0] n) 31) = W1 at *
 clear c0 c1 c3 d0 d1 d3
 go_loopw [23] (fun c wr => ∃ (k : Nat) (cs : Array Value), k ≤ L ∧ c = .int .i64 (k : Int) ∧ Gr wr w.heap.size w.heap.size cs (wbs (nxs l) s tl k) ∧ Below w.heap.size w wr) (fun c _ => L - (intOf c).toNat)
 case atStart => exact ⟨0, _, Nat.zero_le _, rfl, by rw [show wbs (nxs l) s tl 0 = List.replicate n [] by rw [unhide HN]; simp [wbs, nxs_len]]; exact unhide HG, unhide HB1⟩
 case round =>
  obtain ⟨k, cs, hk2, rfl, hGk, hbk⟩ := hrel
  by_cases hlt : k < L
  ·obtain ⟨c0, c1, c3⟩ := unhide HCell wr hbk
   have hkE : k < s.ent.length := by rw [← unhide HLl]; exact hlt
   obtain ⟨b0, hb0⟩ : ∃ b0, b0 = s.ent.getD k 0 := ⟨_, rfl⟩
   have hb0n : b0 < l.length := by rw [hb0]; exact (unhide HI).eb _ (getD_mem _ _ _ hkE)
   obtain ⟨Be, oe, hea, -, hec⟩ := nums_at (nums_on (unhide HE) hbk) (k := k) (by rw [nz_len]; exact hkE)
   subst hea
   have x1 := hec k (by rw [nz_len]; exact hkE)
   rw [nz_getD _ _ hkE, ← hb0] at x1
   obtain ⟨x, hx⟩ : ∃ x, l[b0]? = some x := ⟨_, List.getElem?_eq_getElem hb0n⟩
   have hBi := bls_on (unhide HB) hbk
   obtain ⟨Bb, ob, vi, vn, hva, hBN, hBl, -, e0, e1, e2, hin, hnn⟩ := blk_next hBi hx
   subst hva
   obtain ⟨na, nc, rfl, -, -, -⟩ := id hnn
   have hxl : x.next.length ≤ 1048576 := (unhide HL).nlen x (List.mem_of_getElem? hx)
   have hah := wbs_inv (nx := nxs l) (unhide HL).inn (s := s) (by rw [nxs_len]; exact unhide HI) tl (nxs_rows (unhide HL)) k (Nat.le_of_lt hkE)
   rw [nxs_len] at hah
   obtain ⟨m, hm⟩ : ∃ m, m = x.next.length := ⟨_, rfl⟩
   rw [← hm] at e1 hxl
   have hmi : (m : Int) ≤ 1048576 := by omega
   have hkL : (k : Int) < (L : Int) := by omega
   have hb0i : (b0 : Int) < (n : Int) := by rw [unhide HN]; omega
   have HX := hide hx; have HNn := hide hnn; have HM := hide hm; have HXl := hide hxl; have HBk := hide hbk; have HAh := hide hah; have HGk := hide hGk; have HLt := hide hlt; have HB0 := hide hb0; have HB0n := hide hb0n; have HKE := hide hkE
   clear hx hnn hin hm hxl hbk hah hBi hGk HG HB1 hlt hk2 hb0 hb0n hec hkE e0 e2 c3
   go_wp2_with fail
   clear e1 c0 c1 x1
   go_loopw [37] (fun c wq => ∃ (j : Nat) (cq : Array Value), j ≤ m ∧ c = .int .i64 (j : Int) ∧ Gr wq w.heap.size w.heap.size cq (bw s tl k x.next (wbs (nxs l) s tl k) j) ∧ Below w.heap.size w wq) (fun c _ => m - (intOf c).toNat)
   case atStart => exact ⟨0, _, Nat.zero_le _, rfl, unhide HGk, unhide HBk⟩
   case round =>
    generalize wr = wq at *
    obtain ⟨j, cq, hj, rfl, hGq, hbq⟩ := hrel
    by_cases hjm : j < m
    ·obtain ⟨t, hz, htl, hgt⟩ := (unhide HL).at_ (unhide HX) (k := j) (by rw [← unhide HM]; exact hjm)
     obtain ⟨Bn, on, hna, hBnN, hnc⟩ := nums_at (nums_via (unhide HNn) (unhide HBk) hbq) (k := j) (by rw [← unhide HM]; exact hjm)
     subst hna
     have hck := hnc j (by rw [← unhide HM]; exact hjm)
     rw [hz] at hck
     obtain ⟨-, -, c3⟩ := unhide HCell wq hbq
     obtain ⟨Bt, ot, hta, -, htc⟩ := nums_at (nums_on (unhide HT) hbq) (k := t) (by rw [(unhide HI).tl]; exact htl)
     subst hta
     have hct := htc t (by rw [(unhide HI).tl]; exact htl)
     have hft := tn_at (unhide HI) htl
     obtain ⟨z, hzz⟩ : ∃ z, z = s.tn.getD t 0 := ⟨_, rfl⟩
     rw [← hzz] at hct hft
     have hcov := covers_any tl (unhide HU) (L := s.ent.length) (by rw [← unhide HLl]; omega) z hft.1 _ v wq (nums_on (unhide HV) hbq) (k + 1) (k : Int) (by omega) (by rw [← unhide HLl]; exact hkL) (by omega)
     have hAj : WbI l.length (k * 1048576 + j) (bw s tl k x.next (wbs (nxs l) s tl k) j) := by
      have h5 := WbI.steps (s := s) (t := tl) (k := k) (by rw [← unhide HB0]; exact unhide HB0n) ((x.next.map Int.toNat).take j) (unhide HAh) (fun y hy => by have h6 := List.mem_of_mem_take hy; rw [← nxs_at (unhide HX)] at h6; have := (unhide HL).inn b0 y h6; rw [nxs_len] at this; exact this)
      exact h5.mono (by rw [List.length_take]; omega)
     have hst := bw_succ s tl k x.next (wbs (nxs l) s tl k) hgt
     obtain ⟨ro, hro⟩ : ∃ ro, ro = (bw s tl k x.next (wbs (nxs l) s tl k) j).getD t [] := ⟨_, rfl⟩
     obtain ⟨ra, rc, hcr, hrc, hRo, hrl, hrf⟩ := hGq.at_ (i := t) (by rw [hAj.len]; exact htl)
     rw [← hro] at hcr hrc hRo hrl
     obtain ⟨Q, hQ⟩ : ∃ Q, Q = ro.length := ⟨_, rfl⟩
     have hrm := hAj.row ro (by rw [hro]; exact getD_mem _ _ _ (by rw [hAj.len]; exact htl))
     have hQQ : Q ≤ k * 1048576 + j := by rw [hQ]; exact hrm.1
     rw [← hQ] at hcr hrc hRo
     have htn : (t : Int) < (n : Int) := by rw [unhide HN]; omega
     have hjm2 : (j : Int) < (m : Int) := by omega
     have hkb : k ≤ 1048576 := by omega
     have hjb : j ≤ 1048576 := by have := unhide HXl; omega
     have HKb := hide hkb; have HJb := hide hjb
     cases hcv : cov tl z (k + 1) (k : Int) with
     | false =>
       rw [hcv] at hcov
       rw [wb1_no (by rw [← hzz]; exact hcv)] at hst
       have HCov := hide hcov; have HSt := hide hst; have HGq := hide hGq; have HBq := hide hbq
       clear hcov hst hGq hbq hcv hzz hft hAj hro hrl hrc hRo hrm hQQ hQ hgt hz hnc htc hcr hrf hkb hjb
       go_wp2_with (go_at_call 49; refine (unhide HCov).mono ?_; rintro e w5 ⟨rfl, rfl⟩)
       go_roundw
       case rel => exact ⟨j + 1, _, by omega, by go_num, by rw [unhide HSt]; exact unhide HGq, unhide HBq⟩
       case measure => simp [intOf]; omega
     | true =>
       rw [hcv] at hcov
       rw [wb1_yes (by rw [← hzz]; exact hcv), ← hro, ← unhide HB0] at hst
       have hA := hGq.below (Vc.one_alloc wq (.cells #[.int .i64 (b0 : Int)] 3))
       have hAR : (wq.alloc (.cells #[.int .i64 (b0 : Int)] 3)).ownsRow w.heap.size 3 1 (.slice ra Q rc) Q (iv (nz ro)) := by
        obtain ⟨v9, k1, k2⟩ := hA.row t ro hrl
        rw [hrc] at k1; cases k1
        unfold Ro at k2; rw [nz_len, ← hQ] at k2; exact k2
       have hS : w.heap.size ≤ wq.heap.size := hbq.size
       have HCov := hide hcov; have HA := hide hA; have HAR := hide hAR; have HS := hide hS; have HSt := hide hst; have HRl := hide hrl; have HRc := hide hrc; have HQ2 := hide hQ; have HQQ := hide hQQ; have HBq := hide hbq
       clear hcov hA hAR hS hst hrl hrc hGq hRo hbq hro hgt hz hnc htc hAj hrm hQ hQQ hcv hzz hft hkb hjb
       go_wp2_with (first
        | (go_at_call 49; refine (unhide HCov).mono ?_; rintro e w5 ⟨rfl, rfl⟩)
        | (at_builtin; refine wpList_append_own_at _ rfl (.tmp 57) (.tmp 59) 31 rfl w.heap.size 3 i0 (.int .i64 0) 1 8 Tryz.underlying31 hi hz0 hz1 hz2 rfl (by decide) (.slice ra Q rc) Q (iv (nz ro)) rfl (unhide HAR) ⟨wq.heap.size, 0, none⟩ 1 1 [.int .i64 (b0 : Int)] rfl rfl (cell_one_new _ _ _) (one_ones _) ?d3 ?d4 ?d5 ?_))
       case d3 => have := unhide HQQ; have := unhide HKb; have := unhide HJb; unfold maxLen; omega
       case d4 => have := unhide HQQ; have := unhide HKb; have := unhide HJb; omega
       case d5 => have := unhide HS; simp; omega
       intro v2 w2 hown hgrow _ hat
       obtain ⟨a2, cp2, rfl⟩ := own_slice hown
       obtain ⟨g1, g2, g3⟩ := (unhide HA).push (unhide HRl) (unhide HRc) (by rw [nz_len, ← unhide HQ2]; exact hown) hgrow (hat_of hat (by simp))
       have cf := frozen_of_row w2 w.heap.size t _ _ g1
       have cc := (cell_of_row w2 w.heap.size t _ _ _ g1).trans (unhide HRc)
       have HG2 := hide g2; have HB2 := hide ((Below.mono (Vc.one_alloc wq (.cells #[.int .i64 (b0 : Int)] 3)) (unhide HS)).trans g3)
       clear g1 g2 g3 hown hgrow hat HA HAR
       go_wp2_with fail
       go_roundw
       case rel => exact ⟨j + 1, _, by omega, by go_num, by rw [unhide HSt]; exact unhide HG2, (unhide HBq).trans (unhide HB2)⟩
       case measure => simp [intOf]; omega
    ·obtain rfl : j = m := by omega
     have hfin : bw s tl k x.next (wbs (nxs l) s tl k) j = wbs (nxs l) s tl (k + 1) := by rw [unhide HM, bw_all, wbs_succ, ← unhide HB0, nxs_at (unhide HX)]
     rw [hfin] at hGq
     have HGq := hide hGq; have HBq := hide hbq
     clear hGq hbq hfin hjm hj
     go_wp2_with fail
     go_roundw
     case rel => exact ⟨k + 1, _, unhide HLt, by go_num, unhide HGq, unhide HBq⟩
     case measure => have := unhide HLt; simp [intOf]; omega
  ·obtain rfl : k = L := by omega
   have hr := hGk.rws (n := n) (by rw [unhide HN, (wbs_inv (nx := nxs l) (unhide HL).inn (s := s) (by rw [nxs_len]; exact unhide HI) tl (nxs_rows (unhide HL)) k (Nat.le_of_eq (unhide HLl))).len, nxs_len])
   have hfin : wbs (nxs l) s tl k = waysBack (nxs l) s tl := by unfold waysBack; rw [unhide HLl]
   rw [hfin] at hr
   have HR := hide hr; have HBi := hide hbk
   clear hr hbk hGk hfin hk2 hlt
   go_wp2_with fail
   go_ret
   exact ⟨_, rfl, unhide HR, unhide HBi⟩
/- flow: the blocks of a loop. -/
def bv (l : List Bool) : List Value := l.map Value.bool
theorem bv_at (l : List Bool) (i : Nat) (h : i < l.length) : (bv l)[i]? = some (.bool (l.getD i false)) := by rw [bv, List.getElem?_map, get?_getD l i false h]; rfl
theorem bv_set (l : List Bool) (i : Nat) (x : Bool) : (bv l).toArray.setIfInBounds i (.bool x) = (bv (l.set i x)).toArray := by simp [bv, List.map_set]
/-- what waits, and what is in, in memory -/
structure Sb (w : World) (N B7 B8 gi n : Nat) (vw : Value) (s : Sp) : Prop where
 b7 : w.heap[B7]? = some (.cells #[.slice (some ⟨gi, 0, none⟩) n n] 126 (0, 0))
 bi : w.heap[gi]? = some (.cells (bv s.inn).toArray 4 (0, 0))
 b8 : w.heap[B8]? = some (.cells #[vw] 31 (0, 0))
 row : Ro w N vw (nz s.wt)
 n7 : N ≤ B7
 n8 : N ≤ B8
 ni : N ≤ gi
def SbE (w : World) (N B7 B8 gi n : Nat) (s : Sp) : Prop := ∃ vw, Sb w N B7 B8 gi n vw s
theorem blocks_ne {w : World} {a b : Nat} {ca cb : Array Value} {ta tb : Nat} (h : w.heap[a]? = some (.cells ca ta (0, 0))) (k : w.heap[b]? = some (.cells cb tb (0, 0))) (ht : ta ≠ tb) : a ≠ b := by
 rintro rfl; have := h.symm.trans k; simp at this; exact ht this.2
theorem Sb.cells {w : World} {N B7 B8 gi n : Nat} {vw : Value} {s : Sp} (h : Sb w N B7 B8 gi n vw s) : w.cell? ⟨B7, 0, none⟩ = some (.slice (some ⟨gi, 0, none⟩) n n) ∧ w.cell? ⟨B8, 0, none⟩ = some vw ∧ w.frozen? ⟨B8, 0, none⟩ = false ∧ (∀ i, i < s.inn.length → w.cell? ⟨gi, i, none⟩ = some (.bool (s.inn.getD i false)) ∧ w.frozen? ⟨gi, i, none⟩ = false) := by
 refine ⟨by rw [cell_of_row w B7 0 _ _ _ h.b7]; rfl, by rw [cell_of_row w B8 0 _ _ _ h.b8]; rfl, frozen_of_row w B8 0 _ _ h.b8, fun i hi => ⟨?_, frozen_of_row w gi i _ _ h.bi⟩⟩
 rw [cell_of_row w gi i _ _ _ h.bi, List.getElem?_toArray]; exact bv_at _ _ hi
theorem Sb.setIn {w : World} {N B7 B8 gi n : Nat} {vw : Value} {s : Sp} (h : Sb w N B7 B8 gi n vw s) (i : Nat) (x : Bool) : Sb (w.setCell ⟨gi, i, none⟩ (.bool x)) N B7 B8 gi n vw ⟨s.inn.set i x, s.wt⟩ ∧ Below N w (w.setCell ⟨gi, i, none⟩ (.bool x)) := by
 have o : ∀ k, k ≠ gi → (w.setCell ⟨gi, i, none⟩ (.bool x)).heap[k]? = w.heap[k]? := fun k hk => heap_setCell_other w ⟨gi, i, none⟩ k _ hk
 refine ⟨⟨(o _ (blocks_ne h.b7 h.bi (by decide))).trans h.b7, ?_, (o _ (blocks_ne h.b8 h.bi (by decide))).trans h.b8, h.row.keep fun k hk => o k (row_ne h.bi (by decide) h.row k hk).1, h.n7, h.n8, h.ni⟩, (Below.refl _ _).setCell (p := ⟨gi, i, none⟩) h.ni _⟩
 rw [heap_setCell_same w gi i _ _ _ h.bi, bv_set]
theorem Sb.below {w w' : World} {N B7 B8 gi n : Nat} {vw : Value} {s : Sp} (h : Sb w N B7 B8 gi n vw s) (hb : Below w.heap.size w w') : Sb w' N B7 B8 gi n vw s :=
 ⟨(hb.block _ (Array.getElem?_eq_some_iff.1 h.b7).1).trans h.b7, (hb.block _ (Array.getElem?_eq_some_iff.1 h.bi).1).trans h.bi, (hb.block _ (Array.getElem?_eq_some_iff.1 h.b8).1).trans h.b8, h.row.below hb, h.n7, h.n8, h.ni⟩
theorem Sb.push {w w2 : World} {N B7 B8 gi n : Nat} {vw v' : Value} {s : Sp} (h : Sb w N B7 B8 gi n vw s) {x : Nat} (hown : w2.ownsRow N 3 1 v' ((nz s.wt).length + 1) (iv (nz s.wt) ++ [.int .i64 (x : Int)])) (hg : w.grownBy w2 vw.ownBlock) :
    w2.heap[B8]? = some (.cells #[vw] 31 (0, 0)) ∧ Sb (w2.setCell ⟨B8, 0, none⟩ v') N B7 B8 gi n v' ⟨s.inn, s.wt ++ [x]⟩ ∧ Below N w (w2.setCell ⟨B8, 0, none⟩ v') := by
 have lt : ∀ {k : Nat} {o : Obj}, w.heap[k]? = some o → k < w.heap.size := fun h => (Array.getElem?_eq_some_iff.1 h).1
 have k7 := (hg.block B7 (lt h.b7) (fun e => (row_ne h.b7 (by decide) h.row B7 e.symm).1 rfl)).trans h.b7
 have ki := (hg.block gi (lt h.bi) (fun e => (row_ne h.bi (by decide) h.row gi e.symm).1 rfl)).trans h.bi
 have k8 := (hg.block B8 (lt h.b8) (fun e => (row_ne h.b8 (by decide) h.row B8 e.symm).1 rfl)).trans h.b8
 have hr2 : Ro w2 N v' (nz (s.wt ++ [x])) := by unfold Ro; rw [nz_app, iv_app, List.length_append]; exact hown
 have o : ∀ k, k ≠ B8 → (w2.setCell ⟨B8, 0, none⟩ v').heap[k]? = w2.heap[k]? := fun k hk => heap_setCell_other w2 ⟨B8, 0, none⟩ k _ hk
 have hb : Below N w w2 := (Below.refl N w).grown hg (Nat.le_of_lt (Nat.lt_of_le_of_lt h.n8 (lt h.b8))) (fun k e => (row_ne h.b8 (by decide) h.row k e).2.2)
 exact ⟨k8, ⟨(o _ (blocks_ne k7 k8 (by decide))).trans k7, (o _ (blocks_ne ki k8 (by decide))).trans ki, (heap_setCell_same w2 B8 0 _ _ _ k8).trans rfl, hr2.keep fun k hk => o k (row_ne k8 (by decide) hr2 k hk).1, h.n7, h.n8, h.ni⟩, hb.setCell (p := ⟨B8, 0, none⟩) h.n8 _⟩
def cs (r : List Nat) (s : Sp) (k : Nat) : Sp := (r.take k).foldl come1 s
theorem cs_succ (r : List Nat) (s : Sp) {k b : Nat} (h : r[k]? = some b) : cs r s (k + 1) = come1 (cs r s k) b := by unfold cs; rw [fold_take _ _ _ _ h]
theorem cs_all (r : List Nat) (s : Sp) : cs r s r.length = r.foldl come1 s := by unfold cs; rw [List.take_length]
theorem come_any {n : Nat} (hn : n ≤ 1048576) (r : List Nat) (hr : ∀ x ∈ r, x < n) (hrl : r.length ≤ 1099511627776) (s : Sp) (hS : SpI n s) (N B7 B8 gi : Nat) (v vw : Value) (w : World) (hv : NumsL w (fun k => k < N) (nz r) v) (h : Sb w N B7 B8 gi n vw s) :
    Calls Tryz.prog 76 #[v, .pointer (some ⟨B7, 0, none⟩), .pointer (some ⟨B8, 0, none⟩)] w fun e w' => e = .returned (.tuple #[]) ∧ SbE w' N B7 B8 gi n (r.foldl come1 s) ∧ Below N w w' := by
 obtain ⟨va, vc, rfl, -, -, -⟩ := id hv
 obtain ⟨i0, hi, hz0, hz1, hz2⟩ := info_parts infoN
 obtain ⟨m, hm⟩ : ∃ m, m = r.length := ⟨_, rfl⟩
 have hmi : (m : Int) ≤ 1099511627776 := by omega
 have hni : (n : Int) ≤ 1048576 := by omega
 rw [nz_len, ← hm] at hv ⊢
 have HV := hide hv; have HH := hide h; have HS := hide hS; have HR := hide hr; have HM := hide hm; have HN := hide hn
 clear hv h hS hr hm hrl hn
 go_enter Tryz.func76, Tryz.ntmps76
 go_wp2_with fail
 go_loopw [8] (fun c wr => ∃ k : Nat, k ≤ m ∧ c = .int .i64 (k : Int) ∧ SbE wr N B7 B8 gi n (cs r s k) ∧ Below N w wr) (fun c _ => m - (intOf c).toNat)
 case atStart => exact ⟨0, Nat.zero_le _, rfl, ⟨_, unhide HH⟩, Below.refl _ _⟩
 case round =>
  obtain ⟨k, hk, rfl, ⟨vk, hSk⟩, hbk⟩ := hrel
  by_cases hlt : k < m
  ·have hkr : k < r.length := by rw [← unhide HM]; exact hlt
   obtain ⟨b, hb⟩ : ∃ b, b = r.getD k 0 := ⟨_, rfl⟩
   have hbr : r[k]? = some b := by rw [hb]; exact get?_getD _ _ _ hkr
   have hbn := unhide HR b (List.mem_of_getElem? hbr)
   have hI := (comes_inv (r.take k) (unhide HS) fun x hx => unhide HR x (List.mem_of_mem_take hx)).1
   have hI' : SpI n (cs r s k) := hI
   obtain ⟨Bn, on, hna, -, hnc⟩ := nums_at (nums_on (unhide HV) hbk) (k := k) (by rw [nz_len]; exact hkr)
   subst hna
   have x1 := hnc k (by rw [nz_len]; exact hkr)
   rw [nz_getD _ _ hkr, ← hb] at x1
   obtain ⟨c7, c8, c8f, ci⟩ := hSk.cells
   obtain ⟨x2, x2f⟩ := ci b (by rw [hI'.len]; exact hbn)
   obtain ⟨la, lc, rfl, -⟩ := hSk.row.sl
   have hst := cs_succ r s hbr
   have hbi : (b : Int) < (n : Int) := by omega
   have hki : (k : Int) < (m : Int) := by omega
   obtain ⟨q, hq⟩ : ∃ q, q = cs r s k := ⟨_, rfl⟩
   rw [← hq] at hSk hI' hst x2
   simp only [← hq] at c8
   cases hc : q.inn.getD b false with
   | true =>
     rw [hc] at x2
     rw [come1_yes hc] at hst
     have HSt := hide hst; have HSk := hide hSk; have HBk := hide hbk
     clear hst hSk hbk hI hI' hc hq hb hbr hnc ci hkr
     go_wp2_with fail
     go_roundw
     case rel => exact ⟨k + 1, by omega, by go_num, ⟨_, by rw [unhide HSt]; exact unhide HSk⟩, unhide HBk⟩
     case measure => simp [intOf]; omega
   | false =>
     rw [hc] at x2
     rw [come1_no hc] at hst
     obtain ⟨s1, b1⟩ := hSk.setIn b true
     obtain ⟨L, hL⟩ : ∃ L, L = q.wt.length := ⟨_, rfl⟩
     have hLn : L ≤ 1048576 := by have := hI'.ct; have := unhide HN; omega
     simp only [nz_len, ← hL] at c8
     have HSt := hide hst; have HS1 := hide s1; have HB1 := hide (hbk.trans b1); have HL := hide hL; have HLn := hide hLn
     have HN0 := hide (show N ≤ wr.heap.size from Nat.le_trans hSk.n8 (Nat.le_of_lt (Array.getElem?_eq_some_iff.1 hSk.b8).1))
     clear hst hSk hbk hI hI' hc hq hb hbr hnc ci hkr s1 b1 hL hLn
     go_upto_region 5 with fail
     have hN1 : N ≤ (wr.setCell ⟨gi, b, none⟩ (.bool true)).heap.size := by simp; exact unhide HN0
     generalize wr.setCell ⟨gi, b, none⟩ (.bool true) = w3 at *
     clear c7 c8 c8f x1 x2 x2f
     obtain ⟨c7, c8, c8f, -⟩ := (unhide HS1).cells
     simp only [nz_len, ← unhide HL] at c8
     have hA := (unhide HS1).below (Vc.one_alloc w3 (.cells #[.int .i64 (b : Int)] 3))
     have hAR : (w3.alloc (.cells #[.int .i64 (b : Int)] 3)).ownsRow N 3 1 (.slice la L lc) L (iv (nz q.wt)) := by have := hA.row; unfold Ro at this; simp only [nz_len, ← unhide HL] at this; exact this
     have HA := hide hA; have HAR := hide hAR; have HN1 := hide hN1
     clear hA hAR hN1
     go_wp2_with (at_builtin; refine wpList_append_own_at _ rfl (.tmp 20) (.tmp 22) 31 rfl N 3 i0 (.int .i64 0) 1 8 Tryz.underlying31 hi hz0 hz1 hz2 rfl (by decide) (.slice la L lc) L (iv (nz q.wt)) rfl (unhide HAR) ⟨w3.heap.size, 0, none⟩ 1 1 [.int .i64 (b : Int)] rfl rfl (cell_one_new _ _ _) (one_ones _) ?d3 ?d4 ?d5 ?_)
     case d3 => have := unhide HLn; unfold maxLen; omega
     case d4 => have := unhide HLn; omega
     case d5 => have := unhide HN1; simp; omega
     intro v2 w2 hown hgrow _ hat
     obtain ⟨a2, cp2, rfl⟩ := own_slice hown
     obtain ⟨g1, g2, g3⟩ := (unhide HA).push (x := b) (by rw [nz_len, ← unhide HL]; exact hown) (by simp only [nz_len, ← unhide HL]; exact hgrow)
     have cc := cell_of_row w2 B8 0 _ _ _ g1
     have cf := frozen_of_row w2 B8 0 _ _ g1
     simp only [nz_len, ← unhide HL, List.getElem?_toArray, List.getElem?_cons_zero] at cc
     have HG2 := hide g2; have HB2 := hide ((Below.mono (Vc.one_alloc w3 (.cells #[.int .i64 (b : Int)] 3)) (unhide HN1)).trans g3)
     clear g1 g2 g3 hown hgrow hat HA HAR
     go_wp2_with fail
     go_roundw
     case rel => exact ⟨k + 1, by omega, by go_num, ⟨_, by rw [unhide HSt]; exact unhide HG2⟩, (unhide HB1).trans (unhide HB2)⟩
     case measure => simp [intOf]; omega
  ·obtain rfl : k = m := by omega
   have hfin : cs r s k = r.foldl come1 s := by rw [unhide HM, cs_all]
   rw [hfin] at hSk
   have HSk := hide hSk; have HBk := hide hbk
   clear hSk hbk hfin hlt hk
   go_wp2_with fail
   exact bodyPost_end (v := .tuple #[]) (by simp [results, Tryz.results76, go_sem]) rfl ⟨rfl, ⟨_, unhide HSk⟩, unhide HBk⟩
/- flow: the blocks of a loop, whole. -/
theorem infoB : (Tryz.prog.info? 4).map (fun i => (i.zero, i.size, i.bytes)) = some (some (.bool false), 1, 1) := by kernel_rfl
theorem Ro.cut {w : World} {N n c : Nat} {a : Option Addr} {l : List Int} (h : Ro w N (.slice a n c) l) {k : Nat} (hk : k ≤ l.length) : Ro w N (.slice a k c) (l.take k) := by
 have e : (l.take k).length = k := by rw [List.length_take]; omega
 refine ⟨by rw [iv_len]; simp, ?_⟩
 rw [e]
 rcases h.2 with ⟨e1, e2⟩ | ⟨g, cap, cur, e1, e2, e3, e4, e5, e6, e7⟩
 ·cases e1; exact .inl ⟨by rw [show k = 0 by omega], by omega⟩
 ·simp only [Value.slice.injEq] at e1
  obtain ⟨rfl, rfl, rfl⟩ := e1
  refine .inr ⟨g, c, cur, rfl, e2, e3, by omega, e5, e6, ?_⟩
  have : cur.toList.take (k * 1) = (cur.toList.take (l.length * 1)).take k := by rw [List.take_take]; congr 1; omega
  rw [this, e7]; simp [iv, List.map_take]
theorem Sb.cut {w : World} {N B7 B8 gi n L c : Nat} {a : Option Addr} {s : Sp} (h : Sb w N B7 B8 gi n (.slice a L c) s) (k : Nat) (hk : k ≤ s.wt.length) : Sb (w.setCell ⟨B8, 0, none⟩ (.slice a k c)) N B7 B8 gi n (.slice a k c) ⟨s.inn, s.wt.take k⟩ ∧ Below N w (w.setCell ⟨B8, 0, none⟩ (.slice a k c)) := by
 have o : ∀ j, j ≠ B8 → (w.setCell ⟨B8, 0, none⟩ (.slice a k c)).heap[j]? = w.heap[j]? := fun j hj => heap_setCell_other w ⟨B8, 0, none⟩ j _ hj
 have hr : Ro w N (.slice a k c) (nz (s.wt.take k)) := by
  have := h.row.cut (k := k) (by rw [nz_len]; exact hk)
  rw [show nz (s.wt.take k) = (nz s.wt).take k by simp [nz, List.map_take]]; exact this
 exact ⟨⟨(o _ (blocks_ne h.b7 h.b8 (by decide))).trans h.b7, (o _ (blocks_ne h.bi h.b8 (by decide))).trans h.bi, (heap_setCell_same w B8 0 _ _ _ h.b8).trans rfl, hr.keep fun j hj => o j (row_ne h.b8 (by decide) hr j hj).1, h.n7, h.n8, h.ni⟩, (Below.refl _ _).setCell (p := ⟨B8, 0, none⟩) h.n8 _⟩
def flt (p : Nat → Bool) (k : Nat) : List Nat := (List.range k).filter p
theorem flt_succ (p : Nat → Bool) (k : Nat) : flt p (k + 1) = if p k = true then flt p k ++ [k] else flt p k := by
 unfold flt; rw [List.range_succ, List.filter_append]
 cases h : p k <;> simp [h]
theorem flt_len (p : Nat → Bool) (k : Nat) : (flt p k).length ≤ k := by unfold flt; exact Nat.le_trans (List.length_filter_le _ _) (by simp)
theorem around_any {n : Nat} (hn : n ≤ 1048576) (ah : List (List Nat)) (hA : AhO n ah) (hAl : ∀ b, (ah.getD b []).length ≤ 2097152) (h : Nat) (hh : h < n) (bg : List Nat) (hb : ∀ x ∈ bg, x < n) (hbl : bg.length ≤ 1099511627776) (vg va : Value) (w : World) (hv : NumsL w (fun k => k < w.heap.size) (nz bg) vg) (ha : Rws w (fun k => k < w.heap.size) ah va) :
    Calls Tryz.prog 50 #[.int .i64 (h : Int), vg, va] w fun e w' => ∃ v, e = .returned v ∧ Ro w' w.heap.size v (nz (around ah h bg)) ∧ Below w.heap.size w w' := by
 obtain ⟨ga, gc, rfl, -, -, -⟩ := id hv
 obtain ⟨aa, ac, rfl, -, -, -⟩ := id ha
 obtain ⟨i0, hi, hz0, hz1, hz2⟩ := info_parts infoN
 obtain ⟨ib, hib, hb0, hb1, hb2⟩ := info_parts infoB
 have hal : ah.length = n := hA.len
 have hmk := fun wx => run_make (P := Tryz.prog) wx 126 4 ib (.bool false) Tryz.underlying126 hib hb0 .i64 .i64 (n : Int) (n : Int) (by omega) (by omega) (by rw [hb2]; omega) (by omega)
 rw [hb1] at hmk
 simp only [Int.toNat_natCast, Nat.mul_one] at hmk
 rw [show (Value.bool false).cells = #[Value.bool false] from rfl] at hmk
 have hmade : madeCells #[Value.bool false] n = (bv (List.replicate n false)).toArray := by
  apply Array.ext'
  rw [toList_madeCells_one]; simp [bv]
 rw [hmade] at hmk
 obtain ⟨X, hX⟩ : ∃ X, X = (w.alloc (.cells (bv (List.replicate n false)).toArray 4)).alloc (.cells #[.slice (some ⟨w.heap.size, 0, none⟩) n n] 126) := ⟨_, rfl⟩
 have hXb : Below w.heap.size w X := by rw [hX]; exact Vc.two_allocs w _ _
 have hXz : X.heap.size = w.heap.size + 2 := by rw [hX]; simp
 have hX7 : X.heap[w.heap.size + 1]? = some (.cells #[.slice (some ⟨w.heap.size, 0, none⟩) n n] 126 (0, 0)) := by
  have := heap_alloc_new (w.alloc (.cells (bv (List.replicate n false)).toArray 4)) (.cells #[.slice (some ⟨w.heap.size, 0, none⟩) n n] 126)
  rw [hX]; rwa [show (w.alloc (.cells (bv (List.replicate n false)).toArray 4)).heap.size = w.heap.size + 1 by simp] at this
 have hXi : X.heap[w.heap.size]? = some (.cells (bv (List.replicate n false)).toArray 4 (0, 0)) := by
  rw [hX, Below.heap_alloc _ _ _ (by simp)]; exact heap_alloc_new _ _
 obtain ⟨Y, hY⟩ : ∃ Y, Y = (X.setCell ⟨w.heap.size, h, none⟩ (.bool true)).alloc (.cells #[.slice none 0 0] 31) := ⟨_, rfl⟩
 have hYS : Sb Y w.heap.size (w.heap.size + 1) (w.heap.size + 2) w.heap.size n (.slice none 0 0) (lay n h) ∧ Below w.heap.size w Y := by
  have hs : (X.setCell ⟨w.heap.size, h, none⟩ (.bool true)).heap.size = w.heap.size + 2 := by simp [hXz]
  have hal1 := Vc.one_alloc (X.setCell ⟨w.heap.size, h, none⟩ (.bool true)) (.cells #[.slice none 0 0] 31)
  have hnew := heap_alloc_new (X.setCell ⟨w.heap.size, h, none⟩ (.bool true)) (.cells #[.slice none 0 0] 31)
  rw [hs] at hnew
  rw [← hY] at hal1 hnew
  refine ⟨⟨?_, ?_, hnew, World.ownsRow_nil _ _ _ _, by omega, by omega, Nat.le_refl _⟩, (hXb.setCell (p := ⟨w.heap.size, h, none⟩) (Nat.le_refl _) _).trans (hal1.mono (by omega))⟩
  ·rw [hal1.block _ (by omega), heap_setCell_other X ⟨w.heap.size, h, none⟩ _ _ (by show w.heap.size + 1 ≠ w.heap.size; omega)]; exact hX7
  ·rw [hal1.block _ (by omega), heap_setCell_same X w.heap.size h _ _ _ hXi, bv_set]; rfl
 obtain ⟨hYS, hYb⟩ := hYS
 have x1 : X.cell? ⟨w.heap.size + 1, 0, none⟩ = some (.slice (some ⟨w.heap.size, 0, none⟩) n n) := by rw [cell_of_row X _ 0 _ _ _ hX7]; rfl
 have x2 : X.cell? ⟨w.heap.size, h, none⟩ = some (.bool false) := by
  rw [cell_of_row X _ h _ _ _ hXi, List.getElem?_toArray, bv_at _ _ (by simpa using hh), getD_get _ _ _ (by simpa using hh)]; simp
 have x2f := frozen_of_row X w.heap.size h _ _ hXi
 have hcome := come_any hn bg hb hbl (lay n h) (lay_inv n h) w.heap.size (w.heap.size + 1) (w.heap.size + 2) w.heap.size (.slice ga (nz bg).length gc) (.slice none 0 0) Y (nums_on hv hYb) hYS
 obtain ⟨hI1, hl1⟩ := comes_inv bg (lay_inv n h) hb
 obtain ⟨s1, hs1⟩ : ∃ s1, s1 = bg.foldl come1 (lay n h) := ⟨_, rfl⟩
 rw [← hs1] at hcome hI1 hl1
 have hni : (n : Int) ≤ 1048576 := by omega
 have hhi : (h : Int) < (n : Int) := by omega
 have ha' := ha
 rw [hal] at ha' ⊢
 have HA := hide hA; have HAl := hide hAl; have HAh := hide ha'; have HCo := hide hcome; have HI1 := hide hI1; have HS1 := hide hs1; have HYb := hide hYb; have HXz := hide hXz; have HN := hide hn; have HAL := hide hal
 clear hA hAl ha ha' hcome hI1 hl1 hs1 hYb hXb hX7 hXi hYS hmade hn hh hb hbl hv hal
 go_enter Tryz.func50, Tryz.ntmps50
 go_upto_region 2 with fail
 rw [show (w.alloc (.cells (bv (List.replicate n false)).toArray 4)).alloc (.cells #[.slice (some ⟨w.heap.size, 0, none⟩) n n] 126) = X from hX.symm]
 clear hX
 go_upto_region 4 with fail
 rw [show (X.setCell ⟨w.heap.size, h, none⟩ (.bool true)).alloc (.cells #[.slice none 0 0] 31) = Y from hY.symm]
 clear hY x1 x2 x2f
 have hmf : ∀ (fn : Fn) (first cap : Array Value) (w : World), (Instr.makeFunc fn first cap).run Tryz.prog w = .ok (.func fn first cap) w := fun _ _ _ _ => rfl
 go_upto_region 6 with (go_at_call 76; refine (unhide HCo).mono ?_; rintro e w1 ⟨rfl, ⟨vw, hS⟩, hb1⟩; have HS := hide hS; have HB1 := hide hb1; clear hS hb1)
 clear HCo
 have hstart : Below w.heap.size w w1 := (unhide HYb).trans (unhide HB1)
 have HSt := hide hstart
 clear hstart
 go_loopg [] (n + 1) (fun f wq => ∃ s2 : Sp, SpI n s2 ∧ s2.left ≤ f ∧ spread ah f s2 = spread ah (n + 1) s1 ∧ SbE wq w.heap.size (w.heap.size + 1) (w.heap.size + 2) w.heap.size n s2 ∧ Below w.heap.size w wq)
 case atStart => exact ⟨s1, unhide HI1, by have := (unhide HI1).ct; unfold Sp.left; omega, rfl, ⟨vw, unhide HS⟩, unhide HSt⟩
 case round =>
  obtain ⟨s2, hI2, hl2, hsp, ⟨v2, hS2⟩, hb2⟩ := hrel
  generalize wr = wq at *
  obtain ⟨c7, c8, c8f, ci⟩ := hS2.cells
  obtain ⟨la, lc, rfl, -⟩ := hS2.row.sl
  rw [nz_len] at c8 hS2
  obtain ⟨L, hL⟩ : ∃ L, L = s2.wt.length := ⟨_, rfl⟩
  have hLn : L ≤ n := by have := hI2.ct; omega
  rw [← hL] at c8 hS2
  by_cases hw : s2.wt = []
  ·have hL0 : L = 0 := by rw [hL, hw]; rfl
   subst hL0
   rw [spread_none ah gk s2 hw] at hsp
   have HSp := hide hsp; have HS2 := hide hS2; have HB2 := hide hb2; have HI2 := hide hI2
   clear hsp hS2 hb2 hI2 ci hL hw hl2 HS HSt hLn
   obtain ⟨pr, hpr⟩ : ∃ pr : Nat → Bool, pr = fun b => s2.inn.getD b false := ⟨_, rfl⟩
   have hfin : flt pr n = around ah h bg := by unfold flt around; rw [unhide HAL, ← unhide HS1, ← unhide HSp, hpr]
   have HFin := hide hfin; have HPr := hide hpr
   clear hfin hpr
   go_wp2_with fail
   clear c7 c8 c8f
   go_loopw [11, 45] (fun vo c wt => ∃ k : Nat, k ≤ n ∧ c = .int .i64 (k : Int) ∧ Ro wt w.heap.size vo (nz (flt pr k)) ∧ wt.heap[w.heap.size + 1]? = some (.cells #[.slice (some ⟨w.heap.size, 0, none⟩) n n] 126 (0, 0)) ∧ wt.heap[w.heap.size]? = some (.cells (bv s2.inn).toArray 4 (0, 0)) ∧ Below w.heap.size w wt) (fun _ c _ => n - (intOf c).toNat)
   case atStart => exact ⟨0, Nat.zero_le _, rfl, World.ownsRow_nil _ _ _ _, (unhide HS2).b7, (unhide HS2).bi, unhide HB2⟩
   case round =>
    generalize wr = wt at *
    obtain ⟨k, hk, rfl, hRo, h7, hbi, hbt⟩ := hrel
    by_cases hlt : k < n
    ·have y1 : wt.cell? ⟨w.heap.size + 1, 0, none⟩ = some (.slice (some ⟨w.heap.size, 0, none⟩) n n) := by rw [cell_of_row wt _ 0 _ _ _ h7]; rfl
     have y2 : wt.cell? ⟨w.heap.size, k, none⟩ = some (.bool (pr k)) := by rw [cell_of_row wt _ k _ _ _ hbi, List.getElem?_toArray, bv_at _ _ (by rw [(unhide HI2).len]; exact hlt), unhide HPr]
     have hfs := flt_succ pr k
     have hki : (k : Int) < (n : Int) := by omega
     have hfl := flt_len pr k
     obtain ⟨L, hL⟩ : ∃ L, L = (flt pr k).length := ⟨_, rfl⟩
     have hsl : ∃ oa oc, u11 = .slice oa L oc := by obtain ⟨oa, oc, e, -⟩ := hRo.sl; rw [nz_len, ← hL] at e; exact ⟨oa, oc, e⟩
     obtain ⟨oa, oc, rfl⟩ := hsl
     cases hp : pr k with
     | false =>
       rw [hp] at y2 hfs
       have hfs' : flt pr (k + 1) = flt pr k := hfs
       have HFs := hide hfs'; have HRo := hide hRo; have H7 := hide h7; have HBi := hide hbi; have HBt := hide hbt
       clear hfs hfs' hRo h7 hbi hbt hL hfl
       go_wp2_with fail
       go_roundw
       case rel => exact ⟨k + 1, by omega, by go_num, by rw [unhide HFs]; exact unhide HRo, unhide H7, unhide HBi, unhide HBt⟩
       case measure => simp [intOf]; omega
     | true =>
       rw [hp] at y2 hfs
       have hfs' : flt pr (k + 1) = flt pr k ++ [k] := hfs
       have hA := hRo.below (Vc.one_alloc wt (.cells #[.int .i64 (k : Int)] 3))
       have hAR : (wt.alloc (.cells #[.int .i64 (k : Int)] 3)).ownsRow w.heap.size 3 1 (.slice oa L oc) L (iv (nz (flt pr k))) := by have := hA; unfold Ro at this; rw [nz_len, ← hL] at this; exact this
       have HFs := hide hfs'; have HAR := hide hAR; have HRo := hide hRo; have H7 := hide h7; have HBi := hide hbi; have HBt := hide hbt; have HL := hide hL; have HFl := hide hfl
       clear hfs hfs' hRo h7 hbi hbt hL hfl hA hAR
       go_wp2_with (at_builtin; refine wpList_append_own_at _ rfl (.tmp 52) (.tmp 54) 31 rfl w.heap.size 3 i0 (.int .i64 0) 1 8 Tryz.underlying31 hi hz0 hz1 hz2 rfl (by decide) (.slice oa L oc) L (iv (nz (flt pr k))) rfl (unhide HAR) ⟨wt.heap.size, 0, none⟩ 1 1 [.int .i64 (k : Int)] rfl rfl (cell_one_new _ _ _) (one_ones _) ?d3 ?d4 ?d5 ?_)
       case d3 => have := unhide HFl; have := unhide HL; have := unhide HN; unfold maxLen; omega
       case d4 => have := unhide HFl; have := unhide HL; have := unhide HN; omega
       case d5 => have := (unhide HBt).size; simp; omega
       intro v2 w2 hown hgrow _ hat
       have hlt7 := (Array.getElem?_eq_some_iff.1 (unhide H7)).1
       have hlti := (Array.getElem?_eq_some_iff.1 (unhide HBi)).1
       have hal2 := Vc.one_alloc wt (.cells #[.int .i64 (k : Int)] 3)
       have hRA : Ro (wt.alloc (.cells #[.int .i64 (k : Int)] 3)) w.heap.size (.slice oa L oc) (nz (flt pr k)) := by unfold Ro; rw [nz_len, ← unhide HL]; exact unhide HAR
       have k7 := (hal2.block _ hlt7).trans (unhide H7)
       have ki := (hal2.block _ hlti).trans (unhide HBi)
       have g7 := (hgrow.block _ (by simp; omega) (fun e => (row_ne k7 (by decide) hRA _ e.symm).1 rfl)).trans k7
       have gi := (hgrow.block _ (by simp; omega) (fun e => (row_ne ki (by decide) hRA _ e.symm).1 rfl)).trans ki
       have hro2 : Ro w2 w.heap.size v2 (nz (flt pr k ++ [k])) := by unfold Ro; rw [nz_app, iv_app, List.length_append, nz_len, ← unhide HL]; exact hown
       have hb2 : Below w.heap.size w w2 := ((unhide HBt).trans (hal2.mono (unhide HBt).size)).grown hgrow (by simp; have := (unhide HBt).size; omega) (fun j e => (row_ne k7 (by decide) hRA _ e).2.2)
       have HRo2 := hide hro2; have HG7 := hide g7; have HGi := hide gi; have HB2 := hide hb2
       clear hown hgrow hat hlt7 hlti hal2 hRA k7 ki g7 gi hro2 hb2 HAR HRo
       go_wp2_with fail
       go_roundw
       case rel => exact ⟨k + 1, by omega, by go_num, by rw [unhide HFs]; exact unhide HRo2, unhide HG7, unhide HGi, unhide HB2⟩
       case measure => simp [intOf]; omega
    ·obtain rfl : k = n := by omega
     rw [unhide HFin] at hRo
     have HRo := hide hRo; have HBt := hide hbt
     clear hRo hbt h7 hbi hlt hk
     go_wp2_with fail
     go_ret
     exact ⟨_, rfl, unhide HRo, unhide HBt⟩
  ·obtain ⟨p, hp⟩ : ∃ p, L = p + 1 := ⟨L - 1, by have := List.length_pos_iff.2 hw; omega⟩
   subst hp
   have hpl : p < s2.wt.length := by omega
   have hpm : s2.wt.length - 1 = p := by omega
   obtain ⟨b, hb⟩ : ∃ b, b = s2.wt.getD p 0 := ⟨_, rfl⟩
   have hbn : b < n := by rw [hb]; exact hI2.lt _ (getD_mem _ _ _ hpl)
   obtain ⟨g', cp', e, -, -, hrc, -, hcp⟩ := hS2.row.at_ (by rw [nz_len]; omega)
   have x1 := hrc p (by rw [nz_len]; exact hpl)
   rw [nz_getD _ _ hpl, ← hb] at x1
   simp only [Value.slice.injEq] at e
   obtain ⟨rfl, -, rfl⟩ := e
   have hpc : p ≤ lc := by rw [nz_len] at hcp; omega
   clear hcp
   have hge : 1 ≤ s2.left := by unfold Sp.left; omega
   obtain ⟨f, rfl⟩ : ∃ f, gk = f + 1 := ⟨gk - 1, by omega⟩
   rw [spread_some ah f s2 hw, hpm, ← hb] at hsp
   obtain ⟨k1, k2⟩ := pop_inv hI2 hw
   rw [hpm] at k1 k2
   obtain ⟨row, hrow⟩ : ∃ row, row = ah.getD b [] := ⟨_, rfl⟩
   have hrl : row.length ≤ 2097152 := by rw [hrow]; exact unhide HAl b
   have hrn : ∀ x ∈ row, x < n := fun x hx => (unhide HA).lt b x (by rw [← hrow]; exact hx)
   rw [← hrow] at hsp
   obtain ⟨m1, m2⟩ := comes_inv row k1 hrn
   obtain ⟨q1, q2⟩ := hS2.cut p (by omega)
   have hRw : Rws wq (fun k => k < w.heap.size) ah (.slice aa n ac) := (unhide HAh).moved (fun k _ hk => ⟨hk, hb2.block k hk⟩) hb2.size
   obtain ⟨Ba, oa, vr, haa, hBaN, -, x2, hnr⟩ := hRw.at_ (i := b) (by rw [unhide HAL]; exact hbn)
   subst haa
   obtain ⟨ra, rc, rfl, -, -, -⟩ := id hnr
   have hb3 := hb2.trans q2
   have hnr3 := nums_via hnr hb2 hb3
   obtain ⟨m, hm⟩ : ∃ m, m = row.length := ⟨_, rfl⟩
   rw [← hrow, nz_len, ← hm] at x2 hnr3
   have hcome := come_any (unhide HN) row hrn (by omega) _ k1 w.heap.size (w.heap.size + 1) (w.heap.size + 2) w.heap.size _ _ _ hnr3 q1
   have x2' : (wq.setCell ⟨w.heap.size + 2, 0, none⟩ (.slice (some ⟨g', 0, none⟩) p lc)).cell? ⟨Ba, oa + b, none⟩ = some (.slice ra m rc) := by
    rw [World.cell?_setCell_other _ _ _ _ (by intro e; injection e with e1; omega)]; exact x2
   have hbi : (b : Int) < (n : Int) := by omega
   have hpi : (p : Int) ≤ 1048576 := by have := unhide HN; omega
   have HSp := hide hsp; have HM1 := hide m1; have HM2 := hide m2; have HK2 := hide k2; have HCo := hide hcome; have HB3 := hide hb3; have HL2 := hide hl2
   clear hsp m1 m2 k1 k2 hcome hb3 hb2 hS2 hI2 hrc hRw hnr hnr3 q1 q2 hL hw hpl hpm hb hbn ci hl2 hLn HS HSt hge hrow hrl hrn hm
   go_upto_region 9 with fail
   generalize wq.setCell ⟨w.heap.size + 2, 0, none⟩ (.slice (some ⟨g', 0, none⟩) p lc) = w3 at *
   clear x1 x2 c7 c8 c8f
   go_wp2_with (go_at_call 76; refine (unhide HCo).mono ?_; rintro e w4 ⟨rfl, hS4, hb4⟩; have HS4 := hide hS4; have HB4 := hide hb4; clear hS4 hb4)
   go_roundg f
   case measure => omega
   case rel => exact ⟨_, unhide HM1, by have := unhide HM2; have := unhide HK2; have := unhide HL2; omega, unhide HSp, unhide HS4, (unhide HB3).trans (unhide HB4)⟩
end Fw
end Go.Proofs.YtglehoekehiaiaaGreatDoor
