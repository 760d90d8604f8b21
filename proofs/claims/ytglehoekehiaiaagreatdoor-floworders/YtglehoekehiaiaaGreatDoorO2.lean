/- O2: what follows, part by part: each part tells what it holds. -/
import Derived.Test.YtglehoekehiaiaaGreatDoorO1
import Derived.Test.YtglehoekehiaiaaGreatDoorK17
namespace Go.Proofs.YtglehoekehiaiaaGreatDoor
open Go.RowKit
set_option linter.unusedVariables false
set_option linter.unusedSimpArgs false
set_option maxRecDepth 100000
set_option maxHeartbeats 32000000
namespace Fw
/- flow: the document's walk, in plain words; it is the program's. -/
/-- into a block: those that were gone into, those that were left -/
def wk (nx : List (List Nat)) : Nat → Nat → List Nat × List Nat → List Nat × List Nat
 | 0, _, s => s
 | f + 1, b, s =>
   let s2 := (nx.getD b []).foldl (fun q n => if n ∈ q.1 then q else wk nx f n q) (s.1 ++ [b], s.2)
   (s2.1, s2.2 ++ [b])
def wkw (nx : List (List Nat)) (f : Nat) (q : List Nat × List Nat) (n : Nat) : List Nat × List Nat := if n ∈ q.1 then q else wk nx f n q
theorem wk_succ (nx : List (List Nat)) (f b : Nat) (s : List Nat × List Nat) : wk nx (f + 1) b s = (((nx.getD b []).foldl (wkw nx f) (s.1 ++ [b], s.2)).1, ((nx.getD b []).foldl (wkw nx f) (s.1 ++ [b], s.2)).2 ++ [b]) := rfl
theorem go_wk (nx : List (List Nat)) (hn : In nx) : ∀ f b p s, Mk nx.length s → b < nx.length → s.tn.getD b 0 = -1 → ((go nx f b p s).ent, (go nx f b p s).lf) = wk nx f b (s.ent, s.lf) := by
 intro f
 induction f with
 | zero => intro b p s h _ _; rfl
 | succ f ih =>
   intro b p s h hb ht
   have key : ∀ l : List Nat, (∀ x ∈ l, x < nx.length) → ∀ q, Mk nx.length q → ((l.foldl (way nx f (s.ent.length : Int)) q).ent, (l.foldl (way nx f (s.ent.length : Int)) q).lf) = l.foldl (wkw nx f) (q.ent, q.lf) := by
    intro l
    induction l with
    | nil => intro _ q hq; rfl
    | cons x r ihl =>
      intro hx q hq
      simp only [List.foldl_cons]
      have hxs := hx x (List.mem_cons_self ..)
      have h1 : ((way nx f (s.ent.length : Int) q x).ent, (way nx f (s.ent.length : Int) q x).lf) = wkw nx f (q.ent, q.lf) x ∧ Mk nx.length (way nx f (s.ent.length : Int) q x) := by
       unfold way wkw
       split
       ·rename_i hxt
        have hni := (hq.iff x hxs).1 hxt
        rw [if_neg hni]
        exact ⟨ih x _ q hq hxs hxt, (go_wo nx hn f x _ q hq hxs hxt).2⟩
       ·rename_i hne
        have hin : x ∈ q.ent := by
         by_cases hm : x ∈ q.ent
         ·exact hm
         ·exact absurd ((hq.iff x hxs).2 hm) hne
        rw [if_pos hin]
        exact ⟨rfl, hq⟩
      rw [← h1.1]
      exact ihl (fun y hy => hx y (List.mem_cons_of_mem _ hy)) _ h1.2
   have k := key (nx.getD b []) (hn b) (mark s b p) (h.mark hb p)
   rw [go_succ, wk_succ]
   rw [show ((s.ent, s.lf).1 ++ [b], (s.ent, s.lf).2) = ((mark s b p).ent, (mark s b p).lf) from rfl, ← k]
theorem walk_wk {nx : List (List Nat)} (hn : In nx) (h1 : 0 < nx.length) : (walk nx).lf = (wk nx nx.length 0 ([], [])).2 := by
 have := go_wk nx hn nx.length 0 (-1) (start nx.length) (Mk.start _) h1 (by simp only [start]; rw [getD_get _ _ _ (by simpa using h1)]; simp)
 exact congrArg Prod.snd this
/-- what the document's walk leaves -/
structure Wn (nx : List (List Nat)) (s s' : List Nat × List Nat) : Prop where
 nd : s'.1.Nodup
 lt : ∀ x ∈ s'.1, x < nx.length
 lo : ∀ x ∈ s'.2, x < nx.length
 le : s.1.length ≤ s'.1.length
 ll : s'.2.length + s.1.length ≤ s.2.length + s'.1.length
theorem Wn.refl {nx : List (List Nat)} {s : List Nat × List Nat} (h1 : s.1.Nodup) (h2 : ∀ x ∈ s.1, x < nx.length) (h3 : ∀ x ∈ s.2, x < nx.length) : Wn nx s s := ⟨h1, h2, h3, Nat.le_refl _, Nat.le_refl _⟩
theorem Wn.trans {nx : List (List Nat)} {s q r : List Nat × List Nat} (h : Wn nx s q) (k : Wn nx q r) : Wn nx s r := ⟨k.nd, k.lt, k.lo, Nat.le_trans h.le k.le, by have := h.ll; have := k.ll; omega⟩
theorem wk_wn (nx : List (List Nat)) (hn : In nx) : ∀ f b s, s.1.Nodup → (∀ x ∈ s.1, x < nx.length) → (∀ x ∈ s.2, x < nx.length) → b < nx.length → b ∉ s.1 → Wn nx s (wk nx f b s) := by
 intro f
 induction f with
 | zero => intro b s h1 h2 h3 hb hm; exact Wn.refl h1 h2 h3
 | succ f ih =>
   intro b s h1 h2 h3 hb hm
   have key : ∀ l : List Nat, (∀ x ∈ l, x < nx.length) → ∀ q : List Nat × List Nat, q.1.Nodup → (∀ x ∈ q.1, x < nx.length) → (∀ x ∈ q.2, x < nx.length) → Wn nx q (l.foldl (wkw nx f) q) := by
    intro l
    induction l with
    | nil => intro _ q h1 h2 h3; exact Wn.refl h1 h2 h3
    | cons x r ihl =>
      intro hx q h1 h2 h3
      simp only [List.foldl_cons]
      have hw : Wn nx q (wkw nx f q x) := by
       unfold wkw
       split
       ·exact Wn.refl h1 h2 h3
       ·exact ih x q h1 h2 h3 (hx x (List.mem_cons_self ..)) (by assumption)
      exact hw.trans (ihl (fun y hy => hx y (List.mem_cons_of_mem _ hy)) _ hw.nd hw.lt hw.lo)
   have hd1 : (s.1 ++ [b]).Nodup := by
    rw [List.nodup_append]
    exact ⟨h1, by simp, fun x hx y hy => by rw [List.mem_singleton] at hy; subst hy; exact fun e => hm (e ▸ hx)⟩
   have hi1 : ∀ x ∈ s.1 ++ [b], x < nx.length := fun x hx => by
    rcases List.mem_append.1 hx with h | h
    ·exact h2 x h
    ·rw [List.mem_singleton] at h; subst h; exact hb
   have k := key (nx.getD b []) (hn b) (s.1 ++ [b], s.2) hd1 hi1 h3
   rw [wk_succ]
   refine ⟨k.nd, k.lt, fun x hx => ?_, ?_, ?_⟩
   ·rcases List.mem_append.1 hx with h | h
    ·exact k.lo x h
    ·rw [List.mem_singleton] at h; subst h; exact hb
   ·have := k.le; simp only [List.length_append, List.length_singleton] at this ⊢; omega
   ·have h9 := k.ll; simp only [List.length_append, List.length_singleton] at h9 ⊢; omega
theorem wkw_wn (nx : List (List Nat)) (hn : In nx) (f : Nat) : ∀ l : List Nat, (∀ x ∈ l, x < nx.length) → ∀ q : List Nat × List Nat, q.1.Nodup → (∀ x ∈ q.1, x < nx.length) → (∀ x ∈ q.2, x < nx.length) → Wn nx q (l.foldl (wkw nx f) q) := by
 intro l
 induction l with
 | nil => intro _ q h1 h2 h3; exact Wn.refl h1 h2 h3
 | cons x r ihl =>
   intro hx q h1 h2 h3
   simp only [List.foldl_cons]
   have hw : Wn nx q (wkw nx f q x) := by
    unfold wkw
    split
    ·exact Wn.refl h1 h2 h3
    ·exact wk_wn nx hn f x q h1 h2 h3 (hx x (List.mem_cons_self ..)) (by assumption)
   exact hw.trans (ihl (fun y hy => hx y (List.mem_cons_of_mem _ hy)) _ hw.nd hw.lt hw.lo)
end Fw
namespace Fw
open Vc (NumsL Nums Lies LL Bls BlC InC Bl Co infoN infoBl own_base RowT cob cob_cells)
/- the document's without, whatever block it goes round; IsOver. By mkfza.py. -/
theorem wo_at (nx : List (List Nat)) (no : Int) (f b : Nat) (i : List Nat) (hn : (b : Int) = no) : wo nx no f b i = i := by
 cases f with
 | zero => rfl
 | succ f => unfold wo; rw [if_pos (.inl hn)]
theorem wo_outn (nx : List (List Nat)) (no : Int) (f b : Nat) (i : List Nat) (hn : (b : Int) ≠ no) (h : b ∉ i) : wo nx no (f + 1) b i = (nx.getD b []).foldl (fun i x => wo nx no f x i) (i ++ [b]) := by
 conv => lhs; unfold wo
 rw [if_neg (by rintro (h2 | h2); exact hn h2; exact h h2)]
theorem fold_cn (nx : List (List Nat)) (hn : In nx) (no : Int) (f : Nat) : ∀ r : List Nat, (∀ x ∈ r, x < nx.length) → ∀ q : List Nat, q.Nodup → (∀ x ∈ q, x < nx.length) → nx.length ≤ q.length + f → Cn nx no q (r.foldl (fun i x => wo nx no f x i) q) := by
 intro r
 induction r with
 | nil => intro _ q h1 h2 _; exact ⟨fun x h => h, h1, h2, Nat.le_refl _, fun x h => .inl h⟩
 | cons x r ih =>
   intro hx q h1 h2 h3
   simp only [List.foldl_cons]
   have k1 := (wo_cn nx hn no f x q h1 h2 (hx x (List.mem_cons_self ..)) h3).1
   have k3 := ih (fun y hy => hx y (List.mem_cons_of_mem _ hy)) _ k1.nd k1.lt (by have := k1.le; omega)
   refine ⟨fun y hy => k3.sub y (k1.sub y hy), k3.nd, k3.lt, Nat.le_trans k1.le k3.le, fun y hy => ?_⟩
   rcases k3.cl y hy with h | h
   ·rcases k1.cl y h with h5 | h5
    ·exact .inl h5
    ·exact .inr fun z hz hzn => k3.sub z (h5 z hz hzn)
   ·exact .inr h
theorem withoutn_at (no : Int) (l : List Bl) (N : Nat) (pa re : Int) (rs : Bool) (va : Option Addr) (vc : Nat) (b : Nat) (i : List Nat) (v : Value) (w : World) (hno : (b : Int) = no) (hR : Ro w N v (nz i)) (f : Nat) :
    Calls Tryz.prog 39 #[.agg #[.int .i64 pa, .int .i64 re, .bool rs, .slice va l.length vc], v, .int .i64 (b : Int), .int .i64 no] w fun e w' => ∃ v', e = .returned v' ∧ Ro w' N v' (nz (wo (nxs l) no f b i)) ∧ Gf v.ownBlock w w' ∧ Ow v.ownBlock w v' := by
 obtain ⟨n, hn⟩ : ∃ n, n = l.length := ⟨_, rfl⟩
 obtain ⟨ra, rc, rfl, hrc⟩ := hR.sl
 have hX := Vc.one_alloc w (.cells (cob pa re rs (.slice va l.length vc)) 24)
 rw [wo_at _ _ _ _ _ hno]
 have hbb : ((b : Int) == no) = true := by simpa using hno
 have HR := hide (hR.below hX); have HX := hide hX
 clear hR hX hrc hno
 go_enter Tryz.func39, Tryz.ntmps39
 go_wp2_with fail
 go_ret
 exact ⟨_, rfl, unhide HR, Gf.of (unhide HX), .inl rfl⟩
theorem withoutn_in (no : Int) (l : List Bl) (hc : Nok l) (N : Nat) (pa re : Int) (rs : Bool) (va : Option Addr) (vc : Nat) (b : Nat) (i : List Nat) (v : Value) (w : World) (hb : b < l.length) (hd : i.Nodup) (hi : ∀ x ∈ i, x < l.length) (hm : b ∈ i) (hno : (b : Int) ≠ no) (hR : Ro w N v (nz i)) (f : Nat) :
    Calls Tryz.prog 39 #[.agg #[.int .i64 pa, .int .i64 re, .bool rs, .slice va l.length vc], v, .int .i64 (b : Int), .int .i64 no] w fun e w' => ∃ v', e = .returned v' ∧ Ro w' N v' (nz (wo (nxs l) no f b i)) ∧ Gf v.ownBlock w w' ∧ Ow v.ownBlock w v' := by
    obtain ⟨n, hn⟩ : ∃ n, n = l.length := ⟨_, rfl⟩
    have hlen := hc.len
    have hni : (n : Int) ≤ 1048576 := by omega
    obtain ⟨ra, rc, rfl, hrc⟩ := hR.sl
    have hil := nodup_le l.length i hd hi
    have hX := Vc.one_alloc w (.cells (cob pa re rs (.slice va l.length vc)) 24)
    have hrow := heap_alloc_new w (.cells (cob pa re rs (.slice va l.length vc)) 24)
    have hbb : ((b : Int) == no) = false := by simpa using hno
    have hbn : (b : Int) < (n : Int) := by omega
    have hhas := has_any (nz i) (b : Int) (.slice ra (nz i).length rc) (w.alloc (.cells (cob pa re rs (.slice va l.length vc)) 24)) ((hR.below hX).nums.moved fun k _ hk => ⟨hk.2, rfl⟩) (by rw [nz_len]; omega)
    have hmem : decide ((b : Int) ∈ nz i) = decide (b ∈ i) := by
     refine decide_eq_decide.2 ?_
     unfold nz
     rw [List.mem_map]
     exact ⟨fun ⟨x, h1, h2⟩ => (show x = b by omega) ▸ h1, fun h => ⟨b, h, rfl⟩⟩
    rw [hmem] at hhas
    rw [decide_eq_true hm] at hhas
    rw [wo_in _ _ _ _ _ hm]
    have HHas := hide hhas; have HR := hide (hR.below hX); have HX := hide hX
    clear hhas hR hX hrow hmem hil hd hi hrc
    go_enter Tryz.func39, Tryz.ntmps39
    go_wp2_with (go_at_call 37; refine (unhide HHas).mono ?_; rintro e w1 ⟨rfl, rfl⟩)
    go_ret
    exact ⟨_, rfl, unhide HR, Gf.of (unhide HX), .inl rfl⟩
theorem withoutn_all (no : Int) (l : List Bl) (hc : Nok l) (N : Nat) (g : Nat → Prop) (hgN : ∀ k, g k → k < N) (pa re : Int) (rs : Bool) (va : Option Addr) (vc : Nat) :
    ∀ f b (i : List Nat) (v : Value) (w : World), b < l.length → i.Nodup → (∀ x ∈ i, x < l.length) → l.length ≤ i.length + f → N ≤ w.heap.size → Bls w g l (.slice va l.length vc) → Ro w N v (nz i) →
    Calls Tryz.prog 39 #[.agg #[.int .i64 pa, .int .i64 re, .bool rs, .slice va l.length vc], v, .int .i64 (b : Int), .int .i64 no] w fun e w' => ∃ v', e = .returned v' ∧ Ro w' N v' (nz (wo (nxs l) no f b i)) ∧ Gf v.ownBlock w w' ∧ Ow v.ownBlock w v' := by
 intro f
 obtain ⟨n, hn⟩ : ∃ n, n = l.length := ⟨_, rfl⟩
 have hlen := hc.len
 have hni : (n : Int) ≤ 1048576 := by omega
 induction f with
 | zero =>
   intro b i v w hb hd hi hl hN hB hR
   by_cases hno : (b : Int) = no
   ·exact withoutn_at no l N pa re rs va vc b i v w hno hR 0
   ·exact withoutn_in no l hc N pa re rs va vc b i v w hb hd hi (nodup_all hd hi (by omega) b hb) hno hR 0
 | succ f ih =>
   intro b i v w hb hd hi hl hN hB hR
   by_cases hno : (b : Int) = no
   ·exact withoutn_at no l N pa re rs va vc b i v w hno hR (f + 1)
   obtain ⟨ra, rc, rfl, hrc⟩ := hR.sl
   have hil := nodup_le l.length i hd hi
   have hX := Vc.one_alloc w (.cells (cob pa re rs (.slice va l.length vc)) 24)
   have hrow := heap_alloc_new w (.cells (cob pa re rs (.slice va l.length vc)) 24)
   have hbb : ((b : Int) == no) = false := by simpa using hno
   have hbn : (b : Int) < (n : Int) := by omega
   have hhas := has_any (nz i) (b : Int) (.slice ra (nz i).length rc) (w.alloc (.cells (cob pa re rs (.slice va l.length vc)) 24)) ((hR.below hX).nums.moved fun k _ hk => ⟨hk.2, rfl⟩) (by rw [nz_len]; omega)
   have hmem : decide ((b : Int) ∈ nz i) = decide (b ∈ i) := by
    refine decide_eq_decide.2 ?_
    unfold nz
    rw [List.mem_map]
    exact ⟨fun ⟨x, h1, h2⟩ => (show x = b by omega) ▸ h1, fun h => ⟨b, h, rfl⟩⟩
   rw [hmem] at hhas
   by_cases hm : b ∈ i
   ·exact withoutn_in no l hc N pa re rs va vc b i _ w hb hd hi hm hno hR (f + 1)
   ·rw [decide_eq_false hm] at hhas
    rw [wo_outn _ _ _ _ _ hno hm]
    obtain ⟨x, hx⟩ : ∃ x, l[b]? = some x := ⟨_, List.getElem?_eq_getElem hb⟩
    have hnx := nxs_at hx
    have hxl := hc.nlen x (List.mem_of_getElem? hx)
    obtain ⟨m, hmm⟩ : ∃ m, m = x.next.length := ⟨_, rfl⟩
    have hd1 : (i ++ [b]).Nodup := by
     rw [List.nodup_append]
     exact ⟨hd, by simp, fun z hz y hy => by rw [List.mem_singleton] at hy; rw [hy]; exact fun e => hm (e ▸ hz)⟩
    have hi1 : ∀ x ∈ i ++ [b], x < (nxs l).length := fun x hx => by
     rw [nxs_len]
     rcases List.mem_append.1 hx with h | h
     ·exact hi x h
     ·rw [List.mem_singleton] at h; subst h; exact hb
    have hnl : (nxs l).length ≤ (i ++ [b]).length + f := by rw [nxs_len, List.length_append, List.length_singleton]; omega
    have hin := hc.inn
    have hnb := hin b
    obtain ⟨r, hr⟩ : ∃ r, r = (nxs l).getD b [] := ⟨_, rfl⟩
    rw [← hr] at hnb ⊢
    have hcl : ∀ j, Cn (nxs l) no (i ++ [b]) ((r.take j).foldl (fun i x => wo (nxs l) no f x i) (i ++ [b])) := fun j => fold_cn _ hin no f _ (fun y hy => hnb y (List.mem_of_mem_take hy)) _ hd1 hi1 hnl
    have hrm : r.length = m := by rw [hr, hnx, List.length_map, hmm]
    have hRX := hR.below hX
    have hsz : (w.alloc (.cells (cob pa re rs (.slice va l.length vc)) 24)).heap.size = w.heap.size + 1 := by simp
    have HHas := hide hhas; have HRX := hide hRX; have HX := hide hX; have HRow := hide hrow; have HB := hide hB; have HN := hide hN; have HIh := hide ih; have HCl := hide hcl; have HXx := hide hx; have HMm := hide hmm; have HRm := hide hrm; have HR := hide hr; have HNx := hide hnx; have HC := hide hc; have HGN := hide hgN; have HSz := hide hsz; have HLn := hide hn; have HIl := hide hil; have HNl := hide hnl; have HNb := hide hnb; have HHn := hide hlen
    have hmi : (m : Int) ≤ 1048576 := by omega
    clear hhas hRX hX hrow hB hN ih hcl hx hmm hrm hr hnx hsz hil hnl hnb hd1 hi1 hin hmem hd hi hl hrc hR hxl hm
    go_enter Tryz.func39, Tryz.ntmps39
    go_upto_region 3 with (go_at_call 37; refine (unhide HHas).mono ?_; rintro e w1 ⟨rfl, rfl⟩)
    obtain ⟨X, hXe⟩ : ∃ X, X = w.alloc (.cells (cob pa re rs (.slice va l.length vc)) 24) := ⟨_, rfl⟩
    rw [← hXe] at HRX HX HRow HSz
    rw [← hXe]
    clear hXe HHas
    go_upto_region 4 with (at_builtin
                           refine wpList_push ((unhide HRX).below (Vc.one_alloc X (.cells #[.int .i64 (b : Int)] 3))) (b : Int) rfl (.tmp 19) (.tmp 21) rfl rfl (B := X.heap.size) rfl (by rw [cell_of_row _ _ 0 _ _ _ (heap_alloc_new X _)]; rfl) (by rw [nz_len]; have := unhide HIl; have := unhide HHn; omega) (by have := unhide HN; have := unhide HSz; simp; omega) ?_
                           intro b1 c1 w2 h1 h2 h3
                           have HR2 := hide h1; have HG2 := hide h2; have HO2 := hide h3
                           clear h1 h2 h3)
    have hs1 : (X.alloc (.cells #[.int .i64 (b : Int)] 3)).heap.size = X.heap.size + 1 := by simp
    have hal := Vc.one_alloc X (.cells #[.int .i64 (b : Int)] 3)
    have hXb := unhide HX
    have hszX := unhide HSz
    have hgf2 : Gf (Value.slice ra (nz i).length rc).ownBlock w w2 := (Gf.of (hXb.trans (hal.mono hXb.size))).trans (.inl rfl) (Gf.grown (unhide HG2))
    have how2 : Ow (Value.slice ra (nz i).length rc).ownBlock w (.slice b1 ((nz i).length + 1) c1) := by
     rcases unhide HO2 with e | e
     ·exact .inl e
     ·exact .inr fun k hk => by rw [e] at hk; cases hk; rw [hs1]; omega
    have HVo := hide (show ∀ k, (Value.slice ra (nz i).length rc).ownBlock = some k → N ≤ k from fun k e => ((unhide HRX).lt k e).1)
    have hne1 := row_ne (unhide HRow) (by decide) (unhide HRX)
    have hrow2 : w2.heap[w.heap.size]? = some (.cells (cob pa re rs (.slice va l.length vc)) 24 (0, 0)) := ((unhide HG2).block w.heap.size (by rw [hs1]; omega) (fun e => (hne1 _ e.symm).1 rfl)).trans ((hal.block w.heap.size (by omega)).trans (unhide HRow))
    have hl1 : (nz i).length + 1 = (nz (i ++ [b])).length := by rw [nz_len, nz_len, List.length_append]; rfl
    have hR2 : Ro w2 N (.slice b1 (nz (i ++ [b])).length c1) (nz (i ++ [b])) := by
     have h := unhide HR2
     rw [hl1] at h
     rw [nz_app]
     rw [nz_app] at h; exact h
    rw [hl1] at how2
    rw [hl1]
    have HR3 := hide hR2; have HGf2 := hide hgf2; have HOw2 := hide how2; have HRow2 := hide hrow2
    clear hs1 hal hXb hszX hgf2 how2 hne1 hrow2 hl1 hR2 HR2 HG2 HO2 HRX HX HRow HSz
    obtain ⟨i1, hi1⟩ : ∃ i1, i1 = i ++ [b] := ⟨_, rfl⟩
    rw [← hi1] at HR3 HOw2 ⊢
    have HCl2 : Hid (∀ j, Cn (nxs l) no i1 ((r.take j).foldl (fun i x => wo (nxs l) no f x i) i1)) := hide (by rw [hi1]; exact unhide HCl)
    have HNl2 : Hid ((nxs l).length ≤ i1.length + f) := hide (by rw [hi1]; exact unhide HNl)
    have HI1 := hide hi1
    obtain ⟨vo, hvo⟩ : ∃ vo, vo = (Value.slice ra (nz i).length rc).ownBlock := ⟨_, rfl⟩
    rw [← hvo] at HVo HGf2 HOw2
    have HVE := hide hvo
    clear HCl HNl hi1 hvo
    go_wp2_with fail
    go_loopw [1, 9] (fun v c wr => ∃ (j : Nat) (q : List Nat) (a1 : Option Addr) (c1 : Nat), j ≤ m ∧ c = .int .i64 (j : Int) ∧ v = .slice a1 (nz q).length c1 ∧ q = (r.take j).foldl (fun i x => wo (nxs l) no f x i) i1 ∧ Ro wr N (.slice a1 (nz q).length c1) (nz q) ∧ Gf vo w wr ∧ Ow vo w (.slice a1 (nz q).length c1) ∧ wr.heap[w.heap.size]? = some (.cells (cob pa re rs (.slice va l.length vc)) 24 (0, 0))) (fun _ c _ => m - (intOf c).toNat)
    case atStart => exact ⟨0, i1, b1, c1, Nat.zero_le _, rfl, rfl, by simp, unhide HR3, unhide HGf2, unhide HOw2, unhide HRow2⟩
    case round =>
     obtain ⟨j, q, a1, c1, hj, rfl, rfl, hq, hR, hG, hO, hrow⟩ := hrel
     obtain ⟨c0, c1', c2, c3, cf, cl⟩ := cob_cellsR hrow
     have hsz := hG.size
     have hN := unhide HN
     have hBr := bls_gf (unhide HB) (unhide HGN) (unhide HVo) hG
     have hx := unhide HXx
     have hcq := unhide HCl2 j
     rw [← hq] at hcq
     obtain ⟨Bb, ob, vi, vn, hva, hBN, hBl, -, d0, d1, d2, hin, hnn⟩ := blk_next hBr hx
     subst hva
     obtain ⟨na, nc, rfl, -, -, -⟩ := id hnn
     rw [← unhide HMm] at d1
     have hBbN := unhide HGN _ hBN
     have hbl : (b : Int) < (l.length : Int) := by omega
     by_cases hlt : j < m
     ·obtain ⟨t, hz, htl, hgt⟩ := (unhide HC).at_ hx (k := j) (by rw [← unhide HMm]; exact hlt)
      obtain ⟨Bn, on, hna, hBnN, hnc⟩ := nums_at hnn (k := j) (by rw [← unhide HMm]; exact hlt)
      subst hna
      have x1 := hnc j (by rw [← unhide HMm]; exact hlt)
      rw [hz] at x1
      have hBnN2 := unhide HGN _ hBnN
      have hrj : r[j]? = some t := by rw [unhide HR, unhide HNx]; exact hgt
      have hst : (r.take (j + 1)).foldl (fun i x => wo (nxs l) no f x i) i1 = wo (nxs l) no f t q := by rw [fold_take _ _ _ _ hrj, ← hq]
      have hjm : (j : Int) < (m : Int) := by omega
      have hne := row_ne hrow (by decide) hR
      have hlo := hR.lt
      have hdr : Below wr.heap.size wr wr.drew := bdrew (Below.refl _ _)
      have hcall := unhide HIh t q (.slice a1 (nz q).length c1) wr.drew htl hcq.nd (fun y hy => by have := hcq.lt y hy; rwa [nxs_len] at this) (by have h1 := hcq.le; have h2 := unhide HNl2; rw [nxs_len] at h2; omega) (Nat.le_trans hN hsz) (hBr.moved (fun k _ h => ⟨h, rfl⟩) (Nat.le_refl _)) (hR.below hdr)
      have hS : ∀ W, Gf (Value.slice a1 (nz q).length c1).ownBlock wr W → W.cell? ⟨w.heap.size, 0, none⟩ = some (.int .i64 pa) ∧ W.cell? ⟨w.heap.size, 1, none⟩ = some (.int .i64 re) ∧ W.cell? ⟨w.heap.size, 2, none⟩ = some (.bool rs) ∧ W.cell? ⟨w.heap.size, 3, none⟩ = some (.slice (some ⟨Bb, ob, none⟩) l.length vc) ∧ W.cell? ⟨Bb, ob + b * 3 + 1, none⟩ = some (.slice (some ⟨Bn, on, none⟩) m nc) ∧ W.cell? ⟨Bn, on + j, none⟩ = some (.int .i64 (t : Int)) := fun W hW => by
       have kb := hW.keep w.heap.size cl (fun e => (hne _ e.symm).1 rfl)
       have kB := hW.keep Bb hBl (fun e => by have := (hlo _ e.symm).1; omega)
       have kn := hW.keep Bn (block_lt_of_cell x1) (fun e => by have := (hlo _ e.symm).1; omega)
       exact ⟨(World.cell?_of_block (a := ⟨w.heap.size, 0, none⟩) kb).trans c0, (World.cell?_of_block (a := ⟨w.heap.size, 1, none⟩) kb).trans c1', (World.cell?_of_block (a := ⟨w.heap.size, 2, none⟩) kb).trans c2, (World.cell?_of_block (a := ⟨w.heap.size, 3, none⟩) kb).trans c3, (World.cell?_of_block (a := ⟨Bb, ob + b * 3 + 1, none⟩) kB).trans d1, (World.cell?_of_block (a := ⟨Bn, on + j, none⟩) kn).trans x1⟩
      have HCa := hide hcall; have HS := hide hS; have HSt := hide hst; have HG := hide hG; have HO := hide hO; have HRw := hide hrow; have HLt := hide hlt; have HNe := hide hne; have HCl9 := hide cl; have HSz := hide hsz
      have HRr := hide hR
      clear hcall hS hst hG hO hrow hlt hne hlo hdr hR hBr hcq hnn hin hnc hgt hz htl hrj hq hx hj hsz hN hBN hBnN hBbN hBnN2 d0 d2
      go_upto_region 7 with fail
      go_region_held3 (fun W => W.cell? ⟨w.heap.size, 0, none⟩ = some (.int .i64 pa) ∧ W.cell? ⟨w.heap.size, 1, none⟩ = some (.int .i64 re) ∧ W.cell? ⟨w.heap.size, 2, none⟩ = some (.bool rs) ∧ W.cell? ⟨w.heap.size, 3, none⟩ = some (.slice (some ⟨Bb, ob, none⟩) l.length vc) ∧ W.cell? ⟨Bb, ob + b * 3 + 1, none⟩ = some (.slice (some ⟨Bn, on, none⟩) m nc) ∧ W.cell? ⟨Bn, on + j, none⟩ = some (.int .i64 (t : Int))) (first | go_keep | exact gk)
       (first
        | (go_at_call 39; refine (unhide HCa).mono ?_; rintro e w6 ⟨v6, rfl, k1, k2, k3⟩; obtain ⟨a2, c6, rfl, -⟩ := k1.sl; have k4 : Gf (Value.slice a1 (nz q).length c1).ownBlock wr w6 := ⟨k2.os, k2.tape, k2.output, k2.size, k2.keep⟩; have gk := unhide HS w6 k4; have K1 := hide k1; have K3 := hide k3; have K4 := hide k4; clear k1 k2 k3 k4))
      have hg6 := (unhide HG).trans (by
       rcases unhide HO with e | e
       ·exact .inl e
       ·exact .inr e) (unhide K4)
      have ho6 := (unhide HO).trans (unhide HG).size (show Ow (Value.slice a1 (nz q).length c1).ownBlock wr _ from unhide K3)
      have hr6 := ((unhide K4).keep w.heap.size (unhide HCl9) (fun e => (unhide HNe _ e.symm).1 rfl)).trans (unhide HRw)
      have HG6 := hide hg6; have HO6 := hide ho6; have HR6 := hide hr6
      clear hg6 ho6 hr6 gk
      go_wp2_with fail
      go_roundw
      case rel => exact ⟨j + 1, _, a2, c6, by have := unhide HLt; omega, by go_num, rfl, (unhide HSt).symm, unhide K1, unhide HG6, unhide HO6, unhide HR6⟩
      case measure => have := unhide HLt; simp [intOf]; omega
     ·obtain rfl : j = m := by omega
      have hfin : q = r.foldl (fun i x => wo (nxs l) no f x i) i1 := by rw [hq, List.take_of_length_le (by rw [unhide HRm]; exact Nat.le_refl _)]
      have hR2 : Ro wr N (.slice a1 (nz q).length c1) (nz (r.foldl (fun i x => wo (nxs l) no f x i) i1)) := by rw [← hfin]; exact hR
      have HRr := hide hR2; have HG := hide hG; have HO := hide hO
      clear hfin hR hR2 hG hO hrow hlt hBr hcq hnn hin hq hx hj hsz hN hBN hBbN d0 d2 c0 c1' c2
      go_wp2_with fail
      go_ret
      exact ⟨_, rfl, by rw [← unhide HI1]; exact unhide HRr, by rw [← unhide HVE]; exact unhide HG, by rw [← unhide HVE]; exact unhide HO⟩
/- the document's IsOver and Over. -/
theorem Gf.bel {w w' : World} (h : Gf none w w') : Below w.heap.size w w' := ⟨h.os, h.tape, h.output, h.size, fun k hk => h.keep k hk (by simp)⟩
theorem wt_lt {nx : List (List Nat)} (hn : In nx) (h1 : 0 < nx.length) (a : Nat) : (wt nx a).Nodup ∧ ∀ x ∈ wt nx a, x < nx.length := by
 obtain ⟨k, -⟩ := wo_cn nx hn (a : Int) nx.length 0 [] (by simp) (by simp) h1 (by simp)
 exact ⟨k.nd, k.lt⟩
theorem mem_nz9 (l : List Nat) (x : Nat) : decide ((x : Int) ∈ nz l) = decide (x ∈ l) := by
 refine decide_eq_decide.2 ?_
 unfold nz
 rw [List.mem_map]
 exact ⟨fun ⟨y, h1, h2⟩ => (show y = x by omega) ▸ h1, fun h => ⟨x, h, rfl⟩⟩
theorem isover_any (l : List Bl) (hc : Nok l) (h1 : 0 < l.length) (pa re : Int) (rs : Bool) (a b : Nat) (va : Option Addr) (vc : Nat) (w : World) (hB : Bls w (fun k => k < w.heap.size) l (.slice va l.length vc)) :
    Calls Tryz.prog 40 #[.agg #[.int .i64 pa, .int .i64 re, .bool rs, .slice va l.length vc], .int .i64 (a : Int), .int .i64 (b : Int)] w fun e w' => e = .returned (.bool (decide (isOv (nxs l) a b))) ∧ Below w.heap.size w w' := by
 have hin := hc.inn
 have hnl := nxs_len l
 obtain ⟨X, hX⟩ : ∃ X, X = w.alloc (.cells (cob pa re rs (.slice va l.length vc)) 24) := ⟨_, rfl⟩
 have hXb : Below w.heap.size w X := by rw [hX]; exact Vc.one_alloc w _
 have hrow : X.heap[w.heap.size]? = some (.cells (cob pa re rs (.slice va l.length vc)) 24 (0, 0)) := by rw [hX]; exact heap_alloc_new _ _
 have hBX : Bls X (fun k => k < X.heap.size) l (.slice va l.length vc) := hB.moved (fun k hk _ => ⟨Nat.lt_of_lt_of_le hk hXb.size, hXb.block k hk⟩) hXb.size
 have hwo := withoutn_all (a : Int) l hc X.heap.size (fun k => k < X.heap.size) (fun k hk => hk) pa re rs va vc l.length 0 [] (.slice none 0 0) X h1 (by simp) (by simp) (by simp) (Nat.le_refl _) hBX (World.ownsRow_nil _ _ _ _)
 have hwt := wt_lt hin (by rw [hnl]; exact h1) a
 have hwl := nodup_le _ _ hwt.1 hwt.2
 have hlen := hc.len
 obtain ⟨n, hn⟩ : ∃ n, n = l.length := ⟨_, rfl⟩
 have hwe : wo (nxs l) (a : Int) l.length 0 [] = wt (nxs l) a := by unfold wt; rw [hnl]
 rw [hwe] at hwo
 obtain ⟨c0, c1, c2, c3, cf, cl⟩ := cob_cellsR hrow
 have hD : decide (isOv (nxs l) a b) = (!decide (a = b) && !decide (b ∈ wt (nxs l) a)) := by
  by_cases e1 : a = b <;> by_cases e2 : b ∈ wt (nxs l) a <;> simp [isOv, e1, e2]
 obtain ⟨D, hDD⟩ : ∃ D, D = decide (isOv (nxs l) a b) := ⟨_, rfl⟩
 rw [← hDD] at hD ⊢
 obtain ⟨R, hR⟩ : ∃ R, R = wt (nxs l) a := ⟨_, rfl⟩
 rw [← hR] at hwo hwl hD
 rw [← hn] at hwo c3 hX ⊢
 have HWo := hide hwo; have HX := hide hXb; have HD := hide hD; have HL := hide (show R.length ≤ 1048576 by rw [hnl] at hwl; omega)
 clear hwo hXb hrow hBX hwt hwl hlen hnl hin hB hwe hD hDD hR h1 hc hn
 go_enter Tryz.func40, Tryz.ntmps40
 go_upto_region 1 with fail
 rw [show w.alloc (.cells #[.int .i64 pa, .int .i64 re, .bool rs, .slice va n vc] 24) = X from hX.symm]
 clear hX
 by_cases e : a = b
 ·have HF := hide (show D = false by rw [unhide HD, decide_eq_true e]; rfl)
  have hb : ((a : Int) == (b : Int)) = true := by rw [e]; exact beq_self_eq_true _
  have hi : ¬ ¬ (a : Int) = (b : Int) := by omega
  clear e HWo
  go_wp2_with fail
  go_ret
  exact ⟨by rw [unhide HF]; rfl, unhide HX⟩
 ·have HF := hide (show D = !decide (b ∈ R) by rw [unhide HD, decide_eq_false e]; rfl)
  have hb : ((a : Int) == (b : Int)) = false := by simpa using (fun h => e (by omega))
  have hi : ¬ (a : Int) = (b : Int) := by omega
  clear e
  go_wp2_with (first
   | (go_at_call 39; refine (unhide HWo).mono ?_; rintro e w6 ⟨v6, rfl, k1, k2, -⟩; have k3 := Gf.bel k2; obtain ⟨a6, c6, rfl, -⟩ := k1.sl; have hh := has_any (nz R) (b : Int) (.slice a6 (nz R).length c6) w6 (k1.nums.moved fun k _ h => ⟨h.2, rfl⟩) (by rw [nz_len]; have := unhide HL; omega); rw [mem_nz9] at hh; have HHas := hide hh; have HB6 := hide ((unhide HX).trans (k3.mono (unhide HX).size)); clear k1 k2 k3 hh)
   | (go_at_call 37; refine (unhide HHas).mono ?_; rintro e w7 ⟨rfl, hw7⟩; have hw8 := hw7.symm; clear hw7; subst hw8))
  go_ret
  exact ⟨(by show Ending.returned (Value.bool (((a : Int) != (b : Int)) && !decide (b ∈ R))) = _; rw [unhide HF, show ((a : Int) != (b : Int)) = true by simp [bne, hb]]; rfl), unhide HB6⟩
def ovl (nx : List (List Nat)) (k : Nat) : List Int := (List.range k).map (ovD nx)
theorem ovl_succ (nx : List (List Nat)) (k : Nat) : ovl nx (k + 1) = ovl nx k ++ [ovD nx k] := by unfold ovl; rw [List.range_succ, List.map_append]; rfl
theorem ovl_len (nx : List (List Nat)) (k : Nat) : (ovl nx k).length = k := by simp [ovl]
theorem ovk_rng (nx : List (List Nat)) (b : Nat) : ∀ k, ovk nx b k = -1 ∨ ∃ i, i < k ∧ ovk nx b k = (i : Int) := by
 intro k
 induction k with
 | zero => exact .inl rfl
 | succ k ih =>
   rw [ovk_succ]
   have h2 : ovk nx b k = -1 ∨ ∃ i, i < k + 1 ∧ ovk nx b k = (i : Int) := ih.imp id fun ⟨i, h, e⟩ => ⟨i, by omega, e⟩
   unfold ov1
   split
   ·split
    ·exact .inr ⟨k, by omega, rfl⟩
    ·exact h2
   ·exact h2
theorem rover_any (l : List Bl) (hc : Nok l) (h1 : 0 < l.length) (pa re : Int) (rs : Bool) (vb : Value) (w : World) (hB : Bls w (fun k => k < w.heap.size) l vb) :
    Calls Tryz.prog 16 #[.agg #[.int .i64 pa, .int .i64 re, .bool rs, vb]] w fun e w' => ∃ v', e = .returned v' ∧ NumsL w' (fun k => k < w'.heap.size) (ovl (nxs l) l.length) v' ∧ Below w.heap.size w w' := by
 obtain ⟨va, vc, rfl, -, -, -⟩ := id hB
 have hin := hc.inn
 have hnl := nxs_len l
 obtain ⟨X, hX⟩ : ∃ X, X = w.alloc (.cells (cob pa re rs (.slice va l.length vc)) 24) := ⟨_, rfl⟩
 have hXb : Below w.heap.size w X := by rw [hX]; exact Vc.one_alloc w _
 have hrow : X.heap[w.heap.size]? = some (.cells (cob pa re rs (.slice va l.length vc)) 24 (0, 0)) := by rw [hX]; exact heap_alloc_new _ _
 have hBX : Bls X (fun k => k < X.heap.size) l (.slice va l.length vc) := hB.moved (fun k hk _ => ⟨Nat.lt_of_lt_of_le hk hXb.size, hXb.block k hk⟩) hXb.size
 have hwo := withoutn_all (-1) l hc X.heap.size (fun k => k < X.heap.size) (fun k hk => hk) pa re rs va vc l.length 0 [] (.slice none 0 0) X h1 (by simp) (by simp) (by simp) (Nat.le_refl _) hBX (World.ownsRow_nil _ _ _ _)
 have hre : wo (nxs l) (-1) l.length 0 [] = reach (nxs l) := by unfold reach; rw [hnl]
 rw [hre] at hwo
 have hrc := reach_cl hin (by rw [hnl]; exact h1)
 have hrl := nodup_le _ _ hrc.1 hrc.2.1
 have hlen := hc.len
 have hio : ∀ W, Below X.heap.size X W → ∀ a b : Nat, Calls Tryz.prog 40 #[.agg #[.int .i64 pa, .int .i64 re, .bool rs, .slice va l.length vc], .int .i64 (a : Int), .int .i64 (b : Int)] W fun e w' => e = .returned (.bool (decide (isOv (nxs l) a b))) ∧ Below W.heap.size W w' := fun W hW a b => isover_any l hc h1 pa re rs a b va vc W (hBX.moved (fun k hk _ => ⟨Nat.lt_of_lt_of_le hk hW.size, hW.block k hk⟩) hW.size)
 obtain ⟨n, hn⟩ : ∃ n, n = l.length := ⟨_, rfl⟩
 have hni : (n : Int) ≤ 1048576 := by omega
 obtain ⟨c0, c1, c2, c3, cf, cl⟩ := cob_cellsR hrow
 obtain ⟨nx, hnx⟩ : ∃ nx, nx = nxs l := ⟨_, rfl⟩
 rw [← hnx] at hwo hrl hio hnl ⊢
 obtain ⟨R, hR⟩ : ∃ R, R = reach nx := ⟨_, rfl⟩
 rw [← hR] at hwo hrl
 rw [← hn] at hwo c3 hX hio hnl ⊢
 have HWo := hide hwo; have HX := hide hXb; have HIo := hide hio; have HL := hide (show R.length ≤ 1048576 by omega); have HR := hide hR; have HNl := hide hnl; have HRow := hide hrow
 clear hwo hXb hrow hBX hrl hlen hnl hin hB hre hR h1 hc hn hio hrc hnx
 go_enter Tryz.func16, Tryz.ntmps16
 go_upto_region 1 with fail
 rw [show w.alloc (.cells #[.int .i64 pa, .int .i64 re, .bool rs, .slice va n vc] 24) = X from hX.symm]
 clear hX
 go_upto_region 2 with (go_at_call 39; refine (unhide HWo).mono ?_; rintro e w2 ⟨v2, rfl, k1, k2, -⟩; obtain ⟨ra, rc, rfl, -⟩ := k1.sl; have HRo2 := hide k1; have HB2 := hide (Gf.bel k2); clear k1 k2)
 have hcl2 : ∀ W, Below X.heap.size X W → W.cell? ⟨w.heap.size, 0, none⟩ = some (.int .i64 pa) ∧ W.cell? ⟨w.heap.size, 1, none⟩ = some (.int .i64 re) ∧ W.cell? ⟨w.heap.size, 2, none⟩ = some (.bool rs) ∧ W.cell? ⟨w.heap.size, 3, none⟩ = some (.slice va n vc) := fun W hW => ⟨(hW.cell (p := ⟨w.heap.size, 0, none⟩) cl).trans c0, (hW.cell (p := ⟨w.heap.size, 1, none⟩) cl).trans c1, (hW.cell (p := ⟨w.heap.size, 2, none⟩) cl).trans c2, (hW.cell (p := ⟨w.heap.size, 3, none⟩) cl).trans c3⟩
 have hhas : ∀ W, Below w2.heap.size w2 W → ∀ b : Nat, Calls Tryz.prog 37 #[.slice ra (nz R).length rc, .int .i64 (b : Int)] W fun e w' => e = .returned (.bool (decide (b ∈ R))) ∧ w' = W := fun W hW b => by
  have h := has_any (nz R) (b : Int) (.slice ra (nz R).length rc) W ((((unhide HRo2).below hW).nums).moved fun k _ h => ⟨h.2, rfl⟩) (by rw [nz_len]; have := unhide HL; omega)
  rw [mem_nz9] at h; exact h
 have HCl := hide hcl2; have HHas := hide hhas
 clear hcl2 hhas c0 c1 c2 c3 cf cl
 go_wp2_with fail
 go_loopw [4, 5] (fun v d wx => ∃ (k : Nat) (a : Option Addr) (c : Nat), k ≤ n ∧ d = .int .i64 (k : Int) ∧ v = .slice a (ovl nx k).length c ∧ Ro wx w2.heap.size (.slice a (ovl nx k).length c) (ovl nx k) ∧ Below w2.heap.size w2 wx) (fun _ d _ => n - (intOf d).toNat)
 case atStart => exact ⟨0, none, 0, Nat.zero_le _, rfl, rfl, World.ownsRow_nil _ _ _ _, Below.refl _ _⟩
 case round =>
  obtain ⟨k, a, c, hk, rfl, rfl, hro, hb⟩ := hrel
  have hbX : Below X.heap.size X wr := (unhide HB2).trans (hb.mono (unhide HB2).size)
  obtain ⟨c0, c1, c2, c3⟩ := unhide HCl wr hbX
  by_cases hlt : k < n
  ·have hkn : (k : Int) < (n : Int) := by omega
   have HRo := hide hro; have HB := hide hb; have HBX := hide hbX; have HLt := hide hlt
   clear hro hb hbX hk hlt
   go_upto_region 8 with fail
   generalize wr = wa at *
   have HCl2 := hide (fun W (h : Below wa.heap.size wa W) => unhide HCl W ((unhide HBX).trans (h.mono (unhide HBX).size)))
   have HHas2 := hide (fun W (h : Below wa.heap.size wa W) => unhide HHas W ((unhide HB).trans (h.mono (unhide HB).size)))
   have HIo2 := hide (fun W (h : Below wa.heap.size wa W) => unhide HIo W ((unhide HBX).trans (h.mono (unhide HBX).size)))
   have hkD : k ∈ R → ovD nx k = ovk nx k n := fun h => by unfold ovD; rw [← unhide HR, if_pos h, unhide HNl]
   have hkD2 : k ∉ R → ovD nx k = -1 := fun h => by unfold ovD; rw [← unhide HR, if_neg h]
   have HKD := hide hkD; have HKD2 := hide hkD2
   clear hkD hkD2 c0 c1 c2 c3
   go_loopw [6, 7] (fun v d wx => ∃ j : Nat, j ≤ n ∧ (k ∉ R → j = 0) ∧ d = .int .i64 (j : Int) ∧ v = .int .i64 (ovk nx k j) ∧ Below wa.heap.size wa wx) (fun _ d _ => n - (intOf d).toNat)
   case atStart => exact ⟨0, Nat.zero_le _, fun _ => rfl, rfl, rfl, Below.refl _ _⟩
   case round =>
    obtain ⟨j, hj, hj0, rfl, rfl, hbj⟩ := hrel
    obtain ⟨c0, c1, c2, c3⟩ := unhide HCl2 wr hbj
    have HBj := hide hbj
    clear hbj
    have hgo : (k ∈ R ∧ j < n) ∨ (k ∉ R ∧ j = 0) ∨ (k ∈ R ∧ j = n) := by
     by_cases hkR : k ∈ R
     ·by_cases hjn : j < n
      ·exact .inl ⟨hkR, hjn⟩
      ·exact .inr (.inr ⟨hkR, by omega⟩)
     ·exact .inr (.inl ⟨hkR, hj0 hkR⟩)
    rcases hgo with ⟨hkR, hjn⟩ | ⟨hkR, hjn⟩ | ⟨hkR, hjn⟩
    ·have hjni : (j : Int) < (n : Int) := by omega
     have HH1 : Hid (∀ W, Below wa.heap.size wa W → Calls Tryz.prog 37 #[.slice ra (nz R).length rc, .int .i64 (k : Int)] W fun e w' => e = .returned (.bool true) ∧ w' = W) := hide fun W h => by
      have := unhide HHas2 W h k; rw [decide_eq_true hkR] at this; exact this
     have HKR := hide hkR; have HJn := hide hjn
     have HSt := hide (ovk_succ nx k j)
     clear hkR hjn hj hj0
     by_cases hjR : j ∈ R
     ·have HH2 : Hid (∀ W, Below wa.heap.size wa W → Calls Tryz.prog 37 #[.slice ra (nz R).length rc, .int .i64 (j : Int)] W fun e w' => e = .returned (.bool true) ∧ w' = W) := hide fun W h => by
         have := unhide HHas2 W h j; rw [decide_eq_true hjR] at this; exact this
      by_cases hov : isOv nx j k
      ·have HI1 : Hid (∀ W, Below wa.heap.size wa W → Calls Tryz.prog 40 #[.agg #[.int .i64 pa, .int .i64 re, .bool rs, .slice va n vc], .int .i64 (j : Int), .int .i64 (k : Int)] W fun e w' => e = .returned (.bool true) ∧ Below W.heap.size W w') := hide fun W h => by
          have := unhide HIo2 W h j k; rw [decide_eq_true hov] at this; exact this
       have hs1 : ov1 nx k (ovk nx k j) j = if ovk nx k j < 0 ∨ isOv nx (ovk nx k j).toNat j then (j : Int) else ovk nx k j := if_pos ⟨by rw [← unhide HR]; exact hjR, hov⟩
       have hst := unhide HSt
       rw [hs1] at hst
       rcases ovk_rng nx k j with e | ⟨i, hi, e⟩
       ·rw [e, if_pos (.inl (by omega))] at hst
        rw [e]
        have HSt2 := hide hst
        clear hs1 hst e hov hjR
        go_upto_region 10 with (go_at_call 37; refine (unhide HH1 _ (unhide HBj)).mono ?_; rintro e w7 ⟨rfl, hw7⟩; have hw8 := hw7.symm; clear hw7; subst hw8)
        go_upto_region 11 with (first | (go_at_call 37; refine (unhide HH2 _ (unhide HBj)).mono ?_; rintro e w7 ⟨rfl, hw7⟩; have hw8 := hw7.symm; clear hw7; subst hw8) | (go_at_call 40; refine (unhide HI1 _ (unhide HBj)).mono ?_; rintro e w7 ⟨rfl, hw7⟩; have hw8 := (unhide HBj).trans (hw7.mono (unhide HBj).size); have HBj := hide hw8; clear hw7 hw8 c0 c1 c2 c3; obtain ⟨c0, c1, c2, c3⟩ := unhide HCl2 _ (unhide HBj)))
        go_wp2_with fail
        go_roundw
        case rel => exact ⟨j + 1, unhide HJn, fun h => absurd (unhide HKR) h, by go_num, by rw [unhide HSt2], unhide HBj⟩
        case measure => have := unhide HJn; simp [intOf]; omega
       ·rw [e] at hst
        rw [e]
        have hti : ((i : Nat) : Int).toNat = i := by omega
        have hi0 : ¬ ((i : Nat) : Int) < 0 := by omega
        rw [hti] at hst
        by_cases hoi : isOv nx i j
        ·have HI2 : Hid (∀ W, Below wa.heap.size wa W → Calls Tryz.prog 40 #[.agg #[.int .i64 pa, .int .i64 re, .bool rs, .slice va n vc], .int .i64 (i : Int), .int .i64 (j : Int)] W fun e w' => e = .returned (.bool true) ∧ Below W.heap.size W w') := hide fun W h => by
            have := unhide HIo2 W h i j; rw [decide_eq_true hoi] at this; exact this
         rw [if_pos (.inr hoi)] at hst
         have HSt2 := hide hst
         clear hs1 hst e hov hjR hoi hti hi
         go_upto_region 10 with (go_at_call 37; refine (unhide HH1 _ (unhide HBj)).mono ?_; rintro e w7 ⟨rfl, hw7⟩; have hw8 := hw7.symm; clear hw7; subst hw8)
         go_upto_region 11 with (first | (go_at_call 37; refine (unhide HH2 _ (unhide HBj)).mono ?_; rintro e w7 ⟨rfl, hw7⟩; have hw8 := hw7.symm; clear hw7; subst hw8) | (go_at_call 40; refine (unhide HI1 _ (unhide HBj)).mono ?_; rintro e w7 ⟨rfl, hw7⟩; have hw8 := (unhide HBj).trans (hw7.mono (unhide HBj).size); have HBj := hide hw8; clear hw7 hw8 c0 c1 c2 c3; obtain ⟨c0, c1, c2, c3⟩ := unhide HCl2 _ (unhide HBj)))
         go_wp2_with (go_at_call 40; refine (unhide HI2 _ (unhide HBj)).mono ?_; rintro e w7 ⟨rfl, hw7⟩; have hw8 := (unhide HBj).trans (hw7.mono (unhide HBj).size); have HBj := hide hw8; clear hw7 hw8 c0 c1 c2 c3; obtain ⟨c0, c1, c2, c3⟩ := unhide HCl2 _ (unhide HBj))
         go_roundw
         case rel => exact ⟨j + 1, unhide HJn, fun h => absurd (unhide HKR) h, by go_num, by rw [unhide HSt2], unhide HBj⟩
         case measure => have := unhide HJn; simp [intOf]; omega
        ·have HI2 : Hid (∀ W, Below wa.heap.size wa W → Calls Tryz.prog 40 #[.agg #[.int .i64 pa, .int .i64 re, .bool rs, .slice va n vc], .int .i64 (i : Int), .int .i64 (j : Int)] W fun e w' => e = .returned (.bool false) ∧ Below W.heap.size W w') := hide fun W h => by
            have := unhide HIo2 W h i j; rw [decide_eq_false hoi] at this; exact this
         rw [if_neg (fun h => h.elim hi0 hoi)] at hst
         have HSt2 := hide hst
         clear hs1 hst e hov hjR hoi hti hi
         go_upto_region 10 with (go_at_call 37; refine (unhide HH1 _ (unhide HBj)).mono ?_; rintro e w7 ⟨rfl, hw7⟩; have hw8 := hw7.symm; clear hw7; subst hw8)
         go_upto_region 11 with (first | (go_at_call 37; refine (unhide HH2 _ (unhide HBj)).mono ?_; rintro e w7 ⟨rfl, hw7⟩; have hw8 := hw7.symm; clear hw7; subst hw8) | (go_at_call 40; refine (unhide HI1 _ (unhide HBj)).mono ?_; rintro e w7 ⟨rfl, hw7⟩; have hw8 := (unhide HBj).trans (hw7.mono (unhide HBj).size); have HBj := hide hw8; clear hw7 hw8 c0 c1 c2 c3; obtain ⟨c0, c1, c2, c3⟩ := unhide HCl2 _ (unhide HBj)))
         go_wp2_with (go_at_call 40; refine (unhide HI2 _ (unhide HBj)).mono ?_; rintro e w7 ⟨rfl, hw7⟩; have hw8 := (unhide HBj).trans (hw7.mono (unhide HBj).size); have HBj := hide hw8; clear hw7 hw8 c0 c1 c2 c3; obtain ⟨c0, c1, c2, c3⟩ := unhide HCl2 _ (unhide HBj))
         go_roundw
         case rel => exact ⟨j + 1, unhide HJn, fun h => absurd (unhide HKR) h, by go_num, by rw [unhide HSt2], unhide HBj⟩
         case measure => have := unhide HJn; simp [intOf]; omega
      ·have HI1 : Hid (∀ W, Below wa.heap.size wa W → Calls Tryz.prog 40 #[.agg #[.int .i64 pa, .int .i64 re, .bool rs, .slice va n vc], .int .i64 (j : Int), .int .i64 (k : Int)] W fun e w' => e = .returned (.bool false) ∧ Below W.heap.size W w') := hide fun W h => by
          have := unhide HIo2 W h j k; rw [decide_eq_false hov] at this; exact this
       have HSt2 := hide ((unhide HSt).trans (if_neg (fun h => hov h.2)))
       clear hov hjR
       go_upto_region 10 with (go_at_call 37; refine (unhide HH1 _ (unhide HBj)).mono ?_; rintro e w7 ⟨rfl, hw7⟩; have hw8 := hw7.symm; clear hw7; subst hw8)
       go_wp2_with (first | (go_at_call 37; refine (unhide HH2 _ (unhide HBj)).mono ?_; rintro e w7 ⟨rfl, hw7⟩; have hw8 := hw7.symm; clear hw7; subst hw8) | (go_at_call 40; refine (unhide HI1 _ (unhide HBj)).mono ?_; rintro e w7 ⟨rfl, hw7⟩; have hw8 := (unhide HBj).trans (hw7.mono (unhide HBj).size); have HBj := hide hw8; clear hw7 hw8 c0 c1 c2 c3; obtain ⟨c0, c1, c2, c3⟩ := unhide HCl2 _ (unhide HBj)))
       go_roundw
       case rel => exact ⟨j + 1, unhide HJn, fun h => absurd (unhide HKR) h, by go_num, by rw [unhide HSt2], unhide HBj⟩
       case measure => have := unhide HJn; simp [intOf]; omega
     ·have HH2 : Hid (∀ W, Below wa.heap.size wa W → Calls Tryz.prog 37 #[.slice ra (nz R).length rc, .int .i64 (j : Int)] W fun e w' => e = .returned (.bool false) ∧ w' = W) := hide fun W h => by
         have := unhide HHas2 W h j; rw [decide_eq_false hjR] at this; exact this
      have HSt2 := hide ((unhide HSt).trans (if_neg (fun h => hjR (by rw [unhide HR]; exact h.1))))
      clear hjR
      go_upto_region 10 with (go_at_call 37; refine (unhide HH1 _ (unhide HBj)).mono ?_; rintro e w7 ⟨rfl, hw7⟩; have hw8 := hw7.symm; clear hw7; subst hw8)
      go_wp2_with (go_at_call 37; refine (unhide HH2 _ (unhide HBj)).mono ?_; rintro e w7 ⟨rfl, hw7⟩; have hw8 := hw7.symm; clear hw7; subst hw8)
      go_roundw
      case rel => exact ⟨j + 1, unhide HJn, fun h => absurd (unhide HKR) h, by go_num, by rw [unhide HSt2], unhide HBj⟩
      case measure => have := unhide HJn; simp [intOf]; omega
    ·have HH1 : Hid (∀ W, Below wa.heap.size wa W → Calls Tryz.prog 37 #[.slice ra (nz R).length rc, .int .i64 (k : Int)] W fun e w' => e = .returned (.bool false) ∧ w' = W) := hide fun W h => by
        have := unhide HHas2 W h k; rw [decide_eq_false hkR] at this; exact this
     subst hjn
     have hat : ovk nx k 0 = ovD nx k := (unhide HKD2 hkR).symm
     rw [hat]
     have hjni : ((0 : Nat) : Int) < (n : Int) := by omega
     clear hkR hj hj0 hat
     go_upto_region 13 with (go_at_call 37; refine (unhide HH1 _ (unhide HBj)).mono ?_; rintro e w7 ⟨rfl, hw7⟩; have hw8 := hw7.symm; clear hw7; subst hw8)
     have hal := Vc.one_alloc wr (.cells #[.int .i64 (ovD nx k)] 3)
     have hbn := (unhide HB).trans ((unhide HBj).mono (unhide HB).size)
     have HRo3 := hide (((unhide HRo).below (unhide HBj)).below hal)
     have HB3 := hide (hbn.trans (hal.mono hbn.size))
     have HS3 := hide (show w2.heap.size ≤ (wr.alloc (.cells #[.int .i64 (ovD nx k)] 3)).heap.size from Nat.le_trans hbn.size hal.size)
     have HLo := hide (unhide HRo).lt
     have HLk := hide (ovl_len nx k)
     clear hal hbn c0 c1 c2 c3
     go_wp2_with (at_builtin
                  refine wpList_push (unhide HRo3) (ovD nx k) rfl (.tmp 49) (.tmp 51) rfl rfl (B := wr.heap.size) rfl (by rw [cell_of_row _ _ 0 _ _ _ (heap_alloc_new wr _)]; rfl) (by rw [unhide HLk]; have := unhide HLt; omega) (unhide HS3) ?_
                  intro b9 c9 w9 h1 h2 h3
                  have hb9 := (unhide HB3).grown h2 (unhide HS3) (fun q e => (unhide HLo q e).1)
                  rw [← ovl_succ] at h1
                  have HP1 := hide h1; have HP2 := hide hb9
                  clear h1 h2 h3 hb9)
     have hl9 : (ovl nx k).length + 1 = (ovl nx (k + 1)).length := by rw [ovl_len, ovl_len]
     rw [hl9] at HP1
     rw [hl9]
     go_roundw
     case rel => exact ⟨k + 1, b9, c9, unhide HLt, by go_num, rfl, unhide HP1, unhide HP2⟩
     case measure => have := unhide HLt; simp [intOf]; omega
    ·subst hjn
     have hat : ovk nx k j = ovD nx k := (unhide HKD hkR).symm
     rw [hat]
     have hjni : ¬ (j : Int) < (j : Int) := by omega
     clear hkR hj hj0 hat
     go_upto_region 13 with (go_at_call 37; refine (unhide HH1 _ (unhide HBj)).mono ?_; rintro e w7 ⟨rfl, hw7⟩; have hw8 := hw7.symm; clear hw7; subst hw8)
     have hal := Vc.one_alloc wr (.cells #[.int .i64 (ovD nx k)] 3)
     have hbn := (unhide HB).trans ((unhide HBj).mono (unhide HB).size)
     have HRo3 := hide (((unhide HRo).below (unhide HBj)).below hal)
     have HB3 := hide (hbn.trans (hal.mono hbn.size))
     have HS3 := hide (show w2.heap.size ≤ (wr.alloc (.cells #[.int .i64 (ovD nx k)] 3)).heap.size from Nat.le_trans hbn.size hal.size)
     have HLo := hide (unhide HRo).lt
     have HLk := hide (ovl_len nx k)
     clear hal hbn c0 c1 c2 c3
     go_wp2_with (at_builtin
                  refine wpList_push (unhide HRo3) (ovD nx k) rfl (.tmp 49) (.tmp 51) rfl rfl (B := wr.heap.size) rfl (by rw [cell_of_row _ _ 0 _ _ _ (heap_alloc_new wr _)]; rfl) (by rw [unhide HLk]; have := unhide HLt; omega) (unhide HS3) ?_
                  intro b9 c9 w9 h1 h2 h3
                  have hb9 := (unhide HB3).grown h2 (unhide HS3) (fun q e => (unhide HLo q e).1)
                  rw [← ovl_succ] at h1
                  have HP1 := hide h1; have HP2 := hide hb9
                  clear h1 h2 h3 hb9)
     have hl9 : (ovl nx k).length + 1 = (ovl nx (k + 1)).length := by rw [ovl_len, ovl_len]
     rw [hl9] at HP1
     rw [hl9]
     go_roundw
     case rel => exact ⟨k + 1, b9, c9, unhide HLt, by go_num, rfl, unhide HP1, unhide HP2⟩
     case measure => have := unhide HLt; simp [intOf]; omega
  ·obtain rfl : k = n := by omega
   have hro9 := hro.nums.moved (g' := fun q => q < wr.heap.size) fun q _ h => ⟨h.2, rfl⟩
   have hbw := (unhide HX).trans (hbX.mono (unhide HX).size)
   have HN9 := hide hro9; have HB9 := hide hbw
   clear hro hb hbX hlt hk hro9 hbw
   go_wp2_with fail
   go_ret
   exact ⟨_, rfl, unhide HN9, unhide HB9⟩
end Fw
end Go.Proofs.YtglehoekehiaiaaGreatDoor
