/- K12: what follows, part by part: each part tells what it holds. -/
import Derived.Test.YtglehoekehiaiaaGreatDoorK11
import Derived.ArgAppend
import Derived.Lib.SlFresh
import Derived.Deep.AppendLies
import Derived.Deep.RegionHeld3
namespace Go.Proofs.YtglehoekehiaiaaGreatDoor
open Go.RowKit
set_option linter.unusedVariables false
set_option linter.unusedSimpArgs false
set_option maxRecDepth 100000
set_option maxHeartbeats 32000000
namespace Fw
open Vc (NumsL Nums Lies LL Bls BlC InC Bl Co WfC WfB chk siz Fms infoN infoBl own_base RowT cob cob_cells)
/- flow: what Thread makes; a copy of blocks that is written into. -/
/-- where each block leads by jumps alone -/
def bhk (l : List Bl) (k : Nat) : List Int := (List.range k).foldl (fun a b => a.set b ((bjF l b l.length b : Nat) : Int)) (List.replicate l.length 0)
def bhs (l : List Bl) : List Int := bhk l l.length
theorem bhk_succ (l : List Bl) (k : Nat) : bhk l (k + 1) = (bhk l k).set k ((bjF l k l.length k : Nat) : Int) := by unfold bhk; rw [List.range_succ, List.foldl_append]; rfl
theorem bhk_len (l : List Bl) (k : Nat) : (bhk l k).length = l.length := by
 induction k with
 | zero => simp [bhk]
 | succ k ih => rw [bhk_succ, List.length_set]; exact ih
theorem bhk_at (l : List Bl) (k i : Nat) (hk : k ≤ l.length) : (bhk l k).getD i 0 = if i < k then ((bjF l i l.length i : Nat) : Int) else 0 := by
 induction k with
 | zero =>
   rw [if_neg (by omega)]
   by_cases h : i < l.length
   ·rw [show bhk l 0 = List.replicate l.length 0 from rfl, getD_get _ _ _ (by simpa using h)]; simp
   ·rw [getD_out _ _ _ (by rw [bhk_len]; omega)]
 | succ k ih =>
   rw [bhk_succ, getD_set _ _ _ _ (by rw [bhk_len]; omega), ih (by omega)]
   by_cases h1 : k = i
   ·subst h1; simp
   ·by_cases h2 : i < k
    ·rw [if_neg (by first | exact h1 | exact fun e => h1 e.symm), if_pos h2, if_pos (by omega)]
    ·rw [if_neg (by first | exact h1 | exact fun e => h1 e.symm), if_neg h2, if_neg (by omega)]
theorem bhs_rng {l : List Bl} (h : Cok l) : ∀ z ∈ bhs l, 0 ≤ z ∧ z < (l.length : Int) := by
 intro z hz
 obtain ⟨i, hi, rfl⟩ := List.getElem_of_mem hz
 have hi2 : i < l.length := by have := hi; unfold bhs at this; rwa [bhk_len] at this
 have e := bhk_at l l.length i (Nat.le_refl _)
 rw [if_pos hi2, getD_get _ _ _ (by rw [bhk_len]; exact hi2)] at e
 have h5 := bj_lt h hi2 l.length i hi2
 show 0 ≤ (bhk l l.length)[i]'(by rw [bhk_len]; exact hi2) ∧ (bhk l l.length)[i]'(by rw [bhk_len]; exact hi2) < _
 rw [e]; omega
def jmpI : Vc.In := ⟨193, -1, [], 0, 0⟩
def thr1 (x : Bl) : Bl := if (endI x).op = 194 ∧ x.next.getD 0 0 = x.next.getD 1 0 then ⟨x.ins.take (x.ins.length - 1) ++ [jmpI], x.next.take 1, x.dep⟩ else x
def thrB (l : List Bl) : List Bl := (l.map (tellB (bhs l))).map thr1
theorem thrB_len (l : List Bl) : (thrB l).length = l.length := by simp [thrB]
/-- a block's instructions laid anew -/
theorem Bo.setIns {w : World} {A : Nat → Prop} {N B cap i : Nat} {l : List Bl} {x : Bl} (h : Bo w N B A cap l) (hx : l[i]? = some x) {z : List Vc.In} {vi : Value} (hi : LL InC 5 w (fun k => k ≠ B ∧ ¬ A k) z vi) : Bo (w.setCell ⟨B, i * 3, none⟩ vi) N B A cap (l.set i ⟨z, x.next, x.dep⟩) := by
 have hm : Vc.Mv w (w.setCell ⟨B, i * 3, none⟩ vi) (fun k => k ≠ B ∧ ¬ A k) (fun k => k ≠ B ∧ ¬ A k) := fun k _ hg => ⟨hg, heap_setCell_other w ⟨B, i * 3, none⟩ k vi hg.1⟩
 have hs : w.heap.size ≤ (w.setCell ⟨B, i * 3, none⟩ vi).heap.size := by simp
 have o : ∀ o v, o ≠ i * 3 → w.cell? ⟨B, o, none⟩ = some v → (w.setCell ⟨B, i * 3, none⟩ vi).cell? ⟨B, o, none⟩ = some v := fun o v ho e => by
  rw [World.cell?_setCell_other _ _ _ _ (by intro e2; injection e2 with _ e3 _; omega)]; exact e
 refine ⟨h.nb, h.bt.set, by simpa using h.cap, fun j y hy => ?_⟩
 rw [List.getElem?_set] at hy
 by_cases e : i = j
 ·subst e
  rw [if_pos rfl, if_pos (List.getElem?_eq_some_iff.1 hx).1] at hy
  cases hy
  obtain ⟨vi0, vn, k0, k1, k2, k3, k4⟩ := h.it i x hx
  exact ⟨vi, vn, World.cell?_setCell_same w _ vi k0, o _ _ (by omega) k1, o _ _ (by omega) k2, hi.moved hm hs (fun _ _ q => q.moved hm), k4.moved hm⟩
 ·rw [if_neg e] at hy
  obtain ⟨vi0, vn, k0, k1, k2, k3, k4⟩ := h.it j y hy
  exact ⟨vi0, vn, o _ _ (by omega) k0, o _ _ (by omega) k1, o _ _ (by omega) k2, k3.moved hm hs (fun _ _ q => q.moved hm), k4.moved hm⟩
/-- slices.Clone of blocks, to be written into -/
theorem clone_bo (l : List Bl) (h0 : 0 < l.length) (hl : l.length ≤ 1099511627776) (g A : Nat → Prop) (v : Value) (w : World) (h : Bls w g l v) (hg : ∀ k, g k → k < w.heap.size ∧ ¬ A k) :
    Calls Tryz.prog 70 #[v] w fun e w' => ∃ B cap, e = .returned (.slice (some ⟨B, 0, none⟩) l.length cap) ∧ Bo w' w.heap.size B A cap l ∧ Below w.heap.size w w' := by
 refine (Vc.clBls Vc.BlO (BlC w g) Vc.blC_ones l v w (Vc.LLf.of h (fun _ _ _ => rfl) (Nat.le_refl _)) hl).mono ?_
 rintro e w' ⟨v', rfl, hr, hb⟩
 rcases hr with ⟨e0, -⟩ | ⟨-, B, cap, rfl, hrow, hB, hcap⟩
 ·rw [e0] at h0; simp at h0
 ·refine ⟨B, cap, rfl, ⟨hB, hrow.t, hcap, fun i x hx => ?_⟩, hb⟩
  obtain ⟨cs, -, -, k3, k4⟩ := hrow.it i x hx
  obtain ⟨vi, vn, rfl, k5, k6⟩ := k3 (Nat.zero_le _)
  have hm : Vc.Mv w w' g (fun k => k ≠ B ∧ ¬ A k) := fun k hk hgk => ⟨⟨by have := (hg k hgk).1; omega, (hg k hgk).2⟩, hb.block k hk⟩
  exact ⟨vi, vn, by have := k4 0 _ rfl; simpa using this, k4 1 _ rfl, k4 2 _ rfl, k5.moved hm hb.size (fun _ _ q => q.moved hm), k6.moved hm⟩
end Fw
namespace Fw
open Vc (NumsL Nums Lies LL Bls BlC InC Bl Co WfC WfB chk siz Fms infoN infoBl own_base RowT cob cob_cells Its)
/- flow: a list that is made of others' instructions, one list behind another. -/
theorem Its.app {α : Type} {It : α → List Value → Prop} {c : Nat} {l z : List α} {xs ys : List Value} (h : Its It c l xs) (k : Its It c z ys) : Its It c (l ++ z) (xs ++ ys) := by
 refine ⟨by rw [List.length_append, h.1, k.1, List.length_append, Nat.add_mul], fun i y hy => ?_⟩
 by_cases e : i < l.length
 ·rw [List.getElem?_append_left e] at hy
  obtain ⟨ds, h1, h2, h3⟩ := h.2 i y hy
  refine ⟨ds, h1, h2, fun j hj => ?_⟩
  rw [List.getElem?_append_left (by rw [h.1]; have : (i + 1) * c ≤ l.length * c := Nat.mul_le_mul_right _ e; rw [Nat.add_mul] at this; omega)]
  exact h3 j hj
 ·rw [List.getElem?_append_right (by omega)] at hy
  obtain ⟨ds, h1, h2, h3⟩ := k.2 _ y hy
  refine ⟨ds, h1, h2, fun j hj => ?_⟩
  have hc : i * c = l.length * c + (i - l.length) * c := by rw [← Nat.add_mul]; congr 1; omega
  rw [List.getElem?_append_right (by rw [h.1]; omega), h.1, show i * c + j - l.length * c = (i - l.length) * c + j by omega]
  exact h3 j hj
/-- others' memory, full; or the call's own -/
def Lst (w : World) (N : Nat) (g : Nat → Prop) (v : Value) (l : List Vc.In) : Prop :=
 (∃ xs, w.ownsRow N 53 5 v l.length xs ∧ Its (InC w g) 5 l xs) ∨ (∃ B o, v = .slice (some ⟨B, o, none⟩) l.length l.length ∧ LL InC 5 w g l v)
theorem Lst.sl {w : World} {N : Nat} {g : Nat → Prop} {v : Value} {l : List Vc.In} (h : Lst w N g v l) : ∃ a c, v = .slice a l.length c := by
 rcases h with ⟨xs, ho, -⟩ | ⟨B, o, rfl, -⟩
 ·rcases ho.2 with ⟨rfl, e⟩ | ⟨g', cap, cur, rfl, -⟩
  ·exact ⟨none, 0, by rw [e]⟩
  ·exact ⟨_, _, rfl⟩
 ·exact ⟨_, _, rfl⟩
theorem Lst.below {w w' : World} {N : Nat} {g : Nat → Prop} {v : Value} {l : List Vc.In} (h : Lst w N g v l) (hb : Below w.heap.size w w') : Lst w' N g v l := by
 rcases h with ⟨xs, ho, hi⟩ | ⟨B, o, e, hl⟩
 ·exact .inl ⟨xs, Vc.ownsRow_below ho hb, hi.mono fun x cs h => h.moved (Vc.Mv.below hb fun _ _ h => h)⟩
 ·exact .inr ⟨B, o, e, Vc.Inss.below hb hl⟩
/-- where it lies -/
theorem Lst.ll {w : World} {N : Nat} {g G : Nat → Prop} {v : Value} {l : List Vc.In} (h : Lst w N g v l) (hg : ∀ k, g k → G k) (hG : ∀ k, N ≤ k → k < w.heap.size → G k) : LL InC 5 w G l v := by
 have hm : Vc.Mv w w g G := fun k _ hk => ⟨hg k hk, rfl⟩
 rcases h with ⟨xs, ho, hi⟩ | ⟨B, o, e, hl⟩
 ·rcases ho.2 with ⟨rfl, e⟩ | ⟨g', cap, cur, rfl, h2, h3, h4, -⟩
  ·rw [List.eq_nil_of_length_eq_zero e]; exact Vc.LL_nil _ _ _ _
  ·have hlt := (Array.getElem?_eq_some_iff.1 h3).1
   have hce := Vc.row_cells ho
   refine ⟨_, cap, rfl, h4, (by intro h; cases h), fun h0 => ⟨g', 0, rfl, hG g' h2 hlt, hlt, fun i x hx => ?_⟩⟩
   obtain ⟨cs, k1, k2, k3⟩ := hi.2 i x hx
   refine ⟨cs, k1, k2.moved hm, fun j u hu => ?_⟩
   rw [Nat.zero_add]
   exact hce _ u (by rw [k3 j (by have := (List.getElem?_eq_some_iff.1 hu).1; omega)]; exact hu)
 ·exact hl.moved hm (Nat.le_refl _) (fun _ _ q => q.moved hm)
theorem set0 (w : World) (b o : Nat) : w.setCells b o [] = w := by simp [World.setCells]
theorem Lst.app {w : World} {N : Nat} {g : Nat → Prop} {v : Value} {l : List Vc.In} (h : Lst w N g v l) (hg : ∀ k, g k → k < N) (hN : N ≤ w.heap.size) (ty : TypeId) {z : List Vc.In} {ad : Addr} {m c : Nat} {news : List Value} (hm : m = z.length) (hits : Its (InC w g) 5 z news) (hce : ∀ j u, news[j]? = some u → w.cell? (ad.add j) = some u) (h1 : ∀ u ∈ news, u.oneCell' = true) (hb : l.length + z.length ≤ 1099511627776) :
    ∃ v' w', (Builtin.append_ #[54, 54] ty #[v, .slice (some ad) m c]).run Tryz.prog w = .ok v' w' ∧ Lst w' N g v' (l ++ z) ∧ Below N w w' := by
 subst hm
 obtain ⟨ib, hib, hb0, hb1, hb2⟩ := info_parts Vc.infoIn
 have hnl : news.length = z.length * 5 := hits.1
 rcases h with ⟨xs, ho, hi⟩ | ⟨B, o, rfl, hl⟩
 ·obtain ⟨v', w', hr, k2, k3, -⟩ := run_append_own (P := Tryz.prog) w N 54 ty 53 ib _ 5 _ Tryz.underlying54 hib hb0 hb1 hb2 rfl (by decide) v l.length xs ho ad z.length c news hnl hce h1 (by unfold maxLen; omega) (by omega) hN
  have hmv : Vc.Mv w w' g g := fun k hk hgk => ⟨hgk, k3.block k hk fun e => by have := (World.ownsRow.lt ho k e.symm).1; have := hg k hgk; omega⟩
  refine ⟨v', w', hr, .inl ⟨xs ++ news, by rw [List.length_append]; exact k2, Its.app (hi.mono fun x cs h => h.moved hmv) (hits.mono fun x cs h => h.moved hmv)⟩, (Below.refl N w).grown k3 hN fun k e => (World.ownsRow.lt ho k e).1⟩
 ·obtain ⟨olds, e1, -, e3, e4, e5, e6⟩ := (Vc.LLf.of hl (fun _ _ _ => rfl) (Nat.le_refl _)).cells (by omega) Vc.inC_ones
  cases z with
  | nil =>
    obtain rfl : news = [] := List.eq_nil_of_length_eq_zero (by simpa using hnl)
    have hr := run_append_room_cells (P := Tryz.prog) w 54 ty 53 ib Tryz.underlying54 hib B o l.length l.length ad 0 c [] (by simp) hce h1 (by simp) (by simp) (by simp)
    rw [set0] at hr
    exact ⟨_, _, hr, .inr ⟨B, o, by simp, by simpa using hl⟩, Below.refl _ _⟩
  | cons y r =>
    obtain ⟨v', w', hr, k2, k3⟩ := run_append_arg_grows (P := Tryz.prog) w 54 ty 53 ib _ 5 _ Tryz.underlying54 hib hb0 hb1 hb2 rfl (by decide) ⟨B, o, none⟩ l.length l.length olds e3 (e5 _ rfl) ad (y :: r).length c news hnl hce (by simp) (by unfold maxLen; omega) (by omega)
    have hmv : Vc.Mv w w' g g := fun k hk hgk => ⟨hgk, k3.block k hk (by simp)⟩
    exact ⟨v', w', hr, .inl ⟨olds ++ news, by rw [List.length_append]; exact own_base k2 hN, Its.app (e4.mono fun x cs h => h.moved hmv) (hits.mono fun x cs h => h.moved hmv)⟩, (Below.refl N w).grown k3 hN (by simp)⟩
/-- a block's instructions but for its end -/
def sta (x : Bl) : List Vc.In := x.ins.take (x.ins.length - 1)
section
variable {w : World} {N : Nat} {g : Nat → Prop} {v : Value} {l : List Vc.In}
/-- at the list of a plain region's operations -/
theorem wpList_lst {ops : Array Oper} {rest : List Oper} {o : Oper} {a : Act} {Q : Exit → Act → World → Prop} (hgd : o.guard = none) (s x : Operand) (ho : o.op = .call { callee := .builtin .append, args := #[s, x], argTypes := #[54, 54] })
    (hs : a.eval s = v) (h : Lst w N g v l) (hg : ∀ k, g k → k < N) (hN : N ≤ w.heap.size) {z : List Vc.In} {ad : Addr} {m c : Nat} {news : List Value} (hx : a.eval x = .slice (some ad) m c) (hm : m = z.length) (hits : Its (InC w g) 5 z news) (hce : ∀ j u, news[j]? = some u → w.cell? (ad.add j) = some u) (h1 : ∀ u ∈ news, u.oneCell' = true) (hb : l.length + z.length ≤ 1099511627776)
    (k : ∀ b n c w', n = (l ++ z).length → Lst w' N g (.slice b n c) (l ++ z) → Below N w w' → wpList Tryz.prog ops Q rest (a.put o.dst (.slice b n c)) w') : wpList Tryz.prog ops Q (o :: rest) a w := by
 obtain ⟨v', w', hr, h2, h3⟩ := h.app hg hN o.type hm hits hce h1 hb
 obtain ⟨b, c', rfl⟩ := h2.sl
 exact Lib.wpList_append_run_sl w hgd s x _ ho v _ hs hx hr (k _ _ _ _ rfl h2 h3)
/-- at a step of a region that draws its order -/
theorem step_lst {ops : Array Oper} {o : Oper} {a : Act} {K : Act → World → Prop} {Q : Exit → Act → World → Prop} {E : Prop} (hgd : o.guard = none) (s x : Operand) (ho : o.op = .call { callee := .builtin .append, args := #[s, x], argTypes := #[54, 54] })
    (hs : a.eval s = v) (h : Lst w N g v l) (hg : ∀ k, g k → k < N) (hN : N ≤ w.heap.size) {z : List Vc.In} {ad : Addr} {m c : Nat} {news : List Value} (hx : a.eval x = .slice (some ad) m c) (hm : m = z.length) (hits : Its (InC w g) 5 z news) (hce : ∀ j u, news[j]? = some u → w.cell? (ad.add j) = some u) (h1 : ∀ u ∈ news, u.oneCell' = true) (hb : l.length + z.length ≤ 1099511627776)
    (k : ∀ b n c w', n = (l ++ z).length → Lst w' N g (.slice b n c) (l ++ z) → Below N w w' → K (a.put o.dst (.slice b n c)) w') :
    if Region.wanted o (yielded ops a.tmps) = true then Oper.wp Tryz.prog o a w K Q else E := by
 have hw : Region.wanted o (yielded ops a.tmps) = true := by simp [Region.wanted, hgd]
 rw [if_pos hw]
 obtain ⟨v', w', hr, h2, h3⟩ := h.app hg hN o.type hm hits hce h1 hb
 obtain ⟨b, c', rfl⟩ := h2.sl
 exact Lib.wp_append_run_sl w s x _ ho v _ hs hx hr (k _ _ _ _ rfl h2 h3)
end
/-- the instructions of a list, where they lie -/
theorem ll_news {w : World} {g : Nat → Prop} {z : List Vc.In} {B o m c : Nat} (h : LL InC 5 w g z (.slice (some ⟨B, o, none⟩) m c)) : ∃ news, m = z.length ∧ Its (InC w g) 5 z news ∧ (∀ j u, news[j]? = some u → w.cell? ((⟨B, o, none⟩ : Addr).add j) = some u) ∧ ∀ u ∈ news, u.oneCell' = true := by
 obtain ⟨a', c', e, -⟩ := id h
 obtain ⟨xs, e1, -, e3, e4, e5, e6⟩ := (Vc.LLf.of h (fun _ _ _ => rfl) (Nat.le_refl _)).cells (by omega) Vc.inC_ones
 exact ⟨xs, e1, e4, e5 _ rfl, e6⟩
/-- one instruction in a row that was just made -/
theorem one_news {W w5 : World} {g : Nat → Prop} {y : Vc.In} {vs : Value} (h : NumsL W g y.src vs) : Its (InC W g) 5 [y] (Vc.inC y vs) := ⟨rfl, fun i x hx => by
 have hi : i = 0 := by have := (List.getElem?_eq_some_iff.1 hx).1; simp at this; omega
 subst hi
 cases hx
 exact ⟨_, rfl, ⟨_, rfl, h⟩, fun j _ => by rw [Nat.zero_mul, Nat.zero_add]; rfl⟩⟩
end Fw
namespace Fw
open Vc (NumsL Nums Lies LL Bls BlC InC Bl Co WfC WfB WfI chk siz Fms infoN infoBl own_base RowT cob cob_cells)
/- flow: what Join makes. -/
def tkOk (n : Nat) (tk : List Int) : Prop := ∀ i, i < n → tk.getD i 0 = -1 ∨ (0 ≤ tk.getD i 0 ∧ tk.getD i 0 < (n : Int))
theorem tks_ok {l : List Bl} (hc : Cok l) (ways : List Int) (k : Nat) (hk : k ≤ l.length) : tkOk l.length (tks l ways k) := by
 induction k with
 | zero =>
   intro i hi
   left
   rw [show tks l ways 0 = List.replicate l.length (-1) from rfl, getD_get _ _ _ (by simpa using hi)]; simp
 | succ k ih =>
   intro i hi
   rw [tks_succ]
   have h0 := ih (by omega) i hi
   split
   ·rename_i ht
    rw [getD_set _ _ _ _ (by rw [tks_len]; omega)]
    split
    ·right
     have hm := getD_mem l k dB (by omega)
     have ho : (endI (l.getD k dB)).op = 193 := by unfold takes1 at ht; simp at ht; exact ht.1
     have h1 := hc.jmp _ hm ho
     exact hc.nok.rng _ hm _ (getD_mem _ 0 0 (by omega))
    ·exact h0
   ·exact h0
theorem takes_ok {l : List Bl} (hc : Cok l) : tkOk l.length (takes l) := tks_ok hc _ _ (Nat.le_refl _)
theorem takes_len (l : List Bl) : (takes l).length = l.length := tks_len _ _ _
/-- a chain of what is taken: so many steps at most; what comes of it, and where it ends -/
def chn (l : List Bl) (tk : List Int) : Nat → Nat → List Vc.In → List Vc.In × Nat
 | 0, t, acc => (acc, t)
 | f + 1, t, acc => if tk.getD t 0 = -1 then (acc, t) else chn l tk f (tk.getD t 0).toNat (acc ++ sta (l.getD (tk.getD t 0).toNat dB))
def ends (tk : List Int) : Nat → Nat → Bool
 | 0, t => decide (tk.getD t 0 = -1)
 | f + 1, t => decide (tk.getD t 0 = -1) || ends tk f (tk.getD t 0).toNat
theorem chn_no (l : List Bl) (tk : List Int) (f t : Nat) (acc : List Vc.In) (h : tk.getD t 0 = -1) : chn l tk f t acc = (acc, t) := by
 cases f with
 | zero => rfl
 | succ f => unfold chn; rw [if_pos h]
theorem chn_yes (l : List Bl) (tk : List Int) (f t : Nat) (acc : List Vc.In) (h : tk.getD t 0 ≠ -1) : chn l tk (f + 1) t acc = chn l tk f (tk.getD t 0).toNat (acc ++ sta (l.getD (tk.getD t 0).toNat dB)) := by
 conv => lhs; unfold chn
 rw [if_neg h]
theorem ends_yes (tk : List Int) (f t : Nat) (h : tk.getD t 0 ≠ -1) (he : ends tk (f + 1) t = true) : ends tk f (tk.getD t 0).toNat = true := by
 unfold ends at he
 rw [Bool.or_eq_true, decide_eq_true_eq] at he
 exact he.resolve_left h
theorem ends_0 (tk : List Int) (t : Nat) (he : ends tk 0 t = true) : tk.getD t 0 = -1 := by unfold ends at he; simpa using he
def chnB (l : List Bl) (tk : List Int) (i : Nat) : Bl := ⟨(chn l tk l.length i (sta (l.getD i dB))).1 ++ [endI (l.getD (chn l tk l.length i (sta (l.getD i dB))).2 dB)], (l.getD (chn l tk l.length i (sta (l.getD i dB))).2 dB).next, (l.getD i dB).dep⟩
def jn? (tk : List Int) (i : Nat) : Bool := decide (tk.getD i 0 ≠ -1) && !(tk.contains (i : Int))
def jn1 (l : List Bl) (tk : List Int) (i : Nat) : Bl := if jn? tk i = true then chnB l tk i else l.getD i dB
/-- so many blocks are joined -/
def jnk (l : List Bl) (tk : List Int) (k : Nat) : List Bl := (List.range k).foldl (fun o i => o.set i (jn1 l tk i)) l
def joinA (l : List Bl) : List Bl := jnk l (takes l) l.length
def joinB (l : List Bl) : List Bl := trimB (joinA (trimB l))
theorem jnk_succ (l : List Bl) (tk : List Int) (k : Nat) : jnk l tk (k + 1) = (jnk l tk k).set k (jn1 l tk k) := by unfold jnk; rw [List.range_succ, List.foldl_append]; rfl
theorem jnk_len (l : List Bl) (tk : List Int) (k : Nat) : (jnk l tk k).length = l.length := by
 induction k with
 | zero => rfl
 | succ k ih => rw [jnk_succ, List.length_set]; exact ih
theorem jnk_at (l : List Bl) (tk : List Int) (k i : Nat) (hi : k ≤ i) : (jnk l tk k)[i]? = l[i]? := by
 induction k with
 | zero => rfl
 | succ k ih => rw [jnk_succ, List.getElem?_set_ne (by omega)]; exact ih (by omega)
theorem jnk_mem (l : List Bl) (tk : List Int) (k : Nat) : ∀ b ∈ jnk l tk k, b ∈ l ∨ ∃ i, i < k ∧ b = jn1 l tk i := by
 induction k with
 | zero => intro b hb; exact .inl hb
 | succ k ih =>
   intro b hb
   rw [jnk_succ] at hb
   rcases List.mem_or_eq_of_mem_set hb with h | h
   ·rcases ih b h with h | ⟨i, h1, h2⟩
    ·exact .inl h
    ·exact .inr ⟨i, by omega, h2⟩
   ·exact .inr ⟨k, by omega, h⟩
/-- all chains end -/
def EndsAll (l : List Bl) : Prop := ∀ i, i < l.length → jn? (takes l) i = true → ends (takes l) l.length i = true
theorem sta_len (x : Bl) : (sta x).length ≤ x.ins.length := by unfold sta; rw [List.length_take]; omega
theorem dB_or {l : List Bl} (t : Nat) : l.getD t dB ∈ l ∨ l.getD t dB = dB := by
 by_cases h : t < l.length
 ·exact .inl (getD_mem _ _ _ h)
 ·exact .inr (getD_out _ _ _ (by omega))
theorem chn_len {l : List Bl} {tk : List Int} {M : Nat} (hM : ∀ b ∈ l, b.ins.length ≤ M) : ∀ f t acc, (chn l tk f t acc).1.length ≤ acc.length + f * M := by
 intro f
 induction f with
 | zero => intro t acc; simp [chn]
 | succ f ih =>
   intro t acc
   by_cases h : tk.getD t 0 = -1
   ·rw [chn_no _ _ _ _ _ h]; simp
   ·rw [chn_yes _ _ _ _ _ h]
    refine Nat.le_trans (ih _ _) ?_
    have h2 : (sta (l.getD (tk.getD t 0).toNat dB)).length ≤ M := by
     rcases dB_or (l := l) (tk.getD t 0).toNat with h3 | h3
     ·exact Nat.le_trans (sta_len _) (hM _ h3)
     ·rw [h3]; simp [sta, dB]
    rw [List.length_append, Nat.add_mul, Nat.one_mul]; omega
theorem chn_mem {l : List Bl} {tk : List Int} {P : Vc.In → Prop} (hP : ∀ b ∈ l, ∀ y ∈ b.ins, P y) : ∀ f t acc, (∀ y ∈ acc, P y) → ∀ y ∈ (chn l tk f t acc).1, P y := by
 intro f
 induction f with
 | zero => intro t acc h; simpa [chn] using h
 | succ f ih =>
   intro t acc h
   by_cases h0 : tk.getD t 0 = -1
   ·rw [chn_no _ _ _ _ _ h0]; exact h
   ·rw [chn_yes _ _ _ _ _ h0]
    refine ih _ _ fun y hy => ?_
    rcases List.mem_append.1 hy with h1 | h1
    ·exact h y h1
    ·rcases dB_or (l := l) (tk.getD t 0).toNat with h3 | h3
     ·exact hP _ h3 y (List.mem_of_mem_take h1)
     ·rw [h3] at h1; simp [sta, dB] at h1
theorem anw_lt (r : List Int) (n : Nat) : ∀ k i, (anw r n k).getD i 0 < ((max k 1 : Nat) : Int) := by
 intro k
 induction k with
 | zero =>
   intro i
   by_cases h : i < n
   ·rw [show anw r n 0 = List.replicate n 0 from rfl, getD_get _ _ _ (by simpa using h)]; simp
   ·rw [getD_out _ _ _ (by rw [anw_len]; omega)]; simp
 | succ k ih =>
   intro i
   rw [anw_succ]
   have := ih i
   by_cases h : (r.getD k 0).toNat < n
   ·rw [getD_set _ _ _ _ (by rw [anw_len]; exact h)]
    split <;> omega
   ·rw [List.set_eq_of_length_le (by rw [anw_len]; omega)]; omega
theorem trimB_len (l : List Bl) : (trimB l).length = (rch l).length := by unfold trimB pick; rw [List.length_map, List.length_map]
theorem trimB_mem {l : List Bl} (h : Cok l) : ∀ b ∈ trimB l, ∃ x ∈ l, b = tellB (anw (rch l) l.length (rch l).length) x := by
 intro b hb
 obtain ⟨x, hx, rfl⟩ := List.mem_map.1 hb
 exact ⟨x, pick_mem h (rch_ok h).2.2 x hx, rfl⟩
theorem cok_trim {l : List Bl} (h : Cok l) : Cok (trimB l) := by
 obtain ⟨h1, h2, h3⟩ := rch_ok h
 have hl := h.nok.len
 refine ⟨⟨by rw [trimB_len]; omega, fun b hb => ?_, fun b hb z hz => ?_⟩, by rw [trimB_len]; exact h1, fun b hb => ?_, fun b hb ho => ?_, fun b hb ho => ?_⟩
 ·obtain ⟨x, hx, rfl⟩ := trimB_mem h b hb
  simpa [tellB] using h.nok.nlen x hx
 ·obtain ⟨x, hx, rfl⟩ := trimB_mem h b hb
  obtain ⟨y, hy, rfl⟩ := List.mem_map.1 hz
  have e1 := anw_bd (rch l) l.length (rch l).length y.toNat
  have e2 := anw_lt (rch l) l.length (rch l).length y.toNat
  rw [trimB_len]
  unfold tell
  omega
 ·obtain ⟨x, hx, rfl⟩ := trimB_mem h b hb
  exact h.ins x hx
 ·obtain ⟨x, hx, rfl⟩ := trimB_mem h b hb
  have := h.jmp x hx ho
  simpa [tellB] using this
 ·obtain ⟨x, hx, rfl⟩ := trimB_mem h b hb
  have := h.brn x hx ho
  simpa [tellB] using this
theorem endI_app (l : List Vc.In) (y : Vc.In) (nx : List Int) (d : Int) : endI ⟨l ++ [y], nx, d⟩ = y := by
 unfold endI
 simp [List.getD]
theorem cok_join {l : List Bl} (h : Cok l) (h4 : l.length ≤ 4096) (hM : ∀ b ∈ l, b.ins.length ≤ 16384) (tk : List Int) : Cok (jnk l tk l.length) := by
 have key : ∀ b ∈ jnk l tk l.length, b ∈ l ∨ (b.ins.length ≤ 1099511627776 ∧ 0 < b.ins.length ∧ ((endI b = dI ∧ b.next = []) ∨ ∃ x ∈ l, endI b = endI x ∧ b.next = x.next)) := by
  intro b hb
  rcases jnk_mem l tk _ b hb with h1 | ⟨i, hi, rfl⟩
  ·exact .inl h1
  ·unfold jn1
   split
   ·right
    have hl := chn_len (tk := tk) hM l.length i (sta (l.getD i dB))
    have hs : (sta (l.getD i dB)).length ≤ 16384 := Nat.le_trans (sta_len _) (hM _ (getD_mem _ _ _ hi))
    have hk : l.length * 16384 ≤ 67108864 := by omega
    refine ⟨by unfold chnB; simp only [List.length_append, List.length_cons, List.length_nil]; omega, by unfold chnB; simp, ?_⟩
    rcases dB_or (l := l) (chn l tk l.length i (sta (l.getD i dB))).2 with h3 | h3
    ·exact .inr ⟨_, h3, by unfold chnB; exact endI_app _ _ _ _, rfl⟩
    ·left
     unfold chnB
     rw [h3]
     exact ⟨(endI_app _ _ _ _).trans rfl, rfl⟩
   ·exact .inl (getD_mem _ _ _ hi)
 refine ⟨⟨by rw [jnk_len]; exact h.nok.len, fun b hb => ?_, fun b hb z hz => ?_⟩, by rw [jnk_len]; exact h.one, fun b hb => ?_, fun b hb ho => ?_, fun b hb ho => ?_⟩
 ·rcases key b hb with k | ⟨-, -, ⟨-, k⟩ | ⟨x, hx, -, k⟩⟩
  ·exact h.nok.nlen b k
  ·rw [k]; simp
  ·rw [k]; exact h.nok.nlen x hx
 ·rw [jnk_len]
  rcases key b hb with k | ⟨-, -, ⟨-, k⟩ | ⟨x, hx, -, k⟩⟩
  ·exact h.nok.rng b k z hz
  ·rw [k] at hz; cases hz
  ·rw [k] at hz; exact h.nok.rng x hx z hz
 ·rcases key b hb with k | ⟨k1, k2, -⟩
  ·exact h.ins b k
  ·exact ⟨k2, k1⟩
 ·rcases key b hb with k | ⟨-, -, ⟨k, -⟩ | ⟨x, hx, k1, k2⟩⟩
  ·exact h.jmp b k ho
  ·rw [k] at ho; simp [dI] at ho
  ·rw [k2]; exact h.jmp x hx (k1 ▸ ho)
 ·rcases key b hb with k | ⟨-, -, ⟨k, -⟩ | ⟨x, hx, k1, k2⟩⟩
  ·exact h.brn b k ho
  ·rw [k] at ho; simp [dI] at ho
  ·rw [k2]; exact h.brn x hx (k1 ▸ ho)
theorem wf_join0 {c : Co} (hw : WfC c) (hM : ∀ b ∈ c.bl, b.ins.length ≤ 16384) (h4 : c.bl.length ≤ 4096) (hp : ∀ b ∈ c.bl, 0 < b.ins.length) (tk : List Int) : WfC ⟨c.pa, c.re, c.rs, jnk c.bl tk c.bl.length⟩ := by
 refine ⟨hw.pa, hw.re, fun b hb => ?_, by show (jnk _ _ _).length ≤ _; rw [jnk_len]; exact hw.len⟩
 rcases jnk_mem _ tk _ b hb with h1 | ⟨i, hi, rfl⟩
 ·exact hw.bl b h1
 ·unfold jn1
  split
  ·have hx := hw.bl _ (getD_mem c.bl i dB hi)
   have hl := chn_len (tk := tk) hM c.bl.length i (sta (c.bl.getD i dB))
   have hs : (sta (c.bl.getD i dB)).length ≤ 16384 := Nat.le_trans (sta_len _) (hM _ (getD_mem _ _ _ hi))
   have hk : c.bl.length * 16384 ≤ 67108864 := by omega
   have hd : WfB dB := ⟨fun y hy => by simp [dB] at hy, fun z hz => by simp [dB] at hz, by unfold Vc.i64 dB; decide, by simp [dB], by simp [dB]⟩
   have hy : WfB (c.bl.getD (chn c.bl tk c.bl.length i (sta (c.bl.getD i dB))).2 dB) := by
    rcases dB_or (l := c.bl) (chn c.bl tk c.bl.length i (sta (c.bl.getD i dB))).2 with h3 | h3
    ·exact hw.bl _ h3
    ·rw [h3]; exact hd
   have hdI : WfI dI := ⟨by decide, by unfold Vc.i64 dI; decide, fun z hz => by simp [dI] at hz, by unfold Vc.i64 dI; decide, by decide, by decide, by decide⟩
   have he : WfI (endI (c.bl.getD (chn c.bl tk c.bl.length i (sta (c.bl.getD i dB))).2 dB)) := by
    rcases dB_or (l := c.bl) (chn c.bl tk c.bl.length i (sta (c.bl.getD i dB))).2 with h3 | h3
    ·unfold endI
     have := hp _ h3
     exact (hw.bl _ h3).ins _ (getD_mem _ _ _ (by omega))
    ·rw [h3]; exact hdI
   refine ⟨fun y h => ?_, hy.next, hx.dep, by unfold chnB; simp only [List.length_append, List.length_cons, List.length_nil]; omega, hy.nlen⟩
   rcases List.mem_append.1 h with h | h
   ·exact chn_mem (fun b hb y hy => (hw.bl b hb).ins y hy) _ _ _ (fun y hy => hx.ins y (List.mem_of_mem_take hy)) y h
   ·rw [List.mem_singleton] at h; rw [h]; exact he
  ·exact hw.bl _ (getD_mem _ _ _ hi)
/-- few blocks, short ones -/
structure Few (l : List Bl) : Prop where
 len : l.length ≤ 4096
 ins : ∀ b ∈ l, b.ins.length ≤ 16384
theorem few_of (c : Co) (h : chk c = true) : Few c.bl := by
 unfold chk at h
 simp only [Bool.and_eq_true, decide_eq_true_eq] at h
 exact ⟨h.1.2.1.2, fun b hb => by have := siz_mem hb; have := h.1.2.2; omega⟩
theorem few_trim {l : List Bl} (h : Cok l) (f : Few l) : Few (trimB l) := by
 refine ⟨by rw [trimB_len]; have := (rch_ok h).2.1; have := f.len; omega, fun b hb => ?_⟩
 obtain ⟨x, hx, rfl⟩ := trimB_mem h b hb
 exact f.ins x hx
theorem wf_join {c : Co} (hw : WfC c) (hk : Cok c.bl) (f : Few c.bl) : WfC ⟨c.pa, c.re, c.rs, joinB c.bl⟩ := by
 have k1 := cok_trim hk
 have w1 := wf_trim hw hk
 have f1 := few_trim hk f
 exact wf_trim (c := ⟨c.pa, c.re, c.rs, joinA (trimB c.bl)⟩) (wf_join0 (c := ⟨c.pa, c.re, c.rs, trimB c.bl⟩) w1 f1.ins f1.len (fun b hb => (k1.ins b hb).1) _) (cok_join k1 f1.len f1.ins _)
end Fw
namespace Fw
open Vc (NumsL Nums Lies LL Bls BlC InC Bl Co infoN infoBl own_base RowT Its)
/- flow: chained. -/
/-- how far a chain goes -/
def far (tk : List Int) : Nat → Nat → Nat
 | 0, _ => 0
 | f + 1, t => if tk.getD t 0 = -1 then 0 else far tk f (tk.getD t 0).toNat + 1
theorem far_eq (tk : List Int) : ∀ f t, ends tk f t = true → ∀ k, f ≤ k → far tk k t = far tk f t := by
 intro f
 induction f with
 | zero =>
   intro t h k _
   have h0 := ends_0 tk t h
   cases k with
   | zero => rfl
   | succ k => conv => lhs; unfold far
               rw [if_pos h0]; rfl
 | succ f ih =>
   intro t h k hk
   obtain ⟨k, rfl⟩ : ∃ j, k = j + 1 := ⟨k - 1, by omega⟩
   by_cases h0 : tk.getD t 0 = -1
   ·conv => lhs; unfold far
    conv => rhs; unfold far
    rw [if_pos h0, if_pos h0]
   ·conv => lhs; unfold far
    conv => rhs; unfold far
    rw [if_neg h0, if_neg h0, ih _ (ends_yes tk f t h0 h) k (by omega)]
theorem far_less (tk : List Int) (f t n : Nat) (h0 : tk.getD t 0 ≠ -1) (h : ends tk (f + 1) t = true) (hn : f + 1 ≤ n) : far tk n (tk.getD t 0).toNat < far tk n t := by
 have h1 := ends_yes tk f t h0 h
 rw [far_eq tk _ _ h n hn, far_eq tk _ _ h1 n (by omega)]
 conv => rhs; unfold far
 rw [if_neg h0]; omega
theorem set3c (w : World) (b : Nat) (c0 c1 c2 : Value) (t : TypeId) (u0 u1 u2 : Value) (h : w.heap[b]? = some (.cells #[c0, c1, c2] t (0, 0))) :
    (((w.setCell ⟨b, 0, none⟩ u0).setCell ⟨b, 1, none⟩ u1).setCell ⟨b, 2, none⟩ u2).heap[b]? = some (.cells #[u0, u1, u2] t (0, 0)) := by
 have h0 := (heap_setCell_same w b 0 _ _ u0 h).trans rfl
 have h1 := (heap_setCell_same _ b 1 _ _ u1 h0).trans rfl
 exact (heap_setCell_same _ b 2 _ _ u2 h1).trans rfl
theorem bls_at {w w' : World} {N : Nat} {g : Nat → Prop} {l : List Bl} {v : Value} (h : Bls w g l v) (hg : ∀ k, g k → k < N) (hb : Below N w w') : Bls w' g l v := h.moved (fun k _ hk => ⟨hk, hb.block k (hg k hk)⟩) hb.size
theorem chained_any (l : List Bl) (hc : Cok l) (hf : Few l) (tk : List Int) (htl : tk.length = l.length) (htk : tkOk l.length tk) (i : Nat) (hi : i < l.length) (he : ends tk l.length i = true) (N : Nat) (g : Nat → Prop) (hgN : ∀ k, g k → k < N) (vb vt : Value) (w : World) (hB : Bls w g l vb) (hN : N ≤ w.heap.size) (hT : NumsL w (fun k => k < w.heap.size) tk vt) :
    Calls Tryz.prog 75 #[vb, .int .i64 (i : Int), vt] w fun e w' => ∃ vi vn, e = .returned (.agg #[vi, vn, .int .i64 (chnB l tk i).dep]) ∧ LL InC 5 w' (fun k => g k ∨ w.heap.size ≤ k) (chnB l tk i).ins vi ∧ NumsL w' g (chnB l tk i).next vn ∧ Below w.heap.size w w' := by
 obtain ⟨va, vc, rfl, -, -, -⟩ := id hB
 obtain ⟨ta, tc, rfl, -, -, -⟩ := id hT
 obtain ⟨n, hn⟩ : ∃ n, n = l.length := ⟨_, rfl⟩
 obtain ⟨Bt, ot, hta, hBt, -⟩ := nums_at hT (k := i) (by omega)
 subst hta
 have hTc : ∀ W, Below w.heap.size w W → ∀ k, k < n → W.cell? ⟨Bt, ot + k, none⟩ = some (.int .i64 (tk.getD k 0)) := fun W hW k hk => by
  obtain ⟨B', o', e, -, h⟩ := nums_at hT (k := k) (by omega)
  cases e
  exact (hW.cell (p := ⟨Bt, ot + k, none⟩) hBt).trans (h k (by omega))
 have hlen := hc.nok.len
 have hf4 := hf.len
 have hni : (n : Int) ≤ 1048576 := by omega
 obtain ⟨R, hR⟩ : ∃ R, R = chn l tk n i (sta (l.getD i dB)) := ⟨_, rfl⟩
 have hRc : chnB l tk i = ⟨R.1 ++ [endI (l.getD R.2 dB)], (l.getD R.2 dB).next, (l.getD i dB).dep⟩ := by unfold chnB; rw [hR, hn]
 rw [hRc, htl, ← hn]
 rw [← hn] at he hi htk htl
 obtain ⟨x, hx⟩ : ∃ x, x = l.getD i dB := ⟨_, rfl⟩
 rw [← hx] at hR ⊢
 have hxl : l[i]? = some x := by rw [hx]; exact get?_getD _ _ _ (by omega)
 have hm := List.mem_of_getElem? hxl
 obtain ⟨hi0, hi1⟩ := hc.ins x hm
 obtain ⟨X, hX⟩ : ∃ X, X = w.alloc (.cells #[.slice none 0 0, .slice none 0 0, .int .i64 0] 56) := ⟨_, rfl⟩
 have hXb : Below w.heap.size w X := by rw [hX]; exact Vc.one_alloc w _
 have hXz : X.heap.size = w.heap.size + 1 := by rw [hX]; simp
 have r0 : X.heap[w.heap.size]? = some (.cells #[.slice none 0 0, .slice none 0 0, .int .i64 0] 56 (0, 0)) := by rw [hX]; exact heap_alloc_new _ _
 rw [← hn] at hB
 have hBX := bls_at hB hgN (hXb.mono hN)
 obtain ⟨Bb, ob, vi, vn, hva, hBN, hBl, -, d0, d1, d2, hin, hnn⟩ := blk_next hBX hxl
 subst hva
 obtain ⟨ia, ic, rfl, -, -, -⟩ := id hin
 obtain ⟨na, nc, rfl, -, -, -⟩ := id hnn
 have hst := straight_any x hi0 hi1 _ _ (.slice na x.next.length nc) X hin ⟨_, _, _, rfl⟩
 have hin_ : (i : Int) < (n : Int) := by omega
 have HC := hide hc; have HF := hide hf; have HTk := hide htk; have HN := hide hn; have HE := hide he; have HB := hide hB; have HNw := hide hN; have HTc := hide hTc; have HR := hide hR; have HX := hide hx; have HXl := hide hxl; have HXb := hide hXb; have HXz := hide hXz; have HR0 := hide r0; have HSt := hide hst; have HHi := hide hi; have HF4 := hide hf4; have HD2 := hide d2
 have HI0 := hide hi0; have HGN := hide hgN
 have HDd := hide (show ∀ W, Below X.heap.size X W → W.cell? ⟨Bb, ob + i * 3 + 2, none⟩ = some (.int .i64 x.dep) from fun W hW => (hW.cell (p := ⟨Bb, ob + i * 3 + 2, none⟩) hBl).trans d2)
 clear hgN hc hf htk hn he hB hN hT hTc hR hRc hx hxl hXb hXz r0 hst hi htl hm hi0 hi1 hBX hin hnn hlen hf4 hBt hBN hBl
 go_enter Tryz.func75, Tryz.ntmps75
 go_upto_region 1 with fail
 rw [show w.alloc (.cells #[.slice none 0 0, .slice none 0 0, .int .i64 0] 56) = X from hX.symm]
 clear hX
 go_upto_region 3 with (go_at_call 72; refine (unhide HSt).mono ?_; rintro e w2 ⟨B1, o1, rfl, hl2, hb2⟩; have HL2 := hide hl2; have HB2 := hide hb2; clear hl2 hb2)
 clear d0 d1 d2
 go_loopw [7, 8] (fun v t wr => ∃ (fu p : Nat) (acc : List Vc.In) (b : Option Addr) (c : Nat), fu ≤ n ∧ p < n ∧ t = .int .i64 (p : Int) ∧ v = .slice b acc.length c ∧ ends tk fu p = true ∧ acc.length ≤ (n - fu + 1) * 16384 ∧ Lst wr X.heap.size g (.slice b acc.length c) acc ∧ chn l tk fu p acc = R ∧ Below X.heap.size X wr) (fun _ t _ => far tk n (intOf t).toNat)
 case atStart =>
  have hsl : (sta x).length = x.ins.length - 1 := by unfold sta; rw [List.length_take]; omega
  have hxi := (unhide HF).ins x (List.mem_of_getElem? (unhide HXl))
  refine ⟨n, i, sta x, some ⟨B1, o1, none⟩, x.ins.length - 1, Nat.le_refl _, unhide HHi, rfl, by rw [hsl], unhide HE, by omega, ?_, (unhide HR).symm, unhide HB2⟩
  refine Lst.below (w := X) (.inr ⟨B1, o1, by rw [hsl], ?_⟩) (unhide HB2)
  have h := unhide HL2
  rw [hsl]
  exact h
 case round =>
  obtain ⟨fu, p, acc, b, c, hfu, hp, rfl, rfl, hen, hal, hl, hch, hbe⟩ := hrel
  have hbw := (unhide HXb).trans (hbe.mono (by have := unhide HXz; omega))
  have hXw := unhide HXz
  have hNw := unhide HNw
  have hsz := hbe.size
  have t1 := unhide HTc wr hbw p hp
  obtain ⟨z, hz⟩ : ∃ z, z = tk.getD p 0 := ⟨_, rfl⟩
  have hzr := unhide HTk p hp
  rw [← hz] at t1 hzr
  have hpn : (p : Int) < (n : Int) := by omega
  have hBw := bls_at (unhide HB) (unhide HGN) (hbw.mono hNw)
  by_cases hz1 : z = -1
  ·subst hz1
   rw [chn_no _ _ _ _ _ hz.symm] at hch
   obtain ⟨y, hy⟩ : ∃ y, y = l.getD p dB := ⟨_, rfl⟩
   have hyl : l[p]? = some y := by rw [hy]; exact get?_getD _ _ _ (by have := unhide HN; omega)
   obtain ⟨hi0, hi1⟩ := (unhide HC).ins y (List.mem_of_getElem? hyl)
   obtain ⟨Bc, oc, vi, vn, hva, hBN, hBl, -, d0, d1, d2, hin, hnn⟩ := blk_next hBw hyl
   cases hva
   obtain ⟨ja, jc, rfl, -, -, -⟩ := id hin
   obtain ⟨ma, mc, rfl, -, -, -⟩ := id hnn
   have hend : ∀ W, Below wr.heap.size wr W → Calls Tryz.prog 71 #[.agg #[.slice ja y.ins.length jc, .slice ma y.next.length mc, .int .i64 y.dep]] W fun e w' => ∃ sa sn sc, e = .returned (.agg #[.int .u8 ((endI y).op : Int), .int .i64 (endI y).dst, .slice sa sn sc, .int .i64 (endI y).n, .int .u32 (endI y).of]) ∧ NumsL w' g (endI y).src (.slice sa sn sc) ∧ Below wr.heap.size wr w' := fun W hW => by
    refine (end_any y hi0 hi1 _ _ _ W (Vc.Inss.below hW hin) ⟨_, _, _, rfl⟩).mono ?_
    rintro e w' ⟨vs, rfl, hs, hb⟩
    obtain ⟨sa, sc, rfl, -, -, -⟩ := id hs
    exact ⟨sa, _, sc, rfl, Vc.NumsL.below hb hs, hW.trans (hb.mono hW.size)⟩
   have e2 := unhide HDd wr hbe
   have hpost : ∀ W, Below X.heap.size wr W → W.cell? ⟨Bb, ob + p * 3 + 1, none⟩ = some (.slice ma y.next.length mc) ∧ W.cell? ⟨Bb, ob + i * 3 + 2, none⟩ = some (.int .i64 x.dep) := fun W hW => ⟨(hW.cell (p := ⟨Bb, ob + p * 3 + 1, none⟩) (by have := unhide HGN _ hBN; show Bb < _; omega)).trans d1, unhide HDd W (hbe.trans hW)⟩
   -- BYHAND
   have hlow : ∀ W : World, (∀ k, k < w.heap.size → W.heap[k]? = wr.heap[k]?) → (W.cell? ⟨Bb, ob + p * 3, none⟩ = some (.slice ja y.ins.length jc) ∧ W.cell? ⟨Bb, ob + p * 3 + 1, none⟩ = some (.slice ma y.next.length mc) ∧ W.cell? ⟨Bb, ob + p * 3 + 2, none⟩ = some (.int .i64 y.dep) ∧ W.cell? ⟨Bb, ob + i * 3 + 2, none⟩ = some (.int .i64 x.dep)) := fun W hW => by
    have hBb : Bb < w.heap.size := Nat.lt_of_lt_of_le (unhide HGN _ hBN) hNw
    have c : ∀ o v, wr.cell? ⟨Bb, o, none⟩ = some v → W.cell? ⟨Bb, o, none⟩ = some v := fun o v e => (World.cell?_of_block (a := ⟨Bb, o, none⟩) (hW Bb hBb)).trans e
    exact ⟨c _ _ d0, c _ _ d1, c _ _ d2, c _ _ e2⟩
   have hbl : ∀ W, Below wr.heap.size wr W → (∀ k, k < w.heap.size → W.heap[k]? = wr.heap[k]?) := fun W hW k hk => hW.block k (by omega)
   have HLow := hide hlow; have HBl := hide hbl
   have HKd := hide (hlow wr.drew (fun k hk => rfl))
   have HEnd := hide hend; have HL := hide hl; have HBe := hide hbe; have HNn := hide hnn; have HIn := hide hin; have HY := hide hy
   have HR2 := hide hch
   have hr0 := (hbe.block w.heap.size (by omega)).trans (unhide HR0)
   have HRw := hide hr0
   have hab : acc.length + 1 ≤ 1099511627776 := by
    have := unhide HF4; have := unhide HN
    omega
   have HAb := hide hab
   have hBbw : Bb < w.heap.size := Nat.lt_of_lt_of_le (unhide HGN _ hBN) hNw
   clear hlow hbl hend hl hbe hnn hin hy hch hr0 hab d0 d1 d2 e2 hpost
   go_upto_region 6 with fail
   clear t1
   refine wp_region_held_drew (S := fun wx => wx.cell? ⟨Bb, ob + p * 3, none⟩ = some (.slice ja y.ins.length jc) ∧ wx.cell? ⟨Bb, ob + p * 3 + 1, none⟩ = some (.slice ma y.next.length mc) ∧ wx.cell? ⟨Bb, ob + p * 3 + 2, none⟩ = some (.int .i64 y.dep) ∧ wx.cell? ⟨Bb, ob + i * 3 + 2, none⟩ = some (.int .i64 x.dep)) (by kernel_rfl) (unhide HKd) (fun _ => ?_)
   refine wpAnyH_take (i := 0) (oi := _) (v := ?vt0) rfl (by kernel_rfl) (by kernel_rfl) (by kernel_rfl) (fun _ _ _ h => h) (Or.inl ⟨by kernel_rfl, ?yt0⟩) (unhide HKd) ?_
   case yt0 => intro w hSw; obtain ⟨s0, s1, s2, s3⟩ := hSw; go_simp; first | done | rfl
   simp only [List.getElem_toArray, List.getElem_cons_succ, List.getElem_cons_zero, Act.put, List.setIfInBounds_toArray, List.set_cons_zero, List.set_cons_succ]
   refine wpAnyH_take (i := 1) (oi := _) (v := ?vt1) rfl (by kernel_rfl) (by kernel_rfl) (by kernel_rfl) (fun _ _ _ h => h) (Or.inl ⟨by kernel_rfl, ?yt1⟩) (unhide HKd) ?_
   case yt1 => intro w hSw; obtain ⟨s0, s1, s2, s3⟩ := hSw; go_simp; first | done | rfl
   simp only [List.getElem_toArray, List.getElem_cons_succ, List.getElem_cons_zero, Act.put, List.setIfInBounds_toArray, List.set_cons_zero, List.set_cons_succ]
   refine wpAnyH_take (i := 2) (oi := _) (v := ?vt2) rfl (by kernel_rfl) (by kernel_rfl) (by kernel_rfl) (fun _ _ _ h => h) (Or.inl ⟨by kernel_rfl, ?yt2⟩) (unhide HKd) ?_
   case yt2 => intro w hSw; obtain ⟨s0, s1, s2, s3⟩ := hSw; go_simp; first | done | rfl
   simp only [List.getElem_toArray, List.getElem_cons_succ, List.getElem_cons_zero, Act.put, List.setIfInBounds_toArray, List.set_cons_zero, List.set_cons_succ]
   refine wpAnyH_take (i := 3) (oi := _) (v := ?vt3) rfl (by kernel_rfl) (by kernel_rfl) (by kernel_rfl) (fun _ _ _ h => h) (Or.inl ⟨by kernel_rfl, ?yt3⟩) (unhide HKd) ?_
   case yt3 => intro w hSw; obtain ⟨s0, s1, s2, s3⟩ := hSw; go_simp; first | done | rfl
   simp only [List.getElem_toArray, List.getElem_cons_succ, List.getElem_cons_zero, Act.put, List.setIfInBounds_toArray, List.set_cons_zero, List.set_cons_succ]
   refine wpAnyH_take (i := 4) (oi := _) (v := ?vt4) rfl (by kernel_rfl) (by kernel_rfl) (by kernel_rfl) (fun _ _ _ h => h) (Or.inl ⟨by kernel_rfl, ?yt4⟩) (unhide HKd) ?_
   case yt4 => intro w hSw; obtain ⟨s0, s1, s2, s3⟩ := hSw; go_simp; first | done | rfl
   simp only [List.getElem_toArray, List.getElem_cons_succ, List.getElem_cons_zero, Act.put, List.setIfInBounds_toArray, List.set_cons_zero, List.set_cons_succ]
   refine wpAnyH_take (i := 8) (oi := _) (v := ?vt8) rfl (by kernel_rfl) (by kernel_rfl) (by kernel_rfl) (fun _ _ _ h => h) (Or.inl ⟨by kernel_rfl, ?yt8⟩) (unhide HKd) ?_
   case yt8 => intro w hSw; obtain ⟨s0, s1, s2, s3⟩ := hSw; go_simp; first | done | rfl
   simp only [List.getElem_toArray, List.getElem_cons_succ, List.getElem_cons_zero, Act.put, List.setIfInBounds_toArray, List.set_cons_zero, List.set_cons_succ]
   refine wpAnyH_take (i := 9) (oi := _) (v := ?vt9) rfl (by kernel_rfl) (by kernel_rfl) (by kernel_rfl) (fun _ _ _ h => h) (Or.inl ⟨by kernel_rfl, ?yt9⟩) (unhide HKd) ?_
   case yt9 => intro w hSw; obtain ⟨s0, s1, s2, s3⟩ := hSw; go_simp; first | done | rfl
   simp only [List.getElem_toArray, List.getElem_cons_succ, List.getElem_cons_zero, Act.put, List.setIfInBounds_toArray, List.set_cons_zero, List.set_cons_succ]
   refine wpAnyH_take (i := 10) (oi := _) (v := ?vt10) rfl (by kernel_rfl) (by kernel_rfl) (by kernel_rfl) (fun _ _ _ h => h) (Or.inl ⟨by kernel_rfl, ?yt10⟩) (unhide HKd) ?_
   case yt10 => intro w hSw; obtain ⟨s0, s1, s2, s3⟩ := hSw; go_simp; first | done | rfl
   simp only [List.getElem_toArray, List.getElem_cons_succ, List.getElem_cons_zero, Act.put, List.setIfInBounds_toArray, List.set_cons_zero, List.set_cons_succ]
   refine wpAnyH_take (i := 11) (oi := _) (v := ?vt11) rfl (by kernel_rfl) (by kernel_rfl) (by kernel_rfl) (fun _ _ _ h => h) (Or.inl ⟨by kernel_rfl, ?yt11⟩) (unhide HKd) ?_
   case yt11 => intro w hSw; obtain ⟨s0, s1, s2, s3⟩ := hSw; go_simp; first | done | rfl
   simp only [List.getElem_toArray, List.getElem_cons_succ, List.getElem_cons_zero, Act.put, List.setIfInBounds_toArray, List.set_cons_zero, List.set_cons_succ]
   refine wpAnyH_take (i := 12) (oi := _) (v := ?vt12) rfl (by kernel_rfl) (by kernel_rfl) (by kernel_rfl) (fun _ _ _ h => h) (Or.inl ⟨by kernel_rfl, ?yt12⟩) (unhide HKd) ?_
   case yt12 => intro w hSw; obtain ⟨s0, s1, s2, s3⟩ := hSw; go_simp; first | done | rfl
   simp only [List.getElem_toArray, List.getElem_cons_succ, List.getElem_cons_zero, Act.put, List.setIfInBounds_toArray, List.set_cons_zero, List.set_cons_succ]
   refine wpAnyH_take (i := 13) (oi := _) (v := ?vt13) rfl (by kernel_rfl) (by kernel_rfl) (by kernel_rfl) (fun _ _ _ h => h) (Or.inl ⟨by kernel_rfl, ?yt13⟩) (unhide HKd) ?_
   case yt13 => intro w hSw; obtain ⟨s0, s1, s2, s3⟩ := hSw; go_simp; first | done | rfl
   simp only [List.getElem_toArray, List.getElem_cons_succ, List.getElem_cons_zero, Act.put, List.setIfInBounds_toArray, List.set_cons_zero, List.set_cons_succ]
   refine wpAnyH_take (i := 14) (oi := _) (v := ?vt14) rfl (by kernel_rfl) (by kernel_rfl) (by kernel_rfl) (fun _ _ _ h => h) (Or.inl ⟨by kernel_rfl, ?yt14⟩) (unhide HKd) ?_
   case yt14 => intro w hSw; obtain ⟨s0, s1, s2, s3⟩ := hSw; go_simp; first | done | rfl
   simp only [List.getElem_toArray, List.getElem_cons_succ, List.getElem_cons_zero, Act.put, List.setIfInBounds_toArray, List.set_cons_zero, List.set_cons_succ]
   refine wpAnyH_take (i := 15) (oi := _) (v := ?vt15) rfl (by kernel_rfl) (by kernel_rfl) (by kernel_rfl) (fun _ _ _ h => h) (Or.inl ⟨by kernel_rfl, ?yt15⟩) (unhide HKd) ?_
   case yt15 => intro w hSw; obtain ⟨s0, s1, s2, s3⟩ := hSw; go_simp; first | done | rfl
   simp only [List.getElem_toArray, List.getElem_cons_succ, List.getElem_cons_zero, Act.put, List.setIfInBounds_toArray, List.set_cons_zero, List.set_cons_succ]
   refine wpAnyH_take (i := 16) (oi := _) (v := ?vt16) rfl (by kernel_rfl) (by kernel_rfl) (by kernel_rfl) (fun _ _ _ h => h) (Or.inl ⟨by kernel_rfl, ?yt16⟩) (unhide HKd) ?_
   case yt16 => intro w hSw; obtain ⟨s0, s1, s2, s3⟩ := hSw; go_simp; first | done | rfl
   simp only [List.getElem_toArray, List.getElem_cons_succ, List.getElem_cons_zero, Act.put, List.setIfInBounds_toArray, List.set_cons_zero, List.set_cons_succ]
   refine wpAnyH_take (i := 17) (oi := _) (v := ?vt17) rfl (by kernel_rfl) (by kernel_rfl) (by kernel_rfl) (fun _ _ _ h => h) (Or.inl ⟨by kernel_rfl, ?yt17⟩) (unhide HKd) ?_
   case yt17 => intro w hSw; obtain ⟨s0, s1, s2, s3⟩ := hSw; go_simp; first | done | rfl
   simp only [List.getElem_toArray, List.getElem_cons_succ, List.getElem_cons_zero, Act.put, List.setIfInBounds_toArray, List.set_cons_zero, List.set_cons_succ]
   refine wpAnyH_ready (rs := [5]) (by kernel_rfl) (by simp) ?_
   refine AllReadyH.cons rfl (fun K hK => ?_) AllReadyH.nil
   go_simp
   go_at_call 71
   refine (unhide HEnd _ (bdrew (Below.refl _ _))).mono ?_
   rintro e w5 ⟨sa, sn, sc, rfl, hs5, hb5⟩
   have HK5 := hide (unhide HLow w5 (unhide HBl w5 hb5))
   have HS5 := hide hs5; have HB5 := hide hb5
   clear hs5 hb5
   go_wp2_with fail
   refine hK.out _ _ (unhide HK5) (fun _ => ?_)
   clear hK
   try simp only [List.getElem_toArray, List.getElem_cons_succ, List.getElem_cons_zero, Act.put, List.setIfInBounds_toArray, List.set_cons_zero, List.set_cons_succ]
   refine wpAnyH_ready (rs := [6]) (by kernel_rfl) (by simp) ?_
   refine AllReadyH.cons rfl (fun K hK => ?_) AllReadyH.nil
   go_simp
   have hal := Vc.one_alloc w5 (.cells #[.int .u8 ((endI y).op : Int), .int .i64 (endI y).dst, .slice sa sn sc, .int .i64 (endI y).n, .int .u32 (endI y).of] 53)
   have hb6 := (unhide HB5).trans (hal.mono (unhide HB5).size)
   have HK6 := hide (unhide HLow _ (unhide HBl _ hb6))
   have hits : Its (InC (w5.alloc (.cells #[.int .u8 ((endI y).op : Int), .int .i64 (endI y).dst, .slice sa sn sc, .int .i64 (endI y).n, .int .u32 (endI y).of] 53)) g) 5 [endI y] (Vc.inC (endI y) (.slice sa sn sc)) := one_news (w5 := w5) (Vc.NumsL.below hal (unhide HS5))
   have hnews := Vc.new_row w5 (Vc.inC (endI y) (.slice sa sn sc)) 53
   have hlst := (unhide HL).below hb6
   have hs6 : X.heap.size ≤ (w5.alloc (.cells #[.int .u8 ((endI y).op : Int), .int .i64 (endI y).dst, .slice sa sn sc, .int .i64 (endI y).n, .int .u32 (endI y).of] 53)).heap.size := Nat.le_trans hsz hb6.size
   refine hK.out _ _ (unhide HK6) (fun _ => ?_)
   clear hK
   try simp only [List.getElem_toArray, List.getElem_cons_succ, List.getElem_cons_zero, Act.put, List.setIfInBounds_toArray, List.set_cons_zero, List.set_cons_succ]
   refine wpAnyH_ready (rs := [7]) (by kernel_rfl) (by simp) ?_
   refine AllReadyH.cons rfl (fun K hK => ?_) AllReadyH.nil
   refine step_lst rfl (.tmp 31) (.tmp 37) rfl rfl hlst (fun k hk => by have := unhide HGN k hk; omega) hs6 (ad := ⟨w5.heap.size, 0, none⟩) (m := 1) (c := 1) rfl rfl hits hnews (Vc.inC_one _ _ ⟨_, _, _, rfl⟩) (unhide HAb) ?_
   rintro b2 n2 c2 w8 hn2 hl8 hb8
   have hb9 : Below X.heap.size wr w8 := (hb6.mono hsz).trans hb8
   have HK8 := hide (unhide HLow w8 fun k hk => hb9.block k (by omega))
   have HL8 := hide hl8; have HB8 := hide ((unhide HBe).trans hb9)
   have HB9 := hide hb9
   have hr8 := (hb9.block w.heap.size (by omega)).trans (unhide HRw)
   clear hn2 hl8 hb8 hb9 hlst hits hnews hs6 hal hb6
   refine hK.out _ _ (unhide HK8) (fun _ => ?_)
   clear hK
   try simp only [List.getElem_toArray, List.getElem_cons_succ, List.getElem_cons_zero, Act.put, List.setIfInBounds_toArray, List.set_cons_zero, List.set_cons_succ]
   refine wpAnyH_take (i := 18) (oi := _) (v := ?vt18) rfl (by kernel_rfl) (by kernel_rfl) (by kernel_rfl) (fun _ _ _ h => h) (Or.inl ⟨by kernel_rfl, ?yt18⟩) (unhide HK8) ?_
   case yt18 => intro w hSw; go_simp; first | done | rfl
   simp only [List.getElem_toArray, List.getElem_cons_succ, List.getElem_cons_zero, Act.put, List.setIfInBounds_toArray, List.set_cons_zero, List.set_cons_succ]
   have y0 : w8.cell? ⟨w.heap.size, 0, none⟩ = some (.slice none 0 0) := by rw [cell_of_row w8 _ 0 _ _ _ hr8]; rfl
   have y1 : w8.cell? ⟨w.heap.size, 1, none⟩ = some (.slice none 0 0) := by rw [cell_of_row w8 _ 1 _ _ _ hr8]; rfl
   have y2 : w8.cell? ⟨w.heap.size, 2, none⟩ = some (.int .i64 0) := by rw [cell_of_row w8 _ 2 _ _ _ hr8]; rfl
   have yf : ∀ j, w8.frozen? ⟨w.heap.size, j, none⟩ = false := fun j => frozen_of_row w8 _ j _ _ hr8
   have hr9 := set3c w8 w.heap.size _ _ _ _ (.slice b2 n2 c2) (.slice ma y.next.length mc) (.int .i64 x.dep) hr8
   have hot : ∀ k, k ≠ w.heap.size → (((w8.setCell ⟨w.heap.size, 0, none⟩ (.slice b2 n2 c2)).setCell ⟨w.heap.size, 1, none⟩ (.slice ma y.next.length mc)).setCell ⟨w.heap.size, 2, none⟩ (.int .i64 x.dep)).heap[k]? = w8.heap[k]? := fun k hk => by
    rw [heap_setCell_other _ _ _ _ (by exact hk), heap_setCell_other _ _ _ _ (by exact hk), heap_setCell_other _ _ _ _ (by exact hk)]
   have hz9 : w8.heap.size ≤ (((w8.setCell ⟨w.heap.size, 0, none⟩ (.slice b2 n2 c2)).setCell ⟨w.heap.size, 1, none⟩ (.slice ma y.next.length mc)).setCell ⟨w.heap.size, 2, none⟩ (.int .i64 x.dep)).heap.size := by simp
   have hbe9 : Below w.heap.size w (((w8.setCell ⟨w.heap.size, 0, none⟩ (.slice b2 n2 c2)).setCell ⟨w.heap.size, 1, none⟩ (.slice ma y.next.length mc)).setCell ⟨w.heap.size, 2, none⟩ (.int .i64 x.dep)) := ((((unhide HXb).trans ((unhide HB8).mono (by omega))).setCell (p := ⟨w.heap.size, 0, none⟩) (Nat.le_refl _) _).setCell (p := ⟨w.heap.size, 1, none⟩) (Nat.le_refl _) _).setCell (p := ⟨w.heap.size, 2, none⟩) (Nat.le_refl _) _
   refine wpAnyH_ready (rs := [19]) (by kernel_rfl) (by simp) ?_
   refine AllReadyH.cons rfl (fun K hK => ?_) AllReadyH.nil
   go_simp
   generalize ((w8.setCell ⟨w.heap.size, 0, none⟩ (.slice b2 n2 c2)).setCell ⟨w.heap.size, 1, none⟩ (.slice ma y.next.length mc)).setCell ⟨w.heap.size, 2, none⟩ (.int .i64 x.dep) = W9 at *
   have hgw : ∀ k, g k → k < w.heap.size := fun k hk => Nat.lt_of_lt_of_le (unhide HGN k hk) hNw
   have hk9 : ∀ k, k < w.heap.size → W9.heap[k]? = wr.heap[k]? := fun k hk => (hot k (by omega)).trans ((unhide HB9).block k (by omega))
   refine hK.out _ _ (unhide HLow W9 hk9) (fun _ => ?_)
   clear hK
   refine wpAnyH_done (by kernel_rfl) ?_ _
   have hmv : Vc.Mv w8 W9 (fun k => k ≠ w.heap.size ∧ (g k ∨ w.heap.size ≤ k)) (fun k => g k ∨ w.heap.size ≤ k) := fun k _ hk => ⟨hk.2, hot k hk.1⟩
   have hfin := Vc.LL.moved hmv hz9 (fun _ _ q => q.moved hmv) ((unhide HL8).ll (G := fun k => k ≠ w.heap.size ∧ (g k ∨ w.heap.size ≤ k)) (fun k hk => ⟨by have := hgw k hk; omega, .inl hk⟩) (fun k h1 _ => ⟨by omega, .inr (by omega)⟩))
   have hnx : NumsL W9 g y.next (.slice ma y.next.length mc) := (unhide HNn).moved fun k _ hk => ⟨hk, hk9 k (hgw k hk)⟩
   have hfin2 : LL InC 5 W9 (fun k => g k ∨ w.heap.size ≤ k) (R.1 ++ [endI (l.getD R.2 dB)]) (.slice b2 n2 c2) := by
    have h := unhide HR2
    rw [← h, ← unhide HY]; exact hfin
   have hnx2 : NumsL W9 g (l.getD R.2 dB).next (.slice ma y.next.length mc) := by
    have h := unhide HR2
    rw [← h, ← unhide HY]; exact hnx
   have HFin := hide hfin2; have HNx := hide hnx2; have HBe9 := hide hbe9
   clear hmv hfin hnx hfin2 hnx2 hk9 hot hbe9 y0 y1 y2 yf
   go_wp2_with fail
   have u0 := cell_of_row W9 w.heap.size 0 _ _ _ hr9; have u1 := cell_of_row W9 w.heap.size 1 _ _ _ hr9; have u2 := cell_of_row W9 w.heap.size 2 _ _ _ hr9
   simp only [List.getElem?_toArray, List.getElem?_cons_zero, List.getElem?_cons_succ] at u0 u1 u2
   exact bodyPost_ret (v := .agg #[.slice b2 n2 c2, .slice ma y.next.length mc, .int .i64 x.dep]) (by simp [results, Tryz.results75, go_sem, u0, u1, u2]) rfl ⟨_, _, rfl, unhide HFin, unhide HNx, unhide HBe9⟩
   -- HANDEND
  ·obtain ⟨t, ht⟩ : ∃ t : Nat, z = (t : Int) := ⟨z.toNat, by omega⟩
   subst ht
   have htn : t < n := by omega
   obtain ⟨fu, rfl⟩ : ∃ f, fu = f + 1 := ⟨fu - 1, by
    rcases Nat.eq_zero_or_pos fu with h | h
    ·subst h; exact absurd (ends_0 tk p hen) (by rw [← hz]; exact hz1)
    ·omega⟩
   have hz2 : tk.getD p 0 ≠ -1 := by rw [← hz]; exact hz1
   have hfar := far_less tk fu p n hz2 hen hfu
   have hen2 := ends_yes tk fu p hz2 hen
   rw [chn_yes _ _ _ _ _ hz2] at hch
   rw [← hz, Int.toNat_natCast] at hch hen2 hfar
   obtain ⟨y, hy⟩ : ∃ y, y = l.getD t dB := ⟨_, rfl⟩
   rw [← hy] at hch
   have hyl : l[t]? = some y := by rw [hy]; exact get?_getD _ _ _ (by have := unhide HN; omega)
   have hym := List.mem_of_getElem? hyl
   obtain ⟨hi0, hi1⟩ := (unhide HC).ins y hym
   have hi2 := (unhide HF).ins y hym
   obtain ⟨Bc, oc, vi, vn, hva, hBN, hBl, -, d0, d1, d2, hin, hnn⟩ := blk_next hBw hyl
   cases hva
   obtain ⟨ja, jc, rfl, -, -, -⟩ := id hin
   obtain ⟨ma, mc, rfl, -, -, -⟩ := id hnn
   have hst := straight_any y hi0 hi1 _ _ (.slice ma y.next.length mc) wr hin ⟨_, _, _, rfl⟩
   have hsl : (sta y).length = y.ins.length - 1 := by unfold sta; rw [List.length_take]; omega
   have htni : (t : Int) < (n : Int) := by omega
   have hzb : ((t : Int) != -1) = true := by simp
   have hbd : acc.length + (sta y).length ≤ (n - fu + 1) * 16384 := by
    have : (n - fu + 1) * 16384 = (n - (fu + 1) + 1) * 16384 + 16384 := by omega
    omega
   have hbd2 : (n - fu + 1) * 16384 ≤ 1099511627776 := by have := unhide HF4; have := unhide HN; omega
   have HSt := hide hst; have HL := hide hl; have HCh := hide hch; have HBe := hide hbe; have HFar := hide hfar; have HEn := hide hen2; have HBd := hide hbd; have HBd2 := hide hbd2; have HSl := hide hsl; have HFu := hide hfu; have HTn := hide htn; have HXw := hide hXw; have HNw2 := hide hNw; have HSz := hide hsz
   clear hst hl hch hbe hfar hen2 hen hbd hbd2 hsl hfu htn hz hzr hz1 hz2 hal hi2 hi0 hi1 hym hyl hy hin hnn hBN hBl hBw hbw hXw hNw hsz hp
   go_wp2_with (first
    | (go_at_call 72; refine (unhide HSt).mono ?_; rintro e w5 ⟨B5, o5, rfl, hl5, hb5⟩; have HL5 := hide hl5; have HB5 := hide hb5; clear hl5 hb5)
    | (at_builtin
       have hl5 : LL InC 5 wr g (sta y) (.slice (some ⟨B5, o5, none⟩) (y.ins.length - 1) (y.ins.length - 1)) := unhide HL5
       have hb5 := unhide HB5
       obtain ⟨news, k1, k2, k3, k4⟩ := ll_news (Vc.Inss.below hb5 hl5)
       refine wpList_lst rfl (.tmp 24) (.tmp 29) rfl rfl ((unhide HL).below hb5) (fun k hk => by have := unhide HGN k hk; have := unhide HXw; have := unhide HNw2; omega) (Nat.le_trans (unhide HSz) hb5.size) rfl k1 k2 k3 k4 (Nat.le_trans (unhide HBd) (unhide HBd2)) ?_
       rintro b2 n2 c2 w8 rfl hl8 hb8
       have HL8 := hide hl8; have HB8 := hide (((unhide HBe).trans (hb5.mono (unhide HSz))).trans hb8)
       clear hl8 hb8 hl5 hb5 k1 k2 k3 k4))
   go_roundw
   case rel => exact ⟨fu, t, acc ++ sta y, b2, c2, by have := unhide HFu; omega, unhide HTn, rfl, by rw [List.length_append], unhide HEn, by rw [List.length_append]; exact unhide HBd, unhide HL8, unhide HCh, unhide HB8⟩
   case measure => have := unhide HFar; simpa [intOf] using this
end Fw
namespace Fw
open Vc (NumsL Nums Lies LL Bls BlC InC Bl Co infoN infoBl own_base RowT cob cob_cells)
/- flow: joined. -/
theorem jnk_no (l : List Bl) (tk : List Int) (k : Nat) (hk : k < l.length) (h : jn? tk k = false) : jnk l tk (k + 1) = jnk l tk k := by
 rw [jnk_succ]
 have h1 : jn1 l tk k = l.getD k dB := by unfold jn1; rw [h]; rfl
 rw [h1]
 refine List.ext_getElem? fun i => ?_
 rw [List.getElem?_set]
 split
 ·rename_i e
  subst e
  rw [if_pos (by rw [jnk_len]; exact hk), jnk_at _ _ _ _ (Nat.le_refl _), get?_getD _ _ dB hk]
 ·rfl
theorem contains_ro {w : World} {N : Nat} {v : Value} {l : List Int} (h : Ro w N v l) (h0 : 0 < l.length) (hl : l.length ≤ 1048576) (x : Int) :
    Calls Tryz.prog 74 #[v, .int .i64 x] w fun e w' => e = .returned (.bool (l.contains x)) ∧ w' = w := by
 obtain ⟨g, cap, rfl, hN, hgl, hc, -, -⟩ := h.at_ h0
 have := Tryz.slices_Contains_int g 0 l.length cap l x w (Nat.le_refl _) (by omega) (fun j hj => by rw [Nat.zero_add]; exact hc j hj)
 rw [List.take_length] at this
 exact this
theorem joined_any (l : List Bl) (hc : Cok l) (hf : Few l) (hE : EndsAll l) (pa re : Int) (rs : Bool) (g F : Nat → Prop) (vb : Value) (w : World) (hB : Bls w g l vb) (hg : ∀ k, g k → k < w.heap.size ∧ ¬ F k) (hF : ∀ k, F k → k < w.heap.size) :
    Calls Tryz.prog 45 #[.agg #[.int .i64 pa, .int .i64 re, .bool rs, vb]] w fun e w' => ∃ v', e = .returned (.agg #[.int .i64 pa, .int .i64 re, .bool rs, v']) ∧ Bls w' (fun k => k < w'.heap.size ∧ ¬ F k) (joinA l) v' ∧ Below w.heap.size w w' := by
 obtain ⟨va, vc, rfl, -, -, -⟩ := id hB
 have hlen := hc.nok.len
 have hone := hc.one
 obtain ⟨n, hn⟩ : ∃ n, n = l.length := ⟨_, rfl⟩
 obtain ⟨tk, htk⟩ : ∃ tk, tk = takes l := ⟨_, rfl⟩
 have hto := takes_ok hc
 have htl := takes_len l
 rw [← htk] at hto htl
 obtain ⟨X, hX⟩ : ∃ X, X = (w.alloc (.cells (cob pa re rs (.slice va n vc)) 29)).alloc (.cells (cob 0 0 false (.slice none 0 0)) 29) := ⟨_, rfl⟩
 have hXb : Below w.heap.size w X := by rw [hX]; exact Vc.two_allocs w _ _
 have hXz : X.heap.size = w.heap.size + 2 := by rw [hX]; simp
 have r0 : X.heap[w.heap.size]? = some (.cells (cob pa re rs (.slice va n vc)) 29 (0, 0)) := by rw [hX, Below.heap_alloc _ _ _ (by simp)]; exact heap_alloc_new _ _
 have r1 : X.heap[w.heap.size + 1]? = some (.cells (cob 0 0 false (.slice none 0 0)) 29 (0, 0)) := by
  have := heap_alloc_new (w.alloc (.cells (cob pa re rs (.slice va n vc)) 29)) (.cells (cob 0 0 false (.slice none 0 0)) 29)
  rw [show (w.alloc (.cells (cob pa re rs (.slice va n vc)) 29)).heap.size = w.heap.size + 1 by simp, ← hX] at this; exact this
 rw [← hn] at hB ⊢
 have hBw : Bls w (fun k => k < w.heap.size ∧ ¬ F k) l (.slice va n vc) := hB.moved (fun k _ h => ⟨hg k h, rfl⟩) (Nat.le_refl _)
 have hBw0 : Bls w (fun k => k < w.heap.size) l (.slice va n vc) := hB.moved (fun k _ h => ⟨(hg k h).1, rfl⟩) (Nat.le_refl _)
 have htc := takesOf_any l hc w.heap.size (.slice va n vc) X (bls_on hBw0 hXb) hXb.size
 rw [← htk] at htc
 have hclo := fun (W : World) (hW : Below X.heap.size X W) => clone_bo l (by omega) (by omega) (fun q => q < w.heap.size ∧ ¬ F q) (fun q => q = w.heap.size ∨ q = w.heap.size + 1 ∨ F q) (.slice va n vc) W (bls_at hBw (fun k h => h.1) (hXb.trans (hW.mono (by omega)))) (fun q hq => by have := hW.size; exact ⟨by omega, fun h => by rcases h with h | h | h <;> first | omega | exact hq.2 h⟩)
 obtain ⟨c0, c1, c2, c3, cf, cl⟩ := cob_cells r0
 have HC := hide hc; have HFw := hide hf; have HE := hide hE; have HN := hide hn; have HTk := hide htk; have HTo := hide hto; have HTl := hide htl; have HXb := hide hXb; have HXz := hide hXz; have HR0 := hide r0; have HR1 := hide r1; have HBw := hide hBw; have HTc := hide htc; have HCl := hide hclo; have HLn := hide hlen; have HOn := hide hone; have HFF := hide hF
 have hni : (n : Int) ≤ 1048576 := by omega
 clear hc hf hE hn htk hto htl hXb hXz r0 r1 hBw hBw0 htc hclo hlen hone hB hg hF
 go_enter Tryz.func45, Tryz.ntmps45
 go_upto_region 1 with fail
 rw [show (w.alloc (.cells #[.int .i64 pa, .int .i64 re, .bool rs, .slice va n vc] 29)).alloc (.cells #[.int .i64 0, .int .i64 0, .bool false, .slice none 0 0] 29) = X from hX.symm]
 clear hX
 go_upto_region 3 with (first
  | (go_at_call 73; refine (unhide HTc).mono ?_; rintro e w2 ⟨v2, rfl, ht2, hb2⟩; obtain ⟨gt, ct, e2, -⟩ := ht2.at_ (by rw [unhide HTl]; exact unhide HOn); subst e2; have c3b := (hb2.cell (p := ⟨w.heap.size, 3, none⟩) cl).trans c3; have HT2 := hide ht2; have HB2 := hide hb2; clear ht2 hb2)
  | (go_at_call 70; refine (unhide HCl _ (unhide HB2)).mono ?_; rintro e w5 ⟨B, cap, rfl, hBo, hb5⟩; have HBo := hide hBo; have HB5 := hide hb5; clear hBo hb5))
 have hb2 := unhide HB2
 have hb5 := unhide HB5
 have hXz := unhide HXz
 have hbX5 := hb2.trans (hb5.mono hb2.size)
 have hbw5 := (unhide HXb).trans (hbX5.mono (by omega))
 have q0 := (hbX5.block w.heap.size cl).trans (unhide HR0)
 have q1 := (hbX5.block (w.heap.size + 1) (by omega)).trans (unhide HR1)
 have ht5 := (unhide HT2).below hb5
 have hnb := (unhide HBo).nb
 obtain ⟨hgt1, hgt2⟩ := (unhide HT2).lt gt rfl
 have hs2 := hb2.size
 have hs5 := hb5.size
 have HQ0 := hide q0; have HQ1 := hide q1; have HT5 := hide ht5; have HBw5 := hide hbw5
 have HGt := hide (show gt < B by omega)
 have HNB := hide (show w.heap.size + 1 < B by omega)
 have HNB2 := hide hnb
 have HBlt := hide (unhide HBo).lt
 have HSw := hide (show w.heap.size + 2 ≤ w5.heap.size by omega)
 have hA9 : ∀ q, (q = w.heap.size ∨ q = w.heap.size + 1 ∨ F q) → q < w2.heap.size := fun q hq => by
  rcases hq with h | h | h
  ·omega
  ·omega
  ·have := unhide HFF q h; omega
 have HA9 := hide hA9
 rw [unhide HTl, ← unhide HN]
 clear hb2 hb5 hXz hbX5 hbw5 q0 q1 ht5 hnb hgt1 hgt2 hs2 hs5 hA9 c0 c1 c2 c3 c3b cf HB2 HB5 HT2 HTc HCl HR0 HR1 HXb
 go_wp2_with fail
 go_loopw [14] (fun c wr => ∃ k : Nat, k ≤ n ∧ c = .int .i64 (k : Int) ∧ Bo wr w2.heap.size B (fun q => q = w.heap.size ∨ q = w.heap.size + 1 ∨ F q) cap (jnk l tk k) ∧ Fo B w5 wr) (fun c _ => n - (intOf c).toNat)
 case atStart => exact ⟨0, Nat.zero_le _, rfl, unhide HBo, Fo.refl _ _⟩
 case round =>
  obtain ⟨k, hk, rfl, hBo, hFo⟩ := hrel
  have hsw := unhide HSw
  have hnB := unhide HNB
  have hgtB := unhide HGt
  have hBl5 := unhide HBlt
  have q0 := (hFo.keep w.heap.size (by omega) (by omega)).trans (unhide HQ0)
  have q1 := (hFo.keep (w.heap.size + 1) (by omega) (by omega)).trans (unhide HQ1)
  have hbw := (unhide HBw5).trans (hFo.below (by omega : w.heap.size ≤ B) (by omega))
  by_cases hlt : k < n
  ·have hkl : k < l.length := by rw [← unhide HN]; exact hlt
   have hTr : Ro wr X.heap.size (.slice (some ⟨gt, 0, none⟩) tk.length ct) tk := (unhide HT5).keep fun q hq => by
    have h9 : gt = q := Option.some.inj hq
    exact hFo.keep q (by omega) (by omega)
   obtain ⟨c0, c1, c2, c3, cf, -⟩ := cob_cells q0
   obtain ⟨t1, -⟩ := hTr.cells (i := k) (by rw [unhide HTl]; exact hkl)
   obtain ⟨z, hz⟩ : ∃ z, z = tk.getD k 0 := ⟨_, rfl⟩
   rw [← hz] at t1
   have hki : (k : Int) < (n : Int) := by omega
   have hjn : jn? tk k = (decide (z ≠ -1) && !(tk.contains (k : Int))) := by unfold jn?; rw [hz]
   have hcon := contains_ro hTr (by rw [unhide HTl]; exact unhide HOn) (by rw [unhide HTl]; exact unhide HLn) (k : Int)
   rw [unhide HTl, ← unhide HN] at hTr hcon
   obtain ⟨cb, hcb⟩ : ∃ cb, cb = tk.contains (k : Int) := ⟨_, rfl⟩
   rw [← hcb] at hjn hcon
   have hno := jnk_no l tk k hkl
   have HBo := hide hBo; have HFo := hide hFo; have HCon := hide hcon; have HJn := hide hjn; have HNo := hide hno; have HLt := hide hlt; have HTr := hide hTr; have HKl := hide hkl; have HBwr := hide hbw
   have HS9 := hide (And.intro hsw (And.intro hnB hBl5))
   clear hBo hFo hcon hjn hno hlt hTr hkl hk hcb hz q0 q1 hbw hsw hnB hgtB hBl5 c0 c1 c2
   by_cases hz1 : z = -1
   ·subst hz1
    have hst := unhide HNo (by rw [unhide HJn]; rfl)
    have HSt := hide hst
    clear hst
    go_wp2_with fail
    go_roundw
    case rel => exact ⟨k + 1, by have := unhide HLt; omega, by go_num, by rw [unhide HSt]; exact unhide HBo, unhide HFo⟩
    case measure => have := unhide HLt; simp [intOf]; omega
   ·have hzb : (z != -1) = true := by simpa using hz1
    cases cb with
    | true =>
      have hst := unhide HNo (by rw [unhide HJn]; simp)
      have HSt := hide hst
      clear hst
      go_wp2_with (go_at_call 74; refine (unhide HCon).mono ?_; rintro e w6 ⟨rfl, rfl⟩)
      go_roundw
      case rel => exact ⟨k + 1, by have := unhide HLt; omega, by go_num, by rw [unhide HSt]; exact unhide HBo, unhide HFo⟩
      case measure => have := unhide HLt; simp [intOf]; omega
    | false =>
      have hj1 : jn? tk k = true := by rw [unhide HJn]; simpa using hz1
      have hen : ends tk l.length k = true := by
       have h := unhide HE k (unhide HKl)
       rw [← unhide HTk] at h
       exact h hj1
      have hst := jnk_succ l tk k
      have hj2 : jn1 l tk k = chnB l tk k := by unfold jn1; rw [hj1]; rfl
      rw [hj2] at hst
      have hsb := (unhide HBwr).size
      have hca := chained_any l (unhide HC) (unhide HFw) tk (unhide HTl) (unhide HTo) k (unhide HKl) hen w.heap.size (fun q => q < w.heap.size ∧ ¬ F q) (fun q h => h.1) (.slice va n vc) (.slice (some ⟨gt, 0, none⟩) n ct) wr (bls_at (unhide HBw) (fun q h => h.1) (unhide HBwr)) hsb ((unhide HTr).nums.moved fun q _ hq => ⟨hq.2, rfl⟩)
      obtain ⟨y, hy⟩ : ∃ y, y = chnB l tk k := ⟨_, rfl⟩
      rw [← hy] at hst hca
      have hpx : (jnk l tk k)[k]? = some (l.getD k dB) := by rw [jnk_at _ _ _ _ (Nat.le_refl _)]; exact get?_getD _ _ _ (unhide HKl)
      have hwr : w5.heap.size ≤ wr.heap.size := (unhide HFo).size
      have hpost : ∀ w6 vi vn, LL InC 5 w6 (fun q => (q < w.heap.size ∧ ¬ F q) ∨ wr.heap.size ≤ q) y.ins vi → NumsL w6 (fun q => q < w.heap.size ∧ ¬ F q) y.next vn → Below wr.heap.size wr w6 → (∃ x0 x1 x2, w6.cell? ⟨B, k * 3, none⟩ = some x0 ∧ w6.cell? ⟨B, k * 3 + 1, none⟩ = some x1 ∧ w6.cell? ⟨B, k * 3 + 2, none⟩ = some x2) ∧ (∀ j, w6.frozen? ⟨B, j, none⟩ = false) ∧ Bo (((w6.setCell ⟨B, k * 3, none⟩ vi).setCell ⟨B, k * 3 + 1, none⟩ vn).setCell ⟨B, k * 3 + 2, none⟩ (.int .i64 y.dep)) w2.heap.size B (fun q => q = w.heap.size ∨ q = w.heap.size + 1 ∨ F q) cap (jnk l tk (k + 1)) ∧ Fo B w5 (((w6.setCell ⟨B, k * 3, none⟩ vi).setCell ⟨B, k * 3 + 1, none⟩ vn).setCell ⟨B, k * 3 + 2, none⟩ (.int .i64 y.dep)) := fun w6 vi vn hvi hvn h6 => by
       obtain ⟨s1, s2, s3⟩ := unhide HS9
       have h7 := (unhide HBo).below h6
       obtain ⟨xi, xn, e0, e1, e2, -, -⟩ := h7.it k _ hpx
       have hg : ∀ q, (q < w.heap.size ∧ ¬ F q) ∨ wr.heap.size ≤ q → q ≠ B ∧ ¬ (q = w.heap.size ∨ q = w.heap.size + 1 ∨ F q) := fun q hq => by
        rcases hq with h | h
        ·exact ⟨by omega, fun h2 => by rcases h2 with h2 | h2 | h2 <;> first | omega | exact h.2 h2⟩
        ·exact ⟨by omega, fun h2 => by rcases h2 with h2 | h2 | h2 <;> first | omega | (have := unhide HFF q h2; omega)⟩
       have hm : Vc.Mv w6 w6 (fun q => (q < w.heap.size ∧ ¬ F q) ∨ wr.heap.size ≤ q) (fun q => q ≠ B ∧ ¬ (q = w.heap.size ∨ q = w.heap.size + 1 ∨ F q)) := fun q _ hq => ⟨hg q hq, rfl⟩
       have h8 := h7.setAll (y := y) hpx (Vc.LL.moved hm (Nat.le_refl _) (fun _ _ q => q.moved hm) hvi) (hvn.moved fun q _ hq => ⟨hg q (.inl hq), rfl⟩)
       rw [← hst] at h8
       exact ⟨⟨_, _, _, e0, e1, e2⟩, h7.bt.frozen, h8, ((((unhide HFo).trans (Fo.of h6)).set _ _).set _ _).set _ _⟩
      have HCa := hide hca; have HPo := hide hpost; have HY := hide hy
      clear hca hpost hst hj2 hj1 hen hy hpx hsb hwr
      go_wp2_with (first
       | (go_at_call 74; refine (unhide HCon).mono ?_; rintro e w6 ⟨rfl, rfl⟩)
       | (go_at_call 75; refine (unhide HCa).mono ?_; rintro e w6 ⟨vi, vn, rfl, h1, h2, h3⟩; obtain ⟨⟨x0, x1, x2, e0, e1, e2⟩, ef, h4, h5⟩ := unhide HPo w6 vi vn h1 h2 h3; obtain ⟨ia, ic, rfl, -, -, -⟩ := h1; obtain ⟨na, nc, rfl, -, -, -⟩ := h2; have H4 := hide h4; have H5 := hide h5; clear h3 h4 h5))
      go_roundw
      case rel => exact ⟨k + 1, by have := unhide HLt; omega, by go_num, unhide H4, unhide H5⟩
      case measure => have := unhide HLt; simp [intOf]; omega
  ·obtain rfl : k = n := by omega
   have hjo : jnk l tk k = joinA l := by unfold joinA; rw [unhide HN, unhide HTk]
   rw [hjo] at hBo
   have hjl : (joinA l).length = k := by rw [← hjo, jnk_len, unhide HN]
   have hBo6 := hBo.setA (i := 3) (.inl rfl) (by omega) (.slice (some ⟨B, 0, none⟩) k cap)
   have q6 : (wr.setCell ⟨w.heap.size, 3, none⟩ (.slice (some ⟨B, 0, none⟩) k cap)).heap[w.heap.size]? = some (.cells (cob pa re rs (.slice (some ⟨B, 0, none⟩) k cap)) 29 (0, 0)) := (heap_setCell_same wr w.heap.size 3 _ _ _ q0).trans rfl
   have q7 : (wr.setCell ⟨w.heap.size, 3, none⟩ (.slice (some ⟨B, 0, none⟩) k cap)).heap[w.heap.size + 1]? = some (.cells (cob 0 0 false (.slice none 0 0)) 29 (0, 0)) := (heap_setCell_other wr ⟨w.heap.size, 3, none⟩ _ _ (by show w.heap.size + 1 ≠ w.heap.size; omega)).trans q1
   have hbw6 := hbw.setCell (p := ⟨w.heap.size, 3, none⟩) (Nat.le_refl _) (.slice (some ⟨B, 0, none⟩) k cap)
   obtain ⟨c0, c1, c2, c3, cf, cl2⟩ := cob_cells q0
   have HBo6 := hide hBo6; have HQ6 := hide q6; have HQ7 := hide q7; have HBw6 := hide hbw6; have HJl := hide hjl; have HNB3 := hide hnB
   clear hBo6 q6 q7 hbw6 hBo hFo q0 q1 hbw hlt hk hjo hjl hsw hnB hgtB hBl5 c0 c1 c2
   go_upto_region 10 with fail
   generalize wr.setCell ⟨w.heap.size, 3, none⟩ (.slice (some ⟨B, 0, none⟩) k cap) = W6 at *
   clear c3 cf cl2
   have hnB := unhide HNB3
   obtain ⟨c0, c1, c2, c3, cf, cl3⟩ := cob_cells (unhide HQ6)
   obtain ⟨y0, y1, y2, y3, yf, yl⟩ := cob_cells (unhide HQ7)
   have hb := ((((unhide HBo6).setA (a := w.heap.size + 1) (i := 0) (.inr (.inl rfl)) (by omega) (.int .i64 pa)).setA (a := w.heap.size + 1) (i := 1) (.inr (.inl rfl)) (by omega) (.int .i64 re)).setA (a := w.heap.size + 1) (i := 2) (.inr (.inl rfl)) (by omega) (.bool rs)).setA (a := w.heap.size + 1) (i := 3) (.inr (.inl rfl)) (by omega) (.slice (some ⟨B, 0, none⟩) k cap)
   have hfin := hb.blsA (unhide HJl).symm (fun q => q < ((((W6.setCell ⟨w.heap.size + 1, 0, none⟩ (.int .i64 pa)).setCell ⟨w.heap.size + 1, 1, none⟩ (.int .i64 re)).setCell ⟨w.heap.size + 1, 2, none⟩ (.bool rs)).setCell ⟨w.heap.size + 1, 3, none⟩ (.slice (some ⟨B, 0, none⟩) k cap)).heap.size ∧ ¬ F q) (fun q hq h => ⟨hq, fun hf => by
    rcases h with h | h
    ·have := unhide HFF q hf; omega
    ·exact h (.inr (.inr hf))⟩)
   have hr8 := set4c W6 (w.heap.size + 1) _ _ _ _ _ (.int .i64 pa) (.int .i64 re) (.bool rs) (.slice (some ⟨B, 0, none⟩) k cap) (unhide HQ7)
   have hb8 := Vc.bel4 (unhide HBw6) (w.heap.size + 1) (Nat.le_succ _) (.int .i64 pa) (.int .i64 re) (.bool rs) (.slice (some ⟨B, 0, none⟩) k cap)
   have HFn := hide hfin; have HR8 := hide hr8; have HB8 := hide hb8
   clear hfin hr8 hb8 hb hnB
   go_wp2_with fail
   generalize (((W6.setCell ⟨w.heap.size + 1, 0, none⟩ (.int .i64 pa)).setCell ⟨w.heap.size + 1, 1, none⟩ (.int .i64 re)).setCell ⟨w.heap.size + 1, 2, none⟩ (.bool rs)).setCell ⟨w.heap.size + 1, 3, none⟩ (.slice (some ⟨B, 0, none⟩) k cap) = W8 at *
   have u0 := cell_of_row W8 (w.heap.size + 1) 0 _ _ _ (unhide HR8); have u1 := cell_of_row W8 (w.heap.size + 1) 1 _ _ _ (unhide HR8); have u2 := cell_of_row W8 (w.heap.size + 1) 2 _ _ _ (unhide HR8); have u3 := cell_of_row W8 (w.heap.size + 1) 3 _ _ _ (unhide HR8)
   simp only [List.getElem?_toArray, List.getElem?_cons_zero, List.getElem?_cons_succ] at u0 u1 u2 u3
   exact bodyPost_ret (v := .agg #[.int .i64 pa, .int .i64 re, .bool rs, .slice (some ⟨B, 0, none⟩) k cap]) (by simp [results, Tryz.results45, go_sem, u0, u1, u2, u3]) rfl ⟨_, rfl, unhide HFn, unhide HB8⟩
end Fw
end Go.Proofs.YtglehoekehiaiaaGreatDoor
