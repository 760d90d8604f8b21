/- flow: what Join makes. -/
import Derived.Test.YtpecnljcgiicaaaDoorRA
import Derived.ArgAppend
import Derived.Lib.SlFresh
import Derived.Deep.AppendLies
import Derived.Test.YtpecnljcgiicaaaDoorR3

/- flow: what Thread makes; a copy of blocks that is written into. -/
namespace Go.Proofs.YtpecnljcgiicaaaDoor
open Go.RowKit
namespace Fw
set_option linter.unusedVariables false
set_option linter.unusedSimpArgs false
open Vc (NumsL Nums Lies LL Bls BlC InC Bl Co WfC WfB chk siz Fms infoN infoBl own_base RowT cob cob_cells)

/-- where each block leads by jumps alone -/
def bhk (l : List Bl) (k : Nat) : List Int := (List.range k).foldl (fun a b => a.set b ((bjF l b l.length b : Nat) : Int)) (List.replicate l.length 0)
def bhs (l : List Bl) : List Int := bhk l l.length
theorem bhk_succ (l : List Bl) (k : Nat) : bhk l (k + 1) = (bhk l k).set k ((bjF l k l.length k : Nat) : Int) := by unfold bhk; rw [List.range_succ, List.foldl_append]; rfl
theorem bhk_len (l : List Bl) (k : Nat) : (bhk l k).length = l.length := by
  induction k with
  | zero => simp [bhk]
  | succ k ih => rw [bhk_succ, List.length_set]; exact ih
theorem bhk_at (l : List Bl) (k i : Nat) (hk : k ≤ l.length) : (bhk l k).getD i 0 = if i < k then ((bjF l i l.length i : Nat) : Int) else 0 := by
  induction k with
  | zero =>
    rw [if_neg (by omega)]
    by_cases h : i < l.length
    · rw [show bhk l 0 = List.replicate l.length 0 from rfl, getD_get _ _ _ (by simpa using h)]; simp
    · rw [getD_out _ _ _ (by rw [bhk_len]; omega)]
  | succ k ih =>
    rw [bhk_succ, getD_set _ _ _ _ (by rw [bhk_len]; omega), ih (by omega)]
    by_cases h1 : k = i
    · subst h1; simp
    · by_cases h2 : i < k
      · rw [if_neg (by first | exact h1 | exact fun e => h1 e.symm), if_pos h2, if_pos (by omega)]
      · rw [if_neg (by first | exact h1 | exact fun e => h1 e.symm), if_neg h2, if_neg (by omega)]
theorem bhs_rng {l : List Bl} (h : Cok l) : ∀ z ∈ bhs l, 0 ≤ z ∧ z < (l.length : Int) := by
  intro z hz
  obtain ⟨i, hi, rfl⟩ := List.getElem_of_mem hz
  have hi2 : i < l.length := by have := hi; unfold bhs at this; rwa [bhk_len] at this
  have e := bhk_at l l.length i (Nat.le_refl _)
  rw [if_pos hi2, getD_get _ _ _ (by rw [bhk_len]; exact hi2)] at e
  have h5 := bj_lt h hi2 l.length i hi2
  show 0 ≤ (bhk l l.length)[i]'(by rw [bhk_len]; exact hi2) ∧ (bhk l l.length)[i]'(by rw [bhk_len]; exact hi2) < _
  rw [e]; omega
def jmpI : Vc.In := ⟨193, -1, [], 0, 0⟩
def thr1 (x : Bl) : Bl := if (endI x).op = 194 ∧ x.next.getD 0 0 = x.next.getD 1 0 then ⟨x.ins.take (x.ins.length - 1) ++ [jmpI], x.next.take 1, x.dep⟩ else x
def thrB (l : List Bl) : List Bl := (l.map (tellB (bhs l))).map thr1
theorem thrB_len (l : List Bl) : (thrB l).length = l.length := by simp [thrB]

/-- a block's instructions laid anew -/
theorem Bo.setIns {w : World} {A : Nat → Prop} {N B cap i : Nat} {l : List Bl} {x : Bl} (h : Bo w N B A cap l) (hx : l[i]? = some x) {z : List Vc.In} {vi : Value} (hi : LL InC 5 w (fun k => k ≠ B ∧ ¬ A k) z vi) : Bo (w.setCell ⟨B, i * 3, none⟩ vi) N B A cap (l.set i ⟨z, x.next, x.dep⟩) := by
  have hm : Vc.Mv w (w.setCell ⟨B, i * 3, none⟩ vi) (fun k => k ≠ B ∧ ¬ A k) (fun k => k ≠ B ∧ ¬ A k) := fun k _ hg => ⟨hg, heap_setCell_other w ⟨B, i * 3, none⟩ k vi hg.1⟩
  have hs : w.heap.size ≤ (w.setCell ⟨B, i * 3, none⟩ vi).heap.size := by simp
  have o : ∀ o v, o ≠ i * 3 → w.cell? ⟨B, o, none⟩ = some v → (w.setCell ⟨B, i * 3, none⟩ vi).cell? ⟨B, o, none⟩ = some v := fun o v ho e => by
    rw [World.cell?_setCell_other _ _ _ _ (by intro e2; injection e2 with _ e3 _; omega)]; exact e
  refine ⟨h.nb, h.bt.set, by simpa using h.cap, fun j y hy => ?_⟩
  rw [List.getElem?_set] at hy
  by_cases e : i = j
  · subst e
    rw [if_pos rfl, if_pos (List.getElem?_eq_some_iff.1 hx).1] at hy
    cases hy
    obtain ⟨vi0, vn, k0, k1, k2, k3, k4⟩ := h.it i x hx
    exact ⟨vi, vn, World.cell?_setCell_same w _ vi k0, o _ _ (by omega) k1, o _ _ (by omega) k2, hi.moved hm hs (fun _ _ q => q.moved hm), k4.moved hm⟩
  · rw [if_neg e] at hy
    obtain ⟨vi0, vn, k0, k1, k2, k3, k4⟩ := h.it j y hy
    exact ⟨vi0, vn, o _ _ (by omega) k0, o _ _ (by omega) k1, o _ _ (by omega) k2, k3.moved hm hs (fun _ _ q => q.moved hm), k4.moved hm⟩

/-- slices.Clone of blocks, to be written into -/
theorem clone_bo (l : List Bl) (h0 : 0 < l.length) (hl : l.length ≤ 1099511627776) (g A : Nat → Prop) (v : Value) (w : World) (h : Bls w g l v) (hg : ∀ k, g k → k < w.heap.size ∧ ¬ A k) :
    Calls Tryd.prog 37 #[v] w fun e w' => ∃ B cap, e = .returned (.slice (some ⟨B, 0, none⟩) l.length cap) ∧ Bo w' w.heap.size B A cap l ∧ Below w.heap.size w w' := by
  refine (Vc.clBls Vc.BlO (BlC w g) Vc.blC_ones l v w (Vc.LLf.of h (fun _ _ _ => rfl) (Nat.le_refl _)) hl).mono ?_
  rintro e w' ⟨v', rfl, hr, hb⟩
  rcases hr with ⟨e0, -⟩ | ⟨-, B, cap, rfl, hrow, hB, hcap⟩
  · rw [e0] at h0; simp at h0
  · refine ⟨B, cap, rfl, ⟨hB, hrow.t, hcap, fun i x hx => ?_⟩, hb⟩
    obtain ⟨cs, -, -, k3, k4⟩ := hrow.it i x hx
    obtain ⟨vi, vn, rfl, k5, k6⟩ := k3 (Nat.zero_le _)
    have hm : Vc.Mv w w' g (fun k => k ≠ B ∧ ¬ A k) := fun k hk hgk => ⟨⟨by have := (hg k hgk).1; omega, (hg k hgk).2⟩, hb.block k hk⟩
    exact ⟨vi, vn, by have := k4 0 _ rfl; simpa using this, k4 1 _ rfl, k4 2 _ rfl, k5.moved hm hb.size (fun _ _ q => q.moved hm), k6.moved hm⟩
end Fw
end Go.Proofs.YtpecnljcgiicaaaDoor

/- flow: a list that is made of others' instructions, one list behind another. -/
namespace Go.Proofs.YtpecnljcgiicaaaDoor
open Go.RowKit
namespace Fw
set_option linter.unusedVariables false
set_option linter.unusedSimpArgs false
open Vc (NumsL Nums Lies LL Bls BlC InC Bl Co WfC WfB chk siz Fms infoN infoBl own_base RowT cob cob_cells Its)

theorem Its.app {α : Type} {It : α → List Value → Prop} {c : Nat} {l z : List α} {xs ys : List Value} (h : Its It c l xs) (k : Its It c z ys) : Its It c (l ++ z) (xs ++ ys) := by
  refine ⟨by rw [List.length_append, h.1, k.1, List.length_append, Nat.add_mul], fun i y hy => ?_⟩
  by_cases e : i < l.length
  · rw [List.getElem?_append_left e] at hy
    obtain ⟨ds, h1, h2, h3⟩ := h.2 i y hy
    refine ⟨ds, h1, h2, fun j hj => ?_⟩
    rw [List.getElem?_append_left (by rw [h.1]; have : (i + 1) * c ≤ l.length * c := Nat.mul_le_mul_right _ e; rw [Nat.add_mul] at this; omega)]
    exact h3 j hj
  · rw [List.getElem?_append_right (by omega)] at hy
    obtain ⟨ds, h1, h2, h3⟩ := k.2 _ y hy
    refine ⟨ds, h1, h2, fun j hj => ?_⟩
    have hc : i * c = l.length * c + (i - l.length) * c := by rw [← Nat.add_mul]; congr 1; omega
    rw [List.getElem?_append_right (by rw [h.1]; omega), h.1, show i * c + j - l.length * c = (i - l.length) * c + j by omega]
    exact h3 j hj
/-- others' memory, full; or the call's own -/
def Lst (w : World) (N : Nat) (g : Nat → Prop) (v : Value) (l : List Vc.In) : Prop :=
  (∃ xs, w.ownsRow N 29 5 v l.length xs ∧ Its (InC w g) 5 l xs) ∨ (∃ B o, v = .slice (some ⟨B, o, none⟩) l.length l.length ∧ LL InC 5 w g l v)
theorem Lst.sl {w : World} {N : Nat} {g : Nat → Prop} {v : Value} {l : List Vc.In} (h : Lst w N g v l) : ∃ a c, v = .slice a l.length c := by
  rcases h with ⟨xs, ho, -⟩ | ⟨B, o, rfl, -⟩
  · rcases ho.2 with ⟨rfl, e⟩ | ⟨g', cap, cur, rfl, -⟩
    · exact ⟨none, 0, by rw [e]⟩
    · exact ⟨_, _, rfl⟩
  · exact ⟨_, _, rfl⟩
theorem Lst.below {w w' : World} {N : Nat} {g : Nat → Prop} {v : Value} {l : List Vc.In} (h : Lst w N g v l) (hb : Below w.heap.size w w') : Lst w' N g v l := by
  rcases h with ⟨xs, ho, hi⟩ | ⟨B, o, e, hl⟩
  · exact .inl ⟨xs, Vc.ownsRow_below ho hb, hi.mono fun x cs h => h.moved (Vc.Mv.below hb fun _ _ h => h)⟩
  · exact .inr ⟨B, o, e, Vc.Inss.below hb hl⟩
/-- where it lies -/
theorem Lst.ll {w : World} {N : Nat} {g G : Nat → Prop} {v : Value} {l : List Vc.In} (h : Lst w N g v l) (hg : ∀ k, g k → G k) (hG : ∀ k, N ≤ k → k < w.heap.size → G k) : LL InC 5 w G l v := by
  have hm : Vc.Mv w w g G := fun k _ hk => ⟨hg k hk, rfl⟩
  rcases h with ⟨xs, ho, hi⟩ | ⟨B, o, e, hl⟩
  · rcases ho.2 with ⟨rfl, e⟩ | ⟨g', cap, cur, rfl, h2, h3, h4, -⟩
    · rw [List.eq_nil_of_length_eq_zero e]; exact Vc.LL_nil _ _ _ _
    · have hlt := (Array.getElem?_eq_some_iff.1 h3).1
      have hce := Vc.row_cells ho
      refine ⟨_, cap, rfl, h4, (by intro h; cases h), fun h0 => ⟨g', 0, rfl, hG g' h2 hlt, hlt, fun i x hx => ?_⟩⟩
      obtain ⟨cs, k1, k2, k3⟩ := hi.2 i x hx
      refine ⟨cs, k1, k2.moved hm, fun j u hu => ?_⟩
      rw [Nat.zero_add]
      exact hce _ u (by rw [k3 j (by have := (List.getElem?_eq_some_iff.1 hu).1; omega)]; exact hu)
  · exact hl.moved hm (Nat.le_refl _) (fun _ _ q => q.moved hm)
theorem set0 (w : World) (b o : Nat) : w.setCells b o [] = w := by simp [World.setCells]

set_option maxRecDepth 100000 in
theorem Lst.app {w : World} {N : Nat} {g : Nat → Prop} {v : Value} {l : List Vc.In} (h : Lst w N g v l) (hg : ∀ k, g k → k < N) (hN : N ≤ w.heap.size) (ty : TypeId) {z : List Vc.In} {ad : Addr} {m c : Nat} {news : List Value} (hm : m = z.length) (hits : Its (InC w g) 5 z news) (hce : ∀ j u, news[j]? = some u → w.cell? (ad.add j) = some u) (h1 : ∀ u ∈ news, u.oneCell' = true) (hb : l.length + z.length ≤ 1099511627776) :
    ∃ v' w', (Builtin.append_ #[30, 30] ty #[v, .slice (some ad) m c]).run Tryd.prog w = .ok v' w' ∧ Lst w' N g v' (l ++ z) ∧ Below N w w' := by
  subst hm
  obtain ⟨ib, hib, hb0, hb1, hb2⟩ := info_parts Vc.infoIn
  have hnl : news.length = z.length * 5 := hits.1
  rcases h with ⟨xs, ho, hi⟩ | ⟨B, o, rfl, hl⟩
  · obtain ⟨v', w', hr, k2, k3, -⟩ := run_append_own (P := Tryd.prog) w N 30 ty 29 ib _ 5 _ Tryd.underlying30 hib hb0 hb1 hb2 rfl (by decide) v l.length xs ho ad z.length c news hnl hce h1 (by unfold maxLen; omega) (by omega) hN
    have hmv : Vc.Mv w w' g g := fun k hk hgk => ⟨hgk, k3.block k hk fun e => by have := (World.ownsRow.lt ho k e.symm).1; have := hg k hgk; omega⟩
    refine ⟨v', w', hr, .inl ⟨xs ++ news, by rw [List.length_append]; exact k2, Its.app (hi.mono fun x cs h => h.moved hmv) (hits.mono fun x cs h => h.moved hmv)⟩, (Below.refl N w).grown k3 hN fun k e => (World.ownsRow.lt ho k e).1⟩
  · obtain ⟨olds, e1, -, e3, e4, e5, e6⟩ := (Vc.LLf.of hl (fun _ _ _ => rfl) (Nat.le_refl _)).cells (by omega) Vc.inC_ones
    cases z with
    | nil =>
      obtain rfl : news = [] := List.eq_nil_of_length_eq_zero (by simpa using hnl)
      have hr := run_append_room_cells (P := Tryd.prog) w 30 ty 29 ib Tryd.underlying30 hib B o l.length l.length ad 0 c [] (by simp) hce h1 (by simp) (by simp) (by simp)
      rw [set0] at hr
      exact ⟨_, _, hr, .inr ⟨B, o, by simp, by simpa using hl⟩, Below.refl _ _⟩
    | cons y r =>
      obtain ⟨v', w', hr, k2, k3⟩ := run_append_arg_grows (P := Tryd.prog) w 30 ty 29 ib _ 5 _ Tryd.underlying30 hib hb0 hb1 hb2 rfl (by decide) ⟨B, o, none⟩ l.length l.length olds e3 (e5 _ rfl) ad (y :: r).length c news hnl hce (by simp) (by unfold maxLen; omega) (by omega)
      have hmv : Vc.Mv w w' g g := fun k hk hgk => ⟨hgk, k3.block k hk (by simp)⟩
      exact ⟨v', w', hr, .inl ⟨olds ++ news, by rw [List.length_append]; exact own_base k2 hN, Its.app (e4.mono fun x cs h => h.moved hmv) (hits.mono fun x cs h => h.moved hmv)⟩, (Below.refl N w).grown k3 hN (by simp)⟩
/-- a block's instructions but for its end -/
def sta (x : Bl) : List Vc.In := x.ins.take (x.ins.length - 1)

section
variable {w : World} {N : Nat} {g : Nat → Prop} {v : Value} {l : List Vc.In}
/-- at the list of a plain region's operations -/
theorem wpList_lst {ops : Array Oper} {rest : List Oper} {o : Oper} {a : Act} {Q : Exit → Act → World → Prop} (hgd : o.guard = none) (s x : Operand) (ho : o.op = .call { callee := .builtin .append, args := #[s, x], argTypes := #[30, 30] })
    (hs : a.eval s = v) (h : Lst w N g v l) (hg : ∀ k, g k → k < N) (hN : N ≤ w.heap.size) {z : List Vc.In} {ad : Addr} {m c : Nat} {news : List Value} (hx : a.eval x = .slice (some ad) m c) (hm : m = z.length) (hits : Its (InC w g) 5 z news) (hce : ∀ j u, news[j]? = some u → w.cell? (ad.add j) = some u) (h1 : ∀ u ∈ news, u.oneCell' = true) (hb : l.length + z.length ≤ 1099511627776)
    (k : ∀ b n c w', n = (l ++ z).length → Lst w' N g (.slice b n c) (l ++ z) → Below N w w' → wpList Tryd.prog ops Q rest (a.put o.dst (.slice b n c)) w') : wpList Tryd.prog ops Q (o :: rest) a w := by
  obtain ⟨v', w', hr, h2, h3⟩ := h.app hg hN o.type hm hits hce h1 hb
  obtain ⟨b, c', rfl⟩ := h2.sl
  exact Lib.wpList_append_run_sl w hgd s x _ ho v _ hs hx hr (k _ _ _ _ rfl h2 h3)
/-- at a step of a region that draws its order -/
theorem step_lst {ops : Array Oper} {o : Oper} {a : Act} {K : Act → World → Prop} {Q : Exit → Act → World → Prop} {E : Prop} (hgd : o.guard = none) (s x : Operand) (ho : o.op = .call { callee := .builtin .append, args := #[s, x], argTypes := #[30, 30] })
    (hs : a.eval s = v) (h : Lst w N g v l) (hg : ∀ k, g k → k < N) (hN : N ≤ w.heap.size) {z : List Vc.In} {ad : Addr} {m c : Nat} {news : List Value} (hx : a.eval x = .slice (some ad) m c) (hm : m = z.length) (hits : Its (InC w g) 5 z news) (hce : ∀ j u, news[j]? = some u → w.cell? (ad.add j) = some u) (h1 : ∀ u ∈ news, u.oneCell' = true) (hb : l.length + z.length ≤ 1099511627776)
    (k : ∀ b n c w', n = (l ++ z).length → Lst w' N g (.slice b n c) (l ++ z) → Below N w w' → K (a.put o.dst (.slice b n c)) w') :
    if Region.wanted o (yielded ops a.tmps) = true then Oper.wp Tryd.prog o a w K Q else E := by
  have hw : Region.wanted o (yielded ops a.tmps) = true := by simp [Region.wanted, hgd]
  rw [if_pos hw]
  obtain ⟨v', w', hr, h2, h3⟩ := h.app hg hN o.type hm hits hce h1 hb
  obtain ⟨b, c', rfl⟩ := h2.sl
  exact Lib.wp_append_run_sl w s x _ ho v _ hs hx hr (k _ _ _ _ rfl h2 h3)
end
/-- the instructions of a list, where they lie -/
theorem ll_news {w : World} {g : Nat → Prop} {z : List Vc.In} {B o m c : Nat} (h : LL InC 5 w g z (.slice (some ⟨B, o, none⟩) m c)) : ∃ news, m = z.length ∧ Its (InC w g) 5 z news ∧ (∀ j u, news[j]? = some u → w.cell? ((⟨B, o, none⟩ : Addr).add j) = some u) ∧ ∀ u ∈ news, u.oneCell' = true := by
  obtain ⟨a', c', e, -⟩ := id h
  obtain ⟨xs, e1, -, e3, e4, e5, e6⟩ := (Vc.LLf.of h (fun _ _ _ => rfl) (Nat.le_refl _)).cells (by omega) Vc.inC_ones
  exact ⟨xs, e1, e4, e5 _ rfl, e6⟩
/-- one instruction in a row that was just made -/
theorem one_news {W w5 : World} {g : Nat → Prop} {y : Vc.In} {vs : Value} (h : NumsL W g y.src vs) : Its (InC W g) 5 [y] (Vc.inC y vs) := ⟨rfl, fun i x hx => by
  have hi : i = 0 := by have := (List.getElem?_eq_some_iff.1 hx).1; simp at this; omega
  subst hi
  cases hx
  exact ⟨_, rfl, ⟨_, rfl, h⟩, fun j _ => by rw [Nat.zero_mul, Nat.zero_add]; rfl⟩⟩

end Fw
end Go.Proofs.YtpecnljcgiicaaaDoor

/- flow: what Join makes. -/
namespace Go.Proofs.YtpecnljcgiicaaaDoor
open Go.RowKit
namespace Fw
set_option linter.unusedVariables false
set_option linter.unusedSimpArgs false
open Vc (NumsL Nums Lies LL Bls BlC InC Bl Co WfC WfB WfI chk siz Fms infoN infoBl own_base RowT cob cob_cells)

def tkOk (n : Nat) (tk : List Int) : Prop := ∀ i, i < n → tk.getD i 0 = -1 ∨ (0 ≤ tk.getD i 0 ∧ tk.getD i 0 < (n : Int))
theorem tks_ok {l : List Bl} (hc : Cok l) (ways : List Int) (k : Nat) (hk : k ≤ l.length) : tkOk l.length (tks l ways k) := by
  induction k with
  | zero =>
    intro i hi
    left
    rw [show tks l ways 0 = List.replicate l.length (-1) from rfl, getD_get _ _ _ (by simpa using hi)]; simp
  | succ k ih =>
    intro i hi
    rw [tks_succ]
    have h0 := ih (by omega) i hi
    split
    · rename_i ht
      rw [getD_set _ _ _ _ (by rw [tks_len]; omega)]
      split
      · right
        have hm := getD_mem l k dB (by omega)
        have ho : (endI (l.getD k dB)).op = 193 := by unfold takes1 at ht; simp at ht; exact ht.1
        have h1 := hc.jmp _ hm ho
        exact hc.nok.rng _ hm _ (getD_mem _ 0 0 (by omega))
      · exact h0
    · exact h0
theorem takes_ok {l : List Bl} (hc : Cok l) : tkOk l.length (takes l) := tks_ok hc _ _ (Nat.le_refl _)
theorem takes_len (l : List Bl) : (takes l).length = l.length := tks_len _ _ _
/-- a chain of what is taken: so many steps at most; what comes of it, and where it ends -/
def chn (l : List Bl) (tk : List Int) : Nat → Nat → List Vc.In → List Vc.In × Nat
  | 0, t, acc => (acc, t)
  | f + 1, t, acc => if tk.getD t 0 = -1 then (acc, t) else chn l tk f (tk.getD t 0).toNat (acc ++ sta (l.getD (tk.getD t 0).toNat dB))
def ends (tk : List Int) : Nat → Nat → Bool
  | 0, t => decide (tk.getD t 0 = -1)
  | f + 1, t => decide (tk.getD t 0 = -1) || ends tk f (tk.getD t 0).toNat
theorem chn_no (l : List Bl) (tk : List Int) (f t : Nat) (acc : List Vc.In) (h : tk.getD t 0 = -1) : chn l tk f t acc = (acc, t) := by
  cases f with
  | zero => rfl
  | succ f => unfold chn; rw [if_pos h]
theorem chn_yes (l : List Bl) (tk : List Int) (f t : Nat) (acc : List Vc.In) (h : tk.getD t 0 ≠ -1) : chn l tk (f + 1) t acc = chn l tk f (tk.getD t 0).toNat (acc ++ sta (l.getD (tk.getD t 0).toNat dB)) := by
  conv => lhs; unfold chn
  rw [if_neg h]
theorem ends_yes (tk : List Int) (f t : Nat) (h : tk.getD t 0 ≠ -1) (he : ends tk (f + 1) t = true) : ends tk f (tk.getD t 0).toNat = true := by
  unfold ends at he
  rw [Bool.or_eq_true, decide_eq_true_eq] at he
  exact he.resolve_left h
theorem ends_0 (tk : List Int) (t : Nat) (he : ends tk 0 t = true) : tk.getD t 0 = -1 := by unfold ends at he; simpa using he
def chnB (l : List Bl) (tk : List Int) (i : Nat) : Bl := ⟨(chn l tk l.length i (sta (l.getD i dB))).1 ++ [endI (l.getD (chn l tk l.length i (sta (l.getD i dB))).2 dB)], (l.getD (chn l tk l.length i (sta (l.getD i dB))).2 dB).next, (l.getD i dB).dep⟩
def jn? (tk : List Int) (i : Nat) : Bool := decide (tk.getD i 0 ≠ -1) && !(tk.contains (i : Int))
def jn1 (l : List Bl) (tk : List Int) (i : Nat) : Bl := if jn? tk i = true then chnB l tk i else l.getD i dB
/-- so many blocks are joined -/
def jnk (l : List Bl) (tk : List Int) (k : Nat) : List Bl := (List.range k).foldl (fun o i => o.set i (jn1 l tk i)) l
def joinA (l : List Bl) : List Bl := jnk l (takes l) l.length
def joinB (l : List Bl) : List Bl := trimB (joinA (trimB l))
theorem jnk_succ (l : List Bl) (tk : List Int) (k : Nat) : jnk l tk (k + 1) = (jnk l tk k).set k (jn1 l tk k) := by unfold jnk; rw [List.range_succ, List.foldl_append]; rfl
theorem jnk_len (l : List Bl) (tk : List Int) (k : Nat) : (jnk l tk k).length = l.length := by
  induction k with
  | zero => rfl
  | succ k ih => rw [jnk_succ, List.length_set]; exact ih
theorem jnk_at (l : List Bl) (tk : List Int) (k i : Nat) (hi : k ≤ i) : (jnk l tk k)[i]? = l[i]? := by
  induction k with
  | zero => rfl
  | succ k ih => rw [jnk_succ, List.getElem?_set_ne (by omega)]; exact ih (by omega)
theorem jnk_mem (l : List Bl) (tk : List Int) (k : Nat) : ∀ b ∈ jnk l tk k, b ∈ l ∨ ∃ i, i < k ∧ b = jn1 l tk i := by
  induction k with
  | zero => intro b hb; exact .inl hb
  | succ k ih =>
    intro b hb
    rw [jnk_succ] at hb
    rcases List.mem_or_eq_of_mem_set hb with h | h
    · rcases ih b h with h | ⟨i, h1, h2⟩
      · exact .inl h
      · exact .inr ⟨i, by omega, h2⟩
    · exact .inr ⟨k, by omega, h⟩
/-- all chains end -/
def EndsAll (l : List Bl) : Prop := ∀ i, i < l.length → jn? (takes l) i = true → ends (takes l) l.length i = true

theorem sta_len (x : Bl) : (sta x).length ≤ x.ins.length := by unfold sta; rw [List.length_take]; omega
theorem dB_or {l : List Bl} (t : Nat) : l.getD t dB ∈ l ∨ l.getD t dB = dB := by
  by_cases h : t < l.length
  · exact .inl (getD_mem _ _ _ h)
  · exact .inr (getD_out _ _ _ (by omega))
theorem chn_len {l : List Bl} {tk : List Int} {M : Nat} (hM : ∀ b ∈ l, b.ins.length ≤ M) : ∀ f t acc, (chn l tk f t acc).1.length ≤ acc.length + f * M := by
  intro f
  induction f with
  | zero => intro t acc; simp [chn]
  | succ f ih =>
    intro t acc
    by_cases h : tk.getD t 0 = -1
    · rw [chn_no _ _ _ _ _ h]; simp
    · rw [chn_yes _ _ _ _ _ h]
      refine Nat.le_trans (ih _ _) ?_
      have h2 : (sta (l.getD (tk.getD t 0).toNat dB)).length ≤ M := by
        rcases dB_or (l := l) (tk.getD t 0).toNat with h3 | h3
        · exact Nat.le_trans (sta_len _) (hM _ h3)
        · rw [h3]; simp [sta, dB]
      rw [List.length_append, Nat.add_mul, Nat.one_mul]; omega
theorem chn_mem {l : List Bl} {tk : List Int} {P : Vc.In → Prop} (hP : ∀ b ∈ l, ∀ y ∈ b.ins, P y) : ∀ f t acc, (∀ y ∈ acc, P y) → ∀ y ∈ (chn l tk f t acc).1, P y := by
  intro f
  induction f with
  | zero => intro t acc h; simpa [chn] using h
  | succ f ih =>
    intro t acc h
    by_cases h0 : tk.getD t 0 = -1
    · rw [chn_no _ _ _ _ _ h0]; exact h
    · rw [chn_yes _ _ _ _ _ h0]
      refine ih _ _ fun y hy => ?_
      rcases List.mem_append.1 hy with h1 | h1
      · exact h y h1
      · rcases dB_or (l := l) (tk.getD t 0).toNat with h3 | h3
        · exact hP _ h3 y (List.mem_of_mem_take h1)
        · rw [h3] at h1; simp [sta, dB] at h1

theorem anw_lt (r : List Int) (n : Nat) : ∀ k i, (anw r n k).getD i 0 < ((max k 1 : Nat) : Int) := by
  intro k
  induction k with
  | zero =>
    intro i
    by_cases h : i < n
    · rw [show anw r n 0 = List.replicate n 0 from rfl, getD_get _ _ _ (by simpa using h)]; simp
    · rw [getD_out _ _ _ (by rw [anw_len]; omega)]; simp
  | succ k ih =>
    intro i
    rw [anw_succ]
    have := ih i
    by_cases h : (r.getD k 0).toNat < n
    · rw [getD_set _ _ _ _ (by rw [anw_len]; exact h)]
      split <;> omega
    · rw [List.set_eq_of_length_le (by rw [anw_len]; omega)]; omega
theorem trimB_len (l : List Bl) : (trimB l).length = (rch l).length := by unfold trimB pick; rw [List.length_map, List.length_map]
theorem trimB_mem {l : List Bl} (h : Cok l) : ∀ b ∈ trimB l, ∃ x ∈ l, b = tellB (anw (rch l) l.length (rch l).length) x := by
  intro b hb
  obtain ⟨x, hx, rfl⟩ := List.mem_map.1 hb
  exact ⟨x, pick_mem h (rch_ok h).2.2 x hx, rfl⟩
theorem cok_trim {l : List Bl} (h : Cok l) : Cok (trimB l) := by
  obtain ⟨h1, h2, h3⟩ := rch_ok h
  have hl := h.nok.len
  refine ⟨⟨by rw [trimB_len]; omega, fun b hb => ?_, fun b hb z hz => ?_⟩, by rw [trimB_len]; exact h1, fun b hb => ?_, fun b hb ho => ?_, fun b hb ho => ?_⟩
  · obtain ⟨x, hx, rfl⟩ := trimB_mem h b hb
    simpa [tellB] using h.nok.nlen x hx
  · obtain ⟨x, hx, rfl⟩ := trimB_mem h b hb
    obtain ⟨y, hy, rfl⟩ := List.mem_map.1 hz
    have e1 := anw_bd (rch l) l.length (rch l).length y.toNat
    have e2 := anw_lt (rch l) l.length (rch l).length y.toNat
    rw [trimB_len]
    unfold tell
    omega
  · obtain ⟨x, hx, rfl⟩ := trimB_mem h b hb
    exact h.ins x hx
  · obtain ⟨x, hx, rfl⟩ := trimB_mem h b hb
    have := h.jmp x hx ho
    simpa [tellB] using this
  · obtain ⟨x, hx, rfl⟩ := trimB_mem h b hb
    have := h.brn x hx ho
    simpa [tellB] using this
theorem endI_app (l : List Vc.In) (y : Vc.In) (nx : List Int) (d : Int) : endI ⟨l ++ [y], nx, d⟩ = y := by
  unfold endI
  simp [List.getD]
theorem cok_join {l : List Bl} (h : Cok l) (h4 : l.length ≤ 4096) (hM : ∀ b ∈ l, b.ins.length ≤ 16384) (tk : List Int) : Cok (jnk l tk l.length) := by
  have key : ∀ b ∈ jnk l tk l.length, b ∈ l ∨ (b.ins.length ≤ 1099511627776 ∧ 0 < b.ins.length ∧ ((endI b = dI ∧ b.next = []) ∨ ∃ x ∈ l, endI b = endI x ∧ b.next = x.next)) := by
    intro b hb
    rcases jnk_mem l tk _ b hb with h1 | ⟨i, hi, rfl⟩
    · exact .inl h1
    · unfold jn1
      split
      · right
        have hl := chn_len (tk := tk) hM l.length i (sta (l.getD i dB))
        have hs : (sta (l.getD i dB)).length ≤ 16384 := Nat.le_trans (sta_len _) (hM _ (getD_mem _ _ _ hi))
        have hk : l.length * 16384 ≤ 67108864 := by omega
        refine ⟨by unfold chnB; simp only [List.length_append, List.length_cons, List.length_nil]; omega, by unfold chnB; simp, ?_⟩
        rcases dB_or (l := l) (chn l tk l.length i (sta (l.getD i dB))).2 with h3 | h3
        · exact .inr ⟨_, h3, by unfold chnB; exact endI_app _ _ _ _, rfl⟩
        · left
          unfold chnB
          rw [h3]
          exact ⟨(endI_app _ _ _ _).trans rfl, rfl⟩
      · exact .inl (getD_mem _ _ _ hi)
  refine ⟨⟨by rw [jnk_len]; exact h.nok.len, fun b hb => ?_, fun b hb z hz => ?_⟩, by rw [jnk_len]; exact h.one, fun b hb => ?_, fun b hb ho => ?_, fun b hb ho => ?_⟩
  · rcases key b hb with k | ⟨-, -, ⟨-, k⟩ | ⟨x, hx, -, k⟩⟩
    · exact h.nok.nlen b k
    · rw [k]; simp
    · rw [k]; exact h.nok.nlen x hx
  · rw [jnk_len]
    rcases key b hb with k | ⟨-, -, ⟨-, k⟩ | ⟨x, hx, -, k⟩⟩
    · exact h.nok.rng b k z hz
    · rw [k] at hz; cases hz
    · rw [k] at hz; exact h.nok.rng x hx z hz
  · rcases key b hb with k | ⟨k1, k2, -⟩
    · exact h.ins b k
    · exact ⟨k2, k1⟩
  · rcases key b hb with k | ⟨-, -, ⟨k, -⟩ | ⟨x, hx, k1, k2⟩⟩
    · exact h.jmp b k ho
    · rw [k] at ho; simp [dI] at ho
    · rw [k2]; exact h.jmp x hx (k1 ▸ ho)
  · rcases key b hb with k | ⟨-, -, ⟨k, -⟩ | ⟨x, hx, k1, k2⟩⟩
    · exact h.brn b k ho
    · rw [k] at ho; simp [dI] at ho
    · rw [k2]; exact h.brn x hx (k1 ▸ ho)
theorem wf_join0 {c : Co} (hw : WfC c) (hM : ∀ b ∈ c.bl, b.ins.length ≤ 16384) (h4 : c.bl.length ≤ 4096) (hp : ∀ b ∈ c.bl, 0 < b.ins.length) (tk : List Int) : WfC ⟨c.pa, c.re, c.rs, jnk c.bl tk c.bl.length⟩ := by
  refine ⟨hw.pa, hw.re, fun b hb => ?_, by show (jnk _ _ _).length ≤ _; rw [jnk_len]; exact hw.len⟩
  rcases jnk_mem _ tk _ b hb with h1 | ⟨i, hi, rfl⟩
  · exact hw.bl b h1
  · unfold jn1
    split
    · have hx := hw.bl _ (getD_mem c.bl i dB hi)
      have hl := chn_len (tk := tk) hM c.bl.length i (sta (c.bl.getD i dB))
      have hs : (sta (c.bl.getD i dB)).length ≤ 16384 := Nat.le_trans (sta_len _) (hM _ (getD_mem _ _ _ hi))
      have hk : c.bl.length * 16384 ≤ 67108864 := by omega
      have hd : WfB dB := ⟨fun y hy => by simp [dB] at hy, fun z hz => by simp [dB] at hz, by unfold Vc.i64 dB; decide, by simp [dB], by simp [dB]⟩
      have hy : WfB (c.bl.getD (chn c.bl tk c.bl.length i (sta (c.bl.getD i dB))).2 dB) := by
        rcases dB_or (l := c.bl) (chn c.bl tk c.bl.length i (sta (c.bl.getD i dB))).2 with h3 | h3
        · exact hw.bl _ h3
        · rw [h3]; exact hd
      have hdI : WfI dI := ⟨by decide, by unfold Vc.i64 dI; decide, fun z hz => by simp [dI] at hz, by unfold Vc.i64 dI; decide, by decide, by decide, by decide⟩
      have he : WfI (endI (c.bl.getD (chn c.bl tk c.bl.length i (sta (c.bl.getD i dB))).2 dB)) := by
        rcases dB_or (l := c.bl) (chn c.bl tk c.bl.length i (sta (c.bl.getD i dB))).2 with h3 | h3
        · unfold endI
          have := hp _ h3
          exact (hw.bl _ h3).ins _ (getD_mem _ _ _ (by omega))
        · rw [h3]; exact hdI
      refine ⟨fun y h => ?_, hy.next, hx.dep, by unfold chnB; simp only [List.length_append, List.length_cons, List.length_nil]; omega, hy.nlen⟩
      rcases List.mem_append.1 h with h | h
      · exact chn_mem (fun b hb y hy => (hw.bl b hb).ins y hy) _ _ _ (fun y hy => hx.ins y (List.mem_of_mem_take hy)) y h
      · rw [List.mem_singleton] at h; rw [h]; exact he
    · exact hw.bl _ (getD_mem _ _ _ hi)
/-- few blocks, short ones -/
structure Few (l : List Bl) : Prop where
  len : l.length ≤ 4096
  ins : ∀ b ∈ l, b.ins.length ≤ 16384
theorem few_of (c : Co) (h : chk c = true) : Few c.bl := by
  unfold chk at h
  simp only [Bool.and_eq_true, decide_eq_true_eq] at h
  exact ⟨h.1.2.1.2, fun b hb => by have := siz_mem hb; have := h.1.2.2; omega⟩
theorem few_trim {l : List Bl} (h : Cok l) (f : Few l) : Few (trimB l) := by
  refine ⟨by rw [trimB_len]; have := (rch_ok h).2.1; have := f.len; omega, fun b hb => ?_⟩
  obtain ⟨x, hx, rfl⟩ := trimB_mem h b hb
  exact f.ins x hx
theorem wf_join {c : Co} (hw : WfC c) (hk : Cok c.bl) (f : Few c.bl) : WfC ⟨c.pa, c.re, c.rs, joinB c.bl⟩ := by
  have k1 := cok_trim hk
  have w1 := wf_trim hw hk
  have f1 := few_trim hk f
  exact wf_trim (c := ⟨c.pa, c.re, c.rs, joinA (trimB c.bl)⟩) (wf_join0 (c := ⟨c.pa, c.re, c.rs, trimB c.bl⟩) w1 f1.ins f1.len (fun b hb => (k1.ins b hb).1) _) (cok_join k1 f1.len f1.ins _)
end Fw
end Go.Proofs.YtpecnljcgiicaaaDoor
