/- K23: what follows, part by part: each part tells what it holds. -/
import Derived.Test.YtglehoekehiaiaaGreatDoorK17
import Derived.Test.YtglehoekehiaiaaGreatDoorK22
import Derived.Test.YtglehoekehiaiaaGreatDoorK12
import Derived.Test.YtglehoekehiaiaaGreatDoorK1
import Derived.Test.YtglehoekehiaiaaGreatDoorK14
namespace Go.Proofs.YtglehoekehiaiaaGreatDoor
open Go.RowKit
set_option linter.unusedVariables false
set_option linter.unusedSimpArgs false
set_option maxRecDepth 100000
set_option maxHeartbeats 32000000
namespace Fw
open Vc (NumsL Nums Lies LL Bls BlC InC Bl Co infoN infoBl own_base RowT cob cob_cells OwnL Its own)
/- the document's goal, leads. -/
theorem nm_jump : ∀ n, n < 256 → (((str (Vc.rnm n)).toList == [106, 117, 109, 112]) = decide (n = 193)) := by
 intro n hn
 rw [str_toList]
 have h : ((List.range 256).all fun n => (Vc.rnm n == [106, 117, 109, 112]) == decide (n = 193)) = true := by kernel_rfl
 rw [List.all_eq_true] at h
 have := h n (by rw [List.mem_range]; exact hn)
 simpa using this
theorem nm_branch : ∀ n, n < 256 → (((str (Vc.rnm n)).toList == [98, 114, 97, 110, 99, 104]) = decide (n = 194)) := by
 intro n hn
 rw [str_toList]
 have h : ((List.range 256).all fun n => (Vc.rnm n == [98, 114, 97, 110, 99, 104]) == decide (n = 194)) = true := by kernel_rfl
 rw [List.all_eq_true] at h
 have := h n (by rw [List.mem_range]; exact hn)
 simpa using this
/-- the numbers of instructions are bytes -/
def Opb (l : List Bl) : Prop := ∀ b ∈ l, ∀ y ∈ b.ins, y.op < 256
theorem gl_succ (l : List Bl) (t f p : Nat) : gl l t (f + 1) p = if ((l.getD p dB).ins.getD 0 dI).op = 193 then gl l t f ((l.getD p dB).next.getD 0 0).toNat else p := rfl
theorem goal_any (l : List Bl) (hc : Cok l) (hs : Str l) (ho : Opb l) (pa re : Int) (rs : Bool) (t : Nat) (ht : t < l.length) (N : Nat) (vb : Value) (w : World) (hB : Bls w (fun k => k < N) l vb) (hN : N ≤ w.heap.size) :
    Calls Tryz.prog 46 #[.agg #[.int .i64 pa, .int .i64 re, .bool rs, vb], .int .i64 (t : Int)] w fun e w' => e = .returned (.int .i64 (gl l t l.length t : Nat)) ∧ Below w.heap.size w w' := by
 obtain ⟨va, vc, rfl, -, -, -⟩ := id hB
 obtain ⟨n, hn⟩ : ∃ n, n = l.length := ⟨_, rfl⟩
 have hlen := hc.nok.len
 have hni : (n : Int) ≤ 1048576 := by omega
 obtain ⟨r, hr⟩ : ∃ r, r = gl l t n t := ⟨_, rfl⟩
 rw [← hn] at ht hB ⊢
 rw [← hr]
 have hX := Vc.one_alloc w (.cells (cob pa re rs (.slice va n vc)) 24)
 have hrow := heap_alloc_new w (.cells (cob pa re rs (.slice va n vc)) 24)
 have HB := hide hB; have HC := hide hc; have HS := hide hs; have HO := hide ho; have HN := hide hn; have HR := hide hr; have HTt := hide ht; have HNw := hide hN; have HX := hide hX; have HRow := hide hrow
 have c3 : (w.alloc (.cells (cob pa re rs (.slice va n vc)) 24)).cell? ⟨w.heap.size, 3, none⟩ = some (.slice va n vc) := (cob_cells hrow).2.2.2.1
 clear hB hc hs ho hn hr ht hN hlen hX hrow
 go_enter Tryz.func46, Tryz.ntmps46
 go_upto_region 1 with fail
 obtain ⟨X, hXe⟩ : ∃ X, X = w.alloc (.cells (cob pa re rs (.slice va n vc)) 24) := ⟨_, rfl⟩
 rw [← hXe] at HX HRow c3
 rw [show w.alloc (.cells #[.int .i64 pa, .int .i64 re, .bool rs, .slice va n vc] 24) = X from hXe.symm]
 clear hXe
 go_wp2_with fail
 go_loopw [5, 6] (fun a c wr => ∃ (k p : Nat), k ≤ n ∧ p < n ∧ c = .int .i64 (k : Int) ∧ a = .int .i64 (p : Int) ∧ r = gl l t (n - k) p ∧ Below X.heap.size X wr) (fun _ c _ => n - (intOf c).toNat)
 case atStart => exact ⟨0, t, Nat.zero_le _, unhide HTt, rfl, rfl, unhide HR, Below.refl _ _⟩
 case round =>
  obtain ⟨k, p, hk, hp, rfl, rfl, hr, hb⟩ := hrel
  have hlx : w.heap.size < X.heap.size := (Array.getElem?_eq_some_iff.1 (unhide HRow)).1
  have c3' := (hb.cell (p := ⟨w.heap.size, 3, none⟩) hlx).trans c3
  have hbw := (unhide HX).trans (hb.mono (Nat.le_of_lt hlx))
  by_cases hlt : k < n
  ·obtain ⟨f, hf⟩ : ∃ f, n - k = f + 1 := ⟨n - k - 1, by omega⟩
   have hf2 : n - (k + 1) = f := by omega
   rw [hf] at hr
   have hpl : p < l.length := by rw [← unhide HN]; exact hp
   obtain ⟨x, hx⟩ : ∃ x, x = l.getD p dB := ⟨_, rfl⟩
   have hxl : l[p]? = some x := by rw [hx]; exact get?_getD _ _ _ hpl
   have hm := List.mem_of_getElem? hxl
   obtain ⟨hi0, hi1⟩ := (unhide HC).ins x hm
   have hBw := bls_on (unhide HB) (hbw.mono (unhide HNw))
   obtain ⟨Bb, ob, vi, vn, hva, hBN, hBl, -, d0, d1, d2, hin, hnn⟩ := blk_next hBw hxl
   subst hva
   obtain ⟨ia, ic, rfl, -, -, -⟩ := id hin
   obtain ⟨na, nc, rfl, -, -, -⟩ := id hnn
   obtain ⟨Bi, oi, vs, hia, -, hBi, e0, -, -, -, -, -⟩ := ins_at hin (k := 0) hi0
   subst hia
   rw [Nat.zero_mul, Nat.add_zero] at e0
   obtain ⟨op, hop⟩ : ∃ op, op = (x.ins.getD 0 dI).op := ⟨_, rfl⟩
   have hob : op < 256 := by rw [hop]; exact (unhide HO) x hm _ (getD_mem _ _ _ hi0)
   rw [← hop] at e0
   have hnm := Vc.rnm_any op hob wr
   have hj := nm_jump op hob
   obtain ⟨S, hSs⟩ : ∃ S, S = str (Vc.rnm op) := ⟨_, rfl⟩
   rw [← hSs] at hnm hj
   obtain ⟨L, hL⟩ : ∃ L, L = x.ins.length := ⟨_, rfl⟩
   rw [← hL] at d0 hi0
   have hL0 : (0 : Int) < (L : Int) := by omega
   have hpn : (p : Int) < (n : Int) := by omega
   have hkn : (k : Int) < (n : Int) := by omega
   have hgl := gl_succ l t f p
   rw [← hx, ← hop] at hgl
   rw [hgl] at hr
   have hfa := first_alone (unhide HC) (unhide HS) p hpl
   rw [← hx, ← hop] at hfa
   by_cases ho : op = 193
   ·rw [if_pos ho] at hr
    rw [decide_eq_true ho] at hj
    have hen : (endI x).op = 193 := by have := hfa.1 ho; unfold alone at this; simp at this; exact this.2
    have hM := (unhide HC).jmp x hm hen
    obtain ⟨q, hz, hql, -⟩ := (unhide HC).nok.at_ hxl (k := 0) (by omega)
    obtain ⟨Bn, on, hna, -, hnc⟩ := nums_at hnn (k := 0) (by omega)
    subst hna
    have x1 := hnc 0 (by omega)
    rw [hz, Nat.add_zero] at x1
    rw [hz, Int.toNat_natCast] at hr
    rw [hM] at d1
    have hpost : ∀ w6, Below wr.heap.size wr w6 → w6.cell? ⟨w.heap.size, 3, none⟩ = some (.slice (some ⟨Bb, ob, none⟩) n vc) ∧ w6.cell? ⟨Bb, ob + p * 3 + 1, none⟩ = some (.slice (some ⟨Bn, on, none⟩) 1 nc) ∧ w6.cell? ⟨Bn, on, none⟩ = some (.int .i64 (q : Int)) ∧ Below X.heap.size X w6 := fun w6 h6 => ⟨(h6.cell (p := ⟨w.heap.size, 3, none⟩) (block_lt_of_cell c3')).trans c3', (h6.cell (p := ⟨Bb, ob + p * 3 + 1, none⟩) hBl).trans d1, (h6.cell (p := ⟨Bn, on, none⟩) (block_lt_of_cell x1)).trans x1, hb.trans (h6.mono hb.size)⟩
    have HPo := hide hpost
    clear hpost
    have hnj : (S.toList != [106, 117, 109, 112]) = false := by simp only [bne, hj]; rfl
    have HNm := hide hnm; have HR := hide hr; have HLt := hide hlt; have HQ := hide hql; have HF2 := hide hf2
    clear hnm hr hlt hql hf hf2 hgl hfa hen hM hz hnc hin hnn hBw hm hxl hx hop hob hpl hL hi0 hi1 hk hp ho hSs d2
    go_wp2_with (go_at_call 35; refine (unhide HNm).mono ?_; rintro e w6 ⟨rfl, h6⟩; obtain ⟨j1, j2, j3, j4⟩ := unhide HPo w6 h6; have J4 := hide j4; clear h6 j4)
    go_roundw
    case rel => exact ⟨k + 1, q, by have := unhide HLt; omega, by rw [unhide HN]; exact unhide HQ, by go_num, rfl, by rw [unhide HF2]; exact unhide HR, unhide J4⟩
    case measure => have := unhide HLt; simp [intOf]; omega
   ·rw [if_neg ho] at hr
    rw [decide_eq_false ho] at hj
    have hnj : (S.toList != [106, 117, 109, 112]) = true := by simp only [bne, hj]; rfl
    have HNm := hide hnm; have HR := hide hr
    clear hnm hr hlt hf hf2 hgl hfa hin hnn hBw hm hxl hx hop hob hpl hL hi0 hi1 hk hp ho hSs d1 d2
    go_wp2_with (go_at_call 35; refine (unhide HNm).mono ?_; rintro e w6 ⟨rfl, h6⟩; have HJ := hide (hbw.trans (h6.mono hbw.size)); clear h6)
    go_ret
    exact ⟨ret_int (by rw [unhide HR]), unhide HJ⟩
  ·obtain rfl : k = n := by omega
   have hst : r = t := by rw [hr, Nat.sub_self]; rfl
   have HSt := hide hst; have HJ := hide hbw
   clear hst hr hlt hk hbw
   go_wp2_with fail
   go_ret
   exact ⟨ret_int (by rw [unhide HSt]), unhide HJ⟩
end Fw
namespace Fw
open Vc (NumsL Nums Lies LL Bls BlC InC Bl Co infoN infoBl own_base RowT cob Its)
/- a list of the document's own that is made of others' instructions. By mklsr.py. -/
theorem infoRI : (Tryz.prog.info? 52).map (fun i => (i.zero, i.size, i.bytes)) = some (some (.agg #[.int .u8 0, .int .i64 0, .slice none 0 0, .int .i64 0, .int .u32 0]), 5, 56) := by kernel_rfl
/-- others' memory, full; or the call's own -/
def LsR (w : World) (N : Nat) (g : Nat → Prop) (v : Value) (l : List Vc.In) : Prop :=
 (∃ xs, w.ownsRow N 52 5 v l.length xs ∧ Its (InC w g) 5 l xs) ∨ (∃ B o, v = .slice (some ⟨B, o, none⟩) l.length l.length ∧ LL InC 5 w g l v)
theorem LsR.sl {w : World} {N : Nat} {g : Nat → Prop} {v : Value} {l : List Vc.In} (h : LsR w N g v l) : ∃ a c, v = .slice a l.length c := by
 rcases h with ⟨xs, ho, -⟩ | ⟨B, o, rfl, -⟩
 ·rcases ho.2 with ⟨rfl, e⟩ | ⟨g', cap, cur, rfl, -⟩
  ·exact ⟨none, 0, by rw [e]⟩
  ·exact ⟨_, _, rfl⟩
 ·exact ⟨_, _, rfl⟩
theorem LsR.below {w w' : World} {N : Nat} {g : Nat → Prop} {v : Value} {l : List Vc.In} (h : LsR w N g v l) (hb : Below w.heap.size w w') : LsR w' N g v l := by
 rcases h with ⟨xs, ho, hi⟩ | ⟨B, o, e, hl⟩
 ·exact .inl ⟨xs, Vc.ownsRow_below ho hb, hi.mono fun x cs h => h.moved (Vc.Mv.below hb fun _ _ h => h)⟩
 ·exact .inr ⟨B, o, e, Vc.Inss.below hb hl⟩
/-- where it lies -/
theorem LsR.ll {w : World} {N : Nat} {g G : Nat → Prop} {v : Value} {l : List Vc.In} (h : LsR w N g v l) (hg : ∀ k, g k → G k) (hG : ∀ k, N ≤ k → k < w.heap.size → G k) : LL InC 5 w G l v := by
 have hm : Vc.Mv w w g G := fun k _ hk => ⟨hg k hk, rfl⟩
 rcases h with ⟨xs, ho, hi⟩ | ⟨B, o, e, hl⟩
 ·rcases ho.2 with ⟨rfl, e⟩ | ⟨g', cap, cur, rfl, h2, h3, h4, -⟩
  ·rw [List.eq_nil_of_length_eq_zero e]; exact Vc.LL_nil _ _ _ _
  ·have hlt := (Array.getElem?_eq_some_iff.1 h3).1
   have hce := Vc.row_cells ho
   refine ⟨_, cap, rfl, h4, (by intro h; cases h), fun h0 => ⟨g', 0, rfl, hG g' h2 hlt, hlt, fun i x hx => ?_⟩⟩
   obtain ⟨cs, k1, k2, k3⟩ := hi.2 i x hx
   refine ⟨cs, k1, k2.moved hm, fun j u hu => ?_⟩
   rw [Nat.zero_add]
   exact hce _ u (by rw [k3 j (by have := (List.getElem?_eq_some_iff.1 hu).1; omega)]; exact hu)
 ·exact hl.moved hm (Nat.le_refl _) (fun _ _ q => q.moved hm)
theorem LsR.app {w : World} {N : Nat} {g : Nat → Prop} {v : Value} {l : List Vc.In} (h : LsR w N g v l) (hg : ∀ k, g k → k < N) (hN : N ≤ w.heap.size) (ty : TypeId) {z : List Vc.In} {ad : Addr} {m c : Nat} {news : List Value} (hm : m = z.length) (hits : Its (InC w g) 5 z news) (hce : ∀ j u, news[j]? = some u → w.cell? (ad.add j) = some u) (h1 : ∀ u ∈ news, u.oneCell' = true) (hb : l.length + z.length ≤ 1099511627776) :
    ∃ v' w', (Builtin.append_ #[47, 47] ty #[v, .slice (some ad) m c]).run Tryz.prog w = .ok v' w' ∧ LsR w' N g v' (l ++ z) ∧ Below N w w' := by
 subst hm
 obtain ⟨ib, hib, hb0, hb1, hb2⟩ := info_parts infoRI
 have hnl : news.length = z.length * 5 := hits.1
 rcases h with ⟨xs, ho, hi⟩ | ⟨B, o, rfl, hl⟩
 ·obtain ⟨v', w', hr, k2, k3, -⟩ := run_append_own (P := Tryz.prog) w N 47 ty 52 ib _ 5 _ Tryz.underlying47 hib hb0 hb1 hb2 rfl (by decide) v l.length xs ho ad z.length c news hnl hce h1 (by unfold maxLen; omega) (by omega) hN
  have hmv : Vc.Mv w w' g g := fun k hk hgk => ⟨hgk, k3.block k hk fun e => by have := (World.ownsRow.lt ho k e.symm).1; have := hg k hgk; omega⟩
  refine ⟨v', w', hr, .inl ⟨xs ++ news, by rw [List.length_append]; exact k2, Its.app (hi.mono fun x cs h => h.moved hmv) (hits.mono fun x cs h => h.moved hmv)⟩, (Below.refl N w).grown k3 hN fun k e => (World.ownsRow.lt ho k e).1⟩
 ·obtain ⟨olds, e1, -, e3, e4, e5, e6⟩ := (Vc.LLf.of hl (fun _ _ _ => rfl) (Nat.le_refl _)).cells (by omega) Vc.inC_ones
  cases z with
  | nil =>
    obtain rfl : news = [] := List.eq_nil_of_length_eq_zero (by simpa using hnl)
    have hr := run_append_room_cells (P := Tryz.prog) w 47 ty 52 ib Tryz.underlying47 hib B o l.length l.length ad 0 c [] (by simp) hce h1 (by simp) (by simp) (by simp)
    rw [set0] at hr
    exact ⟨_, _, hr, .inr ⟨B, o, by simp, by simpa using hl⟩, Below.refl _ _⟩
  | cons y r =>
    obtain ⟨v', w', hr, k2, k3⟩ := run_append_arg_grows (P := Tryz.prog) w 47 ty 52 ib _ 5 _ Tryz.underlying47 hib hb0 hb1 hb2 rfl (by decide) ⟨B, o, none⟩ l.length l.length olds e3 (e5 _ rfl) ad (y :: r).length c news hnl hce (by simp) (by unfold maxLen; omega) (by omega)
    have hmv : Vc.Mv w w' g g := fun k hk hgk => ⟨hgk, k3.block k hk (by simp)⟩
    exact ⟨v', w', hr, .inl ⟨olds ++ news, by rw [List.length_append]; exact own_base k2 hN, Its.app (e4.mono fun x cs h => h.moved hmv) (hits.mono fun x cs h => h.moved hmv)⟩, (Below.refl N w).grown k3 hN (by simp)⟩
section
variable {w : World} {N : Nat} {g : Nat → Prop} {v : Value} {l : List Vc.In}
/-- at the list of a plain region's operations -/
theorem wpList_lsr {ops : Array Oper} {rest : List Oper} {o : Oper} {a : Act} {Q : Exit → Act → World → Prop} (hgd : o.guard = none) (s x : Operand) (ho : o.op = .call { callee := .builtin .append, args := #[s, x], argTypes := #[47, 47] })
    (hs : a.eval s = v) (h : LsR w N g v l) (hg : ∀ k, g k → k < N) (hN : N ≤ w.heap.size) {z : List Vc.In} {ad : Addr} {m c : Nat} {news : List Value} (hx : a.eval x = .slice (some ad) m c) (hm : m = z.length) (hits : Its (InC w g) 5 z news) (hce : ∀ j u, news[j]? = some u → w.cell? (ad.add j) = some u) (h1 : ∀ u ∈ news, u.oneCell' = true) (hb : l.length + z.length ≤ 1099511627776)
    (k : ∀ b n c w', n = (l ++ z).length → LsR w' N g (.slice b n c) (l ++ z) → Below N w w' → wpList Tryz.prog ops Q rest (a.put o.dst (.slice b n c)) w') : wpList Tryz.prog ops Q (o :: rest) a w := by
 obtain ⟨v', w', hr, h2, h3⟩ := h.app hg hN o.type hm hits hce h1 hb
 obtain ⟨b, c', rfl⟩ := h2.sl
 exact Lib.wpList_append_run_sl w hgd s x _ ho v _ hs hx hr (k _ _ _ _ rfl h2 h3)
/-- at a step of a region that draws its order -/
theorem step_lsr {ops : Array Oper} {o : Oper} {a : Act} {K : Act → World → Prop} {Q : Exit → Act → World → Prop} {E : Prop} (hgd : o.guard = none) (s x : Operand) (ho : o.op = .call { callee := .builtin .append, args := #[s, x], argTypes := #[47, 47] })
    (hs : a.eval s = v) (h : LsR w N g v l) (hg : ∀ k, g k → k < N) (hN : N ≤ w.heap.size) {z : List Vc.In} {ad : Addr} {m c : Nat} {news : List Value} (hx : a.eval x = .slice (some ad) m c) (hm : m = z.length) (hits : Its (InC w g) 5 z news) (hce : ∀ j u, news[j]? = some u → w.cell? (ad.add j) = some u) (h1 : ∀ u ∈ news, u.oneCell' = true) (hb : l.length + z.length ≤ 1099511627776)
    (k : ∀ b n c w', n = (l ++ z).length → LsR w' N g (.slice b n c) (l ++ z) → Below N w w' → K (a.put o.dst (.slice b n c)) w') :
    if Region.wanted o (yielded ops a.tmps) = true then Oper.wp Tryz.prog o a w K Q else E := by
 have hw : Region.wanted o (yielded ops a.tmps) = true := by simp [Region.wanted, hgd]
 rw [if_pos hw]
 obtain ⟨v', w', hr, h2, h3⟩ := h.app hg hN o.type hm hits hce h1 hb
 obtain ⟨b, c', rfl⟩ := h2.sl
 exact Lib.wp_append_run_sl w s x _ ho v _ hs hx hr (k _ _ _ _ rfl h2 h3)
end
end Fw
namespace Fw
open Vc (NumsL Nums Lies LL Bls BlC InC Bl Co infoN infoBl own_base RowT cob cob_cells OwnL Its own)
/- the document's Thread. -/
def thk (l : List Bl) (k : Nat) : List Bl := (l.take k).map fun x => thr1 (glB l x)
theorem thk_succ {l : List Bl} {k : Nat} {x : Bl} (h : l[k]? = some x) : thk l (k + 1) = thk l k ++ [thr1 (glB l x)] := by
 unfold thk
 obtain ⟨hk, e⟩ := List.getElem?_eq_some_iff.1 h
 rw [List.take_succ_eq_append_getElem hk, List.map_append, e]; rfl
theorem thk_len (l : List Bl) (k : Nat) : (thk l k).length ≤ k := by unfold thk; rw [List.length_map, List.length_take]; omega
theorem ll_take {w : World} {g : Nat → Prop} {l : List Vc.In} {B o n c p : Nat} (h : LL InC 5 w g l (.slice (some ⟨B, o, none⟩) n c)) (hp : p ≤ l.length) : LL InC 5 w g (l.take p) (.slice (some ⟨B, o, none⟩) p c) := by
 obtain ⟨a, c', e, hle, hnil, hq⟩ := h
 cases e
 have hl : (l.take p).length = p := by rw [List.length_take]; omega
 refine ⟨_, _, by rw [hl], by omega, (by intro h; cases h), fun h0 => ?_⟩
 obtain ⟨B2, o2, e, hg, hlt, hc⟩ := hq (by omega)
 cases e
 refine ⟨_, _, rfl, hg, hlt, fun i y hy => hc i y ?_⟩
 have hi := (List.getElem?_eq_some_iff.1 hy).1
 rw [hl] at hi
 rw [List.getElem?_take_of_lt hi] at hy
 exact hy
theorem step_push {w : World} {N : Nat} {v : Value} {l : List Int} (h : Ro w N v l) (x : Int) {ops : Array Oper} {o : Oper} {a : Act} {K : Act → World → Prop} {Q : Exit → Act → World → Prop} {E : Prop} (hgd : o.guard = none) (s s2 : Operand) (ho : o.op = .call { callee := .builtin .append, args := #[s, s2], argTypes := #[31, 31] })
    (hs : a.eval s = v) {B : Nat} (hx : a.eval s2 = .slice (some ⟨B, 0, none⟩) 1 1) (hc : w.cell? ⟨B, 0, none⟩ = some (.int .i64 x)) (hl : l.length + 1 ≤ 1099511627776) (hN : N ≤ w.heap.size)
    (k : ∀ g c w', Ro w' N (.slice (some ⟨g, 0, none⟩) (l.length + 1) c) (l ++ [x]) → w.grownBy w' v.ownBlock → K (a.put o.dst (.slice (some ⟨g, 0, none⟩) (l.length + 1) c)) w') :
    if Region.wanted o (yielded ops a.tmps) = true then Oper.wp Tryz.prog o a w K Q else E := by
 obtain ⟨i0, hi, hz0, hz1, hz2⟩ := info_parts infoN
 refine step_append_lies w hgd s s2 31 ho N 3 i0 (.int .i64 0) 1 8 Tryz.underlying31 hi hz0 hz1 hz2 rfl (by decide) v l.length (iv l) hs h ⟨B, 0, none⟩ 1 1 [.int .i64 x] hx rfl (fun j u hu => by
  have hj : j = 0 := by have := (List.getElem?_eq_some_iff.1 hu).1; simp at this; omega
  subst hj
  simp only [List.getElem?_cons_zero, Option.some.injEq] at hu
  rw [addr_add0, Nat.zero_add, hc, hu]) (one_ones _) (by decide) (by unfold maxLen; omega) (by omega) hN w.heap.size rfl fun g c w' h1 h2 _ _ => k g c w' (by unfold Ro; rw [iv_app, List.length_append]; exact h1) h2
theorem rthread_any (l : List Bl) (hc : Cok l) (hs : Str l) (ho : Opb l) (pa re : Int) (rs : Bool) (vb : Value) (w : World) (hB : Bls w (fun k => k < w.heap.size) l vb) :
    Calls Tryz.prog 22 #[.agg #[.int .i64 pa, .int .i64 re, .bool rs, vb]] w fun e w' => ∃ v', e = .returned (.agg #[.int .i64 pa, .int .i64 re, .bool rs, v']) ∧ Bls w' (fun k => k < w'.heap.size) (thrD l) v' ∧ Below w.heap.size w w' := by
 obtain ⟨va, vc, rfl, -, -, -⟩ := id hB
 obtain ⟨ib, hib, hb0, hb1, hb2⟩ := info_parts infoRB
 have hlen := hc.nok.len
 obtain ⟨n, hn⟩ : ∃ n, n = l.length := ⟨_, rfl⟩
 have hni : (n : Int) ≤ 1048576 := by omega
 have hgoal : ∀ t, t < n → ∀ W, Below w.heap.size w W → Calls Tryz.prog 46 #[.agg #[.int .i64 pa, .int .i64 re, .bool rs, .slice va n vc], .int .i64 (t : Int)] W fun e w' => e = .returned (.int .i64 (gl l t l.length t : Nat)) ∧ Below W.heap.size W w' := fun t ht W hW => by
  rw [hn]; exact goal_any l hc hs ho pa re rs t (by omega) w.heap.size _ W (bls_at hB (fun k h => h) hW) hW.size
 obtain ⟨X, hX⟩ : ∃ X, X = (w.alloc (.cells (cob pa re rs (.slice va n vc)) 24)).alloc (.cells (cob 0 0 false (.slice none 0 0)) 24) := ⟨_, rfl⟩
 have hXb : Below w.heap.size w X := by rw [hX]; exact Vc.two_allocs w _ _
 have hXz : X.heap.size = w.heap.size + 2 := by rw [hX]; simp
 have r0 : X.heap[w.heap.size]? = some (.cells (cob pa re rs (.slice va n vc)) 24 (0, 0)) := by rw [hX, Below.heap_alloc _ _ _ (by simp)]; exact heap_alloc_new _ _
 have r1 : X.heap[w.heap.size + 1]? = some (.cells (cob 0 0 false (.slice none 0 0)) 24 (0, 0)) := by
  have := heap_alloc_new (w.alloc (.cells (cob pa re rs (.slice va n vc)) 24)) (.cells (cob 0 0 false (.slice none 0 0)) 24)
  rw [show (w.alloc (.cells (cob pa re rs (.slice va n vc)) 24)).heap.size = w.heap.size + 1 by simp, ← hX] at this; exact this
 rw [← hn] at hB ⊢
 have HC := hide hc; have HSs := hide hs; have HOo := hide ho; have HN := hide hn; have HXb := hide hXb; have HXz := hide hXz; have HR0 := hide r0; have HR1 := hide r1; have HBw := hide hB; have HGo := hide hgoal; have HLn := hide hlen
 clear hc hs ho hn hXb hXz r0 r1 hB hgoal hlen
 go_enter Tryz.func22, Tryz.ntmps22
 go_upto_region 1 with fail
 rw [show (w.alloc (.cells #[.int .i64 pa, .int .i64 re, .bool rs, .slice va n vc] 24)).alloc (.cells #[.int .i64 0, .int .i64 0, .bool false, .slice none 0 0] 24) = X from hX.symm]
 clear hX
 go_wp2_with fail
 go_loopw [3, 4] (fun v c wq => ∃ (j : Nat) (a : Option Addr) (cp : Nat), j ≤ n ∧ c = .int .i64 (j : Int) ∧ v = .slice a (thk l j).length cp ∧ OwnL BlC 3 49 wq X.heap.size (fun q => q < w.heap.size ∨ X.heap.size ≤ q) (.slice a (thk l j).length cp) (thk l j) ∧ Below X.heap.size X wq) (fun _ c _ => n - (intOf c).toNat)
 case atStart => exact ⟨0, none, 0, Nat.zero_le _, rfl, rfl, Vc.OwnL_nil _ _ _ _ _ _, Below.refl _ _⟩
 case round =>
  generalize wr = wq at *
  obtain ⟨j, a, cp, hj, rfl, rfl, hO, hbq⟩ := hrel
  have hXz := unhide HXz
  have hbw := (unhide HXb).trans (hbq.mono (by omega))
  have q0 := (hbq.block w.heap.size (by omega)).trans (unhide HR0)
  obtain ⟨c0, c1, c2, c3, cf, cl⟩ := cob_cells q0
  by_cases hlt : j < n
  ·have hjk : (j : Int) < (n : Int) := by omega
   have hjl : j < l.length := by rw [← unhide HN]; exact hlt
   obtain ⟨x, hxe⟩ : ∃ x, x = l.getD j dB := ⟨_, rfl⟩
   have hx : l[j]? = some x := by rw [hxe]; exact get?_getD _ _ _ hjl
   have hts := thk_succ hx
   have hBl := bls_at (unhide HBw) (fun k h => h) hbw
   obtain ⟨Bb, ob, vi, vn, hva, hBN, hBlt, -, d0, d1, d2, hin, hnn⟩ := blk_next hBl hx
   subst hva
   obtain ⟨ia, ic, rfl, -, -, -⟩ := id hin
   obtain ⟨na, nc, rfl, -, -, -⟩ := id hnn
   obtain ⟨m, hmm⟩ : ∃ m, m = x.next.length := ⟨_, rfl⟩
   rw [← hmm] at d1
   have hxl := (unhide HC).nok.nlen x (List.mem_of_getElem? hx)
   have hmi : (m : Int) ≤ 1048576 := by omega
   have hal := Vc.one_alloc wq (.cells #[.slice ia x.ins.length ic, .slice na m nc, .int .i64 x.dep] 49)
   have hyr := heap_alloc_new wq (.cells #[.slice ia x.ins.length ic, .slice na m nc, .int .i64 x.dep] 49)
   have hyz : (wq.alloc (.cells #[.slice ia x.ins.length ic, .slice na m nc, .int .i64 x.dep] 49)).heap.size = wq.heap.size + 1 := by simp
   have HO := hide hO; have HBq := hide hbq; have HLt := hide hlt; have HTs := hide hts; have HHx := hide hx; have HIn := hide hin; have HNn := hide hnn; have HMm := hide hmm; have HBw2 := hide hbw; have HQ0 := hide q0
   clear hO hbq hlt hts hxe hx hin hnn hmm hBl hbw hj hjl hxl c0 c1 c2 q0 hBN
   go_upto_region 6 with fail
   obtain ⟨Y, hYe⟩ : ∃ Y, Y = wq.alloc (.cells #[.slice ia x.ins.length ic, .slice na m nc, .int .i64 x.dep] 49) := ⟨_, rfl⟩
   rw [← hYe] at hal hyr hyz ⊢
   have HAlY := hide hal; have HYr := hide hyr; have HYz := hide hyz
   clear hYe hal hyr hyz d0 d1 d2 c3 cf cl hBlt hXz
   go_wp2_with fail
   go_loopw [6, 7] (fun v c wz => ∃ (i : Nat) (b : Option Addr) (c2 : Nat), i ≤ m ∧ c = .int .i64 (i : Int) ∧ v = .slice b i c2 ∧ Ro wz Y.heap.size (.slice b i c2) ((x.next.take i).map fun z => (gl l z.toNat l.length z.toNat : Int)) ∧ Below Y.heap.size Y wz) (fun _ c _ => m - (intOf c).toNat)
   case atStart => exact ⟨0, none, 0, Nat.zero_le _, rfl, rfl, World.ownsRow_nil _ _ _ _, Below.refl _ _⟩
   case round =>
    generalize wr = wz at *
    obtain ⟨i, b, c2, hi9, rfl, rfl, hRz, hbz⟩ := hrel
    have hyz := unhide HYz
    have hqz : Below wq.heap.size wq wz := (unhide HAlY).trans (hbz.mono (unhide HAlY).size)
    have hyrow := (hbz.block wq.heap.size (by omega)).trans (unhide HYr)
    by_cases hlt : i < m
    ·obtain ⟨t, hz, htl, hgt⟩ := (unhide HC).nok.at_ (unhide HHx) (k := i) (by rw [← unhide HMm]; exact hlt)
     obtain ⟨Bn, on, hna, -, hnc⟩ := nums_at (unhide HNn) (k := i) (by rw [← unhide HMm]; exact hlt)
     subst hna
     have x1 := hnc i (by rw [← unhide HMm]; exact hlt)
     rw [hz] at x1
     have hwz : Below w.heap.size w wz := (unhide HBw2).trans (hqz.mono (unhide HBw2).size)
     have hca := unhide HGo t (by rw [unhide HN]; exact htl) wz.drew (bdrew hwz)
     obtain ⟨y, hy⟩ : ∃ y, y = gl l t l.length t := ⟨_, rfl⟩
     rw [← hy] at hca
     have hst : (x.next.take (i + 1)).map (fun z => (gl l z.toNat l.length z.toNat : Int)) = (x.next.take i).map (fun z => (gl l z.toNat l.length z.toNat : Int)) ++ [(y : Int)] := by
      have hil : i < x.next.length := by rw [← unhide HMm]; exact hlt
      rw [List.take_succ_eq_append_getElem hil, List.map_append, ← getD_get _ _ 0 hil, hz, hy]; rfl
     have him : (i : Int) < (m : Int) := by omega
     have hll : ((x.next.take i).map (fun z => (gl l z.toNat l.length z.toNat : Int))).length = i := by rw [List.length_map, List.length_take, ← unhide HMm]; omega
     have q0z := (hqz.block w.heap.size (by have := (unhide HBq).size; have := unhide HXz; omega)).trans (unhide HQ0)
     obtain ⟨e0, e1, e2, e3, -, -⟩ := cob_cells q0z
     have y1 : wz.cell? ⟨wq.heap.size, 1, none⟩ = some (.slice (some ⟨Bn, on, none⟩) m nc) := by rw [cell_of_row wz _ 1 _ _ _ hyrow]; rfl
     have x1z := (hqz.cell (p := ⟨Bn, on + i, none⟩) (block_lt_of_cell x1)).trans x1
     have hSc : ∀ W, Below wz.heap.size wz W → W.cell? ⟨w.heap.size, 0, none⟩ = some (.int .i64 pa) ∧ W.cell? ⟨w.heap.size, 1, none⟩ = some (.int .i64 re) ∧ W.cell? ⟨w.heap.size, 2, none⟩ = some (.bool rs) ∧ W.cell? ⟨w.heap.size, 3, none⟩ = some (.slice (some ⟨Bb, ob, none⟩) n vc) ∧ W.cell? ⟨wq.heap.size, 1, none⟩ = some (.slice (some ⟨Bn, on, none⟩) m nc) ∧ W.cell? ⟨Bn, on + i, none⟩ = some (.int .i64 (t : Int)) := fun W hW => by
      exact ⟨(hW.cell (p := ⟨w.heap.size, 0, none⟩) (block_lt_of_cell e0)).trans e0, (hW.cell (p := ⟨w.heap.size, 1, none⟩) (block_lt_of_cell e1)).trans e1, (hW.cell (p := ⟨w.heap.size, 2, none⟩) (block_lt_of_cell e2)).trans e2, (hW.cell (p := ⟨w.heap.size, 3, none⟩) (block_lt_of_cell e3)).trans e3, (hW.cell (p := ⟨wq.heap.size, 1, none⟩) (block_lt_of_cell y1)).trans y1, (hW.cell (p := ⟨Bn, on + i, none⟩) (block_lt_of_cell x1z)).trans x1z⟩
     have hSg : ∀ W W', Below wz.heap.size wz W → W.grownBy W' (Value.slice b i c2).ownBlock → W'.cell? ⟨w.heap.size, 0, none⟩ = some (.int .i64 pa) ∧ W'.cell? ⟨w.heap.size, 1, none⟩ = some (.int .i64 re) ∧ W'.cell? ⟨w.heap.size, 2, none⟩ = some (.bool rs) ∧ W'.cell? ⟨w.heap.size, 3, none⟩ = some (.slice (some ⟨Bb, ob, none⟩) n vc) ∧ W'.cell? ⟨wq.heap.size, 1, none⟩ = some (.slice (some ⟨Bn, on, none⟩) m nc) ∧ W'.cell? ⟨Bn, on + i, none⟩ = some (.int .i64 (t : Int)) := fun W W' hW hG => by
      have hbs := hbz.size
      have hqs := (unhide HBq).size
      have hxs := unhide HXz
      have hBnl := block_lt_of_cell x1
      obtain ⟨k0, k1, k2, k3, k4, k5⟩ := hSc W hW
      have c : ∀ B o v, B < Y.heap.size → W.cell? ⟨B, o, none⟩ = some v → W'.cell? ⟨B, o, none⟩ = some v := fun B o v hlt e => (World.cell?_of_block (a := ⟨B, o, none⟩) (hG.block B (by have := hW.size; omega) (fun e2 => by have := (hRz.lt B e2.symm).1; omega))).trans e
      have hBnl2 : Bn < Y.heap.size := by have : Bn < wq.heap.size := hBnl; omega
      exact ⟨c _ _ _ (by omega) k0, c _ _ _ (by omega) k1, c _ _ _ (by omega) k2, c _ _ _ (by omega) k3, c _ _ _ (by omega) k4, c _ _ _ hBnl2 k5⟩
     have HRz := hide hRz; have HBz := hide hbz; have HSt := hide hst; have HLti := hide hlt; have HLl := hide hll; have HI9 := hide hi9; have HCa := hide hca; have HSc := hide hSc; have HSg := hide hSg; have HIl := hide (show i + 1 ≤ 1099511627776 by omega)
     clear hRz hbz hst hlt hll hwz x1 hnc hgt hz htl hyrow hqz hi9 hca hSc hSg hy q0z
     go_upto_region 10 with fail
     have hdr : Below wz.heap.size wz wz.drew := bdrew (Below.refl _ _)
     have HDr := hide hdr
     clear hdr
     go_region_held3 (fun W => W.cell? ⟨w.heap.size, 0, none⟩ = some (.int .i64 pa) ∧ W.cell? ⟨w.heap.size, 1, none⟩ = some (.int .i64 re) ∧ W.cell? ⟨w.heap.size, 2, none⟩ = some (.bool rs) ∧ W.cell? ⟨w.heap.size, 3, none⟩ = some (.slice (some ⟨Bb, ob, none⟩) n vc) ∧ W.cell? ⟨wq.heap.size, 1, none⟩ = some (.slice (some ⟨Bn, on, none⟩) m nc) ∧ W.cell? ⟨Bn, on + i, none⟩ = some (.int .i64 (t : Int))) (first | go_keep | exact gk)
      (first
       | (go_at_call 46; refine (unhide HCa).mono ?_; rintro e w6 ⟨rfl, h6⟩; have h7 : Below wz.heap.size wz w6 := (unhide HDr).trans h6; have gk := unhide HSc w6 h7; have h8 := h7.trans ((Vc.one_alloc w6 (.cells #[.int .i64 (y : Int)] 3)).mono h7.size); have H8 := hide h8; clear h6 h7 h8)
       | (refine step_push ((unhide HRz).below (unhide H8)) (y : Int) (by rfl) _ _ (by rfl) (by rfl) (B := w6.heap.size) (by rfl) (by rw [cell_of_row _ _ 0 _ _ _ (heap_alloc_new w6 _)]; rfl) (by rw [unhide HLl]; exact unhide HIl) (by have h1 := (unhide HBz).size; have h2 := (unhide H8).size; omega) ?_; intro g9 c9 w9 h1 h2; have gk := unhide HSg _ w9 (unhide H8) h2; have H1 := hide h1; have H2 := hide h2; clear h1 h2))
     -- LOOPEND
     have hb9 := (unhide HBz).trans ((unhide H8).mono (unhide HBz).size)
     have hb10 : Below Y.heap.size Y w9 := hb9.grown (unhide H2) hb9.size (fun q e => ((unhide HRz).lt q e).1)
     have hmin : min i x.next.length = i := by have := unhide HLl; rw [List.length_map, List.length_take] at this; exact this
     have h1 := unhide H1
     rw [unhide HLl, ← unhide HSt] at h1
     have HH1 := hide h1; have HB10 := hide hb10
     clear h1 hb9 hb10 gk
     go_wp2_with fail
     go_roundw
     case rel => exact ⟨i + 1, some ⟨g9, 0, none⟩, c9, by have := unhide HLti; omega, by go_num, by first | rfl | rw [hmin], unhide HH1, unhide HB10⟩
     case measure => have := unhide HLti; simp [intOf]; omega
    ·obtain rfl : i = m := by omega
     rw [List.take_of_length_le (by rw [← unhide HMm]; exact Nat.le_refl _)] at hRz
     have hxi := (unhide HC).ins x (List.mem_of_getElem? (unhide HHx))
     obtain ⟨p, hp⟩ : ∃ p, p = x.ins.length - 1 := ⟨_, rfl⟩
     have hlp : x.ins.length = p + 1 := by omega
     have hen : endI x = x.ins.getD p dI := by unfold endI; rw [hp]
     obtain ⟨z0, z1, z2, zf⟩ : wz.cell? ⟨wq.heap.size, 0, none⟩ = some (.slice ia x.ins.length ic) ∧ wz.cell? ⟨wq.heap.size, 1, none⟩ = some (.slice na i nc) ∧ wz.cell? ⟨wq.heap.size, 2, none⟩ = some (.int .i64 x.dep) ∧ ∀ q, wz.frozen? ⟨wq.heap.size, q, none⟩ = false := ⟨by rw [cell_of_row wz _ 0 _ _ _ hyrow]; rfl, by rw [cell_of_row wz _ 1 _ _ _ hyrow]; rfl, by rw [cell_of_row wz _ 2 _ _ _ hyrow]; rfl, fun q => frozen_of_row wz _ q _ _ hyrow⟩
     have hrow8 : (wz.setCell ⟨wq.heap.size, 1, none⟩ (.slice b i c2)).heap[wq.heap.size]? = some (.cells #[.slice ia x.ins.length ic, .slice b i c2, .int .i64 x.dep] 49 (0, 0)) := (heap_setCell_same wz wq.heap.size 1 _ _ _ hyrow).trans rfl
     have hb8 := hqz.setCell (p := ⟨wq.heap.size, 1, none⟩) (Nat.le_refl _) (.slice b i c2)
     have hRo8 : Ro (wz.setCell ⟨wq.heap.size, 1, none⟩ (.slice b i c2)) Y.heap.size (.slice b i c2) (x.next.map fun z => (gl l z.toNat l.length z.toNat : Int)) := hRz.keep fun q hq => heap_setCell_other wz ⟨wq.heap.size, 1, none⟩ q _ (by have := (hRz.lt q hq).1; show q ≠ wq.heap.size; omega)
     have HRow8 := hide hrow8; have HB8 := hide hb8; have HRo8 := hide hRo8; have HP := hide hp; have HLp := hide hlp; have HEn := hide hen; have HXi := hide hxi
     clear hrow8 hb8 hRo8 hRz hbz hqz hyrow hlt hi9 hp hlp hen hxi
     go_upto_region 12 with fail
     generalize wz.setCell ⟨wq.heap.size, 1, none⟩ (.slice b i c2) = W8 at *
     clear z0 z1 z2 zf
     have hrow8 := unhide HRow8
     have hin8 := Vc.LL.moved (Vc.Mv.below (unhide HB8) fun _ _ h => h) (unhide HB8).size (fun _ _ q => q.moved (Vc.Mv.below (unhide HB8) fun _ _ h => h)) (unhide HIn)
     have hRo8 := unhide HRo8
     have hlp := unhide HLp
     have hxm := List.mem_of_getElem? (unhide HHx)
     obtain ⟨Bi, oi, vs, hia, -, hBi, e0, -, -, -, -, -⟩ := ins_at (unhide HIn) (k := p) (by omega)
     subst hia
     obtain ⟨op, hop⟩ : ∃ op, op = (endI x).op := ⟨_, rfl⟩
     rw [← unhide HEn, ← hop] at e0
     have hob : op < 256 := by rw [hop, unhide HEn]; exact (unhide HOo) x hxm _ (getD_mem _ _ _ (by omega))
     have hnm := Vc.rnm_any op hob W8.drew
     have hj := nm_branch op hob
     obtain ⟨S, hSs⟩ : ∃ S, S = str (Vc.rnm op) := ⟨_, rfl⟩
     rw [← hSs] at hnm hj
     have z0 : W8.cell? ⟨wq.heap.size, 0, none⟩ = some (.slice (some ⟨Bi, oi, none⟩) (p + 1) ic) := by rw [cell_of_row W8 _ 0 _ _ _ hrow8, ← hlp]; rfl
     have e8 := ((unhide HB8).cell (p := ⟨Bi, oi + p * 5, none⟩) hBi).trans e0
     have hpo : ∀ w6, Below W8.heap.size W8 w6 → w6.cell? ⟨wq.heap.size, 0, none⟩ = some (.slice (some ⟨Bi, oi, none⟩) (p + 1) ic) ∧ w6.cell? ⟨Bi, oi + p * 5, none⟩ = some (.int .u8 (op : Int)) := fun w6 h6 => ⟨(h6.cell (p := ⟨wq.heap.size, 0, none⟩) (block_lt_of_cell z0)).trans z0, (h6.cell (p := ⟨Bi, oi + p * 5, none⟩) (block_lt_of_cell e8)).trans e8⟩
     have hpi : (p : Int) ≤ 1099511627776 := by have := (unhide HXi).2; omega
     have hpp1 : (p : Int) < (p : Int) + 1 := by omega
     -- what stands at the end of it, in any later world, where the block stays
     have hend : ∀ W, Below W8.heap.size W8 W → W.heap[wq.heap.size]? = some (.cells #[.slice (some ⟨Bi, oi, none⟩) (p + 1) ic, .slice b i c2, .int .i64 x.dep] 49 (0, 0)) ∧ Below wq.heap.size wq W ∧ LL InC 5 W (fun q => (q < w.heap.size ∨ Y.heap.size ≤ q) ∧ q < W.heap.size) (glB l x).ins (.slice (some ⟨Bi, oi, none⟩) (p + 1) ic) ∧ NumsL W (fun q => (q < w.heap.size ∨ Y.heap.size ≤ q) ∧ q < W.heap.size) (glB l x).next (.slice b i c2) := fun W hW => by
      have hm3 : Vc.Mv W8 W (fun q => q < w.heap.size) (fun q => (q < w.heap.size ∨ Y.heap.size ≤ q) ∧ q < W.heap.size) := fun q hq hk => ⟨⟨.inl hk, Nat.lt_of_lt_of_le hq hW.size⟩, hW.block q hq⟩
      have hm4 : Vc.Mv W W (fun q => Y.heap.size ≤ q ∧ q < W.heap.size) (fun q => (q < w.heap.size ∨ Y.heap.size ≤ q) ∧ q < W.heap.size) := fun q hq hk => ⟨⟨.inr hk.1, hk.2⟩, rfl⟩
      rw [← hlp]
      exact ⟨(hW.block _ (block_lt_of_cell z0)).trans hrow8, (unhide HB8).trans (hW.mono (unhide HB8).size), Vc.LL.moved hm3 hW.size (fun _ _ q => q.moved hm3) hin8, ((hRo8.below hW).nums).moved hm4⟩
     have HEnd := hide hend; have HPo := hide hpo; have HNm := hide hnm; have HOp := hide hop; have HRo8b := hide hRo8; have HXm := hide hxm
     clear hend hpo hnm hRo8 hlp hxm hop hSs hob hrow8 hin8 hBi e0 e8 HRow8 HRo8
     go_upto_region 13 with fail
     by_cases ho : op = 194
     ·subst ho
      rw [decide_eq_true rfl] at hj
      have hnj : (S.toList != [98, 114, 97, 110, 99, 104]) = false := by simp only [bne, hj]; rfl
      have hen : (endI x).op = 194 := (unhide HOp).symm
      have hM : x.next.length = 2 := (unhide HC).brn x (unhide HXm) hen
      have hi2 : i = 2 := by rw [unhide HMm]; exact hM
      subst hi2
      obtain ⟨mp, hmp⟩ : ∃ mp, mp = x.next.map (fun z => (gl l z.toNat l.length z.toNat : Int)) := ⟨_, rfl⟩
      have hml : mp.length = 2 := by rw [hmp, List.length_map]; exact hM
      have hRo9 : Ro W8 Y.heap.size (.slice b 2 c2) mp := by rw [hmp]; exact unhide HRo8b
      have hnx : (glB l x).next = mp := by rw [hmp]; rfl
      obtain ⟨Bn, on, hna, hBn, hnc⟩ := nums_at hRo9.nums (k := 0) (by omega)
      subst hna
      obtain ⟨zz, hzz⟩ : ∃ z, z = mp.getD 0 0 := ⟨_, rfl⟩
      obtain ⟨zy, hzy⟩ : ∃ z, z = mp.getD 1 0 := ⟨_, rfl⟩
      have f0 := hnc 0 (by omega)
      have f1 := hnc 1 (by omega)
      rw [Nat.add_zero, ← hzz] at f0
      rw [← hzy] at f1
      have hpo4 : ∀ w6, Below W8.heap.size W8 w6 → w6.cell? ⟨wq.heap.size, 0, none⟩ = some (.slice (some ⟨Bi, oi, none⟩) (p + 1) ic) ∧ w6.cell? ⟨Bi, oi + p * 5, none⟩ = some (.int .u8 ((194 : Nat) : Int)) ∧ w6.cell? ⟨Bn, on, none⟩ = some (.int .i64 zz) ∧ w6.cell? ⟨Bn, on + 1, none⟩ = some (.int .i64 zy) := fun w6 h6 => by
       obtain ⟨k0, k1⟩ := unhide HPo w6 h6
       exact ⟨k0, k1, (h6.cell (p := ⟨Bn, on, none⟩) (block_lt_of_cell f0)).trans f0, (h6.cell (p := ⟨Bn, on + 1, none⟩) (block_lt_of_cell f1)).trans f1⟩
      have HPo4 := hide hpo4; have HMl := hide hml; have HNx9 := hide hnx; have HHen := hide hen
      clear hpo4 hRo9 hnc hBn hM hml
      obtain ⟨t0, e0, f0, f1⟩ := unhide HPo4 W8.drew (bdrew (Below.refl _ _))
      clear t0
      by_cases hz : zz = zy
      ·have hth : thr1 (glB l x) = ⟨x.ins.take p ++ [jmpI], mp.take 1, x.dep⟩ := by
          unfold thr1
          rw [if_pos ⟨hen, by rw [hnx, ← hzz, ← hzy]; exact hz⟩, hnx]
          show (⟨x.ins.take (x.ins.length - 1) ++ [jmpI], _, _⟩ : Bl) = _
          rw [unhide HP]; rfl
       subst hz
       have HTh := hide hth
       clear hth hnx hen hmp hzz hzy
       go_region_held3 (fun wx => wx.cell? ⟨wq.heap.size, 0, none⟩ = some (.slice (some ⟨Bi, oi, none⟩) (p + 1) ic) ∧ wx.cell? ⟨Bi, oi + p * 5, none⟩ = some (.int .u8 ((194 : Nat) : Int)) ∧ wx.cell? ⟨Bn, on, none⟩ = some (.int .i64 zz) ∧ wx.cell? ⟨Bn, on + 1, none⟩ = some (.int .i64 zz)) (first | go_keep | exact gk)
        (first
         | (go_at_call 35; refine (unhide HNm).mono ?_; rintro e w6 ⟨rfl, h6⟩; have hb6 : Below W8.heap.size W8 w6 := (bdrew (Below.refl W8.heap.size W8)).trans h6; have gk := unhide HPo4 w6 hb6; have HB6 := hide hb6; clear h6 hb6))
       clear gk
       obtain ⟨hr6, hb6, hl6, hn6⟩ := unhide HEnd w6 (unhide HB6)
       rw [unhide HNx9] at hn6
       obtain ⟨y0, y1, y2, yf⟩ : w6.cell? ⟨wq.heap.size, 0, none⟩ = some (.slice (some ⟨Bi, oi, none⟩) (p + 1) ic) ∧ w6.cell? ⟨wq.heap.size, 1, none⟩ = some (.slice (some ⟨Bn, on, none⟩) 2 c2) ∧ w6.cell? ⟨wq.heap.size, 2, none⟩ = some (.int .i64 x.dep) ∧ ∀ q, w6.frozen? ⟨wq.heap.size, q, none⟩ = false := ⟨by rw [cell_of_row w6 _ 0 _ _ _ hr6]; rfl, by rw [cell_of_row w6 _ 1 _ _ _ hr6]; rfl, by rw [cell_of_row w6 _ 2 _ _ _ hr6]; rfl, fun q => frozen_of_row w6 _ q _ _ hr6⟩
       have hl7 := ll_take (p := p) hl6 (by show p ≤ x.ins.length; rw [unhide HLp]; omega)
       obtain ⟨news, hm1, hits1, hce1, h11⟩ := ll_news hl7
       have hgl : (glB l x).ins = x.ins := rfl
       rw [hgl] at hm1 hits1 hl7
       have hxl := (unhide HXi).2
       have hbp : p + 1 ≤ 1099511627776 := by have := unhide HLp; omega
       have hic : p + 1 ≤ ic := by obtain ⟨a9, cp9, e9, h9, -, -⟩ := hl6; injection e9 with e1 e2 e3; rw [e3]; have h2 : x.ins.length ≤ cp9 := h9; have := unhide HLp; omega
       have HBp := hide hbp
       have HR6 := hide hr6; have HB6w := hide hb6; have HN6 := hide hn6; have HM1 := hide hm1; have HI1 := hide hits1; have HC1 := hide hce1; have H11 := hide h11
       clear hr6 hb6 hl6 hn6 hl7 hm1 hits1 hce1 h11 hgl hxl hbp z0 hj hnj e0 f0 f1
       go_upto_region 15 with fail
       go_upto_region 16 with (first
        | (at_builtin
           refine wpList_lsr (w := w6) (N := w6.heap.size) (g := fun q => (q < w.heap.size ∨ Y.heap.size ≤ q) ∧ q < w6.heap.size) (l := []) (z := x.ins.take p) rfl (.tmp 62) (.tmp 66) rfl rfl (.inl ⟨[], World.ownsRow_nil _ _ _ _, Its.nil _ _⟩) (fun k hk => hk.2) (Nat.le_refl _) (ad := ⟨Bi, oi, none⟩) (m := p) (c := ic) rfl (unhide HM1) (unhide HI1) (unhide HC1) (unhide H11) (by rw [← unhide HM1]; have := unhide HBp; simp; omega) ?_
           rintro b2 n2 c3 w7 hn2 hl8 hb8
           have HN2 := hide hn2; have HL8 := hide hl8; have HB8b := hide hb8
           clear hn2 hl8 hb8)
        | (at_builtin
           have hal := Vc.one_alloc w7 (.cells #[.int .u8 193, .int .i64 (-1), .slice none 0 0, .int .i64 0, .int .u32 0] 52)
           refine wpList_lsr (N := w6.heap.size) (g := fun q => (q < w.heap.size ∨ Y.heap.size ≤ q) ∧ q < w6.heap.size) (l := [] ++ x.ins.take p) (z := [jmpI]) rfl (.tmp 67) (.tmp 69) rfl rfl ((unhide HL8).below hal) (fun k hk => hk.2) (Nat.le_trans (unhide HB8b).size hal.size) (ad := ⟨w7.heap.size, 0, none⟩) (m := 1) (c := 1) rfl rfl (jmp_its _ _) (Vc.new_row w7 (Vc.inC jmpI (.slice none 0 0)) _) (Vc.inC_one jmpI _ ⟨_, _, _, rfl⟩) (by have := unhide HBp; rw [← unhide HN2]; have h3 := unhide HN2; rw [List.nil_append, ← unhide HM1] at h3; simp; omega) ?_
           rintro b3 n3 c4 w8 hn3 hl9 hb9
           clear hn3
           have hb10 : Below w6.heap.size w6 w8 := ((unhide HB8b).trans (hal.mono (unhide HB8b).size)).trans hb9
           have hr8 := (hb10.block _ (block_lt_of_cell y0)).trans (unhide HR6)
           obtain ⟨x0, x1, x2, xf⟩ : w8.cell? ⟨wq.heap.size, 0, none⟩ = some (.slice (some ⟨Bi, oi, none⟩) (p + 1) ic) ∧ w8.cell? ⟨wq.heap.size, 1, none⟩ = some (.slice (some ⟨Bn, on, none⟩) 2 c2) ∧ w8.cell? ⟨wq.heap.size, 2, none⟩ = some (.int .i64 x.dep) ∧ ∀ q, w8.frozen? ⟨wq.heap.size, q, none⟩ = false := ⟨by rw [cell_of_row w8 _ 0 _ _ _ hr8]; rfl, by rw [cell_of_row w8 _ 1 _ _ _ hr8]; rfl, by rw [cell_of_row w8 _ 2 _ _ _ hr8]; rfl, fun q => frozen_of_row w8 _ q _ _ hr8⟩
           have HR8 := hide hr8; have HL9 := hide hl9; have HB10 := hide hb10
           clear hr8 hl9 hb10 hb9 hal))
       clear y0 y1 y2 yf
       have V0 := hide (unhide HR8)
       have hr9 : (w8.setCell ⟨wq.heap.size, 0, none⟩ (.slice b3 n3 c4)).heap[wq.heap.size]? = some (.cells #[.slice b3 n3 c4, .slice (some ⟨Bn, on, none⟩) 2 c2, .int .i64 x.dep] 49 (0, 0)) := (heap_setCell_same w8 wq.heap.size 0 _ _ _ (unhide HR8)).trans rfl
       have hot9 : ∀ k, k ≠ wq.heap.size → (w8.setCell ⟨wq.heap.size, 0, none⟩ (.slice b3 n3 c4)).heap[k]? = w8.heap[k]? := fun k hk => heap_setCell_other w8 ⟨wq.heap.size, 0, none⟩ k _ hk
       have hz9 : (w8.setCell ⟨wq.heap.size, 0, none⟩ (.slice b3 n3 c4)).heap.size = w8.heap.size := by simp
       have hbb9 : Below wq.heap.size wq (w8.setCell ⟨wq.heap.size, 0, none⟩ (.slice b3 n3 c4)) := ((unhide HB6w).trans ((unhide HB10).mono (unhide HB6w).size)).setCell (p := ⟨wq.heap.size, 0, none⟩) (Nat.le_refl _) _
       have HR9 := hide hr9; have HOt9 := hide hot9; have HZ9 := hide hz9; have HBb9 := hide hbb9
       clear hr9 hot9 hz9 hbb9 V0 x0 x1 x2 xf
       generalize w8.setCell ⟨wq.heap.size, 0, none⟩ (.slice b3 n3 c4) = W9a at *
       obtain ⟨x0, x1, x2, xf⟩ : W9a.cell? ⟨wq.heap.size, 0, none⟩ = some (.slice b3 n3 c4) ∧ W9a.cell? ⟨wq.heap.size, 1, none⟩ = some (.slice (some ⟨Bn, on, none⟩) 2 c2) ∧ W9a.cell? ⟨wq.heap.size, 2, none⟩ = some (.int .i64 x.dep) ∧ ∀ q, W9a.frozen? ⟨wq.heap.size, q, none⟩ = false := ⟨by rw [cell_of_row W9a _ 0 _ _ _ (unhide HR9)]; rfl, by rw [cell_of_row W9a _ 1 _ _ _ (unhide HR9)]; rfl, by rw [cell_of_row W9a _ 2 _ _ _ (unhide HR9)]; rfl, fun q => frozen_of_row W9a _ q _ _ (unhide HR9)⟩
       have hc21 : 1 ≤ c2 := by obtain ⟨a9, cp9, e9, h9, -, -⟩ := unhide HN6; injection e9 with e1 e2 e3; rw [e3]; have h2 : mp.length ≤ cp9 := h9; have := unhide HMl; omega
       go_upto_region 17 with fail
       have hr9 : (W9a.setCell ⟨wq.heap.size, 1, none⟩ (.slice (some ⟨Bn, on, none⟩) 1 c2)).heap[wq.heap.size]? = some (.cells #[.slice b3 n3 c4, .slice (some ⟨Bn, on, none⟩) 1 c2, .int .i64 x.dep] 49 (0, 0)) := (heap_setCell_same W9a wq.heap.size 1 _ _ _ (unhide HR9)).trans rfl
       have hot9 : ∀ k, k ≠ wq.heap.size → (W9a.setCell ⟨wq.heap.size, 1, none⟩ (.slice (some ⟨Bn, on, none⟩) 1 c2)).heap[k]? = w8.heap[k]? := fun k hk => (heap_setCell_other W9a ⟨wq.heap.size, 1, none⟩ k _ hk).trans (unhide HOt9 k hk)
       have hz9 : (W9a.setCell ⟨wq.heap.size, 1, none⟩ (.slice (some ⟨Bn, on, none⟩) 1 c2)).heap.size = w8.heap.size := by rw [← unhide HZ9]; simp
       have hbb9 : Below wq.heap.size wq (W9a.setCell ⟨wq.heap.size, 1, none⟩ (.slice (some ⟨Bn, on, none⟩) 1 c2)) := (unhide HBb9).setCell (p := ⟨wq.heap.size, 1, none⟩) (Nat.le_refl _) _
       generalize W9a.setCell ⟨wq.heap.size, 1, none⟩ (.slice (some ⟨Bn, on, none⟩) 1 c2) = W11 at *
       clear x0 x1 x2 xf
       have hyz := unhide HYz
       have hs6 := (unhide HB6w).size
       have hm3 : Vc.Mv w8 W11 (fun q => q ≠ wq.heap.size ∧ (q < w.heap.size ∨ Y.heap.size ≤ q)) (fun q => (q < w.heap.size ∨ Y.heap.size ≤ q) ∧ q < W11.heap.size) := fun q hq hk => ⟨⟨hk.2, by rw [hz9]; exact hq⟩, hot9 q hk.1⟩
       have hsq := (unhide HBq).size
       have hxz := unhide HXz
       have hne : ∀ q, (q < w.heap.size ∨ Y.heap.size ≤ q) → q ≠ wq.heap.size := fun q h => by rcases h with h | h <;> omega
       have hl11 := Vc.LL.moved hm3 (Nat.le_of_eq hz9.symm) (fun _ _ q => q.moved hm3) ((unhide HL9).ll (G := fun q => q ≠ wq.heap.size ∧ (q < w.heap.size ∨ Y.heap.size ≤ q)) (fun k hk => ⟨hne k hk.1, hk.1⟩) (fun k h1 _ => ⟨by have := (Array.getElem?_eq_some_iff.1 (unhide HR6)).1; omega, .inr (by have := (Array.getElem?_eq_some_iff.1 (unhide HR6)).1; omega)⟩))
       have hm5 : Vc.Mv w6 W11 (fun q => (q < w.heap.size ∨ Y.heap.size ≤ q) ∧ q < w6.heap.size) (fun q => (q < w.heap.size ∨ Y.heap.size ≤ q) ∧ q < W11.heap.size) := fun q hq hk => ⟨⟨hk.1, by rw [hz9]; exact Nat.lt_of_lt_of_le hq (unhide HB10).size⟩, (hot9 q (hne q hk.1)).trans ((unhide HB10).block q hq)⟩
       have hn11 := (nums_take1 (unhide HN6) (by rw [unhide HMl]; omega)).moved hm5
       rw [List.nil_append] at hl11
       have HRowf := hide hr9; have HBf := hide hbb9; have HLi : Hid (LL InC 5 W11 (fun q => (q < w.heap.size ∨ Y.heap.size ≤ q) ∧ q < W11.heap.size) (thr1 (glB l x)).ins (.slice b3 n3 c4)) := hide (by rw [unhide HTh]; exact hl11); have HLn9 : Hid (NumsL W11 (fun q => (q < w.heap.size ∨ Y.heap.size ≤ q) ∧ q < W11.heap.size) (thr1 (glB l x)).next (.slice (some ⟨Bn, on, none⟩) 1 c2)) := hide (by rw [unhide HTh]; exact hn11); have HDp := hide (show (thr1 (glB l x)).dep = x.dep by rw [unhide HTh])
       clear hr9 hot9 hz9 hbb9 hm3 hm5 hl11 hn11 hne hyz hs6 hsq hxz
       have hrow8 := unhide HRowf
       obtain ⟨z0, z1, z2⟩ : W11.cell? ⟨wq.heap.size, 0, none⟩ = some (.slice b3 n3 c4) ∧ W11.cell? ⟨wq.heap.size, 1, none⟩ = some (.slice (some ⟨Bn, on, none⟩) 1 c2) ∧ W11.cell? ⟨wq.heap.size, 2, none⟩ = some (.int .i64 x.dep) := ⟨by rw [cell_of_row W11 _ 0 _ _ _ hrow8]; rfl, by rw [cell_of_row W11 _ 1 _ _ _ hrow8]; rfl, by rw [cell_of_row W11 _ 2 _ _ _ hrow8]; rfl⟩
       have hal9 := Vc.one_alloc W11 (.cells #[.slice b3 n3 c4, .slice (some ⟨Bn, on, none⟩) 1 c2, .int .i64 x.dep] 49)
       have hb9 := (unhide HBf).trans (hal9.mono (unhide HBf).size)
       have hnew := Vc.new_row W11 [.slice b3 n3 c4, .slice (some ⟨Bn, on, none⟩) 1 c2, .int .i64 x.dep] 49
       have hs9 : (W11.alloc (.cells #[.slice b3 n3 c4, .slice (some ⟨Bn, on, none⟩) 1 c2, .int .i64 x.dep] 49)).heap.size = W11.heap.size + 1 := by simp
       obtain ⟨W9, hW9⟩ : ∃ W9, W9 = W11.alloc (.cells #[.slice b3 n3 c4, .slice (some ⟨Bn, on, none⟩) 1 c2, .int .i64 x.dep] 49) := ⟨_, rfl⟩
       obtain ⟨xs, hxo, hits⟩ := unhide HO
       have hol : ∀ q, (Value.slice a (thk l j).length cp).ownBlock = some q → X.heap.size ≤ q ∧ q < wq.heap.size := fun q e => World.ownsRow.lt hxo q e
       rw [show (W11.alloc (.cells #[.slice b3 n3 c4, .slice (some ⟨Bn, on, none⟩) 1 c2, .int .i64 x.dep] 49)) = W9 from hW9.symm] at hal9 hb9 hs9
       have hnew9 : ∀ q u, [Value.slice b3 n3 c4, .slice (some ⟨Bn, on, none⟩) 1 c2, .int .i64 x.dep][q]? = some u → W9.cell? ((⟨W11.heap.size, 0, none⟩ : Addr).add q) = some u := by rw [hW9]; exact hnew
       have hyz := unhide HYz
       have hXz := unhide HXz
       have hs8 := (unhide HBf).size
       have hsq := (unhide HBq).size
       have hcs : BlC W9 (own (fun q => q < w.heap.size ∨ X.heap.size ≤ q) (.slice a (thk l j).length cp)) (thr1 (glB l x)) [.slice b3 n3 c4, .slice (some ⟨Bn, on, none⟩) 1 c2, .int .i64 x.dep] := by
        have hm2 : Vc.Mv W11 W9 (fun q => (q < w.heap.size ∨ Y.heap.size ≤ q) ∧ q < W11.heap.size) (own (fun q => q < w.heap.size ∨ X.heap.size ≤ q) (.slice a (thk l j).length cp)) := fun q hq hk => ⟨⟨fun e => by have := (hol q e).1; have := (hol q e).2; rcases hk.1 with h | h <;> omega, by rcases hk.1 with h | h <;> omega⟩, hal9.block q hq⟩
        exact ⟨_, _, by rw [unhide HDp], Vc.LL.moved hm2 hal9.size (fun _ _ q => q.moved hm2) (unhide HLi), (unhide HLn9).moved hm2⟩
       have hx9 := Vc.ownsRow_below hxo hb9
       have hits9 : Its (BlC W9 (own (fun q => q < w.heap.size ∨ X.heap.size ≤ q) (.slice a (thk l j).length cp))) 3 (thk l j) xs := hits.mono fun x cs h => h.moved (Vc.Mv.below hb9 fun _ _ h => h) hb9.size
       have htl := thk_len l j
       have HX9 := hide hx9; have HIts9 := hide hits9; have HCs := hide hcs; have HNew9 := hide hnew9; have HB9 := hide ((unhide HBq).trans (hb9.mono (unhide HBq).size)); have HOl := hide hol; have HS9 := hide (show W9.heap.size = W11.heap.size + 1 from hs9); have HTl := hide (show (thk l j).length ≤ 1048576 by have := unhide HLt; omega)
       have HBase := hide (show X.heap.size ≤ W9.heap.size by omega)
       clear hal9 hb9 hnew hs9 hxo hits hol hnew9 hyz hs8 hXz hsq hcs hx9 hits9 htl hrow8 HO HLi HLn9 HBf
       go_wp2_with (at_builtin
                    rw [← hW9]
                    refine wpList_append_lies W9 rfl (.tmp 75) (.tmp 77) 22 rfl X.heap.size 49 ib (.agg #[.slice none 0 0, .slice none 0 0, .int .i64 0]) 3 56 Tryz.underlying22 hib hb0 hb1 hb2 rfl (by decide) (.slice a (thk l j).length cp) (thk l j).length xs rfl (unhide HX9) ⟨W11.heap.size, 0, none⟩ 1 1 [.slice b3 n3 c4, .slice (some ⟨Bn, on, none⟩) 1 c2, .int .i64 x.dep] rfl rfl (unhide HNew9) (by intro u hu; simp at hu; rcases hu with rfl | rfl | rfl <;> rfl) (by omega) (by have := unhide HTl; unfold maxLen; omega) (by have := unhide HTl; omega) (unhide HBase) (W11.heap.size + 1) (unhide HS9) ?_
                    intro gg cpn w5 hown5 hgrow hat5 hlt5
                    have hsn := Vc.OwnL.snoc (It := BlC) (c := 3) (T := 49) (w := W9) (w1 := w5) (B := X.heap.size) (G := fun q => q < w.heap.size ∨ X.heap.size ≤ q) (v := .slice a (thk l j).length cp) (l := thk l j) (x := thr1 (glB l x)) (xs := xs) (cs := [.slice b3 n3 c4, .slice (some ⟨Bn, on, none⟩) 1 c2, .int .i64 x.dep]) (g := gg) (cap := cpn) (fun x cs h hm => h.moved hm hgrow.size) (unhide HIts9) (unhide HCs) rfl hown5 hgrow (hat5.imp id (fun e => by rw [e, unhide HS9]))
                    rw [← unhide HTs] at hsn
                    have hln : (thk l j).length + 1 = (thk l (j + 1)).length := by rw [unhide HTs, List.length_append]; rfl
                    rw [hln] at hsn ⊢
                    have hbe5 := (unhide HB9).grown hgrow (unhide HBase) (fun q e => (unhide HOl q e).1)
                    have HSn := hide hsn; have HBe5 := hide hbe5
                    clear hsn hbe5 hown5 hgrow hat5 hlt5)
       go_roundw
       case rel => exact ⟨j + 1, some ⟨gg, 0, none⟩, cpn, by have := unhide HLt; omega, by go_num, rfl, unhide HSn, unhide HBe5⟩
       case measure => have := unhide HLt; simp [intOf]; omega
      ·have hth : thr1 (glB l x) = glB l x := if_neg fun h => hz (by rw [hzz, hzy, ← hnx]; exact h.2)
       have hzb : (zz == zy) = false := by simpa using hz
       have HTh := hide hth
       clear hth hnx hen hmp hzz hzy
       go_region_held3 (fun wx => wx.cell? ⟨wq.heap.size, 0, none⟩ = some (.slice (some ⟨Bi, oi, none⟩) (p + 1) ic) ∧ wx.cell? ⟨Bi, oi + p * 5, none⟩ = some (.int .u8 ((194 : Nat) : Int)) ∧ wx.cell? ⟨Bn, on, none⟩ = some (.int .i64 zz) ∧ wx.cell? ⟨Bn, on + 1, none⟩ = some (.int .i64 zy)) (first | go_keep | exact gk)
        (first
         | (go_at_call 35; refine (unhide HNm).mono ?_; rintro e w6 ⟨rfl, h6⟩; have hb6 : Below W8.heap.size W8 w6 := (bdrew (Below.refl W8.heap.size W8)).trans h6; have gk := unhide HPo4 w6 hb6; have HB6 := hide hb6; clear h6 hb6))
       clear gk
       obtain ⟨hr6, hb6, hl6, hn6⟩ := unhide HEnd w6 (unhide HB6)
       rw [← unhide HTh] at hl6 hn6
       have HRowf := hide hr6; have HBf := hide hb6; have HLi := hide hl6; have HLn9 := hide hn6; have HDp := hide (show (thr1 (glB l x)).dep = x.dep by rw [unhide HTh]; rfl)
       clear hr6 hb6 hl6 hn6 z0 hj hnj
       go_upto_region 17 with fail
       have hrow8 := unhide HRowf
       obtain ⟨z0, z1, z2⟩ : w6.cell? ⟨wq.heap.size, 0, none⟩ = some (.slice (some ⟨Bi, oi, none⟩) (p + 1) ic) ∧ w6.cell? ⟨wq.heap.size, 1, none⟩ = some (.slice (some ⟨Bn, on, none⟩) 2 c2) ∧ w6.cell? ⟨wq.heap.size, 2, none⟩ = some (.int .i64 x.dep) := ⟨by rw [cell_of_row w6 _ 0 _ _ _ hrow8]; rfl, by rw [cell_of_row w6 _ 1 _ _ _ hrow8]; rfl, by rw [cell_of_row w6 _ 2 _ _ _ hrow8]; rfl⟩
       have hal9 := Vc.one_alloc w6 (.cells #[.slice (some ⟨Bi, oi, none⟩) (p + 1) ic, .slice (some ⟨Bn, on, none⟩) 2 c2, .int .i64 x.dep] 49)
       have hb9 := (unhide HBf).trans (hal9.mono (unhide HBf).size)
       have hnew := Vc.new_row w6 [.slice (some ⟨Bi, oi, none⟩) (p + 1) ic, .slice (some ⟨Bn, on, none⟩) 2 c2, .int .i64 x.dep] 49
       have hs9 : (w6.alloc (.cells #[.slice (some ⟨Bi, oi, none⟩) (p + 1) ic, .slice (some ⟨Bn, on, none⟩) 2 c2, .int .i64 x.dep] 49)).heap.size = w6.heap.size + 1 := by simp
       obtain ⟨W9, hW9⟩ : ∃ W9, W9 = w6.alloc (.cells #[.slice (some ⟨Bi, oi, none⟩) (p + 1) ic, .slice (some ⟨Bn, on, none⟩) 2 c2, .int .i64 x.dep] 49) := ⟨_, rfl⟩
       obtain ⟨xs, hxo, hits⟩ := unhide HO
       have hol : ∀ q, (Value.slice a (thk l j).length cp).ownBlock = some q → X.heap.size ≤ q ∧ q < wq.heap.size := fun q e => World.ownsRow.lt hxo q e
       rw [show (w6.alloc (.cells #[.slice (some ⟨Bi, oi, none⟩) (p + 1) ic, .slice (some ⟨Bn, on, none⟩) 2 c2, .int .i64 x.dep] 49)) = W9 from hW9.symm] at hal9 hb9 hs9
       have hnew9 : ∀ q u, [Value.slice (some ⟨Bi, oi, none⟩) (p + 1) ic, .slice (some ⟨Bn, on, none⟩) 2 c2, .int .i64 x.dep][q]? = some u → W9.cell? ((⟨w6.heap.size, 0, none⟩ : Addr).add q) = some u := by rw [hW9]; exact hnew
       have hyz := unhide HYz
       have hXz := unhide HXz
       have hs8 := (unhide HBf).size
       have hsq := (unhide HBq).size
       have hcs : BlC W9 (own (fun q => q < w.heap.size ∨ X.heap.size ≤ q) (.slice a (thk l j).length cp)) (thr1 (glB l x)) [.slice (some ⟨Bi, oi, none⟩) (p + 1) ic, .slice (some ⟨Bn, on, none⟩) 2 c2, .int .i64 x.dep] := by
        have hm2 : Vc.Mv w6 W9 (fun q => (q < w.heap.size ∨ Y.heap.size ≤ q) ∧ q < w6.heap.size) (own (fun q => q < w.heap.size ∨ X.heap.size ≤ q) (.slice a (thk l j).length cp)) := fun q hq hk => ⟨⟨fun e => by have := (hol q e).1; have := (hol q e).2; rcases hk.1 with h | h <;> omega, by rcases hk.1 with h | h <;> omega⟩, hal9.block q hq⟩
        exact ⟨_, _, by rw [unhide HDp], Vc.LL.moved hm2 hal9.size (fun _ _ q => q.moved hm2) (unhide HLi), (unhide HLn9).moved hm2⟩
       have hx9 := Vc.ownsRow_below hxo hb9
       have hits9 : Its (BlC W9 (own (fun q => q < w.heap.size ∨ X.heap.size ≤ q) (.slice a (thk l j).length cp))) 3 (thk l j) xs := hits.mono fun x cs h => h.moved (Vc.Mv.below hb9 fun _ _ h => h) hb9.size
       have htl := thk_len l j
       have HX9 := hide hx9; have HIts9 := hide hits9; have HCs := hide hcs; have HNew9 := hide hnew9; have HB9 := hide ((unhide HBq).trans (hb9.mono (unhide HBq).size)); have HOl := hide hol; have HS9 := hide (show W9.heap.size = w6.heap.size + 1 from hs9); have HTl := hide (show (thk l j).length ≤ 1048576 by have := unhide HLt; omega)
       have HBase := hide (show X.heap.size ≤ W9.heap.size by omega)
       clear hal9 hb9 hnew hs9 hxo hits hol hnew9 hyz hs8 hXz hsq hcs hx9 hits9 htl hrow8 HO HLi HLn9 HBf
       go_wp2_with (at_builtin
                    rw [← hW9]
                    refine wpList_append_lies W9 rfl (.tmp 75) (.tmp 77) 22 rfl X.heap.size 49 ib (.agg #[.slice none 0 0, .slice none 0 0, .int .i64 0]) 3 56 Tryz.underlying22 hib hb0 hb1 hb2 rfl (by decide) (.slice a (thk l j).length cp) (thk l j).length xs rfl (unhide HX9) ⟨w6.heap.size, 0, none⟩ 1 1 [.slice (some ⟨Bi, oi, none⟩) (p + 1) ic, .slice (some ⟨Bn, on, none⟩) 2 c2, .int .i64 x.dep] rfl rfl (unhide HNew9) (by intro u hu; simp at hu; rcases hu with rfl | rfl | rfl <;> rfl) (by omega) (by have := unhide HTl; unfold maxLen; omega) (by have := unhide HTl; omega) (unhide HBase) (w6.heap.size + 1) (unhide HS9) ?_
                    intro gg cpn w5 hown5 hgrow hat5 hlt5
                    have hsn := Vc.OwnL.snoc (It := BlC) (c := 3) (T := 49) (w := W9) (w1 := w5) (B := X.heap.size) (G := fun q => q < w.heap.size ∨ X.heap.size ≤ q) (v := .slice a (thk l j).length cp) (l := thk l j) (x := thr1 (glB l x)) (xs := xs) (cs := [.slice (some ⟨Bi, oi, none⟩) (p + 1) ic, .slice (some ⟨Bn, on, none⟩) 2 c2, .int .i64 x.dep]) (g := gg) (cap := cpn) (fun x cs h hm => h.moved hm hgrow.size) (unhide HIts9) (unhide HCs) rfl hown5 hgrow (hat5.imp id (fun e => by rw [e, unhide HS9]))
                    rw [← unhide HTs] at hsn
                    have hln : (thk l j).length + 1 = (thk l (j + 1)).length := by rw [unhide HTs, List.length_append]; rfl
                    rw [hln] at hsn ⊢
                    have hbe5 := (unhide HB9).grown hgrow (unhide HBase) (fun q e => (unhide HOl q e).1)
                    have HSn := hide hsn; have HBe5 := hide hbe5
                    clear hsn hbe5 hown5 hgrow hat5 hlt5)
       go_roundw
       case rel => exact ⟨j + 1, some ⟨gg, 0, none⟩, cpn, by have := unhide HLt; omega, by go_num, rfl, unhide HSn, unhide HBe5⟩
       case measure => have := unhide HLt; simp [intOf]; omega
     ·rw [decide_eq_false ho] at hj
      have hnj : (S.toList != [98, 114, 97, 110, 99, 104]) = true := by simp only [bne, hj]; rfl
      have hth : thr1 (glB l x) = glB l x := if_neg fun h => ho (by rw [unhide HOp]; exact h.1)
      have HTh := hide hth
      clear hth
      -- BYHAND
      have HKd := hide (unhide HPo W8.drew (bdrew (Below.refl _ _)))
      refine wp_region_held_drew (S := fun wx => wx.cell? ⟨wq.heap.size, 0, none⟩ = some (.slice (some ⟨Bi, oi, none⟩) (p + 1) ic) ∧ wx.cell? ⟨Bi, oi + p * 5, none⟩ = some (.int .u8 (op : Int))) (by kernel_rfl) (unhide HKd) (fun _ => ?_)
      refine tk 0 ?vt0 rfl ?yt0 (unhide HKd) ?_
      case yt0 => intro w hSw; obtain ⟨s0, s1⟩ := hSw; go_simp; first | done | rfl
      simp only [tq1, tq2, tq3, Act.put, tq4, tq5, tq6]
      refine tk 1 ?vt1 rfl ?yt1 (unhide HKd) ?_
      case yt1 => intro w hSw; obtain ⟨s0, s1⟩ := hSw; go_simp; first | done | rfl
      simp only [tq1, tq2, tq3, Act.put, tq4, tq5, tq6]
      refine tk 2 ?vt2 rfl ?yt2 (unhide HKd) ?_
      case yt2 => intro w hSw; obtain ⟨s0, s1⟩ := hSw; go_simp; first | done | rfl
      simp only [tq1, tq2, tq3, Act.put, tq4, tq5, tq6]
      refine tk 3 ?vt3 rfl ?yt3 (unhide HKd) ?_
      case yt3 => intro w hSw; obtain ⟨s0, s1⟩ := hSw; go_simp; first | done | rfl
      simp only [tq1, tq2, tq3, Act.put, tq4, tq5, tq6]
      refine tk 4 ?vt4 rfl ?yt4 (unhide HKd) ?_
      case yt4 => intro w hSw; obtain ⟨s0, s1⟩ := hSw; go_simp; first | done | rfl
      simp only [tq1, tq2, tq3, Act.put, tq4, tq5, tq6]
      refine tk 5 ?vt5 rfl ?yt5 (unhide HKd) ?_
      case yt5 => intro w hSw; obtain ⟨s0, s1⟩ := hSw; go_simp; first | done | rfl
      simp only [tq1, tq2, tq3, Act.put, tq4, tq5, tq6]
      refine wpAnyH_ready (rs := [6]) (by kernel_rfl) (by simp) ?_
      refine AllReadyH.cons rfl (fun K hK => ?_) AllReadyH.nil
      go_simp
      go_at_call 35
      refine (unhide HNm).mono ?_
      rintro e w6 ⟨rfl, h6⟩
      have hb6 : Below W8.heap.size W8 w6 := (bdrew (Below.refl W8.heap.size W8)).trans h6
      have HK6 := hide (unhide HPo w6 hb6)
      have HB6 := hide hb6
      clear hb6 h6
      go_wp2_with fail
      refine hK.out _ _ (unhide HK6) (fun _ => ?_)
      clear hK
      refine tk 7 (.bool false) rfl ?yt7 (unhide HK6) ?_
      case yt7 => intro w hSw; go_simp; first | done | rfl
      simp only [tq1, tq2, tq3, Act.put, tq4, tq5, tq6]
      refine tk 8 ?vt8 rfl ?yt8 (unhide HK6) ?_
      case yt8 => intro w hSw; go_simp; first | done | rfl
      simp only [tq1, tq2, tq3, Act.put, tq4, tq5, tq6]
      refine sk 9 rfl (unhide HK6) ?_
      simp only [tq1, tq2, tq3, Act.put, tq4, tq5, tq6]
      refine sk 10 rfl (unhide HK6) ?_
      simp only [tq1, tq2, tq3, Act.put, tq4, tq5, tq6]
      refine sk 11 rfl (unhide HK6) ?_
      simp only [tq1, tq2, tq3, Act.put, tq4, tq5, tq6]
      refine sk 12 rfl (unhide HK6) ?_
      simp only [tq1, tq2, tq3, Act.put, tq4, tq5, tq6]
      refine sk 13 rfl (unhide HK6) ?_
      simp only [tq1, tq2, tq3, Act.put, tq4, tq5, tq6]
      refine sk 14 rfl (unhide HK6) ?_
      simp only [tq1, tq2, tq3, Act.put, tq4, tq5, tq6]
      refine sk 15 rfl (unhide HK6) ?_
      simp only [tq1, tq2, tq3, Act.put, tq4, tq5, tq6]
      refine tk 16 ?vt16 rfl ?yt16 (unhide HK6) ?_
      case yt16 => intro w hSw; go_simp; first | done | rfl
      simp only [tq1, tq2, tq3, Act.put, tq4, tq5, tq6]
      refine wpAnyH_done (by kernel_rfl) ?_ _
      obtain ⟨hr6, hb6, hl6, hn6⟩ := unhide HEnd w6 (unhide HB6)
      rw [← unhide HTh] at hl6 hn6
      have HRowf := hide hr6; have HBf := hide hb6; have HLi := hide hl6; have HLn9 := hide hn6; have HDp := hide (show (thr1 (glB l x)).dep = x.dep by rw [unhide HTh]; rfl)
      clear hr6 hb6 hl6 hn6 z0 hj hnj
      go_upto_region 17 with fail
      have hrow8 := unhide HRowf
      obtain ⟨z0, z1, z2⟩ : w6.cell? ⟨wq.heap.size, 0, none⟩ = some (.slice (some ⟨Bi, oi, none⟩) (p + 1) ic) ∧ w6.cell? ⟨wq.heap.size, 1, none⟩ = some (.slice b i c2) ∧ w6.cell? ⟨wq.heap.size, 2, none⟩ = some (.int .i64 x.dep) := ⟨by rw [cell_of_row w6 _ 0 _ _ _ hrow8]; rfl, by rw [cell_of_row w6 _ 1 _ _ _ hrow8]; rfl, by rw [cell_of_row w6 _ 2 _ _ _ hrow8]; rfl⟩
      have hal9 := Vc.one_alloc w6 (.cells #[.slice (some ⟨Bi, oi, none⟩) (p + 1) ic, .slice b i c2, .int .i64 x.dep] 49)
      have hb9 := (unhide HBf).trans (hal9.mono (unhide HBf).size)
      have hnew := Vc.new_row w6 [.slice (some ⟨Bi, oi, none⟩) (p + 1) ic, .slice b i c2, .int .i64 x.dep] 49
      have hs9 : (w6.alloc (.cells #[.slice (some ⟨Bi, oi, none⟩) (p + 1) ic, .slice b i c2, .int .i64 x.dep] 49)).heap.size = w6.heap.size + 1 := by simp
      obtain ⟨W9, hW9⟩ : ∃ W9, W9 = w6.alloc (.cells #[.slice (some ⟨Bi, oi, none⟩) (p + 1) ic, .slice b i c2, .int .i64 x.dep] 49) := ⟨_, rfl⟩
      obtain ⟨xs, hxo, hits⟩ := unhide HO
      have hol : ∀ q, (Value.slice a (thk l j).length cp).ownBlock = some q → X.heap.size ≤ q ∧ q < wq.heap.size := fun q e => World.ownsRow.lt hxo q e
      rw [show (w6.alloc (.cells #[.slice (some ⟨Bi, oi, none⟩) (p + 1) ic, .slice b i c2, .int .i64 x.dep] 49)) = W9 from hW9.symm] at hal9 hb9 hs9
      have hnew9 : ∀ q u, [Value.slice (some ⟨Bi, oi, none⟩) (p + 1) ic, .slice b i c2, .int .i64 x.dep][q]? = some u → W9.cell? ((⟨w6.heap.size, 0, none⟩ : Addr).add q) = some u := by rw [hW9]; exact hnew
      have hyz := unhide HYz
      have hXz := unhide HXz
      have hs8 := (unhide HBf).size
      have hsq := (unhide HBq).size
      have hcs : BlC W9 (own (fun q => q < w.heap.size ∨ X.heap.size ≤ q) (.slice a (thk l j).length cp)) (thr1 (glB l x)) [.slice (some ⟨Bi, oi, none⟩) (p + 1) ic, .slice b i c2, .int .i64 x.dep] := by
       have hm2 : Vc.Mv w6 W9 (fun q => (q < w.heap.size ∨ Y.heap.size ≤ q) ∧ q < w6.heap.size) (own (fun q => q < w.heap.size ∨ X.heap.size ≤ q) (.slice a (thk l j).length cp)) := fun q hq hk => ⟨⟨fun e => by have := (hol q e).1; have := (hol q e).2; rcases hk.1 with h | h <;> omega, by rcases hk.1 with h | h <;> omega⟩, hal9.block q hq⟩
       exact ⟨_, _, by rw [unhide HDp], Vc.LL.moved hm2 hal9.size (fun _ _ q => q.moved hm2) (unhide HLi), (unhide HLn9).moved hm2⟩
      have hx9 := Vc.ownsRow_below hxo hb9
      have hits9 : Its (BlC W9 (own (fun q => q < w.heap.size ∨ X.heap.size ≤ q) (.slice a (thk l j).length cp))) 3 (thk l j) xs := hits.mono fun x cs h => h.moved (Vc.Mv.below hb9 fun _ _ h => h) hb9.size
      have htl := thk_len l j
      have HX9 := hide hx9; have HIts9 := hide hits9; have HCs := hide hcs; have HNew9 := hide hnew9; have HB9 := hide ((unhide HBq).trans (hb9.mono (unhide HBq).size)); have HOl := hide hol; have HS9 := hide (show W9.heap.size = w6.heap.size + 1 from hs9); have HTl := hide (show (thk l j).length ≤ 1048576 by have := unhide HLt; omega)
      have HBase := hide (show X.heap.size ≤ W9.heap.size by omega)
      clear hal9 hb9 hnew hs9 hxo hits hol hnew9 hyz hs8 hXz hsq hcs hx9 hits9 htl hrow8 HO HLi HLn9 HBf
      go_wp2_with (at_builtin
                   rw [← hW9]
                   refine wpList_append_lies W9 rfl (.tmp 75) (.tmp 77) 22 rfl X.heap.size 49 ib (.agg #[.slice none 0 0, .slice none 0 0, .int .i64 0]) 3 56 Tryz.underlying22 hib hb0 hb1 hb2 rfl (by decide) (.slice a (thk l j).length cp) (thk l j).length xs rfl (unhide HX9) ⟨w6.heap.size, 0, none⟩ 1 1 [.slice (some ⟨Bi, oi, none⟩) (p + 1) ic, .slice b i c2, .int .i64 x.dep] rfl rfl (unhide HNew9) (by intro u hu; simp at hu; rcases hu with rfl | rfl | rfl <;> rfl) (by omega) (by have := unhide HTl; unfold maxLen; omega) (by have := unhide HTl; omega) (unhide HBase) (w6.heap.size + 1) (unhide HS9) ?_
                   intro gg cpn w5 hown5 hgrow hat5 hlt5
                   have hsn := Vc.OwnL.snoc (It := BlC) (c := 3) (T := 49) (w := W9) (w1 := w5) (B := X.heap.size) (G := fun q => q < w.heap.size ∨ X.heap.size ≤ q) (v := .slice a (thk l j).length cp) (l := thk l j) (x := thr1 (glB l x)) (xs := xs) (cs := [.slice (some ⟨Bi, oi, none⟩) (p + 1) ic, .slice b i c2, .int .i64 x.dep]) (g := gg) (cap := cpn) (fun x cs h hm => h.moved hm hgrow.size) (unhide HIts9) (unhide HCs) rfl hown5 hgrow (hat5.imp id (fun e => by rw [e, unhide HS9]))
                   rw [← unhide HTs] at hsn
                   have hln : (thk l j).length + 1 = (thk l (j + 1)).length := by rw [unhide HTs, List.length_append]; rfl
                   rw [hln] at hsn ⊢
                   have hbe5 := (unhide HB9).grown hgrow (unhide HBase) (fun q e => (unhide HOl q e).1)
                   have HSn := hide hsn; have HBe5 := hide hbe5
                   clear hsn hbe5 hown5 hgrow hat5 hlt5)
      go_roundw
      case rel => exact ⟨j + 1, some ⟨gg, 0, none⟩, cpn, by have := unhide HLt; omega, by go_num, rfl, unhide HSn, unhide HBe5⟩
      case measure => have := unhide HLt; simp [intOf]; omega
  ·obtain rfl : j = n := by omega
   have htd : thk l j = thrD l := by unfold thk thrD; rw [List.take_of_length_le (by rw [unhide HN]; exact Nat.le_refl _)]
   rw [htd] at hO ⊢
   have hbl : Bls wq (fun q => q < w.heap.size ∨ X.heap.size ≤ q) (thrD l) (.slice a (thrD l).length cp) := hO.made (fun x cs h => h.moved (fun k _ hk => ⟨hk.2, rfl⟩) (Nat.le_refl _)) (fun k hk _ => .inr hk)
   have q1 := (hbq.block (w.heap.size + 1) (by omega)).trans (unhide HR1)
   have q6 : (wq.setCell ⟨w.heap.size, 3, none⟩ (.slice a (thrD l).length cp)).heap[w.heap.size]? = some (.cells (cob pa re rs (.slice a (thrD l).length cp)) 24 (0, 0)) := (heap_setCell_same wq w.heap.size 3 _ _ _ q0).trans rfl
   have q7 : (wq.setCell ⟨w.heap.size, 3, none⟩ (.slice a (thrD l).length cp)).heap[w.heap.size + 1]? = some (.cells (cob 0 0 false (.slice none 0 0)) 24 (0, 0)) := (heap_setCell_other wq ⟨w.heap.size, 3, none⟩ _ _ (by show w.heap.size + 1 ≠ w.heap.size; omega)).trans q1
   have hbw6 := hbw.setCell (p := ⟨w.heap.size, 3, none⟩) (Nat.le_refl _) (.slice a (thrD l).length cp)
   have hm6 : Vc.Mv wq (wq.setCell ⟨w.heap.size, 3, none⟩ (.slice a (thrD l).length cp)) (fun q => q < w.heap.size ∨ X.heap.size ≤ q) (fun q => q < w.heap.size ∨ X.heap.size ≤ q) := fun q _ hk => ⟨hk, heap_setCell_other wq ⟨w.heap.size, 3, none⟩ q _ (by show q ≠ w.heap.size; rcases hk with h | h <;> omega)⟩
   have hbl6 : Bls (wq.setCell ⟨w.heap.size, 3, none⟩ (.slice a (thrD l).length cp)) (fun q => q < w.heap.size ∨ X.heap.size ≤ q) (thrD l) (.slice a (thrD l).length cp) := Vc.LL.moved hm6 (by simp) (fun _ _ h => h.moved hm6 (by simp)) hbl
   have HQ6 := hide q6; have HQ7 := hide q7; have HBw6 := hide hbw6; have HBl6 := hide hbl6; have HXz2 := hide hXz
   clear q6 q7 hbw6 hbl6 hbl hO q0 q1 hbw hlt hj htd hbq hm6 hXz c0 c1 c2
   go_upto_region 19 with fail
   generalize wq.setCell ⟨w.heap.size, 3, none⟩ (.slice a (thrD l).length cp) = W6 at *
   clear c3 cf cl
   obtain ⟨c0, c1, c2, c3, cf, cl3⟩ := cob_cells (unhide HQ6)
   obtain ⟨y0, y1, y2, y3, yf, yl⟩ := cob_cells (unhide HQ7)
   have hXz := unhide HXz2
   obtain ⟨hb8, hz8, ho8⟩ := Vc.bel4b (unhide HBw6) (w.heap.size + 1) (Nat.le_succ _) (.int .i64 pa) (.int .i64 re) (.bool rs) (.slice a (thrD l).length cp)
   have hr8 := set4c W6 (w.heap.size + 1) _ _ _ _ _ (.int .i64 pa) (.int .i64 re) (.bool rs) (.slice a (thrD l).length cp) (unhide HQ7)
   have HR8 := hide hr8; have HB8 := hide hb8; have HZ8 := hide hz8; have HO8 := hide ho8
   clear hr8 hb8 hz8 ho8 hXz
   go_wp2_with fail
   generalize (((W6.setCell ⟨w.heap.size + 1, 0, none⟩ (.int .i64 pa)).setCell ⟨w.heap.size + 1, 1, none⟩ (.int .i64 re)).setCell ⟨w.heap.size + 1, 2, none⟩ (.bool rs)).setCell ⟨w.heap.size + 1, 3, none⟩ (.slice a (thrD l).length cp) = W8 at *
   have u0 := cell_of_row W8 (w.heap.size + 1) 0 _ _ _ (unhide HR8); have u1 := cell_of_row W8 (w.heap.size + 1) 1 _ _ _ (unhide HR8); have u2 := cell_of_row W8 (w.heap.size + 1) 2 _ _ _ (unhide HR8); have u3 := cell_of_row W8 (w.heap.size + 1) 3 _ _ _ (unhide HR8)
   simp only [List.getElem?_toArray, List.getElem?_cons_zero, List.getElem?_cons_succ] at u0 u1 u2 u3
   have hm8 : Vc.Mv W6 W8 (fun q => q < w.heap.size ∨ X.heap.size ≤ q) (fun q => q < W8.heap.size) := fun q hq hk => ⟨by rw [unhide HZ8]; exact hq, unhide HO8 q (by have := unhide HXz2; rcases hk with h | h <;> omega)⟩
   have hfin : Bls W8 (fun q => q < W8.heap.size) (thrD l) (.slice a (thrD l).length cp) := Vc.LL.moved hm8 (Nat.le_of_eq (unhide HZ8).symm) (fun _ _ h => h.moved hm8 (Nat.le_of_eq (unhide HZ8).symm)) (unhide HBl6)
   exact bodyPost_ret (v := .agg #[.int .i64 pa, .int .i64 re, .bool rs, .slice a (thrD l).length cp]) (by simp [results, Tryz.results22, go_sem, u0, u1, u2, u3]) rfl ⟨_, rfl, hfin, unhide HB8⟩
end Fw
end Go.Proofs.YtglehoekehiaiaaGreatDoor
