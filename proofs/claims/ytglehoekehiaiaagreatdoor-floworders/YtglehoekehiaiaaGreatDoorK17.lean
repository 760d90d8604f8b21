/- K17: what follows, part by part: each part tells what it holds. -/
import Derived.Test.YtglehoekehiaiaaGreatDoorK16
import Derived.Deep.RegionHeld3
import Derived.Test.YtglehoekehiaiaaGreatDoorK6
namespace Go.Proofs.YtglehoekehiaiaaGreatDoor
open Go.RowKit
set_option linter.unusedVariables false
set_option linter.unusedSimpArgs false
set_option maxRecDepth 100000
set_option maxHeartbeats 32000000
namespace Fw
open Vc (NumsL Nums Lies LL Bls BlC InC Bl Co infoN infoBl own_base RowT cob)
/- the document's has and without. -/
/-- one number more in a row of the call's own -/
theorem wpList_push {w : World} {N : Nat} {v : Value} {l : List Int} (h : Ro w N v l) (x : Int) {ops : Array Oper} {rest : List Oper} {o : Oper} {a : Act} {Q : Exit → Act → World → Prop} (hgd : o.guard = none) (s s2 : Operand) (ho : o.op = .call { callee := .builtin .append, args := #[s, s2], argTypes := #[31, 31] })
    (hs : a.eval s = v) {B : Nat} (hx : a.eval s2 = .slice (some ⟨B, 0, none⟩) 1 1) (hc : w.cell? ⟨B, 0, none⟩ = some (.int .i64 x)) (hl : l.length + 1 ≤ 1099511627776) (hN : N ≤ w.heap.size)
    (k : ∀ b c w', Ro w' N (.slice b (l.length + 1) c) (l ++ [x]) → w.grownBy w' v.ownBlock → ((Value.slice b (l.length + 1) c).ownBlock = v.ownBlock ∨ (Value.slice b (l.length + 1) c).ownBlock = some w.heap.size) → wpList Tryz.prog ops Q rest (a.put o.dst (.slice b (l.length + 1) c)) w') : wpList Tryz.prog ops Q (o :: rest) a w := by
 obtain ⟨i0, hi, hz0, hz1, hz2⟩ := info_parts infoN
 refine wpList_append_own_at w hgd s s2 31 ho N 3 i0 (.int .i64 0) 1 8 Tryz.underlying31 hi hz0 hz1 hz2 rfl (by decide) v l.length (iv l) hs h ⟨B, 0, none⟩ 1 1 [.int .i64 x] hx rfl (fun j u hu => by
  have hj : j = 0 := by have := (List.getElem?_eq_some_iff.1 hu).1; simp at this; omega
  subst hj
  simp only [List.getElem?_cons_zero, Option.some.injEq] at hu
  rw [addr_add0, Nat.zero_add, hc, hu]) (one_ones _) (by unfold maxLen; omega) (by omega) hN ?_
 intro v' w' h1 h2 _ h3
 obtain ⟨b, c, rfl⟩ := own_slice h1
 exact k b c w' (by unfold Ro; rw [iv_app, List.length_append]; exact h1) h2 h3
theorem has_any (l : List Int) (x : Int) (v : Value) (w : World) (h : NumsL w (fun k => k < w.heap.size) l v) (hl : l.length ≤ 1099511627776) :
    Calls Tryz.prog 37 #[v, .int .i64 x] w fun e w' => e = .returned (.bool (decide (x ∈ l))) ∧ w' = w := by
 obtain ⟨a, c, rfl, -, -, -⟩ := id h
 obtain ⟨n, hn⟩ : ∃ n, n = l.length := ⟨_, rfl⟩
 have hni : (n : Int) ≤ 1099511627776 := by omega
 rw [← hn]
 have H := hide h; have HN := hide hn
 clear h hn hl
 go_enter Tryz.func37, Tryz.ntmps37
 go_wp2_with fail
 go_loopw [5] (fun t wr => ∃ j : Nat, j ≤ n ∧ t = .int .i64 (j : Int) ∧ x ∉ l.take j ∧ wr = w) (fun t _ => n - (intOf t).toNat)
 case atStart => exact ⟨0, Nat.zero_le _, rfl, by simp, rfl⟩
 case round =>
  obtain ⟨j, hj, rfl, hno, rfl⟩ := hrel
  by_cases hlt : j < n
  ·obtain ⟨B, o, hae, -, hce⟩ := nums_at (unhide H) (k := j) (by rw [← unhide HN]; exact hlt)
   subst hae
   have x1 := hce j (by rw [← unhide HN]; exact hlt)
   obtain ⟨z, hz⟩ : ∃ z, z = l.getD j 0 := ⟨_, rfl⟩
   rw [← hz] at x1
   have hjn : (j : Int) < (n : Int) := by omega
   have hjl : j < l.length := by rw [← unhide HN]; exact hlt
   have hst : l.take (j + 1) = l.take j ++ [z] := by rw [List.take_succ_eq_append_getElem hjl, hz, getD_get _ _ _ hjl]
   by_cases e : z = x
   ·have hin : x ∈ l := by rw [← e, hz]; exact getD_mem _ _ _ hjl
    subst e
    have HD := hide (show decide (z ∈ l) = true from decide_eq_true hin)
    clear hin hst hno hlt hj hz hce hjl
    go_wp2_with fail
    go_ret
    exact ⟨by rw [unhide HD]; rfl, rfl⟩
   ·have hzb : (z == x) = false := by simpa using e
    have HNo := hide (show x ∉ l.take (j + 1) by rw [hst]; simp only [List.mem_append, List.mem_singleton, not_or]; exact ⟨hno, fun h => e h.symm⟩)
    have HLt := hide hlt
    clear hst hno hlt hj hz hce hjl e
    go_wp2_with fail
    go_roundw
    case rel => exact ⟨j + 1, by have := unhide HLt; omega, by go_num, unhide HNo, trivial⟩
    case measure => have := unhide HLt; simp [intOf]; omega
  ·obtain rfl : j = n := by omega
   have HD := hide (show decide (x ∈ l) = false from decide_eq_false (by rw [unhide HN, List.take_length] at hno; exact hno))
   clear hno hlt hj
   go_wp2_with fail
   go_ret
   exact ⟨by rw [unhide HD]; rfl, rfl⟩
/-- all that was there stays, but one row that may have grown -/
structure Gf (vo : Option Nat) (w w' : World) : Prop where
 os : w'.os = w.os
 tape : w'.tape = w.tape
 output : w'.output = w.output
 size : w.heap.size ≤ w'.heap.size
 keep : ∀ k, k < w.heap.size → some k ≠ vo → w'.heap[k]? = w.heap[k]?
def Ow (vo : Option Nat) (w : World) (v' : Value) : Prop := v'.ownBlock = vo ∨ ∀ k, v'.ownBlock = some k → w.heap.size ≤ k
theorem Gf.refl (vo : Option Nat) (w : World) : Gf vo w w := ⟨rfl, rfl, rfl, Nat.le_refl _, fun _ _ _ => rfl⟩
theorem Gf.of {vo : Option Nat} {w w' : World} (h : Below w.heap.size w w') : Gf vo w w' := ⟨h.os, h.tape, h.output, h.size, fun k hk _ => h.block k hk⟩
theorem Gf.grown {vo : Option Nat} {w w' : World} (h : w.grownBy w' vo) : Gf vo w w' := ⟨h.os, h.tape, h.output, h.size, h.block⟩
theorem Gf.trans {vo v1 : Option Nat} {w w1 w2 : World} (h : Gf vo w w1) (h1 : v1 = vo ∨ ∀ k, v1 = some k → w.heap.size ≤ k) (k : Gf v1 w1 w2) : Gf vo w w2 :=
 ⟨k.os.trans h.os, k.tape.trans h.tape, k.output.trans h.output, Nat.le_trans h.size k.size, fun j hj hne => (k.keep j (Nat.lt_of_lt_of_le hj h.size) (by
  rcases h1 with e | e
  ·rw [e]; exact hne
  ·intro e2; have := e j e2.symm; omega)).trans (h.keep j hj hne)⟩
theorem Ow.trans {vo : Option Nat} {w w1 : World} {v1 v2 : Value} (h : Ow vo w v1) (hs : w.heap.size ≤ w1.heap.size) (k : Ow v1.ownBlock w1 v2) : Ow vo w v2 := by
 rcases k with e | e
 ·rcases h with h | h
  ·exact .inl (e.trans h)
  ·exact .inr fun j hj => h j (by rw [← e]; exact hj)
 ·exact .inr fun j hj => Nat.le_trans hs (e j hj)
end Fw
namespace Fw
open Vc (NumsL Nums Lies LL Bls BlC InC Bl Co infoN infoBl own_base RowT cob cob_cells)
/- the document's without (from block 0 on, through all). -/
theorem bls_gf {w w' : World} {N : Nat} {vo : Option Nat} {g : Nat → Prop} {l : List Bl} {v : Value} (h : Bls w g l v) (hg : ∀ k, g k → k < N) (hvo : ∀ k, vo = some k → N ≤ k) (hb : Gf vo w w') : Bls w' g l v :=
 h.moved (fun k hk hgk => ⟨hgk, hb.keep k hk fun e => by have := hvo k e.symm; have := hg k hgk; omega⟩) hb.size
theorem Ro.gf {w w' : World} {N : Nat} {vo : Option Nat} {v : Value} {l : List Int} (h : Ro w N v l) (hne : ∀ k, v.ownBlock = some k → some k ≠ vo) (hb : Gf vo w w') : Ro w' N v l := h.keep fun k hk => hb.keep k (h.lt k hk).2 (hne k hk)
theorem fold_cl (nx : List (List Nat)) (hn : In nx) (f : Nat) : ∀ r : List Nat, (∀ x ∈ r, x < nx.length) → ∀ q : List Nat, q.Nodup → (∀ x ∈ q, x < nx.length) → nx.length ≤ q.length + f → Cl nx q (r.foldl (fun i x => wo nx (-1) f x i) q) := by
 intro r
 induction r with
 | nil => intro _ q h1 h2 _; exact ⟨fun x h => h, h1, h2, Nat.le_refl _, fun x h => .inl h⟩
 | cons x r ih =>
   intro hx q h1 h2 h3
   simp only [List.foldl_cons]
   have k1 := (wo_cl nx hn f x q h1 h2 (hx x (List.mem_cons_self ..)) h3).1
   have k3 := ih (fun y hy => hx y (List.mem_cons_of_mem _ hy)) _ k1.nd k1.lt (by have := k1.le; omega)
   refine ⟨fun y hy => k3.sub y (k1.sub y hy), k3.nd, k3.lt, Nat.le_trans k1.le k3.le, fun y hy => ?_⟩
   rcases k3.cl y hy with h | h
   ·rcases k1.cl y h with h5 | h5
    ·exact .inl h5
    ·exact .inr fun z hz => k3.sub z (h5 z hz)
   ·exact .inr h
theorem cob_cellsR {w : World} {B : Nat} {pa re : Int} {rs : Bool} {v : Value} {T : TypeId} (h : w.heap[B]? = some (.cells (cob pa re rs v) T (0, 0))) : w.cell? ⟨B, 0, none⟩ = some (.int .i64 pa) ∧ w.cell? ⟨B, 1, none⟩ = some (.int .i64 re) ∧ w.cell? ⟨B, 2, none⟩ = some (.bool rs) ∧ w.cell? ⟨B, 3, none⟩ = some v ∧ (∀ i, w.frozen? ⟨B, i, none⟩ = false) ∧ B < w.heap.size := by
 refine ⟨?_, ?_, ?_, ?_, fun j => frozen_of_row w B j _ _ h, (Array.getElem?_eq_some_iff.1 h).1⟩ <;> (rw [cell_of_row w B _ _ _ _ h]; rfl)
theorem without_in (l : List Bl) (hc : Nok l) (N : Nat) (pa re : Int) (rs : Bool) (va : Option Addr) (vc : Nat) (b : Nat) (i : List Nat) (v : Value) (w : World) (hb : b < l.length) (hd : i.Nodup) (hi : ∀ x ∈ i, x < l.length) (hm : b ∈ i) (hR : Ro w N v (nz i)) (f : Nat) :
    Calls Tryz.prog 39 #[.agg #[.int .i64 pa, .int .i64 re, .bool rs, .slice va l.length vc], v, .int .i64 (b : Int), .int .i64 (-1)] w fun e w' => ∃ v', e = .returned v' ∧ Ro w' N v' (nz (wo (nxs l) (-1) f b i)) ∧ Gf v.ownBlock w w' ∧ Ow v.ownBlock w v' := by
    obtain ⟨n, hn⟩ : ∃ n, n = l.length := ⟨_, rfl⟩
    have hlen := hc.len
    have hni : (n : Int) ≤ 1048576 := by omega
    obtain ⟨ra, rc, rfl, hrc⟩ := hR.sl
    have hil := nodup_le l.length i hd hi
    have hX := Vc.one_alloc w (.cells (cob pa re rs (.slice va l.length vc)) 24)
    have hrow := heap_alloc_new w (.cells (cob pa re rs (.slice va l.length vc)) 24)
    have hbb : ((b : Int) == -1) = false := by simp
    have hbn : (b : Int) < (n : Int) := by omega
    have hhas := has_any (nz i) (b : Int) (.slice ra (nz i).length rc) (w.alloc (.cells (cob pa re rs (.slice va l.length vc)) 24)) ((hR.below hX).nums.moved fun k _ hk => ⟨hk.2, rfl⟩) (by rw [nz_len]; omega)
    have hmem : decide ((b : Int) ∈ nz i) = decide (b ∈ i) := by
     refine decide_eq_decide.2 ?_
     unfold nz
     rw [List.mem_map]
     exact ⟨fun ⟨x, h1, h2⟩ => (show x = b by omega) ▸ h1, fun h => ⟨b, h, rfl⟩⟩
    rw [hmem] at hhas
    rw [decide_eq_true hm] at hhas
    rw [wo_in _ _ _ _ _ hm]
    have HHas := hide hhas; have HR := hide (hR.below hX); have HX := hide hX
    clear hhas hR hX hrow hmem hil hd hi hrc
    go_enter Tryz.func39, Tryz.ntmps39
    go_wp2_with (go_at_call 37; refine (unhide HHas).mono ?_; rintro e w1 ⟨rfl, rfl⟩)
    go_ret
    exact ⟨_, rfl, unhide HR, Gf.of (unhide HX), .inl rfl⟩
theorem without_all (l : List Bl) (hc : Nok l) (N : Nat) (g : Nat → Prop) (hgN : ∀ k, g k → k < N) (pa re : Int) (rs : Bool) (va : Option Addr) (vc : Nat) :
    ∀ f b (i : List Nat) (v : Value) (w : World), b < l.length → i.Nodup → (∀ x ∈ i, x < l.length) → l.length ≤ i.length + f → N ≤ w.heap.size → Bls w g l (.slice va l.length vc) → Ro w N v (nz i) →
    Calls Tryz.prog 39 #[.agg #[.int .i64 pa, .int .i64 re, .bool rs, .slice va l.length vc], v, .int .i64 (b : Int), .int .i64 (-1)] w fun e w' => ∃ v', e = .returned v' ∧ Ro w' N v' (nz (wo (nxs l) (-1) f b i)) ∧ Gf v.ownBlock w w' ∧ Ow v.ownBlock w v' := by
 intro f
 obtain ⟨n, hn⟩ : ∃ n, n = l.length := ⟨_, rfl⟩
 have hlen := hc.len
 have hni : (n : Int) ≤ 1048576 := by omega
 induction f with
 | zero =>
   intro b i v w hb hd hi hl hN hB hR
   exact (without_in l hc N pa re rs va vc b i v w hb hd hi (nodup_all hd hi (by omega) b hb) hR 0).mono fun e w' h => h
 | succ f ih =>
   intro b i v w hb hd hi hl hN hB hR
   obtain ⟨ra, rc, rfl, hrc⟩ := hR.sl
   have hil := nodup_le l.length i hd hi
   have hX := Vc.one_alloc w (.cells (cob pa re rs (.slice va l.length vc)) 24)
   have hrow := heap_alloc_new w (.cells (cob pa re rs (.slice va l.length vc)) 24)
   have hbb : ((b : Int) == -1) = false := by simp
   have hbn : (b : Int) < (n : Int) := by omega
   have hhas := has_any (nz i) (b : Int) (.slice ra (nz i).length rc) (w.alloc (.cells (cob pa re rs (.slice va l.length vc)) 24)) ((hR.below hX).nums.moved fun k _ hk => ⟨hk.2, rfl⟩) (by rw [nz_len]; omega)
   have hmem : decide ((b : Int) ∈ nz i) = decide (b ∈ i) := by
    refine decide_eq_decide.2 ?_
    unfold nz
    rw [List.mem_map]
    exact ⟨fun ⟨x, h1, h2⟩ => (show x = b by omega) ▸ h1, fun h => ⟨b, h, rfl⟩⟩
   rw [hmem] at hhas
   by_cases hm : b ∈ i
   ·exact without_in l hc N pa re rs va vc b i _ w hb hd hi hm hR (f + 1)
   ·rw [decide_eq_false hm] at hhas
    rw [wo_out _ _ _ _ hm]
    obtain ⟨x, hx⟩ : ∃ x, l[b]? = some x := ⟨_, List.getElem?_eq_getElem hb⟩
    have hnx := nxs_at hx
    have hxl := hc.nlen x (List.mem_of_getElem? hx)
    obtain ⟨m, hmm⟩ : ∃ m, m = x.next.length := ⟨_, rfl⟩
    have hd1 : (i ++ [b]).Nodup := by
     rw [List.nodup_append]
     exact ⟨hd, by simp, fun z hz y hy => by rw [List.mem_singleton] at hy; rw [hy]; exact fun e => hm (e ▸ hz)⟩
    have hi1 : ∀ x ∈ i ++ [b], x < (nxs l).length := fun x hx => by
     rw [nxs_len]
     rcases List.mem_append.1 hx with h | h
     ·exact hi x h
     ·rw [List.mem_singleton] at h; subst h; exact hb
    have hnl : (nxs l).length ≤ (i ++ [b]).length + f := by rw [nxs_len, List.length_append, List.length_singleton]; omega
    have hin := hc.inn
    have hnb := hin b
    obtain ⟨r, hr⟩ : ∃ r, r = (nxs l).getD b [] := ⟨_, rfl⟩
    rw [← hr] at hnb ⊢
    have hcl : ∀ j, Cl (nxs l) (i ++ [b]) ((r.take j).foldl (fun i x => wo (nxs l) (-1) f x i) (i ++ [b])) := fun j => fold_cl _ hin f _ (fun y hy => hnb y (List.mem_of_mem_take hy)) _ hd1 hi1 hnl
    have hrm : r.length = m := by rw [hr, hnx, List.length_map, hmm]
    have hRX := hR.below hX
    have hsz : (w.alloc (.cells (cob pa re rs (.slice va l.length vc)) 24)).heap.size = w.heap.size + 1 := by simp
    have HHas := hide hhas; have HRX := hide hRX; have HX := hide hX; have HRow := hide hrow; have HB := hide hB; have HN := hide hN; have HIh := hide ih; have HCl := hide hcl; have HXx := hide hx; have HMm := hide hmm; have HRm := hide hrm; have HR := hide hr; have HNx := hide hnx; have HC := hide hc; have HGN := hide hgN; have HSz := hide hsz; have HLn := hide hn; have HIl := hide hil; have HNl := hide hnl; have HNb := hide hnb; have HHn := hide hlen
    have hmi : (m : Int) ≤ 1048576 := by omega
    clear hhas hRX hX hrow hB hN ih hcl hx hmm hrm hr hnx hsz hil hnl hnb hd1 hi1 hin hmem hd hi hl hrc hR hxl hm
    go_enter Tryz.func39, Tryz.ntmps39
    go_upto_region 3 with (go_at_call 37; refine (unhide HHas).mono ?_; rintro e w1 ⟨rfl, rfl⟩)
    obtain ⟨X, hXe⟩ : ∃ X, X = w.alloc (.cells (cob pa re rs (.slice va l.length vc)) 24) := ⟨_, rfl⟩
    rw [← hXe] at HRX HX HRow HSz
    rw [← hXe]
    clear hXe HHas
    go_upto_region 4 with (at_builtin
                           refine wpList_push ((unhide HRX).below (Vc.one_alloc X (.cells #[.int .i64 (b : Int)] 3))) (b : Int) rfl (.tmp 19) (.tmp 21) rfl rfl (B := X.heap.size) rfl (by rw [cell_of_row _ _ 0 _ _ _ (heap_alloc_new X _)]; rfl) (by rw [nz_len]; have := unhide HIl; have := unhide HHn; omega) (by have := unhide HN; have := unhide HSz; simp; omega) ?_
                           intro b1 c1 w2 h1 h2 h3
                           have HR2 := hide h1; have HG2 := hide h2; have HO2 := hide h3
                           clear h1 h2 h3)
    have hs1 : (X.alloc (.cells #[.int .i64 (b : Int)] 3)).heap.size = X.heap.size + 1 := by simp
    have hal := Vc.one_alloc X (.cells #[.int .i64 (b : Int)] 3)
    have hXb := unhide HX
    have hszX := unhide HSz
    have hgf2 : Gf (Value.slice ra (nz i).length rc).ownBlock w w2 := (Gf.of (hXb.trans (hal.mono hXb.size))).trans (.inl rfl) (Gf.grown (unhide HG2))
    have how2 : Ow (Value.slice ra (nz i).length rc).ownBlock w (.slice b1 ((nz i).length + 1) c1) := by
     rcases unhide HO2 with e | e
     ·exact .inl e
     ·exact .inr fun k hk => by rw [e] at hk; cases hk; rw [hs1]; omega
    have HVo := hide (show ∀ k, (Value.slice ra (nz i).length rc).ownBlock = some k → N ≤ k from fun k e => ((unhide HRX).lt k e).1)
    have hne1 := row_ne (unhide HRow) (by decide) (unhide HRX)
    have hrow2 : w2.heap[w.heap.size]? = some (.cells (cob pa re rs (.slice va l.length vc)) 24 (0, 0)) := ((unhide HG2).block w.heap.size (by rw [hs1]; omega) (fun e => (hne1 _ e.symm).1 rfl)).trans ((hal.block w.heap.size (by omega)).trans (unhide HRow))
    have hl1 : (nz i).length + 1 = (nz (i ++ [b])).length := by rw [nz_len, nz_len, List.length_append]; rfl
    have hR2 : Ro w2 N (.slice b1 (nz (i ++ [b])).length c1) (nz (i ++ [b])) := by
     have h := unhide HR2
     rw [hl1] at h
     rw [nz_app]
     rw [nz_app] at h; exact h
    rw [hl1] at how2
    rw [hl1]
    have HR3 := hide hR2; have HGf2 := hide hgf2; have HOw2 := hide how2; have HRow2 := hide hrow2
    clear hs1 hal hXb hszX hgf2 how2 hne1 hrow2 hl1 hR2 HR2 HG2 HO2 HRX HX HRow HSz
    obtain ⟨i1, hi1⟩ : ∃ i1, i1 = i ++ [b] := ⟨_, rfl⟩
    rw [← hi1] at HR3 HOw2 ⊢
    have HCl2 : Hid (∀ j, Cl (nxs l) i1 ((r.take j).foldl (fun i x => wo (nxs l) (-1) f x i) i1)) := hide (by rw [hi1]; exact unhide HCl)
    have HNl2 : Hid ((nxs l).length ≤ i1.length + f) := hide (by rw [hi1]; exact unhide HNl)
    have HI1 := hide hi1
    obtain ⟨vo, hvo⟩ : ∃ vo, vo = (Value.slice ra (nz i).length rc).ownBlock := ⟨_, rfl⟩
    rw [← hvo] at HVo HGf2 HOw2
    have HVE := hide hvo
    clear HCl HNl hi1 hvo
    go_wp2_with fail
    go_loopw [1, 9] (fun v c wr => ∃ (j : Nat) (q : List Nat) (a1 : Option Addr) (c1 : Nat), j ≤ m ∧ c = .int .i64 (j : Int) ∧ v = .slice a1 (nz q).length c1 ∧ q = (r.take j).foldl (fun i x => wo (nxs l) (-1) f x i) i1 ∧ Ro wr N (.slice a1 (nz q).length c1) (nz q) ∧ Gf vo w wr ∧ Ow vo w (.slice a1 (nz q).length c1) ∧ wr.heap[w.heap.size]? = some (.cells (cob pa re rs (.slice va l.length vc)) 24 (0, 0))) (fun _ c _ => m - (intOf c).toNat)
    case atStart => exact ⟨0, i1, b1, c1, Nat.zero_le _, rfl, rfl, by simp, unhide HR3, unhide HGf2, unhide HOw2, unhide HRow2⟩
    case round =>
     obtain ⟨j, q, a1, c1, hj, rfl, rfl, hq, hR, hG, hO, hrow⟩ := hrel
     obtain ⟨c0, c1', c2, c3, cf, cl⟩ := cob_cellsR hrow
     have hsz := hG.size
     have hN := unhide HN
     have hBr := bls_gf (unhide HB) (unhide HGN) (unhide HVo) hG
     have hx := unhide HXx
     have hcq := unhide HCl2 j
     rw [← hq] at hcq
     obtain ⟨Bb, ob, vi, vn, hva, hBN, hBl, -, d0, d1, d2, hin, hnn⟩ := blk_next hBr hx
     subst hva
     obtain ⟨na, nc, rfl, -, -, -⟩ := id hnn
     rw [← unhide HMm] at d1
     have hBbN := unhide HGN _ hBN
     have hbl : (b : Int) < (l.length : Int) := by omega
     by_cases hlt : j < m
     ·obtain ⟨t, hz, htl, hgt⟩ := (unhide HC).at_ hx (k := j) (by rw [← unhide HMm]; exact hlt)
      obtain ⟨Bn, on, hna, hBnN, hnc⟩ := nums_at hnn (k := j) (by rw [← unhide HMm]; exact hlt)
      subst hna
      have x1 := hnc j (by rw [← unhide HMm]; exact hlt)
      rw [hz] at x1
      have hBnN2 := unhide HGN _ hBnN
      have hrj : r[j]? = some t := by rw [unhide HR, unhide HNx]; exact hgt
      have hst : (r.take (j + 1)).foldl (fun i x => wo (nxs l) (-1) f x i) i1 = wo (nxs l) (-1) f t q := by rw [fold_take _ _ _ _ hrj, ← hq]
      have hjm : (j : Int) < (m : Int) := by omega
      have hne := row_ne hrow (by decide) hR
      have hlo := hR.lt
      have hdr : Below wr.heap.size wr wr.drew := bdrew (Below.refl _ _)
      have hcall := unhide HIh t q (.slice a1 (nz q).length c1) wr.drew htl hcq.nd (fun y hy => by have := hcq.lt y hy; rwa [nxs_len] at this) (by have h1 := hcq.le; have h2 := unhide HNl2; rw [nxs_len] at h2; omega) (Nat.le_trans hN hsz) (hBr.moved (fun k _ h => ⟨h, rfl⟩) (Nat.le_refl _)) (hR.below hdr)
      have hS : ∀ W, Gf (Value.slice a1 (nz q).length c1).ownBlock wr W → W.cell? ⟨w.heap.size, 0, none⟩ = some (.int .i64 pa) ∧ W.cell? ⟨w.heap.size, 1, none⟩ = some (.int .i64 re) ∧ W.cell? ⟨w.heap.size, 2, none⟩ = some (.bool rs) ∧ W.cell? ⟨w.heap.size, 3, none⟩ = some (.slice (some ⟨Bb, ob, none⟩) l.length vc) ∧ W.cell? ⟨Bb, ob + b * 3 + 1, none⟩ = some (.slice (some ⟨Bn, on, none⟩) m nc) ∧ W.cell? ⟨Bn, on + j, none⟩ = some (.int .i64 (t : Int)) := fun W hW => by
       have kb := hW.keep w.heap.size cl (fun e => (hne _ e.symm).1 rfl)
       have kB := hW.keep Bb hBl (fun e => by have := (hlo _ e.symm).1; omega)
       have kn := hW.keep Bn (block_lt_of_cell x1) (fun e => by have := (hlo _ e.symm).1; omega)
       exact ⟨(World.cell?_of_block (a := ⟨w.heap.size, 0, none⟩) kb).trans c0, (World.cell?_of_block (a := ⟨w.heap.size, 1, none⟩) kb).trans c1', (World.cell?_of_block (a := ⟨w.heap.size, 2, none⟩) kb).trans c2, (World.cell?_of_block (a := ⟨w.heap.size, 3, none⟩) kb).trans c3, (World.cell?_of_block (a := ⟨Bb, ob + b * 3 + 1, none⟩) kB).trans d1, (World.cell?_of_block (a := ⟨Bn, on + j, none⟩) kn).trans x1⟩
      have HCa := hide hcall; have HS := hide hS; have HSt := hide hst; have HG := hide hG; have HO := hide hO; have HRw := hide hrow; have HLt := hide hlt; have HNe := hide hne; have HCl9 := hide cl; have HSz := hide hsz
      have HRr := hide hR
      clear hcall hS hst hG hO hrow hlt hne hlo hdr hR hBr hcq hnn hin hnc hgt hz htl hrj hq hx hj hsz hN hBN hBnN hBbN hBnN2 d0 d2
      go_upto_region 7 with fail
      go_region_held3 (fun W => W.cell? ⟨w.heap.size, 0, none⟩ = some (.int .i64 pa) ∧ W.cell? ⟨w.heap.size, 1, none⟩ = some (.int .i64 re) ∧ W.cell? ⟨w.heap.size, 2, none⟩ = some (.bool rs) ∧ W.cell? ⟨w.heap.size, 3, none⟩ = some (.slice (some ⟨Bb, ob, none⟩) l.length vc) ∧ W.cell? ⟨Bb, ob + b * 3 + 1, none⟩ = some (.slice (some ⟨Bn, on, none⟩) m nc) ∧ W.cell? ⟨Bn, on + j, none⟩ = some (.int .i64 (t : Int))) (first | go_keep | exact gk)
       (first
        | (go_at_call 39; refine (unhide HCa).mono ?_; rintro e w6 ⟨v6, rfl, k1, k2, k3⟩; obtain ⟨a2, c6, rfl, -⟩ := k1.sl; have k4 : Gf (Value.slice a1 (nz q).length c1).ownBlock wr w6 := ⟨k2.os, k2.tape, k2.output, k2.size, k2.keep⟩; have gk := unhide HS w6 k4; have K1 := hide k1; have K3 := hide k3; have K4 := hide k4; clear k1 k2 k3 k4))
      have hg6 := (unhide HG).trans (by
       rcases unhide HO with e | e
       ·exact .inl e
       ·exact .inr e) (unhide K4)
      have ho6 := (unhide HO).trans (unhide HG).size (show Ow (Value.slice a1 (nz q).length c1).ownBlock wr _ from unhide K3)
      have hr6 := ((unhide K4).keep w.heap.size (unhide HCl9) (fun e => (unhide HNe _ e.symm).1 rfl)).trans (unhide HRw)
      have HG6 := hide hg6; have HO6 := hide ho6; have HR6 := hide hr6
      clear hg6 ho6 hr6 gk
      go_wp2_with fail
      go_roundw
      case rel => exact ⟨j + 1, _, a2, c6, by have := unhide HLt; omega, by go_num, rfl, (unhide HSt).symm, unhide K1, unhide HG6, unhide HO6, unhide HR6⟩
      case measure => have := unhide HLt; simp [intOf]; omega
     ·obtain rfl : j = m := by omega
      have hfin : q = r.foldl (fun i x => wo (nxs l) (-1) f x i) i1 := by rw [hq, List.take_of_length_le (by rw [unhide HRm]; exact Nat.le_refl _)]
      have hR2 : Ro wr N (.slice a1 (nz q).length c1) (nz (r.foldl (fun i x => wo (nxs l) (-1) f x i) i1)) := by rw [← hfin]; exact hR
      have HRr := hide hR2; have HG := hide hG; have HO := hide hO
      clear hfin hR hR2 hG hO hrow hlt hBr hcq hnn hin hq hx hj hsz hN hBN hBbN d0 d2 c0 c1' c2
      go_wp2_with fail
      go_ret
      exact ⟨_, rfl, by rw [← unhide HI1]; exact unhide HRr, by rw [← unhide HVE]; exact unhide HG, by rw [← unhide HVE]; exact unhide HO⟩
end Fw
namespace Fw
open Vc (NumsL Nums Lies LL Bls BlC InC Bl Co infoN infoBl own_base RowT OwnL Its own)
/- blocks in a row of the document's own; their lists lie elsewhere. By mkbor.py. -/
/-- blocks in a row of the call's own; their lists lie elsewhere -/
structure BoR (w : World) (N B : Nat) (A : Nat → Prop) (cap : Nat) (l : List Bl) : Prop where
 nb : N ≤ B
 bt : RowT w B 49
 cap : l.length ≤ cap
 it : ∀ (i : Nat) (x : Bl), l[i]? = some x → ∃ vi vn, w.cell? ⟨B, i * 3, none⟩ = some vi ∧ w.cell? ⟨B, i * 3 + 1, none⟩ = some vn ∧ w.cell? ⟨B, i * 3 + 2, none⟩ = some (.int .i64 x.dep) ∧ LL InC 5 w (fun k => k ≠ B ∧ ¬ A k) x.ins vi ∧ NumsL w (fun k => k ≠ B ∧ ¬ A k) x.next vn
theorem BoR.lt {w : World} {A : Nat → Prop} {N B cap : Nat} {l : List Bl} (h : BoR w N B A cap l) : B < w.heap.size := h.bt.lt
/-- where all that was there stays -/
theorem BoR.move {w w' : World} {A : Nat → Prop} {N B cap : Nat} {l : List Bl} (h : BoR w N B A cap l) (hk : ∀ k, k < w.heap.size → w'.heap[k]? = w.heap[k]?) (hs : w.heap.size ≤ w'.heap.size) : BoR w' N B A cap l := by
 have hB := hk B h.lt
 have c : ∀ o v, w.cell? ⟨B, o, none⟩ = some v → w'.cell? ⟨B, o, none⟩ = some v := fun o v e => (World.cell?_of_block (a := ⟨B, o, none⟩) hB).trans e
 refine ⟨h.nb, h.bt.move hB, h.cap, fun i x hx => ?_⟩
 obtain ⟨vi, vn, k0, k1, k2, k3, k4⟩ := h.it i x hx
 have hm : Vc.Mv w w' (fun k => k ≠ B ∧ ¬ A k) (fun k => k ≠ B ∧ ¬ A k) := fun k hlt hg => ⟨hg, hk k hlt⟩
 exact ⟨vi, vn, c _ _ k0, c _ _ k1, c _ _ k2, k3.moved hm hs (fun _ _ q => q.moved hm), k4.moved hm⟩
theorem BoR.below {w w' : World} {A : Nat → Prop} {N B cap : Nat} {l : List Bl} (h : BoR w N B A cap l) (hb : Below w.heap.size w w') : BoR w' N B A cap l := h.move (fun k hk => hb.block k hk) hb.size
/-- a block's Next told -/
theorem BoR.setNext {w : World} {A : Nat → Prop} {N B cap i : Nat} {l : List Bl} {x : Bl} (h : BoR w N B A cap l) (hx : l[i]? = some x) {z : List Int} {vn : Value} (hn : NumsL w (fun k => k ≠ B ∧ ¬ A k) z vn) : BoR (w.setCell ⟨B, i * 3 + 1, none⟩ vn) N B A cap (l.set i ⟨x.ins, z, x.dep⟩) := by
 have hm : Vc.Mv w (w.setCell ⟨B, i * 3 + 1, none⟩ vn) (fun k => k ≠ B ∧ ¬ A k) (fun k => k ≠ B ∧ ¬ A k) := fun k _ hg => ⟨hg, heap_setCell_other w ⟨B, i * 3 + 1, none⟩ k vn hg.1⟩
 have hs : w.heap.size ≤ (w.setCell ⟨B, i * 3 + 1, none⟩ vn).heap.size := by simp
 have o : ∀ o v, o ≠ i * 3 + 1 → w.cell? ⟨B, o, none⟩ = some v → (w.setCell ⟨B, i * 3 + 1, none⟩ vn).cell? ⟨B, o, none⟩ = some v := fun o v ho e => by
  rw [World.cell?_setCell_other _ _ _ _ (by intro e2; injection e2 with _ e3 _; omega)]; exact e
 refine ⟨h.nb, h.bt.set, by simpa using h.cap, fun j y hy => ?_⟩
 rw [List.getElem?_set] at hy
 by_cases e : i = j
 ·subst e
  rw [if_pos rfl, if_pos (List.getElem?_eq_some_iff.1 hx).1] at hy
  cases hy
  obtain ⟨vi, vn0, k0, k1, k2, k3, k4⟩ := h.it i x hx
  exact ⟨vi, vn, o _ _ (by omega) k0, World.cell?_setCell_same w _ vn k1, o _ _ (by omega) k2, k3.moved hm hs (fun _ _ q => q.moved hm), hn.moved hm⟩
 ·rw [if_neg e] at hy
  obtain ⟨vi, vn0, k0, k1, k2, k3, k4⟩ := h.it j y hy
  exact ⟨vi, vn0, o _ _ (by omega) k0, o _ _ (by omega) k1, o _ _ (by omega) k2, k3.moved hm hs (fun _ _ q => q.moved hm), k4.moved hm⟩
/-- something is written elsewhere -/
theorem BoR.setA {w : World} {A : Nat → Prop} {N B cap a i : Nat} {l : List Bl} (h : BoR w N B A cap l) (ha : A a) (hAB : a ≠ B) (v : Value) : BoR (w.setCell ⟨a, i, none⟩ v) N B A cap l := by
 have o : ∀ k, k ≠ a → (w.setCell ⟨a, i, none⟩ v).heap[k]? = w.heap[k]? := fun k hk => heap_setCell_other w ⟨a, i, none⟩ k v hk
 have hB := o B (fun e => hAB e.symm)
 have c : ∀ o v', w.cell? ⟨B, o, none⟩ = some v' → (w.setCell ⟨a, i, none⟩ v).cell? ⟨B, o, none⟩ = some v' := fun o v' e => (World.cell?_of_block (a := ⟨B, o, none⟩) hB).trans e
 refine ⟨h.nb, h.bt.move hB, h.cap, fun j x hx => ?_⟩
 obtain ⟨vi, vn, k0, k1, k2, k3, k4⟩ := h.it j x hx
 have hm : Vc.Mv w (w.setCell ⟨a, i, none⟩ v) (fun k => k ≠ B ∧ ¬ A k) (fun k => k ≠ B ∧ ¬ A k) := fun k _ hg => ⟨hg, o k fun e => hg.2 (e ▸ ha)⟩
 exact ⟨vi, vn, c _ _ k0, c _ _ k1, c _ _ k2, k3.moved hm (by simp) (fun _ _ q => q.moved hm), k4.moved hm⟩
/-- a block laid whole -/
theorem BoR.setAll {w : World} {A : Nat → Prop} {N B cap i : Nat} {l : List Bl} {x y : Bl} (h : BoR w N B A cap l) (hx : l[i]? = some x) {vi vn : Value} (hi : LL InC 5 w (fun k => k ≠ B ∧ ¬ A k) y.ins vi) (hn : NumsL w (fun k => k ≠ B ∧ ¬ A k) y.next vn) :
    BoR (((w.setCell ⟨B, i * 3, none⟩ vi).setCell ⟨B, i * 3 + 1, none⟩ vn).setCell ⟨B, i * 3 + 2, none⟩ (.int .i64 y.dep)) N B A cap (l.set i y) := by
 have ot : ∀ k, k ≠ B → (((w.setCell ⟨B, i * 3, none⟩ vi).setCell ⟨B, i * 3 + 1, none⟩ vn).setCell ⟨B, i * 3 + 2, none⟩ (.int .i64 y.dep)).heap[k]? = w.heap[k]? := fun k hk => by
  rw [heap_setCell_other _ _ _ _ (by exact hk), heap_setCell_other _ _ _ _ (by exact hk), heap_setCell_other _ _ _ _ (by exact hk)]
 have hm : Vc.Mv w (((w.setCell ⟨B, i * 3, none⟩ vi).setCell ⟨B, i * 3 + 1, none⟩ vn).setCell ⟨B, i * 3 + 2, none⟩ (.int .i64 y.dep)) (fun k => k ≠ B ∧ ¬ A k) (fun k => k ≠ B ∧ ¬ A k) := fun k _ hg => ⟨hg, ot k hg.1⟩
 have hs : w.heap.size ≤ (((w.setCell ⟨B, i * 3, none⟩ vi).setCell ⟨B, i * 3 + 1, none⟩ vn).setCell ⟨B, i * 3 + 2, none⟩ (.int .i64 y.dep)).heap.size := by simp
 have ne : ∀ a b : Nat, a ≠ b → (⟨B, a, none⟩ : Addr) ≠ ⟨B, b, none⟩ := fun a b hab e => by injection e with _ e3 _; exact hab e3
 have o : ∀ o v, o ≠ i * 3 → o ≠ i * 3 + 1 → o ≠ i * 3 + 2 → w.cell? ⟨B, o, none⟩ = some v → (((w.setCell ⟨B, i * 3, none⟩ vi).setCell ⟨B, i * 3 + 1, none⟩ vn).setCell ⟨B, i * 3 + 2, none⟩ (.int .i64 y.dep)).cell? ⟨B, o, none⟩ = some v := fun o v h0 h1 h2 e => by
  rw [World.cell?_setCell_other _ _ _ _ (ne _ _ (Ne.symm h2)), World.cell?_setCell_other _ _ _ _ (ne _ _ (Ne.symm h1)), World.cell?_setCell_other _ _ _ _ (ne _ _ (Ne.symm h0))]; exact e
 obtain ⟨vi0, vn0, k0, k1, k2, -, -⟩ := h.it i x hx
 refine ⟨h.nb, (h.bt.set.set).set, by simpa using h.cap, fun j z hz => ?_⟩
 rw [List.getElem?_set] at hz
 by_cases e : i = j
 ·subst e
  rw [if_pos rfl, if_pos (List.getElem?_eq_some_iff.1 hx).1] at hz
  cases hz
  refine ⟨vi, vn, ?_, ?_, ?_, hi.moved hm hs (fun _ _ q => q.moved hm), hn.moved hm⟩
  ·rw [World.cell?_setCell_other _ _ _ _ (ne _ _ (by omega)), World.cell?_setCell_other _ _ _ _ (ne _ _ (by omega))]; exact World.cell?_setCell_same w _ vi k0
  ·rw [World.cell?_setCell_other _ _ _ _ (ne _ _ (by omega))]
   exact World.cell?_setCell_same _ _ vn ((World.cell?_setCell_other _ _ _ _ (ne _ _ (by omega))).trans k1)
  ·exact World.cell?_setCell_same _ _ _ (((World.cell?_setCell_other _ _ _ _ (ne _ _ (by omega))).trans (World.cell?_setCell_other _ _ _ _ (ne _ _ (by omega)))).trans k2)
 ·rw [if_neg e] at hz
  obtain ⟨vi1, vn1, j0, j1, j2, j3, j4⟩ := h.it j z hz
  exact ⟨vi1, vn1, o _ _ (by omega) (by omega) (by omega) j0, o _ _ (by omega) (by omega) (by omega) j1, o _ _ (by omega) (by omega) (by omega) j2, j3.moved hm hs (fun _ _ q => q.moved hm), j4.moved hm⟩
/-- a block's instructions laid anew -/
theorem BoR.setIns {w : World} {A : Nat → Prop} {N B cap i : Nat} {l : List Bl} {x : Bl} (h : BoR w N B A cap l) (hx : l[i]? = some x) {z : List Vc.In} {vi : Value} (hi : LL InC 5 w (fun k => k ≠ B ∧ ¬ A k) z vi) : BoR (w.setCell ⟨B, i * 3, none⟩ vi) N B A cap (l.set i ⟨z, x.next, x.dep⟩) := by
 have hm : Vc.Mv w (w.setCell ⟨B, i * 3, none⟩ vi) (fun k => k ≠ B ∧ ¬ A k) (fun k => k ≠ B ∧ ¬ A k) := fun k _ hg => ⟨hg, heap_setCell_other w ⟨B, i * 3, none⟩ k vi hg.1⟩
 have hs : w.heap.size ≤ (w.setCell ⟨B, i * 3, none⟩ vi).heap.size := by simp
 have o : ∀ o v, o ≠ i * 3 → w.cell? ⟨B, o, none⟩ = some v → (w.setCell ⟨B, i * 3, none⟩ vi).cell? ⟨B, o, none⟩ = some v := fun o v ho e => by
  rw [World.cell?_setCell_other _ _ _ _ (by intro e2; injection e2 with _ e3 _; omega)]; exact e
 refine ⟨h.nb, h.bt.set, by simpa using h.cap, fun j y hy => ?_⟩
 rw [List.getElem?_set] at hy
 by_cases e : i = j
 ·subst e
  rw [if_pos rfl, if_pos (List.getElem?_eq_some_iff.1 hx).1] at hy
  cases hy
  obtain ⟨vi0, vn, k0, k1, k2, k3, k4⟩ := h.it i x hx
  exact ⟨vi, vn, World.cell?_setCell_same w _ vi k0, o _ _ (by omega) k1, o _ _ (by omega) k2, hi.moved hm hs (fun _ _ q => q.moved hm), k4.moved hm⟩
 ·rw [if_neg e] at hy
  obtain ⟨vi0, vn, k0, k1, k2, k3, k4⟩ := h.it j y hy
  exact ⟨vi0, vn, o _ _ (by omega) k0, o _ _ (by omega) k1, o _ _ (by omega) k2, k3.moved hm hs (fun _ _ q => q.moved hm), k4.moved hm⟩
theorem BoR.blsA {w : World} {A : Nat → Prop} {N B cap n : Nat} {l : List Bl} (h : BoR w N B A cap l) (hn : n = l.length) (g : Nat → Prop) (hg : ∀ k, k < w.heap.size → k = B ∨ ¬ A k → g k) : Bls w g l (.slice (some ⟨B, 0, none⟩) n cap) := by
 subst hn
 refine ⟨_, _, rfl, h.cap, (by intro h; cases h), fun _ => ⟨B, 0, rfl, hg B h.lt (.inl rfl), h.lt, fun i x hx => ?_⟩⟩
 obtain ⟨vi, vn, k0, k1, k2, k3, k4⟩ := h.it i x hx
 have hm : Vc.Mv w w (fun k => k ≠ B ∧ ¬ A k) g := fun k hlt hk => ⟨hg k hlt (.inr hk.2), rfl⟩
 refine ⟨[vi, vn, .int .i64 x.dep], rfl, ⟨vi, vn, rfl, k3.moved hm (Nat.le_refl _) (fun _ _ q => q.moved hm), k4.moved hm⟩, fun j u hu => ?_⟩
 rw [Nat.zero_add]
 match j, hu with
 | 0, hu => cases hu; exact k0
 | 1, hu => cases hu; exact k1
 | 2, hu => cases hu; exact k2
 | j + 3, hu => simp at hu
theorem infoRB : (Tryz.prog.info? 49).map (fun i => (i.zero, i.size, i.bytes)) = some (some (.agg #[.slice none 0 0, .slice none 0 0, .int .i64 0]), 3, 56) := by kernel_rfl
/-- a list of the call's own, as such a row -/
theorem BoR.of {w : World} {N : Nat} {G A : Nat → Prop} {v : Value} {l : List Bl} (h : OwnL BlC 3 49 w N G v l) (h0 : 0 < l.length) (hA : ∀ k, G k → ¬ A k) : ∃ B cap, v = .slice (some ⟨B, 0, none⟩) l.length cap ∧ BoR w N B A cap l := by
 obtain ⟨xs, ho, hi⟩ := h
 have hrc := fun B cap (e : v = .slice (some ⟨B, 0, none⟩) l.length cap) => Vc.row_cells (g := B) (cap := cap) (n := l.length) (xs := xs) (by rw [← e]; exact ho)
 rcases ho.2 with ⟨-, e⟩ | ⟨B, cap, cur, rfl, h2, h3, h4, -⟩
 ·omega
 ·refine ⟨B, cap, rfl, h2, ⟨cur, h3⟩, h4, fun i x hx => ?_⟩
  obtain ⟨cs, k1, ⟨vi, vn, rfl, k2, k3⟩, k4⟩ := hi.2 i x hx
  have hc := hrc B cap rfl
  have hm : Vc.Mv w w (own G (.slice (some ⟨B, 0, none⟩) l.length cap)) (fun k => k ≠ B ∧ ¬ A k) := fun k _ hk => ⟨⟨fun e => hk.1 (by rw [e]; rfl), hA k hk.2⟩, rfl⟩
  exact ⟨vi, vn, hc _ _ (by have := k4 0 (by omega); simpa using this), hc _ _ (by have := k4 1 (by omega); simpa using this), hc _ _ (by have := k4 2 (by omega); simpa using this), k2.moved hm (Nat.le_refl _) (fun _ _ q => q.moved hm), k3.moved hm⟩
end Fw
namespace Fw
open Vc (NumsL Nums Lies LL Bls BlC InC Bl Co infoN infoBl own_base RowT cob cob_cells OwnL Its own)
/- the document's Trim. -/
def nml (R : List Nat) (n k : Nat) : List Int := (List.range k).foldl (fun a b => a.set b (nmb R b : Int)) (List.replicate n 0)
theorem nml_succ (R : List Nat) (n k : Nat) : nml R n (k + 1) = (nml R n k).set k (nmb R k : Int) := by unfold nml; rw [List.range_succ, List.foldl_append]; rfl
theorem nml_len (R : List Nat) (n k : Nat) : (nml R n k).length = n := by
 induction k with
 | zero => simp [nml]
 | succ k ih => rw [nml_succ, List.length_set]; exact ih
theorem nml_at (R : List Nat) (n k : Nat) (hk : k ≤ n) (i : Nat) (hi : i < k) : (nml R n k).getD i 0 = (nmb R i : Int) := by
 induction k with
 | zero => omega
 | succ k ih =>
   rw [nml_succ, getD_set _ _ _ _ (by rw [nml_len]; omega)]
   by_cases e : i = k
   ·subst e; rw [if_pos rfl]
   ·rw [if_neg e]; exact ih (by omega) (by omega)
theorem nmb_succ (R : List Nat) (k : Nat) : nmb R (k + 1) = if k ∈ R then nmb R k + 1 else nmb R k := by
 rw [← kept_len, ← kept_len, kept_succ]
 split <;> simp
theorem nmb_le (R : List Nat) (k : Nat) : nmb R k ≤ k := by unfold nmb; exact Nat.le_trans (List.length_filter_le _ _) (by simp)
def tdk (l : List Bl) (R : List Nat) (k : Nat) : List Bl := (kept R k).map fun b => tellD R (l.getD b dB)
theorem tdk_succ (l : List Bl) (R : List Nat) (k : Nat) : tdk l R (k + 1) = if k ∈ R then tdk l R k ++ [tellD R (l.getD k dB)] else tdk l R k := by
 unfold tdk
 rw [kept_succ]
 split <;> simp
theorem tdk_len (l : List Bl) (R : List Nat) (k : Nat) : (tdk l R k).length ≤ k := by unfold tdk; rw [List.length_map, kept_len]; exact nmb_le R k
theorem BoR.weak {w : World} {A A' : Nat → Prop} {N M B cap : Nat} {l : List Bl} (h : BoR w N B A cap l) (hM : M ≤ N) (hA : ∀ k, A' k → A k) : BoR w M B A' cap l := by
 refine ⟨Nat.le_trans hM h.nb, h.bt, h.cap, fun i x hx => ?_⟩
 obtain ⟨vi, vn, k0, k1, k2, k3, k4⟩ := h.it i x hx
 have hm : Vc.Mv w w (fun k => k ≠ B ∧ ¬ A k) (fun k => k ≠ B ∧ ¬ A' k) := fun k _ hk => ⟨⟨hk.1, fun h => hk.2 (hA k h)⟩, rfl⟩
 exact ⟨vi, vn, k0, k1, k2, k3.moved hm (Nat.le_refl _) (fun _ _ q => q.moved hm), k4.moved hm⟩
theorem rtrim_any (l : List Bl) (hc : Cok l) (pa re : Int) (rs : Bool) (g F : Nat → Prop) (vb : Value) (w : World) (hB : Bls w g l vb) (hg : ∀ k, g k → k < w.heap.size ∧ ¬ F k) (hF : ∀ k, F k → k < w.heap.size) :
    Calls Tryz.prog 21 #[.agg #[.int .i64 pa, .int .i64 re, .bool rs, vb]] w fun e w' => ∃ B cap, e = .returned (.agg #[.int .i64 pa, .int .i64 re, .bool rs, .slice (some ⟨B, 0, none⟩) (trimD l).length cap]) ∧ BoR w' w.heap.size B F cap (trimD l) ∧ Below w.heap.size w w' := by
 obtain ⟨va, vc, rfl, -, -, -⟩ := id hB
 obtain ⟨i0, hi, hz0, hz1, hz2⟩ := info_parts infoN
 obtain ⟨ib, hib, hb0, hb1, hb2⟩ := info_parts infoRB
 have hlen := hc.nok.len
 have hone := hc.one
 obtain ⟨n, hn⟩ : ∃ n, n = l.length := ⟨_, rfl⟩
 obtain ⟨R, hR⟩ : ∃ R, R = reach (nxs l) := ⟨_, rfl⟩
 have hn1 := hc.nok.inn
 obtain ⟨hRd, hRl, hR0, hRc⟩ := reach_cl hn1 (by rw [nxs_len]; exact hc.one)
 rw [← hR] at hRd hRl hR0 hRc
 rw [nxs_len, ← hn] at hRl
 have hRn := nodup_le n R hRd hRl
 have hmkI := fun wx => run_make (P := Tryz.prog) wx 31 3 i0 (.int .i64 0) Tryz.underlying31 hi hz0 .i64 .i64 (n : Int) (n : Int) (by omega) (by omega) (by rw [hz2]; omega) (by omega)
 rw [hz1] at hmkI
 simp only [Int.toNat_natCast, Nat.mul_one] at hmkI
 rw [show (Value.int IntKind.i64 0).cells = #[Value.int IntKind.i64 0] from rfl] at hmkI
 obtain ⟨X, hX⟩ : ∃ X, X = (w.alloc (.cells (cob pa re rs (.slice va n vc)) 24)).alloc (.cells (cob 0 0 false (.slice none 0 0)) 24) := ⟨_, rfl⟩
 have hXb : Below w.heap.size w X := by rw [hX]; exact Vc.two_allocs w _ _
 have hXz : X.heap.size = w.heap.size + 2 := by rw [hX]; simp
 have r0 : X.heap[w.heap.size]? = some (.cells (cob pa re rs (.slice va n vc)) 24 (0, 0)) := by rw [hX, Below.heap_alloc _ _ _ (by simp)]; exact heap_alloc_new _ _
 have r1 : X.heap[w.heap.size + 1]? = some (.cells (cob 0 0 false (.slice none 0 0)) 24 (0, 0)) := by
  have := heap_alloc_new (w.alloc (.cells (cob pa re rs (.slice va n vc)) 24)) (.cells (cob 0 0 false (.slice none 0 0)) 24)
  rw [show (w.alloc (.cells (cob pa re rs (.slice va n vc)) 24)).heap.size = w.heap.size + 1 by simp, ← hX] at this; exact this
 have hwo := without_all l hc.nok X.heap.size g (fun k h => by have := (hg k h).1; omega) pa re rs va vc l.length 0 [] (.slice none 0 0) X hc.one (by simp) (by simp) (by simp) (Nat.le_refl _) (hB.moved (fun k _ h => ⟨h, hXb.block k (hg k h).1⟩) hXb.size) (World.ownsRow_nil _ _ _ _)
 rw [show wo (nxs l) (-1) l.length 0 [] = R by rw [hR]; unfold reach; rw [nxs_len], ← hn] at hwo
 rw [← hn] at hB
 have hBw : Bls w (fun k => k < w.heap.size ∧ ¬ F k) l (.slice va n vc) := hB.moved (fun k _ h => ⟨hg k h, rfl⟩) (Nat.le_refl _)
 obtain ⟨c0, c1, c2, c3, cf, cl⟩ := cob_cells r0
 have HC := hide hc; have HN := hide hn; have HR := hide hR; have HXb := hide hXb; have HXz := hide hXz; have HR0 := hide r0; have HR1 := hide r1; have HBw := hide hBw; have HWo := hide hwo; have HLn := hide hlen; have HOn := hide hone; have HRd := hide hRd; have HRl := hide hRl; have HRc := hide hRc; have HRn := hide hRn; have HFF := hide hF
 have hni : (n : Int) ≤ 1048576 := by omega
 rw [← hn]
 clear hc hn hR hXb hXz r0 r1 hBw hwo hB hg hF hlen hone hRd hRl hRc hRn hR0 hn1
 go_enter Tryz.func21, Tryz.ntmps21
 go_upto_region 1 with fail
 rw [show (w.alloc (.cells #[.int .i64 pa, .int .i64 re, .bool rs, .slice va n vc] 24)).alloc (.cells #[.int .i64 0, .int .i64 0, .bool false, .slice none 0 0] 24) = X from hX.symm]
 clear hX
 go_upto_region 2 with (go_at_call 39; refine (unhide HWo).mono ?_; rintro e w1 ⟨v1, rfl, hr1, hg1, -⟩; have hb1 : Below X.heap.size X w1 := ⟨hg1.os, hg1.tape, hg1.output, hg1.size, fun k hk => hg1.keep k hk (by simp [Value.ownBlock])⟩; obtain ⟨ra, rc, rfl, -⟩ := hr1.sl; have HR1r := hide hr1; have HB1 := hide hb1; clear hr1 hg1 hb1)
 have hb1 := unhide HB1
 have hXz := unhide HXz
 have q0 := (hb1.block w.heap.size cl).trans (unhide HR0)
 have q1 := (hb1.block (w.heap.size + 1) (by omega)).trans (unhide HR1)
 have hro := Ro.made w1 n (by have := unhide HLn; have := unhide HN; omega)
 have hal := Vc.one_alloc w1 (.cells (madeCells (Value.int .i64 0).cells n) 3)
 rw [show (Value.int IntKind.i64 0).cells = #[Value.int IntKind.i64 0] from rfl] at hro hal
 have hs1 := hb1.size
 have c3b := (cob_cells q0).2.2.2.1
 have HQ0 := hide q0; have HQ1 := hide q1; have HRo := hide hro; have HAl := hide hal; have HS1 := hide (show w.heap.size + 2 ≤ w1.heap.size by omega)
 clear hb1 hXz q0 q1 hro hal hs1 c0 c1 c2 c3 cf cl HWo HR0 HR1
 have hkeep : ∀ W, Below w1.heap.size w1 W → W.heap[w.heap.size]? = some (.cells (cob pa re rs (.slice va n vc)) 24 (0, 0)) ∧ W.heap[w.heap.size + 1]? = some (.cells (cob 0 0 false (.slice none 0 0)) 24 (0, 0)) ∧ NumsL W (fun k => k < W.heap.size) (nz R) (.slice ra (nz R).length rc) ∧ Bls W (fun k => k < w.heap.size ∧ ¬ F k) l (.slice va n vc) ∧ Below w.heap.size w W := fun W hW => by
  have hs := unhide HS1
  have hbw := ((unhide HXb).trans ((unhide HB1).mono (by have := unhide HXz; omega))).trans (hW.mono (by omega))
  exact ⟨(hW.block _ (by omega)).trans (unhide HQ0), (hW.block _ (by omega)).trans (unhide HQ1), ((unhide HR1r).below hW).nums.moved fun k _ hk => ⟨hk.2, rfl⟩, bls_at (unhide HBw) (fun k h => h.1) hbw, hbw⟩
 have HKeepX := hide hkeep
 have hhas : ∀ W (k : Nat), Below w1.heap.size w1 W → Calls Tryz.prog 37 #[.slice ra (nz R).length rc, .int .i64 (k : Int)] W fun e w' => e = .returned (.bool (decide ((k : Nat) ∈ R))) ∧ w' = W := fun W k hW => by
  have h := has_any (nz R) (k : Int) (.slice ra (nz R).length rc) W (unhide HKeepX W hW).2.2.1 (by rw [nz_len]; have := unhide HRn; omega)
  rw [show decide ((k : Int) ∈ nz R) = decide (k ∈ R) from decide_eq_decide.2 (by unfold nz; rw [List.mem_map]; exact ⟨fun ⟨x, h1, h2⟩ => (show x = k by omega) ▸ h1, fun h => ⟨k, h, rfl⟩⟩)] at h
  exact h
 have HHas := hide hhas
 clear hhas hkeep
 go_wp2_with fail
 generalize w1.alloc (.cells (madeCells #[.int .i64 0] n) 3) = W1 at *
 go_loopw [5, 6] (fun s c wr => ∃ k : Nat, k ≤ n ∧ c = .int .i64 (k : Int) ∧ s = .int .i64 (nmb R k : Int) ∧ Ro wr w1.heap.size (.slice (some ⟨w1.heap.size, 0, none⟩) n n) (nml R n k) ∧ Below w1.heap.size w1 wr) (fun _ c _ => n - (intOf c).toNat)
 case atStart => exact ⟨0, Nat.zero_le _, rfl, rfl, unhide HRo, unhide HAl⟩
 case round =>
  obtain ⟨k, hk, rfl, rfl, hR, hb⟩ := hrel
  obtain ⟨q0, q1, -, -, -⟩ := unhide HKeepX wr hb
  have c3 := (cob_cells q0).2.2.2.1
  by_cases hlt : k < n
  ·have hkl : k < (nml R n k).length := by rw [nml_len]; exact hlt
   obtain ⟨x1, x1f⟩ := hR.cells (i := k) hkl
   have hR2 := hR.set (i := k) hkl (nmb R k : Int)
   rw [← nml_succ] at hR2
   have hb2 := hb.setCell (p := ⟨w1.heap.size, k, none⟩) (Nat.le_refl _) (.int .i64 (nmb R k : Int))
   have hca := unhide HHas _ k hb2
   have hns := nmb_succ R k
   have hkn : (k : Int) < (n : Int) := by omega
   have hnl := nmb_le R k
   have hnli : (nmb R k : Int) ≤ 1048576 := by omega
   have HR2 := hide hR2; have HB2 := hide hb2; have HNs := hide hns; have HLt := hide hlt
   by_cases hm : k ∈ R
   ·rw [decide_eq_true hm] at hca
    rw [if_pos hm] at hns
    have HNs2 := hide hns; have HCa := hide hca
    clear hR hb hR2 hb2 hns hlt hkl q0 q1 hk hm hca hnl
    go_wp2_with (go_at_call 37; refine (unhide HCa).mono ?_; rintro e w6 ⟨rfl, rfl⟩)
    go_roundw
    case rel => exact ⟨k + 1, by have := unhide HLt; omega, by go_num, by rw [unhide HNs2]; go_num, unhide HR2, unhide HB2⟩
    case measure => have := unhide HLt; simp [intOf]; omega
   ·rw [decide_eq_false hm] at hca
    rw [if_neg hm] at hns
    have HNs2 := hide hns; have HCa := hide hca
    clear hR hb hR2 hb2 hns hlt hkl q0 q1 hk hm hca hnl
    go_wp2_with (go_at_call 37; refine (unhide HCa).mono ?_; rintro e w6 ⟨rfl, rfl⟩)
    go_roundw
    case rel => exact ⟨k + 1, by have := unhide HLt; omega, by go_num, by rw [unhide HNs2], unhide HR2, unhide HB2⟩
    case measure => have := unhide HLt; simp [intOf]; omega
  ·obtain rfl : k = n := by omega
   generalize wr = wA at *
   have hW2 := hb
   have HR3 := hide hR; have HB3 := hide hb
   clear hR hb q0 q1 hlt hk hW2 HRo HAl
   go_wp2_with fail
   go_loopw [7, 8] (fun v c wq => ∃ (j : Nat) (a : Option Addr) (cp : Nat), j ≤ k ∧ c = .int .i64 (j : Int) ∧ v = .slice a (tdk l R j).length cp ∧ OwnL BlC 3 49 wq wA.heap.size (fun q => ¬ F q ∧ (q < w.heap.size ∨ wA.heap.size ≤ q)) (.slice a (tdk l R j).length cp) (tdk l R j) ∧ Below wA.heap.size wA wq) (fun _ c _ => k - (intOf c).toNat)
   case atStart => exact ⟨0, none, 0, Nat.zero_le _, rfl, rfl, Vc.OwnL_nil _ _ _ _ _ _, Below.refl _ _⟩
   case round =>
    generalize wr = wq at *
    obtain ⟨j, a, cp, hj, rfl, rfl, hO, hbq⟩ := hrel
    have hb13 := (unhide HB3).trans (hbq.mono (unhide HB3).size)
    obtain ⟨q0, q1, -, hBl, hbw⟩ := unhide HKeepX _ hb13
    obtain ⟨c0, c1, c2, c3', cf, cl⟩ := cob_cells q0
    by_cases hlt : j < k
    ·have hca := unhide HHas _ j hb13
     have hts := tdk_succ l R j
     have hjk : (j : Int) < (k : Int) := by omega
     by_cases hm : j ∈ R
     ·rw [decide_eq_true hm] at hca
      rw [if_pos hm] at hts
      have hjl : j < l.length := by rw [← unhide HN]; exact hlt
      obtain ⟨x, hxe⟩ : ∃ x, x = l.getD j dB := ⟨_, rfl⟩
      rw [← hxe] at hts
      have hx : l[j]? = some x := by rw [hxe]; exact get?_getD _ _ _ hjl
      obtain ⟨Bb, ob, vi, vn, hva, hBN, hBlt, -, d0, d1, d2, hin, hnn⟩ := blk_next hBl hx
      subst hva
      obtain ⟨ia, ic, rfl, -, -, -⟩ := id hin
      obtain ⟨na, nc, rfl, -, -, -⟩ := id hnn
      obtain ⟨m, hmm⟩ : ∃ m, m = x.next.length := ⟨_, rfl⟩
      rw [← hmm] at d1
      have hxl := (unhide HC).nok.nlen x (List.mem_of_getElem? hx)
      have hmi : (m : Int) ≤ 1048576 := by omega
      have hal := Vc.one_alloc wq (.cells #[.slice ia x.ins.length ic, .slice na m nc, .int .i64 x.dep] 49)
      have hyr := heap_alloc_new wq (.cells #[.slice ia x.ins.length ic, .slice na m nc, .int .i64 x.dep] 49)
      have hyz : (wq.alloc (.cells #[.slice ia x.ins.length ic, .slice na m nc, .int .i64 x.dep] 49)).heap.size = wq.heap.size + 1 := by simp
      have HO := hide hO; have HBq := hide hbq; have HCa := hide hca; have HLt := hide hlt; have HTs := hide hts; have HHx := hide hx; have HIn := hide hin; have HNn := hide hnn; have HMm := hide hmm; have HBl := hide hBl; have HBw := hide hbw; have HB13 := hide hb13; have HQ0j := hide q0
      clear hO hbq hca hlt hts hm hxe hx hin hnn hmm hBl hbw hb13 hj hjl hxl c0 c1 c2 cf q0 q1 hBN
      go_upto_region 16 with (go_at_call 37; refine (unhide HCa).mono ?_; rintro e w6 ⟨rfl, hw6⟩; have hw7 := hw6.symm; clear hw6; subst hw7)
      obtain ⟨Y, hYe⟩ : ∃ Y, Y = wq.alloc (.cells #[.slice ia x.ins.length ic, .slice na m nc, .int .i64 x.dep] 49) := ⟨_, rfl⟩
      rw [← hYe] at hal hyr hyz ⊢
      have HAlY := hide hal; have HYr := hide hyr; have HYz := hide hyz
      clear hYe hal hyr hyz d0 d1 d2 c3' cl hBlt
      go_wp2_with fail
      go_loopw [10, 11] (fun v c wz => ∃ (i : Nat) (b : Option Addr) (c2 : Nat), i ≤ m ∧ c = .int .i64 (i : Int) ∧ v = .slice b i c2 ∧ Ro wz Y.heap.size (.slice b i c2) ((x.next.take i).map fun z => (nmb R z.toNat : Int)) ∧ Below Y.heap.size Y wz) (fun _ c _ => m - (intOf c).toNat)
      case atStart => exact ⟨0, none, 0, Nat.zero_le _, rfl, rfl, World.ownsRow_nil _ _ _ _, Below.refl _ _⟩
      case round =>
       generalize wr = wz at *
       obtain ⟨i, b, c2, hi9, rfl, rfl, hRz, hbz⟩ := hrel
       have hyz := unhide HYz
       have hqz : Below wq.heap.size wq wz := (unhide HAlY).trans (hbz.mono (unhide HAlY).size)
       have hyrow := (hbz.block wq.heap.size (by omega)).trans (unhide HYr)
       by_cases hlt : i < m
       ·obtain ⟨t, hz, htl, hgt⟩ := (unhide HC).nok.at_ (unhide HHx) (k := i) (by rw [← unhide HMm]; exact hlt)
        obtain ⟨Bn, on, hna, -, hnc⟩ := nums_at (unhide HNn) (k := i) (by rw [← unhide HMm]; exact hlt)
        subst hna
        have x1 := hnc i (by rw [← unhide HMm]; exact hlt)
        rw [hz] at x1
        have x1z := (hqz.cell (p := ⟨Bn, on + i, none⟩) (block_lt_of_cell x1)).trans x1
        have hwz : Below wA.heap.size wA wz := (unhide HBq).trans (hqz.mono (unhide HBq).size)
        have hR3 := (unhide HR3).below hwz
        have htk : t < (nml R k k).length := by rw [nml_len, unhide HN]; exact htl
        obtain ⟨x2, -⟩ := hR3.cells (i := t) htk
        rw [nml_at R k k (Nat.le_refl _) t (by rw [nml_len] at htk; exact htk)] at x2
        have y1 : wz.cell? ⟨wq.heap.size, 1, none⟩ = some (.slice (some ⟨Bn, on, none⟩) m nc) := by rw [cell_of_row wz _ 1 _ _ _ hyrow]; rfl
        have hst : (x.next.take (i + 1)).map (fun z => (nmb R z.toNat : Int)) = (x.next.take i).map (fun z => (nmb R z.toNat : Int)) ++ [(nmb R t : Int)] := by
         have hil : i < x.next.length := by rw [← unhide HMm]; exact hlt
         rw [List.take_succ_eq_append_getElem hil, List.map_append, ← getD_get _ _ 0 hil, hz]; rfl
        have him : (i : Int) < (m : Int) := by omega
        have htki : (t : Int) < (k : Int) := by rw [nml_len] at htk; omega
        have hll : ((x.next.take i).map (fun z => (nmb R z.toNat : Int))).length = i := by rw [List.length_map, List.length_take, ← unhide HMm]; omega
        have HRz := hide hRz; have HBz := hide hbz; have HSt := hide hst; have HLti := hide hlt; have HLl := hide hll; have HI9 := hide hi9
        clear hRz hbz hst hlt hll hwz hR3 htk x1 hnc hgt hz htl hyrow hqz hi9
        go_wp2_with (at_builtin
                     refine wpList_push ((unhide HRz).below (Vc.one_alloc wz (.cells #[.int .i64 (nmb R t : Int)] 3))) (nmb R t : Int) rfl (.tmp 57) (.tmp 66) rfl rfl (B := wz.heap.size) rfl (by rw [cell_of_row _ _ 0 _ _ _ (heap_alloc_new wz _)]; rfl) (by rw [unhide HLl]; omega) (by have := (unhide HBz).size; simp; omega) ?_
                     intro b9 c9 w9 h1 h2 h3
                     rw [unhide HLl] at h1 ⊢
                     have hb9 : Below Y.heap.size Y w9 := ((unhide HBz).trans ((Vc.one_alloc wz (.cells #[.int .i64 (nmb R t : Int)] 3)).mono (unhide HBz).size)).grown h2 (by have := (unhide HBz).size; simp; omega) (fun q e => ((unhide HRz).lt q e).1)
                     rw [← unhide HSt] at h1
                     have H1 := hide h1; have HB9 := hide hb9
                     clear h1 h2 h3 hb9)
        go_roundw
        case rel => exact ⟨i + 1, b9, c9, by have := unhide HLti; omega, by go_num, rfl, unhide H1, unhide HB9⟩
        case measure => have := unhide HLti; simp [intOf]; omega
       ·obtain rfl : i = m := by omega
        rw [List.take_of_length_le (by rw [← unhide HMm]; exact Nat.le_refl _)] at hRz
        have hnx : (tellD R x).next.length = i := by show (x.next.map _).length = i; rw [List.length_map, ← unhide HMm]
        obtain ⟨z0, z1, z2, zf⟩ : wz.cell? ⟨wq.heap.size, 0, none⟩ = some (.slice ia x.ins.length ic) ∧ wz.cell? ⟨wq.heap.size, 1, none⟩ = some (.slice na i nc) ∧ wz.cell? ⟨wq.heap.size, 2, none⟩ = some (.int .i64 x.dep) ∧ ∀ q, wz.frozen? ⟨wq.heap.size, q, none⟩ = false := ⟨by rw [cell_of_row wz _ 0 _ _ _ hyrow]; rfl, by rw [cell_of_row wz _ 1 _ _ _ hyrow]; rfl, by rw [cell_of_row wz _ 2 _ _ _ hyrow]; rfl, fun q => frozen_of_row wz _ q _ _ hyrow⟩
        have hrow8 : (wz.setCell ⟨wq.heap.size, 1, none⟩ (.slice b i c2)).heap[wq.heap.size]? = some (.cells #[.slice ia x.ins.length ic, .slice b i c2, .int .i64 x.dep] 49 (0, 0)) := (heap_setCell_same wz wq.heap.size 1 _ _ _ hyrow).trans rfl
        have hb8 := hqz.setCell (p := ⟨wq.heap.size, 1, none⟩) (Nat.le_refl _) (.slice b i c2)
        have hRo8 : Ro (wz.setCell ⟨wq.heap.size, 1, none⟩ (.slice b i c2)) Y.heap.size (.slice b i c2) (x.next.map fun z => (nmb R z.toNat : Int)) := hRz.keep fun q hq => heap_setCell_other wz ⟨wq.heap.size, 1, none⟩ q _ (by have := (hRz.lt q hq).1; show q ≠ wq.heap.size; omega)
        have HRow8 := hide hrow8; have HB8 := hide hb8; have HRo8 := hide hRo8; have HNx := hide hnx
        clear hrow8 hb8 hRo8 hnx hRz hbz hqz hyrow hlt hi9
        go_upto_region 22 with fail
        generalize wz.setCell ⟨wq.heap.size, 1, none⟩ (.slice b i c2) = W8 at *
        clear z0 z1 z2 zf
        have hrow8 := unhide HRow8
        obtain ⟨z0, z1, z2⟩ : W8.cell? ⟨wq.heap.size, 0, none⟩ = some (.slice ia x.ins.length ic) ∧ W8.cell? ⟨wq.heap.size, 1, none⟩ = some (.slice b i c2) ∧ W8.cell? ⟨wq.heap.size, 2, none⟩ = some (.int .i64 x.dep) := ⟨by rw [cell_of_row W8 _ 0 _ _ _ hrow8]; rfl, by rw [cell_of_row W8 _ 1 _ _ _ hrow8]; rfl, by rw [cell_of_row W8 _ 2 _ _ _ hrow8]; rfl⟩
        have hal9 := Vc.one_alloc W8 (.cells #[.slice ia x.ins.length ic, .slice b i c2, .int .i64 x.dep] 49)
        have hb9 := (unhide HB8).trans (hal9.mono (unhide HB8).size)
        have hnew := Vc.new_row W8 [.slice ia x.ins.length ic, .slice b i c2, .int .i64 x.dep] 49
        have hs9 : (W8.alloc (.cells #[.slice ia x.ins.length ic, .slice b i c2, .int .i64 x.dep] 49)).heap.size = W8.heap.size + 1 := by simp
        obtain ⟨W9, hW9⟩ : ∃ W9, W9 = W8.alloc (.cells #[.slice ia x.ins.length ic, .slice b i c2, .int .i64 x.dep] 49) := ⟨_, rfl⟩
        obtain ⟨xs, hxo, hits⟩ := unhide HO
        have hol : ∀ q, (Value.slice a (tdk l R j).length cp).ownBlock = some q → wA.heap.size ≤ q ∧ q < wq.heap.size := fun q e => World.ownsRow.lt hxo q e
        rw [show (W8.alloc (.cells #[.slice ia x.ins.length ic, .slice b i c2, .int .i64 x.dep] 49)) = W9 from hW9.symm] at hal9 hb9 hs9
        have hnew9 : ∀ q u, [Value.slice ia x.ins.length ic, .slice b i c2, .int .i64 x.dep][q]? = some u → W9.cell? ((⟨W8.heap.size, 0, none⟩ : Addr).add q) = some u := by rw [hW9]; exact hnew
        have hyz := unhide HYz
        have hs8 := (unhide HB8).size
        have hwA := (unhide HB3).size
        have hS1 := unhide HS1
        have hsq := (unhide HBq).size
        have hcs : BlC W9 (own (fun q => ¬ F q ∧ (q < w.heap.size ∨ wA.heap.size ≤ q)) (.slice a (tdk l R j).length cp)) (tellD R x) [.slice ia x.ins.length ic, .slice b i c2, .int .i64 x.dep] := by
         have hm1 : Vc.Mv wq W9 (fun k => k < w.heap.size ∧ ¬ F k) (own (fun q => ¬ F q ∧ (q < w.heap.size ∨ wA.heap.size ≤ q)) (.slice a (tdk l R j).length cp)) := fun q hq hk => ⟨⟨fun e => by have := (hol q e).1; omega, hk.2, .inl hk.1⟩, hb9.block q hq⟩
         have hm2 : Vc.Mv W8 W9 (fun q => Y.heap.size ≤ q ∧ q < W8.heap.size) (own (fun q => ¬ F q ∧ (q < w.heap.size ∨ wA.heap.size ≤ q)) (.slice a (tdk l R j).length cp)) := fun q hq hk => ⟨⟨fun e => by have := (hol q e).2; omega, fun hf => by have := unhide HFF q hf; omega, .inr (by omega)⟩, hal9.block q hq⟩
         exact ⟨_, _, rfl, Vc.LL.moved hm1 hb9.size (fun _ _ q => q.moved hm1) (unhide HIn), (by
          have h := ((unhide HRo8).nums).moved hm2
          exact h)⟩
        have hx9 := Vc.ownsRow_below hxo hb9
        have hits9 : Its (BlC W9 (own (fun q => ¬ F q ∧ (q < w.heap.size ∨ wA.heap.size ≤ q)) (.slice a (tdk l R j).length cp))) 3 (tdk l R j) xs := hits.mono fun x cs h => h.moved (Vc.Mv.below hb9 fun _ _ h => h) hb9.size
        have htl := tdk_len l R j
        have HX9 := hide hx9; have HIts9 := hide hits9; have HCs := hide hcs; have HNew9 := hide hnew9; have HB9 := hide ((unhide HBq).trans (hb9.mono (unhide HBq).size)); have HOl := hide hol; have HS9 := hide (show W9.heap.size = W8.heap.size + 1 from hs9); have HTl := hide (show (tdk l R j).length ≤ 1048576 by have := unhide HLt; omega)
        have HBase := hide (show wA.heap.size ≤ W9.heap.size by omega)
        clear hal9 hb9 hnew hs9 hxo hits hol hnew9 hyz hs8 hwA hS1 hsq hcs hx9 hits9 htl hrow8 HO HRo8 HB8 HIn
        go_wp2_with (at_builtin
                     rw [← hW9]
                     refine wpList_append_lies W9 rfl (.tmp 70) (.tmp 72) 22 rfl wA.heap.size 49 ib (.agg #[.slice none 0 0, .slice none 0 0, .int .i64 0]) 3 56 Tryz.underlying22 hib hb0 hb1 hb2 rfl (by decide) (.slice a (tdk l R j).length cp) (tdk l R j).length xs rfl (unhide HX9) ⟨W8.heap.size, 0, none⟩ 1 1 [.slice ia x.ins.length ic, .slice b i c2, .int .i64 x.dep] rfl rfl (unhide HNew9) (by intro u hu; simp at hu; rcases hu with rfl | rfl | rfl <;> rfl) (by omega) (by have := unhide HTl; unfold maxLen; omega) (by have := unhide HTl; omega) (unhide HBase) (W8.heap.size + 1) (unhide HS9) ?_
                     intro gg cpn w5 hown5 hgrow hat5 hlt5
                     have hsn := Vc.OwnL.snoc (It := BlC) (c := 3) (T := 49) (w := W9) (w1 := w5) (B := wA.heap.size) (G := fun q => ¬ F q ∧ (q < w.heap.size ∨ wA.heap.size ≤ q)) (v := .slice a (tdk l R j).length cp) (l := tdk l R j) (x := tellD R x) (xs := xs) (cs := [.slice ia x.ins.length ic, .slice b i c2, .int .i64 x.dep]) (g := gg) (cap := cpn) (fun x cs h hm => h.moved hm hgrow.size) (unhide HIts9) (unhide HCs) rfl hown5 hgrow (hat5.imp id (fun e => by rw [e, unhide HS9]))
                     rw [← unhide HTs] at hsn
                     have hln : (tdk l R j).length + 1 = (tdk l R (j + 1)).length := by rw [unhide HTs, List.length_append]; rfl
                     rw [hln] at hsn ⊢
                     have hbe5 := (unhide HB9).grown hgrow (unhide HBase) (fun q e => (unhide HOl q e).1)
                     have HSn := hide hsn; have HBe5 := hide hbe5
                     clear hsn hbe5 hown5 hgrow hat5 hlt5)
        go_roundw
        case rel => exact ⟨j + 1, some ⟨gg, 0, none⟩, cpn, by have := unhide HLt; omega, by go_num, rfl, unhide HSn, unhide HBe5⟩
        case measure => have := unhide HLt; simp [intOf]; omega
     ·rw [decide_eq_false hm] at hca
      rw [if_neg hm] at hts
      rw [← hts] at hO ⊢
      have HO := hide hO; have HBq := hide hbq; have HCa := hide hca; have HLt := hide hlt
      clear hO hbq hca hlt hts hm q0 q1 hBl hbw hb13 hj c0 c1 c2
      go_wp2_with (go_at_call 37; refine (unhide HCa).mono ?_; rintro e w6 ⟨rfl, rfl⟩)
      go_roundw
      case rel => exact ⟨j + 1, a, cp, by have := unhide HLt; omega, by go_num, rfl, unhide HO, unhide HBq⟩
      case measure => have := unhide HLt; simp [intOf]; omega
    ·have hjk : k = j := by omega
     subst hjk
     have htd : tdk l R k = trimD l := by unfold tdk trimD; rw [← unhide HR, ← unhide HN]
     rw [htd] at hO ⊢
     have hS1 := unhide HS1
     have hwA := (unhide HB3).size
     have h0 : 0 < (trimD l).length := by rw [← trimD_eq (unhide HC), trimB_len]; exact (rch_ok (unhide HC)).1
     obtain ⟨B, cap, e, hBo⟩ := BoR.of hO h0 (A := fun q => q = w.heap.size ∨ q = w.heap.size + 1 ∨ F q) (fun q hq h => by
      rcases h with h | h | h
      ·rcases hq.2 with h2 | h2 <;> omega
      ·rcases hq.2 with h2 | h2 <;> omega
      ·exact hq.1 h)
     cases e
     have hnb := hBo.nb
     have hBo6 := hBo.setA (a := w.heap.size) (i := 3) (.inl rfl) (by omega) (.slice (some ⟨B, 0, none⟩) (trimD l).length cp)
     have q6 : (wq.setCell ⟨w.heap.size, 3, none⟩ (.slice (some ⟨B, 0, none⟩) (trimD l).length cp)).heap[w.heap.size]? = some (.cells (cob pa re rs (.slice (some ⟨B, 0, none⟩) (trimD l).length cp)) 24 (0, 0)) := (heap_setCell_same wq w.heap.size 3 _ _ _ q0).trans rfl
     have q7 : (wq.setCell ⟨w.heap.size, 3, none⟩ (.slice (some ⟨B, 0, none⟩) (trimD l).length cp)).heap[w.heap.size + 1]? = some (.cells (cob 0 0 false (.slice none 0 0)) 24 (0, 0)) := (heap_setCell_other wq ⟨w.heap.size, 3, none⟩ _ _ (by show w.heap.size + 1 ≠ w.heap.size; omega)).trans q1
     have hbw6 := hbw.setCell (p := ⟨w.heap.size, 3, none⟩) (Nat.le_refl _) (.slice (some ⟨B, 0, none⟩) (trimD l).length cp)
     have HBo6 := hide hBo6; have HQ6 := hide q6; have HQ7 := hide q7; have HBw6 := hide hbw6; have HNb := hide hnb; have HwA := hide hwA
     clear hBo6 q6 q7 hbw6 hBo hO q0 q1 hbw hlt hj htd h0 hnb hBl hb13 hbq c0 c1 c2
     go_upto_region 24 with fail
     generalize wq.setCell ⟨w.heap.size, 3, none⟩ (.slice (some ⟨B, 0, none⟩) (trimD l).length cp) = W6 at *
     clear c3' cf cl
     have hnb := unhide HNb
     obtain ⟨c0, c1, c2, c3, cf, cl3⟩ := cob_cells (unhide HQ6)
     obtain ⟨y0, y1, y2, y3, yf, yl⟩ := cob_cells (unhide HQ7)
     have hb := ((((unhide HBo6).setA (a := w.heap.size + 1) (i := 0) (.inr (.inl rfl)) (by omega) (.int .i64 pa)).setA (a := w.heap.size + 1) (i := 1) (.inr (.inl rfl)) (by omega) (.int .i64 re)).setA (a := w.heap.size + 1) (i := 2) (.inr (.inl rfl)) (by omega) (.bool rs)).setA (a := w.heap.size + 1) (i := 3) (.inr (.inl rfl)) (by omega) (.slice (some ⟨B, 0, none⟩) (trimD l).length cp)
     have hfin := hb.weak (M := w.heap.size) (A' := F) (by omega) (fun q hq => .inr (.inr hq))
     have hr8 := set4c W6 (w.heap.size + 1) _ _ _ _ _ (.int .i64 pa) (.int .i64 re) (.bool rs) (.slice (some ⟨B, 0, none⟩) (trimD l).length cp) (unhide HQ7)
     have hb8 := Vc.bel4 (unhide HBw6) (w.heap.size + 1) (Nat.le_succ _) (.int .i64 pa) (.int .i64 re) (.bool rs) (.slice (some ⟨B, 0, none⟩) (trimD l).length cp)
     have HFn := hide hfin; have HR8 := hide hr8; have HB8 := hide hb8
     clear hfin hr8 hb8 hb hnb
     go_wp2_with fail
     generalize (((W6.setCell ⟨w.heap.size + 1, 0, none⟩ (.int .i64 pa)).setCell ⟨w.heap.size + 1, 1, none⟩ (.int .i64 re)).setCell ⟨w.heap.size + 1, 2, none⟩ (.bool rs)).setCell ⟨w.heap.size + 1, 3, none⟩ (.slice (some ⟨B, 0, none⟩) (trimD l).length cp) = W8 at *
     have u0 := cell_of_row W8 (w.heap.size + 1) 0 _ _ _ (unhide HR8); have u1 := cell_of_row W8 (w.heap.size + 1) 1 _ _ _ (unhide HR8); have u2 := cell_of_row W8 (w.heap.size + 1) 2 _ _ _ (unhide HR8); have u3 := cell_of_row W8 (w.heap.size + 1) 3 _ _ _ (unhide HR8)
     simp only [List.getElem?_toArray, List.getElem?_cons_zero, List.getElem?_cons_succ] at u0 u1 u2 u3
     exact bodyPost_ret (v := .agg #[.int .i64 pa, .int .i64 re, .bool rs, .slice (some ⟨B, 0, none⟩) (trimD l).length cp]) (by simp [results, Tryz.results21, go_sem, u0, u1, u2, u3]) rfl ⟨_, _, rfl, unhide HFn, unhide HB8⟩
end Fw
end Go.Proofs.YtglehoekehiaiaaGreatDoor
