/- O5: what follows, part by part: each part tells what it holds. -/
import Derived.Test.YtglehoekehiaiaaGreatDoorK28
import Derived.Test.YtglehoekehiaiaaGreatDoorK27
import Derived.Test.YtglehoekehiaiaaGreatDoorK32
import Derived.Test.YtglehoekehiaiaaGreatDoorK33
import Derived.Test.YtglehoekehiaiaaGreatDoorO4
import Derived.Test.YtglehoekehiaiaaGreatDoorOX
import Derived.Test.YtglehoekehiaiaaGreatDoorK11
import Derived.Deep.RegionHeld3
namespace Go.Proofs.YtglehoekehiaiaaGreatDoor
open Go.RowKit
set_option linter.unusedVariables false
set_option linter.unusedSimpArgs false
set_option maxRecDepth 100000
set_option maxHeartbeats 32000000
namespace Fw
open Vc (NumsL Nums Lies LL Bls BlC InC Bl Co WfC WfB WfC0 chk siz Fms infoN infoBl own_base RowT cob cob_cells)
/- the statements' walks: code that lies in a box. -/
theorem siz_tot8 (l : List Bl) : siz l ≤ Vc.tot l := by
 induction l with
 | nil => simp [siz, Vc.tot]
 | cons b l ih =>
   have h := Vc.len_totI b.ins
   unfold siz Vc.tot at *
   simp only [List.map_cons, List.sum_cons] at *
   omega
/-- code that lies in a box -/
structure Bx (W : World) (N : Nat) (T : TypeId) (c : Co) (v : Value) : Prop where
 b : W.heap[N]? = some (.cells (cob c.pa c.re c.rs v) T (0, 0))
 l : Bls W (fun k => k < W.heap.size) c.bl v
theorem Bx.lt {W : World} {N : Nat} {T : TypeId} {c : Co} {v : Value} (h : Bx W N T c v) : N < W.heap.size := (Array.getElem?_eq_some_iff.1 h.b).1
theorem bls_up {W W' : World} {l : List Bl} {v : Value} (h : Bls W (fun k => k < W.heap.size) l v) (hb : Below W.heap.size W W') : Bls W' (fun k => k < W'.heap.size) l v := h.moved (fun k hk _ => ⟨Nat.lt_of_lt_of_le hk hb.size, hb.block k hk⟩) hb.size
theorem Bx.on {W W' : World} {N : Nat} {T : TypeId} {c : Co} {v : Value} (h : Bx W N T c v) (hb : Below W.heap.size W W') : Bx W' N T c v := ⟨(hb.block N h.lt).trans h.b, bls_up h.l hb⟩
theorem Bx.cls {W : World} {N : Nat} {T : TypeId} {c : Co} {v : Value} (h : Bx W N T c v) : W.cell? ⟨N, 0, none⟩ = some (.int .i64 c.pa) ∧ W.cell? ⟨N, 1, none⟩ = some (.int .i64 c.re) ∧ W.cell? ⟨N, 2, none⟩ = some (.bool c.rs) ∧ W.cell? ⟨N, 3, none⟩ = some v := by
 obtain ⟨x0, x1, x2, x3, _, _⟩ := cob_cells h.b
 exact ⟨x0, x1, x2, x3⟩
theorem Bx.new (W : World) (T : TypeId) (c : Co) {v : Value} (h : Bls W (fun k => k < W.heap.size) c.bl v) : Bx (W.alloc (.cells (cob c.pa c.re c.rs v) T)) W.heap.size T c v := ⟨heap_alloc_new _ _, bls_up h (Vc.one_alloc W _)⟩
/- FlowOrders: its walk. By mkfzi.py. -/
theorem over_list {nx : List (List Nat)} (hn : In nx) (h1 : 0 < nx.length) : over nx = ovl nx nx.length := by
 have hl : (over nx).length = nx.length := by unfold over; exact ovs_len _ _ _ _
 refine List.ext_getElem (by rw [hl, ovl_len]) fun i a b => ?_
 have := over_eq hn h1 i (by omega)
 rw [getD_get _ _ _ a] at this
 rw [this]
 have h2 : (ovl nx nx.length)[i] = ovD nx i := by simp [ovl]
 exact h2.symm
theorem nums_up {W W' : World} {l : List Int} {v : Value} (h : NumsL W (fun k => k < W.heap.size) l v) (hb : Below W.heap.size W W') : NumsL W' (fun k => k < W'.heap.size) l v := h.moved fun k hk _ => ⟨Nat.lt_of_lt_of_le hk hb.size, hb.block k hk⟩
theorem rws_up {W W' : World} {l : List (List Nat)} {v : Value} (h : Rws W (fun k => k < W.heap.size) l v) (hb : Below W.heap.size W W') : Rws W' (fun k => k < W'.heap.size) l v := h.moved (fun k hk _ => ⟨Nat.lt_of_lt_of_le hk hb.size, hb.block k hk⟩) hb.size
/-- two lists of ints that are the same -/
theorem ints_g (x : List Int) {g g2 : Nat → Prop} {va vb : Value} (w : World) (ha : NumsL w g x va) (hb : NumsL w g2 x vb) (hl : x.length ≤ 1099511627776) :
    Calls Tryz.prog 14 #[va, vb] w fun e w' => e = .returned (.bool true) ∧ Below w.heap.size w w' := by
 have h := ints_any x x hl hl va vb w (ha.moved fun k hk _ => ⟨hk, rfl⟩) (hb.moved fun k hk _ => ⟨hk, rfl⟩)
 rw [show decide (x = x) = true from decide_eq_true rfl] at h
 exact h
theorem order_g {c : Co} (hw : WfC c) (hc : chk c = true) {v : Value} {W : World} (hT : Fms W) (h : Bls W (fun k => k < W.heap.size) c.bl v) :
    Calls Tryz.prog 8 #[.agg #[.int .i64 c.pa, .int .i64 c.re, .bool c.rs, v]] W fun e w' => ∃ a n cp, e = .returned (.tuple #[.slice a n cp, .nilIface]) ∧ NumsL w' (fun k => k < w'.heap.size) (nz (walk (nxs c.bl)).lf).reverse (.slice a n cp) ∧ Below W.heap.size W w' := by
 refine (order_yes c hw hc _ v W hT h (fun k hk => hk)).mono ?_
 rintro e w' ⟨u, rfl, hb, hbe⟩
 obtain ⟨a, cp, rfl, -⟩ := hb.sl
 exact ⟨_, _, _, rfl, hb.nums.moved fun k _ h => ⟨h.2, rfl⟩, hbe⟩
theorem over_g {c : Co} (hw : WfC c) (hc : chk c = true) {v : Value} {W : World} (hT : Fms W) (h : Bls W (fun k => k < W.heap.size) c.bl v) :
    Calls Tryz.prog 10 #[.agg #[.int .i64 c.pa, .int .i64 c.re, .bool c.rs, v]] W fun e w' => ∃ a n cp, e = .returned (.tuple #[.slice a n cp, .nilIface]) ∧ NumsL w' (fun k => k < w'.heap.size) (ovl (nxs c.bl) c.bl.length) (.slice a n cp) ∧ Below W.heap.size W w' := by
 have hk := cok_of c hc
 refine (over_yes c hw hc _ v W hT h (fun k hk => hk)).mono ?_
 rintro e w' ⟨u, rfl, hb, hbe⟩
 rw [over_list hk.nok.inn (by rw [nxs_len]; exact hk.one), nxs_len] at hb
 obtain ⟨a, cp, rfl, -⟩ := hb.sl
 exact ⟨_, _, _, rfl, hb.nums.moved fun k _ h => ⟨h.2, rfl⟩, hbe⟩
theorem ahead_g {c : Co} (hw : WfC c) (hc : chk c = true) {v : Value} {W : World} (hT : Fms W) (h : Bls W (fun k => k < W.heap.size) c.bl v) :
    Calls Tryz.prog 9 #[.agg #[.int .i64 c.pa, .int .i64 c.re, .bool c.rs, v]] W fun e w' => ∃ a cp, e = .returned (.tuple #[.slice a c.bl.length cp, .nilIface]) ∧ Rws w' (fun k => k < w'.heap.size) (ahl (nxs c.bl) c.bl.length) (.slice a c.bl.length cp) ∧ Below W.heap.size W w' := by
 refine (ahead_yes c hw hc _ v W hT h (fun k hk => hk)).mono ?_
 rintro e w' ⟨u, rfl, hb, hbe⟩
 obtain ⟨a, cp, rfl, -⟩ := id hb
 rw [ahl_len] at hb ⊢
 exact ⟨_, _, rfl, hb, hbe⟩
theorem rorder_g {c : Co} (hc : chk c = true) {v : Value} {W : World} (h : Bls W (fun k => k < W.heap.size) c.bl v) :
    Calls Tryz.prog 15 #[.agg #[.int .i64 c.pa, .int .i64 c.re, .bool c.rs, v]] W fun e w' => ∃ a n cp, e = .returned (.slice a n cp) ∧ NumsL w' (fun k => k < w'.heap.size) (nz (walk (nxs c.bl)).lf).reverse (.slice a n cp) ∧ Below W.heap.size W w' := by
 have hk := cok_of c hc
 refine (rorder_any c.bl hk.nok hk.one c.pa c.re c.rs v W h).mono ?_
 rintro e w' ⟨u, rfl, hb, hbe⟩
 obtain ⟨a, cp, rfl, -⟩ := id hb
 exact ⟨_, _, _, rfl, hb, hbe⟩
theorem rover_g {c : Co} (hc : chk c = true) {v : Value} {W : World} (h : Bls W (fun k => k < W.heap.size) c.bl v) :
    Calls Tryz.prog 16 #[.agg #[.int .i64 c.pa, .int .i64 c.re, .bool c.rs, v]] W fun e w' => ∃ a n cp, e = .returned (.slice a n cp) ∧ NumsL w' (fun k => k < w'.heap.size) (ovl (nxs c.bl) c.bl.length) (.slice a n cp) ∧ Below W.heap.size W w' := by
 have hk := cok_of c hc
 refine (rover_any c.bl hk.nok hk.one c.pa c.re c.rs v W h).mono ?_
 rintro e w' ⟨u, rfl, hb, hbe⟩
 obtain ⟨a, cp, rfl, -⟩ := id hb
 exact ⟨_, _, _, rfl, hb, hbe⟩
theorem rahead_g {c : Co} (hc : chk c = true) {v : Value} {W : World} (h : Bls W (fun k => k < W.heap.size) c.bl v) :
    Calls Tryz.prog 13 #[.agg #[.int .i64 c.pa, .int .i64 c.re, .bool c.rs, v]] W fun e w' => ∃ a cp, e = .returned (.slice a c.bl.length cp) ∧ Rws w' (fun k => k < w'.heap.size) (ahl (nxs c.bl) c.bl.length) (.slice a c.bl.length cp) ∧ Below W.heap.size W w' := by
 have hk := cok_of c hc
 refine (rahead_any c.bl hk.nok c.pa c.re c.rs v W h).mono ?_
 rintro e w' ⟨u, rfl, hb, hbe⟩
 obtain ⟨a, cp, rfl, -⟩ := id hb
 rw [ahl_len] at hb ⊢
 exact ⟨_, _, rfl, hb, hbe⟩
theorem orders_walk (c : Co) (hc0 : WfC0 c) (v : Value) (w : World) (hT : Fms w) (hEr : ErrT w) (hv : Bls w (fun k => k < w.heap.size) c.bl v) :
    Calls Tryz.prog 3 #[.agg #[.int .i64 c.pa, .int .i64 c.re, .bool c.rs, v]] w fun e w' => e = .returned (.bool true) ∧ Below w.heap.size w w' := by
 have hsure := fun W (h : Below w.heap.size w W) => sure_any W (hT.below h)
 have hheavy := fun W g va (hb : Bls W g c.bl va) => Vc.heavy_any c.pa c.re c.rs c.bl hc0.bl g va W hb hc0.len
 have hnum := fun W (h : Below w.heap.size w W) => num_hit 1 W (hEr.below (Nat.le_refl _) h)
 obtain ⟨a, cp, rfl, -, -, -⟩ := id hv
 have hb0 := Bx.new w 24 c hv
 have hbe := Vc.one_alloc w (.cells (cob c.pa c.re c.rs (.slice a c.bl.length cp)) 24)
 obtain ⟨n, hn⟩ : ∃ n, n = c.bl.length := ⟨_, rfl⟩
 rw [← hn] at hb0 hbe ⊢
 have HSu := hide hsure; have HHe := hide hheavy; have HNu := hide hnum; have HT := hide hT; have HC0 := hide hc0; have HB0 := hide hb0; have HBe := hide hbe; have HNn := hide hn
 clear hsure hheavy hnum hT hEr hc0 hb0 hbe hv hn
 go_enter Tryz.func3, Tryz.ntmps3
 go_upto_region 1 with fail
 rw [show w.alloc (.cells #[.int .i64 c.pa, .int .i64 c.re, .bool c.rs, .slice a n cp] 24) = w.alloc (.cells (cob c.pa c.re c.rs (.slice a n cp)) 24) from rfl]
 generalize w.alloc (.cells (cob c.pa c.re c.rs (.slice a n cp)) 24) = W1 at *
 obtain ⟨x0, x1, x2, x3⟩ := (unhide HB0).cls
 go_wp2_with fail
 refine (unhide HHe W1 _ _ (unhide HB0).l).mono ?_
 rintro e w2 ⟨⟨hb, rfl, hhv⟩, hb2⟩
 have hx := (unhide HB0).on hb2
 have hbe := (unhide HBe).trans (hb2.mono (unhide HBe).size)
 have HB0 := hide hx; have HBe := hide hbe; have HHv := hide hhv
 clear hx hbe hhv x0 x1 x2 x3 hb2 HHe
 obtain ⟨x0, x1, x2, x3⟩ := (unhide HB0).cls
 cases hb with
 | true =>
   clear HHv
   go_wp2_with fail
   refine (unhide HSu w2 (unhide HBe)).mono ?_
   rintro e w3 ⟨rfl, hb3⟩
   have HB3 := hide ((unhide HBe).trans (hb3.mono (unhide HBe).size))
   clear hb3
   go_wp2
   go_ret
   exact ⟨rfl, unhide HB3⟩
 | false =>
 have hh := unhide HHv rfl
 have hw := (unhide HC0).up hh.1 hh.2
 have hsz := siz_tot8 c.bl
 have HZ := hide (show siz c.bl ≤ 1099511627776 by have := hh.2; omega)
 have HW := hide hw
 have HN2 := hide (show n ≤ 200 by rw [unhide HNn]; exact hh.1)
 clear hh hw hsz HHv HC0
 go_wp2_with fail
 refine (Vc.give_any c (unhide HW) _ _ w2 (unhide HB0).l (fun k hk => hk)).mono ?_
 rintro e w3 ⟨va, rfl, hla, hb3⟩
 obtain ⟨aa, ca, rfl, -, -, -⟩ := id hla
 obtain ⟨n3, hn3⟩ : ∃ n3, n3 = c.bl.length := ⟨_, rfl⟩
 rw [← hn3] at hla ⊢
 have hx := ((unhide HB0).on hb3).on (Vc.one_alloc w3 (.cells (cob c.pa c.re c.rs (.slice aa n3 ca)) 29))
 have hbe := (unhide HBe).trans ((hb3.trans ((Vc.one_alloc w3 (.cells (cob c.pa c.re c.rs (.slice aa n3 ca)) 29)).mono hb3.size)).mono (unhide HBe).size)
 have hb3' := Bx.new w3 29 c hla
 have HB0 := hide hx; have HB3 := hide hb3'; have HBe := hide hbe
 clear hx hbe hb3' hla hb3 hn3 x0 x1 x2 x3
 go_upto_region 4 with fail
 rw [show w3.alloc (.cells #[.int .i64 c.pa, .int .i64 c.re, .bool c.rs, .slice aa n3 ca] 29) = w3.alloc (.cells (cob c.pa c.re c.rs (.slice aa n3 ca)) 29) from rfl]
 generalize w3.alloc (.cells (cob c.pa c.re c.rs (.slice aa n3 ca)) 29) = W4 at *
 generalize w3.heap.size = N3 at *
 cases hk : chk c with
 | true =>
   have HK := hide hk
   clear hk
   obtain ⟨y0, y1, y2, y3⟩ := (unhide HB3).cls
   go_wp2_with fail
   refine (order_g (unhide HW) (unhide HK) ((unhide HT).below (unhide HBe)) (unhide HB3).l).mono ?_
   rintro e w4 ⟨a4, n4, c4, rfl, hl4, hb4⟩
   have HL4 := hide hl4
   clear hl4 y0 y1 y2 y3
   have hHB0 := (unhide HB0).on hb4
   have hHB3 := (unhide HB3).on hb4
   have hbe := (unhide HBe).trans (hb4.mono (unhide HBe).size)
   have HB0 := hide hHB0; have HB3 := hide hHB3; have HBe := hide hbe
   clear hHB0 hHB3 hbe hb4
   go_upto_region 5 with fail
   obtain ⟨y0, y1, y2, y3⟩ := (unhide HB3).cls
   go_wp2_with fail
   refine (ahead_g (unhide HW) (unhide HK) ((unhide HT).below (unhide HBe)) (unhide HB3).l).mono ?_
   rintro e w6 ⟨a6, c6, rfl, hl6, hb6⟩
   rw [← unhide HNn] at hl6 ⊢
   have HR6 := hide hl6
   clear hl6 y0 y1 y2 y3
   have hHB0 := (unhide HB0).on hb6
   have hHB3 := (unhide HB3).on hb6
   have hHL4 := nums_up (unhide HL4) hb6
   have hbe := (unhide HBe).trans (hb6.mono (unhide HBe).size)
   have HB0 := hide hHB0; have HB3 := hide hHB3; have HL4 := hide hHL4; have HBe := hide hbe
   clear hHB0 hHB3 hHL4 hbe hb6
   go_upto_region 6 with fail
   obtain ⟨y0, y1, y2, y3⟩ := (unhide HB3).cls
   go_wp2_with fail
   refine (over_g (unhide HW) (unhide HK) ((unhide HT).below (unhide HBe)) (unhide HB3).l).mono ?_
   rintro e w8 ⟨a8, n8, c8, rfl, hl8, hb8⟩
   have HL8 := hide hl8
   clear hl8 y0 y1 y2 y3
   have hHB0 := (unhide HB0).on hb8
   have hHB3 := (unhide HB3).on hb8
   have hHL4 := nums_up (unhide HL4) hb8
   have hHR6 := rws_up (unhide HR6) hb8
   have hbe := (unhide HBe).trans (hb8.mono (unhide HBe).size)
   have HB0 := hide hHB0; have HB3 := hide hHB3; have HL4 := hide hHL4; have HR6 := hide hHR6; have HBe := hide hbe
   clear hHB0 hHB3 hHL4 hHR6 hbe hb8
   go_upto_region 7 with fail
   obtain ⟨x0, x1, x2, x3⟩ := (unhide HB0).cls
   go_wp2_with fail
   refine (Vc.rmay_any c (unhide HW) _ _ _ (unhide HB0).l (unhide HZ)).mono ?_
   rw [unhide HK]
   rintro e w10 ⟨rfl, hb10⟩
   clear x0 x1 x2 x3
   have hHB0 := (unhide HB0).on hb10
   have hHB3 := (unhide HB3).on hb10
   have hHL4 := nums_up (unhide HL4) hb10
   have hHR6 := rws_up (unhide HR6) hb10
   have hHL8 := nums_up (unhide HL8) hb10
   have hbe := (unhide HBe).trans (hb10.mono (unhide HBe).size)
   have HB0 := hide hHB0; have HB3 := hide hHB3; have HL4 := hide hHL4; have HR6 := hide hHR6; have HL8 := hide hHL8; have HBe := hide hbe
   clear hHB0 hHB3 hHL4 hHR6 hHL8 hbe hb10
   go_upto_region 9 with fail
   obtain ⟨x0, x1, x2, x3⟩ := (unhide HB0).cls
   go_wp2_with fail
   refine (rahead_g (unhide HK) (unhide HB0).l).mono ?_
   rintro e w11 ⟨a9, c9, rfl, hl9, hb11⟩
   rw [← unhide HNn] at hl9 ⊢
   have HR9 := hide hl9
   clear hl9 x0 x1 x2 x3
   have hHB0 := (unhide HB0).on hb11
   have hHB3 := (unhide HB3).on hb11
   have hHL4 := nums_up (unhide HL4) hb11
   have hHR6 := rws_up (unhide HR6) hb11
   have hHL8 := nums_up (unhide HL8) hb11
   have hbe := (unhide HBe).trans (hb11.mono (unhide HBe).size)
   have HB0 := hide hHB0; have HB3 := hide hHB3; have HL4 := hide hHL4; have HR6 := hide hHR6; have HL8 := hide hHL8; have HBe := hide hbe
   clear hHB0 hHB3 hHL4 hHR6 hHL8 hbe hb11
   go_upto_region 10 with fail
   obtain ⟨x0, x1, x2, x3⟩ := (unhide HB0).cls
   have hlO := hide (show (nz (walk (nxs c.bl)).lf).reverse.length ≤ 1099511627776 by
    have hk := cok_of c (unhide HK)
    have hwi := (walk_inv hk).1
    have h1 := hwi.ll; have h2 := hwi.ec; have h3 := hk.nok.len
    rw [List.length_reverse, nz_len]
    omega)
   have hlV := hide (show (ovl (nxs c.bl) c.bl.length).length ≤ 1099511627776 by rw [ovl_len]; have := (unhide HW).len; omega)
   have HD0 := hide True.intro
   go_upto_region 13 with (first
    | (go_at_call 15; refine (rorder_g (unhide HK) (unhide HB0).l).mono ?_; rintro e w12 ⟨a12, n12, c12, rfl, hl12, hb12⟩; have HD12 := hide hl12; clear hl12 x0 x1 x2 x3; have hHB0 := (unhide HB0).on hb12; have hHB3 := (unhide HB3).on hb12; have hHL4 := nums_up (unhide HL4) hb12; have hHR6 := rws_up (unhide HR6) hb12; have hHL8 := nums_up (unhide HL8) hb12; have hHR9 := rws_up (unhide HR9) hb12; have hbe := (unhide HBe).trans (hb12.mono (unhide HBe).size); have HB0 := hide hHB0; have HB3 := hide hHB3; have HL4 := hide hHL4; have HR6 := hide hHR6; have HL8 := hide hHL8; have HR9 := hide hHR9; have HBe := hide hbe; clear hHB0 hHB3 hHL4 hHR6 hHL8 hHR9 hbe hb12; obtain ⟨x0, x1, x2, x3⟩ := (unhide HB0).cls)
    | (go_at_call 16; refine (rover_g (unhide HK) (unhide HB0).l).mono ?_; rintro e w14 ⟨a14, n14, c14, rfl, hl14, hb14⟩; have HD14 := hide hl14; clear hl14 x0 x1 x2 x3; have hHB0 := (unhide HB0).on hb14; have hHB3 := (unhide HB3).on hb14; have hHL4 := nums_up (unhide HL4) hb14; have hHR6 := rws_up (unhide HR6) hb14; have hHL8 := nums_up (unhide HL8) hb14; have hHR9 := rws_up (unhide HR9) hb14; have hbe := (unhide HBe).trans (hb14.mono (unhide HBe).size); have HB0 := hide hHB0; have HB3 := hide hHB3; have HL4 := hide hHL4; have HR6 := hide hHR6; have HL8 := hide hHL8; have HR9 := hide hHR9; have HBe := hide hbe; clear hHB0 hHB3 hHL4 hHR6 hHL8 hHR9 hbe hb14; obtain ⟨x0, x1, x2, x3⟩ := (unhide HB0).cls)
    | (go_at_call 14; refine (ints_g _ _ (unhide HL8) (unhide HD14) (unhide hlV)).mono ?_; rintro e w15 ⟨rfl, hb15⟩; clear x0 x1 x2 x3 HD14; have hHB0 := (unhide HB0).on hb15; have hHB3 := (unhide HB3).on hb15; have hHL4 := nums_up (unhide HL4) hb15; have hHR6 := rws_up (unhide HR6) hb15; have hHL8 := nums_up (unhide HL8) hb15; have hHR9 := rws_up (unhide HR9) hb15; have hbe := (unhide HBe).trans (hb15.mono (unhide HBe).size); have HB0 := hide hHB0; have HB3 := hide hHB3; have HL4 := hide hHL4; have HR6 := hide hHR6; have HL8 := hide hHL8; have HR9 := hide hHR9; have HBe := hide hbe; clear hHB0 hHB3 hHL4 hHR6 hHL8 hHR9 hbe hb15; obtain ⟨x0, x1, x2, x3⟩ := (unhide HB0).cls)
    | (go_at_call 14; refine (ints_g _ _ (unhide HL4) (unhide HD12) (unhide hlO)).mono ?_; rintro e w13 ⟨rfl, hb13⟩; clear x0 x1 x2 x3 HD12; have hHB0 := (unhide HB0).on hb13; have hHB3 := (unhide HB3).on hb13; have hHL4 := nums_up (unhide HL4) hb13; have hHR6 := rws_up (unhide HR6) hb13; have hHL8 := nums_up (unhide HL8) hb13; have hHR9 := rws_up (unhide HR9) hb13; have hbe := (unhide HBe).trans (hb13.mono (unhide HBe).size); have HB0 := hide hHB0; have HB3 := hide hHB3; have HL4 := hide hHL4; have HR6 := hide hHR6; have HL8 := hide hHL8; have HR9 := hide hHR9; have HBe := hide hbe; clear hHB0 hHB3 hHL4 hHR6 hHL8 hHR9 hbe hb13; obtain ⟨x0, x1, x2, x3⟩ := (unhide HB0).cls))
   clear x0 x1 x2 x3 HB0 HB3 HL4 HL8 hlO hlV HD0
   generalize w15 = Wl at *
   have hni : (n : Int) ≤ 200 := by have := unhide HN2; omega
   go_loopw [11] (fun d wx => ∃ i : Nat, i ≤ n ∧ d = .int .i64 (i : Int) ∧ Below Wl.heap.size Wl wx) (fun d _ => n - (intOf d).toNat)
   case atStart => exact ⟨0, Nat.zero_le _, rfl, Below.refl _ _⟩
   case round =>
    obtain ⟨i, hi, rfl, hbi⟩ := hrel
    by_cases hlt : i < n
    ·have hr6 := rws_up (unhide HR6) hbi
     have hr9 := rws_up (unhide HR9) hbi
     obtain ⟨Ba, oa, va, hae, -, hBa, xa, hna⟩ := hr6.at_ (i := i) (by rw [ahl_len]; exact hlt)
     obtain ⟨Bb, ob, vb, hbe2, -, hBb, xb, hnb⟩ := hr9.at_ (i := i) (by rw [ahl_len]; exact hlt)
     subst hae
     subst hbe2
     have hin : (i : Int) < (n : Int) := by omega
     have hi0 : (0 : Int) ≤ (i : Int) := by omega
     have hrl : (nz ((ahl (nxs c.bl) n).getD i [])).length ≤ 1099511627776 := by
      have h1 : i < (ahl (nxs c.bl) n).length := by rw [ahl_len]; exact hlt
      have h3 : (ahl (nxs c.bl) n)[i]'h1 = rwk (nxs c.bl) i (nxs c.bl).length := by simp [ahl]
      rw [nz_len, getD_get _ _ _ h1, h3]
      have := rwk_len (nxs c.bl) i (nxs c.bl).length
      rw [nxs_len] at this ⊢
      have := (unhide HW).len
      omega
     have hints := ints_g _ wr.drew (hna.moved (w' := wr.drew) (g' := fun k => k < wr.heap.size) fun q _ h => ⟨h, rfl⟩) (hnb.moved (w' := wr.drew) (g' := fun k => k < wr.heap.size) fun q _ h => ⟨h, rfl⟩) hrl
     have hca : ∀ W, Below wr.heap.size wr W → W.cell? ⟨Ba, oa + i, none⟩ = some va ∧ W.cell? ⟨Bb, ob + i, none⟩ = some vb := fun W hW => ⟨(hW.cell (p := ⟨Ba, oa + i, none⟩) hBa).trans xa, (hW.cell (p := ⟨Bb, ob + i, none⟩) hBb).trans xb⟩
     have HIn := hide hints; have HCa := hide hca; have HBi := hide hbi; have HLt := hide hlt
     have gk := hca _ (bdrew (Below.refl _ _))
     have HWr := hide (show Below wr.heap.size wr wr.drew from bdrew (Below.refl _ _))
     clear hr6 hr9 hBa hBb hna hnb hrl hints hca hbi hlt hi
     go_upto_region 15 with fail
     go_region_held3 (fun W => W.cell? ⟨Ba, oa + i, none⟩ = some va ∧ W.cell? ⟨Bb, ob + i, none⟩ = some vb) (first | go_keep | exact gk)
      (first
       | (go_at_call 14; refine (unhide HIn).mono ?_; rintro e w17 ⟨rfl, hb17⟩; have hw17 := (unhide HWr).trans hb17; have gk := unhide HCa _ hw17; have HW17 := hide hw17; clear hb17 hw17))
     go_wp2_with fail
     go_roundw
     case rel => exact ⟨i + 1, by have := unhide HLt; omega, by go_num, (unhide HBi).trans ((unhide HW17).mono (unhide HBi).size)⟩
     case measure => have := unhide HLt; simp [intOf]; omega
    ·obtain rfl : i = n := by omega
     have HB20 := hide ((unhide HBe).trans (hbi.mono (unhide HBe).size))
     have hin : ¬ (i : Int) < (i : Int) := by omega
     clear hbi hlt hi
     go_wp2_with (go_at_call 6; refine (unhide HSu _ (unhide HB20)).mono ?_; rintro e w21 ⟨rfl, hb21⟩; have HB21 := hide ((unhide HB20).trans (hb21.mono (unhide HB20).size)); clear hb21)
     go_ret
     exact ⟨rfl, unhide HB21⟩
 | false =>
   have HK := hide hk
   clear hk
   obtain ⟨y0, y1, y2, y3⟩ := (unhide HB3).cls
   go_wp2_with fail
   refine (order_no c (unhide HW) (unhide HK) (unhide HZ) _ _ _ ((unhide HT).below (unhide HBe)) (unhide HB3).l (fun k hk => hk)).mono ?_
   rintro e w4 ⟨rfl, hb4⟩
   clear y0 y1 y2 y3
   have hHB0 := (unhide HB0).on hb4
   have hHB3 := (unhide HB3).on hb4
   have hbe := (unhide HBe).trans (hb4.mono (unhide HBe).size)
   have HB0 := hide hHB0; have HB3 := hide hHB3; have HBe := hide hbe
   clear hHB0 hHB3 hbe hb4
   go_upto_region 5 with fail
   obtain ⟨y0, y1, y2, y3⟩ := (unhide HB3).cls
   go_wp2_with fail
   refine (ahead_no c (unhide HW) (unhide HK) (unhide HZ) _ _ _ ((unhide HT).below (unhide HBe)) (unhide HB3).l (fun k hk => hk)).mono ?_
   rintro e w6 ⟨rfl, hb6⟩
   clear y0 y1 y2 y3
   have hHB0 := (unhide HB0).on hb6
   have hHB3 := (unhide HB3).on hb6
   have hbe := (unhide HBe).trans (hb6.mono (unhide HBe).size)
   have HB0 := hide hHB0; have HB3 := hide hHB3; have HBe := hide hbe
   clear hHB0 hHB3 hbe hb6
   go_upto_region 6 with fail
   obtain ⟨y0, y1, y2, y3⟩ := (unhide HB3).cls
   go_wp2_with fail
   refine (over_no c (unhide HW) (unhide HK) (unhide HZ) _ _ _ ((unhide HT).below (unhide HBe)) (unhide HB3).l (fun k hk => hk)).mono ?_
   rintro e w8 ⟨rfl, hb8⟩
   clear y0 y1 y2 y3
   have hHB0 := (unhide HB0).on hb8
   have hHB3 := (unhide HB3).on hb8
   have hbe := (unhide HBe).trans (hb8.mono (unhide HBe).size)
   have HB0 := hide hHB0; have HB3 := hide hHB3; have HBe := hide hbe
   clear hHB0 hHB3 hbe hb8
   go_upto_region 7 with fail
   obtain ⟨x0, x1, x2, x3⟩ := (unhide HB0).cls
   go_wp2_with fail
   refine (Vc.rmay_any c (unhide HW) _ _ _ (unhide HB0).l (unhide HZ)).mono ?_
   rw [unhide HK]
   rintro e w10 ⟨rfl, hb10⟩
   clear x0 x1 x2 x3
   have hHB0 := (unhide HB0).on hb10
   have hHB3 := (unhide HB3).on hb10
   have hbe := (unhide HBe).trans (hb10.mono (unhide HBe).size)
   have HB0 := hide hHB0; have HB3 := hide hHB3; have HBe := hide hbe
   clear hHB0 hHB3 hbe hb10
   clear HB0 HB3
   go_upto_region 8 with fail
   go_wp2_with (first
    | (go_at_call 12; refine (unhide HNu _ (unhide HBe)).mono ?_; rintro e w7 ⟨rfl, hb7⟩; have HBe := hide ((unhide HBe).trans (hb7.mono (unhide HBe).size)); clear hb7)
    | (go_at_call 6; refine (unhide HSu _ (unhide HBe)).mono ?_; rintro e w7 ⟨rfl, hb7⟩; have HBe := hide ((unhide HBe).trans (hb7.mono (unhide HBe).size)); clear hb7))
   go_ret
   exact ⟨rfl, unhide HBe⟩
end Fw
end Go.Proofs.YtglehoekehiaiaaGreatDoor
