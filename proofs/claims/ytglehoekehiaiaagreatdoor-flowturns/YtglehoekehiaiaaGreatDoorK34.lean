/- K34: what follows, part by part: each part tells what it holds. -/
import Derived.Test.YtglehoekehiaiaaGreatDoorK25
import Derived.Test.YtglehoekehiaiaaGreatDoorK26
import Derived.Test.YtglehoekehiaiaaGreatDoorK27
import Derived.Test.YtglehoekehiaiaaGreatDoorK28
import Derived.Test.YtglehoekehiaiaaGreatDoorK32
import Derived.Test.YtglehoekehiaiaaGreatDoorK33
import Derived.Deep.RegionHeld3
namespace Go.Proofs.YtglehoekehiaiaaGreatDoor
open Go.RowKit
set_option linter.unusedVariables false
set_option linter.unusedSimpArgs false
set_option maxRecDepth 100000
set_option maxHeartbeats 32000000
namespace Fw
open Vc (NumsL Nums Lies LL Bls BlC InC Bl Co WfC WfB WfC0 chk siz Fms infoN infoBl own_base RowT cob cob_cells)
/- FlowTurns: what its walk calls, as the walk takes it. -/
theorem siz_tot8 (l : List Bl) : siz l ≤ Vc.tot l := by
 induction l with
 | nil => simp [siz, Vc.tot]
 | cons b l ih =>
   have h := Vc.len_totI b.ins
   unfold siz Vc.tot at *
   simp only [List.map_cons, List.sum_cons] at *
   omega
/-- code that lies in a box -/
structure Bx (W : World) (N : Nat) (T : TypeId) (c : Co) (v : Value) : Prop where
 b : W.heap[N]? = some (.cells (cob c.pa c.re c.rs v) T (0, 0))
 l : Bls W (fun k => k < W.heap.size) c.bl v
theorem Bx.lt {W : World} {N : Nat} {T : TypeId} {c : Co} {v : Value} (h : Bx W N T c v) : N < W.heap.size := (Array.getElem?_eq_some_iff.1 h.b).1
theorem bls_up {W W' : World} {l : List Bl} {v : Value} (h : Bls W (fun k => k < W.heap.size) l v) (hb : Below W.heap.size W W') : Bls W' (fun k => k < W'.heap.size) l v := h.moved (fun k hk _ => ⟨Nat.lt_of_lt_of_le hk hb.size, hb.block k hk⟩) hb.size
theorem Bx.on {W W' : World} {N : Nat} {T : TypeId} {c : Co} {v : Value} (h : Bx W N T c v) (hb : Below W.heap.size W W') : Bx W' N T c v := ⟨(hb.block N h.lt).trans h.b, bls_up h.l hb⟩
theorem Bx.cls {W : World} {N : Nat} {T : TypeId} {c : Co} {v : Value} (h : Bx W N T c v) : W.cell? ⟨N, 0, none⟩ = some (.int .i64 c.pa) ∧ W.cell? ⟨N, 1, none⟩ = some (.int .i64 c.re) ∧ W.cell? ⟨N, 2, none⟩ = some (.bool c.rs) ∧ W.cell? ⟨N, 3, none⟩ = some v := by
 obtain ⟨x0, x1, x2, x3, _, _⟩ := cob_cells h.b
 exact ⟨x0, x1, x2, x3⟩
theorem Bx.new (W : World) (T : TypeId) (c : Co) {v : Value} (h : Bls W (fun k => k < W.heap.size) c.bl v) : Bx (W.alloc (.cells (cob c.pa c.re c.rs v) T)) W.heap.size T c v := ⟨heap_alloc_new _ _, bls_up h (Vc.one_alloc W _)⟩
theorem join_eq {l : List Bl} (hk : Cok l) (f : Few l) : trimD (joinA (trimD l)) = joinB l := by
 have f1 := few_trim hk f
 have h := trimD_eq (cok_join (cok_trim hk) f1.len f1.ins (takes (trimB l)))
 unfold joinB joinA
 rw [h, trimD_eq hk]
theorem opb_of {c : Co} (hw : WfC c) : Opb c.bl := fun b hb y hy => ((hw.bl b hb).ins y hy).op
def Gives (F : Nat) (pa re : Int) (rs : Bool) (v : Value) (l : List Bl) (W : World) : Prop :=
 Calls Tryz.prog F #[.agg #[.int .i64 pa, .int .i64 re, .bool rs, v]] W fun e w' => ∃ a n cp, e = .returned (.agg #[.int .i64 pa, .int .i64 re, .bool rs, .slice a n cp]) ∧ Bls w' (fun k => k < w'.heap.size) l (.slice a n cp) ∧ Below W.heap.size W w'
def Gives2 (F : Nat) (pa re : Int) (rs : Bool) (v : Value) (l : List Bl) (W : World) : Prop :=
 Calls Tryz.prog F #[.agg #[.int .i64 pa, .int .i64 re, .bool rs, v]] W fun e w' => ∃ a n cp, e = .returned (.tuple #[.agg #[.int .i64 pa, .int .i64 re, .bool rs, .slice a n cp], .nilIface]) ∧ Bls w' (fun k => k < w'.heap.size) l (.slice a n cp) ∧ Below W.heap.size W w'
theorem rtrim_g {c : Co} (hk : Cok c.bl) {v : Value} {W : World} (h : Bls W (fun k => k < W.heap.size) c.bl v) : Gives 21 c.pa c.re c.rs v (trimB c.bl) W := by
 refine (rtrim_any c.bl hk c.pa c.re c.rs (fun k => k < W.heap.size) (fun _ => False) v W h (fun k hk => ⟨hk, fun h => h⟩) (fun k h => h.elim)).mono ?_
 rintro e w' ⟨B, cap, rfl, hb, hbe⟩
 rw [← trimD_eq hk] at hb ⊢
 exact ⟨_, _, _, rfl, hb.blsA rfl _ (fun k hk _ => hk), hbe⟩
theorem rthread_g {c : Co} (hw : WfC c) (hc : chk c = true) {v : Value} {W : World} (h : Bls W (fun k => k < W.heap.size) c.bl v) : Gives 22 c.pa c.re c.rs v (thrB c.bl) W := by
 refine (rthread_any c.bl (cok_of c hc) (str_of c hc) (opb_of hw) c.pa c.re c.rs v W h).mono ?_
 rintro e w' ⟨v', rfl, hb, hbe⟩
 rw [← thrD_eq (cok_of c hc) (str_of c hc)] at hb
 obtain ⟨a, cp, rfl, -, -, -⟩ := id hb
 exact ⟨_, _, _, rfl, hb, hbe⟩
theorem rjoin_g {c : Co} (hw : WfC c) (hc : chk c = true) {v : Value} {W : World} (h : Bls W (fun k => k < W.heap.size) c.bl v) : Gives 23 c.pa c.re c.rs v (joinB c.bl) W := by
 refine (rjoin_any c.bl (cok_of c hc) (few_of c hc) (opb_of hw) c.pa c.re c.rs v W h).mono ?_
 rintro e w' ⟨v', rfl, hb, hbe⟩
 rw [join_eq (cok_of c hc) (few_of c hc)] at hb
 obtain ⟨a, cp, rfl, -, -, -⟩ := id hb
 exact ⟨_, _, _, rfl, hb, hbe⟩
theorem trim_g {c : Co} (hw : WfC c) (hc : chk c = true) {v : Value} {W : World} (hT : Fms W) (h : Bls W (fun k => k < W.heap.size) c.bl v) : Gives2 17 c.pa c.re c.rs v (trimB c.bl) W := by
 refine (trim_yes c hw hc _ v W hT h (fun k hk => hk)).mono ?_
 rintro e w' ⟨u, rfl, hb, hbe⟩
 obtain ⟨a, cp, rfl, -, -, -⟩ := id hb
 exact ⟨_, _, _, rfl, hb.moved (fun k _ h => ⟨h.2, rfl⟩) (Nat.le_refl _), hbe⟩
theorem thread_g {c : Co} (hw : WfC c) (hc : chk c = true) {v : Value} {W : World} (hT : Fms W) (h : Bls W (fun k => k < W.heap.size) c.bl v) : Gives2 18 c.pa c.re c.rs v (thrB c.bl) W := by
 refine (thread_yes c hw hc _ v W hT h (fun k hk => hk)).mono ?_
 rintro e w' ⟨u, rfl, hb, hbe⟩
 obtain ⟨a, cp, rfl, -, -, -⟩ := id hb
 exact ⟨_, _, _, rfl, hb.moved (fun k _ h => ⟨h.2, rfl⟩) (Nat.le_refl _), hbe⟩
theorem join_g {c : Co} (hw : WfC c) (hc : chk c = true) {v : Value} {W : World} (hT : Fms W) (h : Bls W (fun k => k < W.heap.size) c.bl v) : Gives2 19 c.pa c.re c.rs v (joinB c.bl) W := by
 refine (join_yes c hw hc (ends_all (cok_trim (cok_of c hc))) _ v W hT h (fun k hk => hk)).mono ?_
 rintro e w' ⟨u, rfl, hb, hbe⟩
 obtain ⟨a, cp, rfl, -, -, -⟩ := id hb
 exact ⟨_, _, _, rfl, hb.moved (fun k _ h => ⟨h.2, rfl⟩) (Nat.le_refl _), hbe⟩
theorem same_g {x : Co} (hx : WfC x) {va vb : Value} {W : World} (h1 : Bls W (fun k => k < W.heap.size) x.bl va) (h2 : Bls W (fun k => k < W.heap.size) x.bl vb) :
    Calls Tryz.prog 20 #[.agg #[.int .i64 x.pa, .int .i64 x.re, .bool x.rs, va], .agg #[.int .i64 x.pa, .int .i64 x.re, .bool x.rs, vb]] W fun e w' => e = .returned (.bool true) ∧ Below W.heap.size W w' := by
 have h := sames_any x x hx hx W h1 h2 (fun k hk => hk) (fun k hk => hk)
 rw [(Vc.sC_iff x x).2 rfl] at h
 exact h
/- FlowTurns: its walk. -/
/-- the codes that the walk holds: what came in, trimmed, threaded, joined -/
structure Tu (w : World) (c : Co) (v0 v4 v6 v8 : Value) (N4 N6 N8 : Nat) (W : World) : Prop where
 b0 : Bx W w.heap.size 24 c v0
 b4 : Bx W N4 29 ⟨c.pa, c.re, c.rs, trimB c.bl⟩ v4
 b6 : Bx W N6 29 ⟨c.pa, c.re, c.rs, thrB c.bl⟩ v6
 b8 : Bx W N8 29 ⟨c.pa, c.re, c.rs, joinB c.bl⟩ v8
 be : Below w.heap.size w W
theorem Tu.on {w : World} {c : Co} {v0 v4 v6 v8 : Value} {N4 N6 N8 : Nat} {W W' : World} (h : Tu w c v0 v4 v6 v8 N4 N6 N8 W) (hb : Below W.heap.size W W') : Tu w c v0 v4 v6 v8 N4 N6 N8 W' := ⟨h.b0.on hb, h.b4.on hb, h.b6.on hb, h.b8.on hb, h.be.trans (hb.mono h.be.size)⟩
theorem Tu.cls {w : World} {c : Co} {v0 v4 v6 v8 : Value} {N4 N6 N8 : Nat} {W : World} (h : Tu w c v0 v4 v6 v8 N4 N6 N8 W) : (W.cell? ⟨w.heap.size, 0, none⟩ = some (.int .i64 c.pa) ∧ W.cell? ⟨w.heap.size, 1, none⟩ = some (.int .i64 c.re) ∧ W.cell? ⟨w.heap.size, 2, none⟩ = some (.bool c.rs) ∧ W.cell? ⟨w.heap.size, 3, none⟩ = some (v0)) ∧ (W.cell? ⟨N4, 0, none⟩ = some (.int .i64 c.pa) ∧ W.cell? ⟨N4, 1, none⟩ = some (.int .i64 c.re) ∧ W.cell? ⟨N4, 2, none⟩ = some (.bool c.rs) ∧ W.cell? ⟨N4, 3, none⟩ = some (v4)) ∧ (W.cell? ⟨N6, 0, none⟩ = some (.int .i64 c.pa) ∧ W.cell? ⟨N6, 1, none⟩ = some (.int .i64 c.re) ∧ W.cell? ⟨N6, 2, none⟩ = some (.bool c.rs) ∧ W.cell? ⟨N6, 3, none⟩ = some (v6)) ∧ (W.cell? ⟨N8, 0, none⟩ = some (.int .i64 c.pa) ∧ W.cell? ⟨N8, 1, none⟩ = some (.int .i64 c.re) ∧ W.cell? ⟨N8, 2, none⟩ = some (.bool c.rs) ∧ W.cell? ⟨N8, 3, none⟩ = some (v8)) := ⟨h.b0.cls, h.b4.cls, h.b6.cls, h.b8.cls⟩
theorem turns_walk (c : Co) (hc0 : WfC0 c) (v : Value) (w : World) (hT : Fms w) (hEr : ErrT w) (hv : Bls w (fun k => k < w.heap.size) c.bl v) :
    Calls Tryz.prog 4 #[.agg #[.int .i64 c.pa, .int .i64 c.re, .bool c.rs, v]] w fun e w' => e = .returned (.bool true) ∧ Below w.heap.size w w' := by
 have hsure := fun W (h : Below w.heap.size w W) => sure_any W (hT.below h)
 have hheavy := fun W g va (hb : Bls W g c.bl va) => Vc.heavy_any c.pa c.re c.rs c.bl hc0.bl g va W hb hc0.len
 have hnum := fun W (h : Below w.heap.size w W) => num_hit 1 W (hEr.below (Nat.le_refl _) h)
 obtain ⟨a, cp, rfl, -, -, -⟩ := id hv
 have hb0 := Bx.new w 24 c hv
 have hbe := Vc.one_alloc w (.cells (cob c.pa c.re c.rs (.slice a c.bl.length cp)) 24)
 obtain ⟨n, hn⟩ : ∃ n, n = c.bl.length := ⟨_, rfl⟩
 rw [← hn] at hb0 hbe ⊢
 have HSu := hide hsure; have HHe := hide hheavy; have HNu := hide hnum; have HT := hide hT; have HC0 := hide hc0; have HB0 := hide hb0; have HBe := hide hbe
 clear hsure hheavy hnum hT hEr hc0 hb0 hbe hv hn
 go_enter Tryz.func4, Tryz.ntmps4
 go_upto_region 1 with fail
 rw [show w.alloc (.cells #[.int .i64 c.pa, .int .i64 c.re, .bool c.rs, .slice a n cp] 24) = w.alloc (.cells (cob c.pa c.re c.rs (.slice a n cp)) 24) from rfl]
 generalize w.alloc (.cells (cob c.pa c.re c.rs (.slice a n cp)) 24) = W1 at *
 obtain ⟨x0, x1, x2, x3⟩ := (unhide HB0).cls
 go_wp2_with fail
 refine (unhide HHe W1 _ _ (unhide HB0).l).mono ?_
 rintro e w2 ⟨⟨hb, rfl, hhv⟩, hb2⟩
 have hx := (unhide HB0).on hb2
 have hbe := (unhide HBe).trans (hb2.mono (unhide HBe).size)
 have HB0 := hide hx; have HBe := hide hbe; have HHv := hide hhv
 clear hx hbe hhv x0 x1 x2 x3 hb2 HHe
 obtain ⟨x0, x1, x2, x3⟩ := (unhide HB0).cls
 cases hb with
 | true =>
   clear HHv
   go_wp2_with fail
   refine (unhide HSu w2 (unhide HBe)).mono ?_
   rintro e w3 ⟨rfl, hb3⟩
   have HB3 := hide ((unhide HBe).trans (hb3.mono (unhide HBe).size))
   clear hb3
   go_wp2
   go_ret
   exact ⟨rfl, unhide HB3⟩
 | false =>
 have hh := unhide HHv rfl
 have hw := (unhide HC0).up hh.1 hh.2
 have hsz := siz_tot8 c.bl
 have HZ := hide (show siz c.bl ≤ 1099511627776 by have := hh.2; omega)
 have HW := hide hw
 clear hh hw hsz HHv HC0
 go_wp2_with fail
 refine (Vc.give_any c (unhide HW) _ _ w2 (unhide HB0).l (fun k hk => hk)).mono ?_
 rintro e w3 ⟨va, rfl, hla, hb3⟩
 obtain ⟨aa, ca, rfl, -, -, -⟩ := id hla
 obtain ⟨n3, hn3⟩ : ∃ n3, n3 = c.bl.length := ⟨_, rfl⟩
 rw [← hn3] at hla ⊢
 have hx := ((unhide HB0).on hb3).on (Vc.one_alloc w3 (.cells (cob c.pa c.re c.rs (.slice aa n3 ca)) 29))
 have hbe := (unhide HBe).trans ((hb3.trans ((Vc.one_alloc w3 (.cells (cob c.pa c.re c.rs (.slice aa n3 ca)) 29)).mono hb3.size)).mono (unhide HBe).size)
 have hb3' := Bx.new w3 29 c hla
 have HB0 := hide hx; have HB3 := hide hb3'; have HBe := hide hbe
 clear hx hbe hb3' hla hb3 hn3 x0 x1 x2 x3
 go_upto_region 4 with fail
 rw [show w3.alloc (.cells #[.int .i64 c.pa, .int .i64 c.re, .bool c.rs, .slice aa n3 ca] 29) = w3.alloc (.cells (cob c.pa c.re c.rs (.slice aa n3 ca)) 29) from rfl]
 generalize w3.alloc (.cells (cob c.pa c.re c.rs (.slice aa n3 ca)) 29) = W4 at *
 generalize w3.heap.size = N3 at *
 cases hk : chk c with
 | true =>
   have HK := hide hk
   clear hk
   obtain ⟨y0, y1, y2, y3⟩ := (unhide HB3).cls
   go_wp2_with fail
   refine (trim_g (unhide HW) (unhide HK) ((unhide HT).below (unhide HBe)) (unhide HB3).l).mono ?_
   rintro e w4 ⟨a4, n4, c4, rfl, hl4, hb4⟩
   have hal := Vc.one_alloc w4 (.cells (cob c.pa c.re c.rs (.slice a4 n4 c4)) 29)
   have hHB0 := ((unhide HB0).on hb4).on hal
   have hHB3 := ((unhide HB3).on hb4).on hal
   have hbe := (unhide HBe).trans ((hb4.trans (hal.mono hb4.size)).mono (unhide HBe).size)
   have hnw := Bx.new w4 29 ⟨c.pa, c.re, c.rs, trimB c.bl⟩ hl4
   have HB0 := hide hHB0; have HB3 := hide hHB3; have HB4 := hide hnw; have HBe := hide hbe
   clear hHB0 hHB3 hal hbe hnw hl4 hb4 y0 y1 y2 y3
   go_upto_region 5 with fail
   rw [show w4.alloc (.cells #[.int .i64 c.pa, .int .i64 c.re, .bool c.rs, .slice a4 n4 c4] 29) = w4.alloc (.cells (cob c.pa c.re c.rs (.slice a4 n4 c4)) 29) from rfl]
   generalize w4.alloc (.cells (cob c.pa c.re c.rs (.slice a4 n4 c4)) 29) = W4 at *
   generalize w4.heap.size = N4 at *
   obtain ⟨y0, y1, y2, y3⟩ := (unhide HB3).cls
   go_wp2_with fail
   refine (thread_g (unhide HW) (unhide HK) ((unhide HT).below (unhide HBe)) (unhide HB3).l).mono ?_
   rintro e w6 ⟨a6, n6, c6, rfl, hl6, hb6⟩
   have hal := Vc.one_alloc w6 (.cells (cob c.pa c.re c.rs (.slice a6 n6 c6)) 29)
   have hHB0 := ((unhide HB0).on hb6).on hal
   have hHB3 := ((unhide HB3).on hb6).on hal
   have hHB4 := ((unhide HB4).on hb6).on hal
   have hbe := (unhide HBe).trans ((hb6.trans (hal.mono hb6.size)).mono (unhide HBe).size)
   have hnw := Bx.new w6 29 ⟨c.pa, c.re, c.rs, thrB c.bl⟩ hl6
   have HB0 := hide hHB0; have HB3 := hide hHB3; have HB4 := hide hHB4; have HB6 := hide hnw; have HBe := hide hbe
   clear hHB0 hHB3 hHB4 hal hbe hnw hl6 hb6 y0 y1 y2 y3
   go_upto_region 6 with fail
   rw [show w6.alloc (.cells #[.int .i64 c.pa, .int .i64 c.re, .bool c.rs, .slice a6 n6 c6] 29) = w6.alloc (.cells (cob c.pa c.re c.rs (.slice a6 n6 c6)) 29) from rfl]
   generalize w6.alloc (.cells (cob c.pa c.re c.rs (.slice a6 n6 c6)) 29) = W6 at *
   generalize w6.heap.size = N6 at *
   obtain ⟨y0, y1, y2, y3⟩ := (unhide HB3).cls
   go_wp2_with fail
   refine (join_g (unhide HW) (unhide HK) ((unhide HT).below (unhide HBe)) (unhide HB3).l).mono ?_
   rintro e w8 ⟨a8, n8, c8, rfl, hl8, hb8⟩
   have hal := Vc.one_alloc w8 (.cells (cob c.pa c.re c.rs (.slice a8 n8 c8)) 29)
   have hHB0 := ((unhide HB0).on hb8).on hal
   have hHB3 := ((unhide HB3).on hb8).on hal
   have hHB4 := ((unhide HB4).on hb8).on hal
   have hHB6 := ((unhide HB6).on hb8).on hal
   have hbe := (unhide HBe).trans ((hb8.trans (hal.mono hb8.size)).mono (unhide HBe).size)
   have hnw := Bx.new w8 29 ⟨c.pa, c.re, c.rs, joinB c.bl⟩ hl8
   have HB0 := hide hHB0; have HB3 := hide hHB3; have HB4 := hide hHB4; have HB6 := hide hHB6; have HB8 := hide hnw; have HBe := hide hbe
   clear hHB0 hHB3 hHB4 hHB6 hal hbe hnw hl8 hb8 y0 y1 y2 y3
   go_upto_region 7 with fail
   rw [show w8.alloc (.cells #[.int .i64 c.pa, .int .i64 c.re, .bool c.rs, .slice a8 n8 c8] 29) = w8.alloc (.cells (cob c.pa c.re c.rs (.slice a8 n8 c8)) 29) from rfl]
   generalize w8.alloc (.cells (cob c.pa c.re c.rs (.slice a8 n8 c8)) 29) = W8 at *
   generalize w8.heap.size = N8 at *
   obtain ⟨x0, x1, x2, x3⟩ := (unhide HB0).cls
   obtain ⟨y0, y1, y2, y3⟩ := (unhide HB3).cls
   go_wp2_with fail
   refine (same_g (unhide HW) (unhide HB3).l (unhide HB0).l).mono ?_
   rintro e w9 ⟨rfl, hb9⟩
   have hHB0 := (unhide HB0).on hb9
   have hHB3 := (unhide HB3).on hb9
   have hHB4 := (unhide HB4).on hb9
   have hHB6 := (unhide HB6).on hb9
   have hHB8 := (unhide HB8).on hb9
   have hbe := (unhide HBe).trans (hb9.mono (unhide HBe).size)
   have HB0 := hide hHB0; have HB3 := hide hHB3; have HB4 := hide hHB4; have HB6 := hide hHB6; have HB8 := hide hHB8; have HBe := hide hbe
   clear hHB0 hHB3 hHB4 hHB6 hHB8 hbe hb9 x0 x1 x2 x3 y0 y1 y2 y3
   go_upto_region 9 with fail
   obtain ⟨x0, x1, x2, x3⟩ := (unhide HB0).cls
   go_wp2_with fail
   refine (Vc.rmay_any c (unhide HW) _ _ w9 (unhide HB0).l (unhide HZ)).mono ?_
   rw [unhide HK]
   rintro e w10 ⟨rfl, hb10⟩
   have hHB0 := (unhide HB0).on hb10
   have hHB3 := (unhide HB3).on hb10
   have hHB4 := (unhide HB4).on hb10
   have hHB6 := (unhide HB6).on hb10
   have hHB8 := (unhide HB8).on hb10
   have hbe := (unhide HBe).trans (hb10.mono (unhide HBe).size)
   have HB0 := hide hHB0; have HB3 := hide hHB3; have HB4 := hide hHB4; have HB6 := hide hHB6; have HB8 := hide hHB8; have HBe := hide hbe
   clear hHB0 hHB3 hHB4 hHB6 hHB8 hbe hb10 x0 x1 x2 x3
   have htu : Tu w c (.slice a n cp) (.slice a4 n4 c4) (.slice a6 n6 c6) (.slice a8 n8 c8) N4 N6 N8 w10 := ⟨unhide HB0, unhide HB4, unhide HB6, unhide HB8, unhide HBe⟩
   have HCk := hide (cok_of c (unhide HK))
   have HFe := hide (few_of c (unhide HK))
   have HTu := hide htu
   clear htu HB0 HB3 HB4 HB6 HB8 HBe
   go_upto_region 11 with fail
   have htd := (unhide HTu).on (bdrew (Below.refl _ _))
   have HTu := hide htd
   have hk := htd.cls
   clear htd
   go_region_held3 (fun W => (W.cell? ⟨w.heap.size, 0, none⟩ = some (.int .i64 c.pa) ∧ W.cell? ⟨w.heap.size, 1, none⟩ = some (.int .i64 c.re) ∧ W.cell? ⟨w.heap.size, 2, none⟩ = some (.bool c.rs) ∧ W.cell? ⟨w.heap.size, 3, none⟩ = some (.slice a n cp)) ∧ (W.cell? ⟨N4, 0, none⟩ = some (.int .i64 c.pa) ∧ W.cell? ⟨N4, 1, none⟩ = some (.int .i64 c.re) ∧ W.cell? ⟨N4, 2, none⟩ = some (.bool c.rs) ∧ W.cell? ⟨N4, 3, none⟩ = some (.slice a4 n4 c4)) ∧ (W.cell? ⟨N6, 0, none⟩ = some (.int .i64 c.pa) ∧ W.cell? ⟨N6, 1, none⟩ = some (.int .i64 c.re) ∧ W.cell? ⟨N6, 2, none⟩ = some (.bool c.rs) ∧ W.cell? ⟨N6, 3, none⟩ = some (.slice a6 n6 c6)) ∧ (W.cell? ⟨N8, 0, none⟩ = some (.int .i64 c.pa) ∧ W.cell? ⟨N8, 1, none⟩ = some (.int .i64 c.re) ∧ W.cell? ⟨N8, 2, none⟩ = some (.bool c.rs) ∧ W.cell? ⟨N8, 3, none⟩ = some (.slice a8 n8 c8)))
    (first | go_keep | exact hk)
    (first
     | (go_at_call 21; refine (rtrim_g (unhide HCk) (unhide HTu).b0.l).mono ?_; rintro e w7 ⟨d1, d2, d3, rfl, hd, hb7⟩; have HD := hide hd; have HTu := hide ((unhide HTu).on hb7); clear hb7 hd; have hk := (unhide HTu).cls)
     | (go_at_call 22; refine (rthread_g (unhide HW) (unhide HK) (unhide HTu).b0.l).mono ?_; rintro e w7 ⟨d1, d2, d3, rfl, hd, hb7⟩; have HD := hide hd; have HTu := hide ((unhide HTu).on hb7); clear hb7 hd; have hk := (unhide HTu).cls)
     | (go_at_call 23; refine (rjoin_g (unhide HW) (unhide HK) (unhide HTu).b0.l).mono ?_; rintro e w7 ⟨d1, d2, d3, rfl, hd, hb7⟩; have HD := hide hd; have HTu := hide ((unhide HTu).on hb7); clear hb7 hd; have hk := (unhide HTu).cls)
     | (go_at_call 20; (first | refine (same_g (x := ⟨c.pa, c.re, c.rs, trimB c.bl⟩) (wf_trim (unhide HW) (unhide HCk)) (unhide HTu).b4.l (unhide HD)).mono ?_ | refine (same_g (x := ⟨c.pa, c.re, c.rs, thrB c.bl⟩) (wf_thr (unhide HW) (unhide HCk)) (unhide HTu).b6.l (unhide HD)).mono ?_ | refine (same_g (x := ⟨c.pa, c.re, c.rs, joinB c.bl⟩) (wf_join (unhide HW) (unhide HCk) (unhide HFe)) (unhide HTu).b8.l (unhide HD)).mono ?_); rintro e w7 ⟨rfl, hb7⟩; have HTu := hide ((unhide HTu).on hb7); clear hb7 HD; have hk := (unhide HTu).cls)
     | (go_at_call 6; refine (unhide HSu _ (unhide HTu).be).mono ?_; rintro e w7 ⟨rfl, hb7⟩; have HTu := hide ((unhide HTu).on hb7); clear hb7; have hk := (unhide HTu).cls)
     | fail)
   all_goals (go_wp2_with fail)
   all_goals go_ret
   all_goals exact ⟨rfl, (unhide HTu).be⟩
 | false =>
   have HK := hide hk
   clear hk
   obtain ⟨y0, y1, y2, y3⟩ := (unhide HB3).cls
   go_wp2_with fail
   refine (trim_no c (unhide HW) (unhide HK) (unhide HZ) _ _ _ ((unhide HT).below (unhide HBe)) (unhide HB3).l (fun k hk => hk)).mono ?_
   rintro e w4 ⟨rfl, hb4⟩
   have hal := Vc.one_alloc w4 (.cells (cob 0 0 false (.slice none 0 0)) 29)
   have hHB0 := ((unhide HB0).on hb4).on hal
   have hHB3 := ((unhide HB3).on hb4).on hal
   have hbe := (unhide HBe).trans ((hb4.trans (hal.mono hb4.size)).mono (unhide HBe).size)
   have HB0 := hide hHB0; have HB3 := hide hHB3; have HBe := hide hbe
   clear hHB0 hHB3 hal hbe hb4 y0 y1 y2 y3
   go_upto_region 5 with fail
   rw [show w4.alloc (.cells #[.int .i64 0, .int .i64 0, .bool false, .slice none 0 0] 29) = w4.alloc (.cells (cob 0 0 false (.slice none 0 0)) 29) from rfl]
   generalize w4.alloc (.cells (cob 0 0 false (.slice none 0 0)) 29) = W4 at *
   generalize w4.heap.size = N4 at *
   obtain ⟨y0, y1, y2, y3⟩ := (unhide HB3).cls
   go_wp2_with fail
   refine (thread_no c (unhide HW) (unhide HK) (unhide HZ) _ _ _ ((unhide HT).below (unhide HBe)) (unhide HB3).l (fun k hk => hk)).mono ?_
   rintro e w6 ⟨rfl, hb6⟩
   have hal := Vc.one_alloc w6 (.cells (cob 0 0 false (.slice none 0 0)) 29)
   have hHB0 := ((unhide HB0).on hb6).on hal
   have hHB3 := ((unhide HB3).on hb6).on hal
   have hbe := (unhide HBe).trans ((hb6.trans (hal.mono hb6.size)).mono (unhide HBe).size)
   have HB0 := hide hHB0; have HB3 := hide hHB3; have HBe := hide hbe
   clear hHB0 hHB3 hal hbe hb6 y0 y1 y2 y3
   go_upto_region 6 with fail
   rw [show w6.alloc (.cells #[.int .i64 0, .int .i64 0, .bool false, .slice none 0 0] 29) = w6.alloc (.cells (cob 0 0 false (.slice none 0 0)) 29) from rfl]
   generalize w6.alloc (.cells (cob 0 0 false (.slice none 0 0)) 29) = W6 at *
   generalize w6.heap.size = N6 at *
   obtain ⟨y0, y1, y2, y3⟩ := (unhide HB3).cls
   go_wp2_with fail
   refine (join_no c (unhide HW) (unhide HK) (unhide HZ) _ _ _ ((unhide HT).below (unhide HBe)) (unhide HB3).l (fun k hk => hk)).mono ?_
   rintro e w8 ⟨rfl, hb8⟩
   have hal := Vc.one_alloc w8 (.cells (cob 0 0 false (.slice none 0 0)) 29)
   have hHB0 := ((unhide HB0).on hb8).on hal
   have hHB3 := ((unhide HB3).on hb8).on hal
   have hbe := (unhide HBe).trans ((hb8.trans (hal.mono hb8.size)).mono (unhide HBe).size)
   have HB0 := hide hHB0; have HB3 := hide hHB3; have HBe := hide hbe
   clear hHB0 hHB3 hal hbe hb8 y0 y1 y2 y3
   go_upto_region 7 with fail
   rw [show w8.alloc (.cells #[.int .i64 0, .int .i64 0, .bool false, .slice none 0 0] 29) = w8.alloc (.cells (cob 0 0 false (.slice none 0 0)) 29) from rfl]
   generalize w8.alloc (.cells (cob 0 0 false (.slice none 0 0)) 29) = W8 at *
   generalize w8.heap.size = N8 at *
   obtain ⟨x0, x1, x2, x3⟩ := (unhide HB0).cls
   obtain ⟨y0, y1, y2, y3⟩ := (unhide HB3).cls
   go_wp2_with fail
   refine (same_g (unhide HW) (unhide HB3).l (unhide HB0).l).mono ?_
   rintro e w9 ⟨rfl, hb9⟩
   have hHB0 := (unhide HB0).on hb9
   have hHB3 := (unhide HB3).on hb9
   have hbe := (unhide HBe).trans (hb9.mono (unhide HBe).size)
   have HB0 := hide hHB0; have HB3 := hide hHB3; have HBe := hide hbe
   clear hHB0 hHB3 hbe hb9 x0 x1 x2 x3 y0 y1 y2 y3
   go_upto_region 9 with fail
   obtain ⟨x0, x1, x2, x3⟩ := (unhide HB0).cls
   go_wp2_with fail
   refine (Vc.rmay_any c (unhide HW) _ _ w9 (unhide HB0).l (unhide HZ)).mono ?_
   rw [unhide HK]
   rintro e w10 ⟨rfl, hb10⟩
   have hHB0 := (unhide HB0).on hb10
   have hHB3 := (unhide HB3).on hb10
   have hbe := (unhide HBe).trans (hb10.mono (unhide HBe).size)
   have HB0 := hide hHB0; have HB3 := hide hHB3; have HBe := hide hbe
   clear hHB0 hHB3 hbe hb10 x0 x1 x2 x3
   clear HB0 HB3
   go_upto_region 10 with fail
   go_wp2_with (first
    | (go_at_call 12; refine (unhide HNu _ (unhide HBe)).mono ?_; rintro e w7 ⟨rfl, hb7⟩; have HBe := hide ((unhide HBe).trans (hb7.mono (unhide HBe).size)); clear hb7)
    | (go_at_call 6; refine (unhide HSu _ (unhide HBe)).mono ?_; rintro e w7 ⟨rfl, hb7⟩; have HBe := hide ((unhide HBe).trans (hb7.mono (unhide HBe).size)); clear hb7))
   go_ret
   exact ⟨rfl, unhide HBe⟩
end Fw
end Go.Proofs.YtglehoekehiaiaaGreatDoor
