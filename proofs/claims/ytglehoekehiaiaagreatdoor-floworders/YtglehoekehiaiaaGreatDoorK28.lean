/- flow: the statements' sure, walked. -/
import Derived.Test.YtglehoekehiaiaaGreatDoorK16
namespace Go.Proofs.YtglehoekehiaiaaGreatDoor
open Go.RowKit
set_option linter.unusedVariables false
set_option linter.unusedSimpArgs false
set_option maxRecDepth 100000
set_option maxHeartbeats 32000000
namespace Fw
open Vc (NumsL Nums Lies LL Bls BlC InC Bl Co WfC WfB WfI chk siz Fms infoN infoBl own_base RowT cob cob_cells OwnL Its own)
theorem CoAt.get {w W : World} {P : Nat} {c : Co} (h : CoAt w W P c) : ∃ a cap, (W.cell? ⟨P, 0, none⟩ = some (.int .i64 c.pa) ∧ W.cell? ⟨P, 1, none⟩ = some (.int .i64 c.re) ∧ W.cell? ⟨P, 2, none⟩ = some (.bool c.rs) ∧ W.cell? ⟨P, 3, none⟩ = some (.slice a c.bl.length cap)) ∧ P < W.heap.size ∧ Bls W (fun k => k < W.heap.size) c.bl (.slice a c.bl.length cap) := by
 obtain ⟨a, cap, h1, h2, h3, h4⟩ := h
 obtain ⟨c0, c1, c2, c3, cf, cl⟩ := cob_cells h1
 exact ⟨a, cap, ⟨c0, c1, c2, c3⟩, cl, h2.moved (fun k hk _ => ⟨hk, rfl⟩) (Nat.le_refl _)⟩
theorem CoAt.be {w W : World} {P : Nat} {c : Co} (h : CoAt w W P c) : Below w.heap.size w W := by
 obtain ⟨a, cap, h1, h2, h3, h4⟩ := h
 exact h4
theorem sure_any (w : World) (hT : Fms w) :
    Calls Tryz.prog 6 #[] w fun e w' => e = .returned (.bool true) ∧ Below w.heap.size w w' := by
 obtain ⟨hck, hov, hlp, hsm⟩ := sCo_facts
 have hwf := sCo_wf
 have hsa := sure_at w
 obtain ⟨c, hc⟩ : ∃ c, c = sCo := ⟨_, rfl⟩
 rw [← hc] at hck hov hlp hsm hwf hsa
 have HT := hide hT; have HSa0 := hide hsa
 have HCk := hide hck; have HOv := hide hov; have HLp := hide hlp; have HSm := hide hsm
 clear hT hck hov hlp hsm hsa hc
 go_enter Tryz.func6, Tryz.ntmps6
 go_upto_region 2 with fail
 go_cut [2] from 10 to 23 (fun p wx => ∃ P, p = .pointer (some ⟨P, 0, none⟩) ∧ CoAt w wx P c)
 case first =>
  go_wp2_with fail
  go_meet
  exact ⟨_, rfl, unhide HSa0⟩
 case rest =>
  obtain ⟨P, rfl, hco⟩ := hcut
  have hbe := hco.be
  obtain ⟨a, cap, ⟨c0, c1, c2, c3⟩, cl, hbl⟩ := hco.get
  obtain ⟨n, hn⟩ : ∃ n, n = c.bl.length := ⟨_, rfl⟩
  rw [← hn] at c3 hbl
  have hT := (unhide HT).below hbe
  have hB : ∀ W, Below wc.heap.size wc W → Bls W (fun k => k < wc.heap.size) c.bl (.slice a n cap) := fun W hW => bls_on hbl hW
  have K1 : ∀ W, Below wc.heap.size wc W → Calls Tryz.prog 10 #[.agg #[.int .i64 c.pa, .int .i64 c.re, .bool c.rs, .slice a n cap]] W fun e w' => ∃ u, e = .returned (.tuple #[u, .nilIface]) ∧ Ro w' W.heap.size u [-1, 0, 1] ∧ Below W.heap.size W w' := fun W hW => by
   have h := over_yes c hwf (unhide HCk) (fun k => k < wc.heap.size) (.slice a n cap) W (hT.below hW) (hB W hW) (fun k hk => Nat.lt_of_lt_of_le hk hW.size)
   rw [unhide HOv] at h; exact h
  have K2 : ∀ W, Below wc.heap.size wc W → Calls Tryz.prog 24 #[.agg #[.int .i64 c.pa, .int .i64 c.re, .bool c.rs, .slice a n cap]] W fun e w' => ∃ gp cp la lm, e = .returned (.tuple #[.slice (some ⟨gp, 0, none⟩) 1 cp, .nilIface]) ∧ (w'.cell? ⟨gp, 0, none⟩ = some (.int .i64 1) ∧ w'.cell? ⟨gp, 1, none⟩ = some (.slice la 1 lm) ∧ NumsL w' (fun q => q < w'.heap.size) [1] (.slice la 1 lm)) ∧ Below W.heap.size W w' := fun W hW => by
   have h := loops_yes c hwf (unhide HCk) (fun k => k < wc.heap.size) (.slice a n cap) W (hT.below hW) (hB W hW) (fun k hk => Nat.lt_of_lt_of_le hk hW.size)
   rw [unhide HLp] at h
   refine h.mono ?_
   rintro e w' ⟨u, rfl, h1, h2⟩
   obtain ⟨gp, cp, la, lm, rfl, e0, e1, e2⟩ := lp_one (h := 1) (bs := [1]) (B := W.heap.size) h1
   exact ⟨gp, cp, la, lm, rfl, ⟨e0, e1, e2⟩, h2⟩
  have K3 : ∀ W, Below wc.heap.size wc W → Calls Tryz.prog 17 #[.agg #[.int .i64 c.pa, .int .i64 c.re, .bool c.rs, .slice a n cap]] W fun e w' => ∃ ta tn tc, e = .returned (.tuple #[.agg #[.int .i64 c.pa, .int .i64 c.re, .bool c.rs, .slice ta tn tc], .nilIface]) ∧ Bls w' (fun k => k < w'.heap.size) (trimB c.bl) (.slice ta tn tc) ∧ Below W.heap.size W w' := fun W hW => by
   refine (trim_yes c hwf (unhide HCk) (fun k => k < wc.heap.size) (.slice a n cap) W (hT.below hW) (hB W hW) (fun k hk => Nat.lt_of_lt_of_le hk hW.size)).mono ?_
   rintro e w' ⟨u, rfl, h1, h2⟩
   obtain ⟨ta, tc, rfl, -, -, -⟩ := id h1
   exact ⟨ta, _, tc, rfl, h1.moved (fun k hk _ => ⟨hk, rfl⟩) (Nat.le_refl _), h2⟩
  have hkeep : ∀ W, Below wc.heap.size wc W → W.cell? ⟨P, 0, none⟩ = some (.int .i64 c.pa) ∧ W.cell? ⟨P, 1, none⟩ = some (.int .i64 c.re) ∧ W.cell? ⟨P, 2, none⟩ = some (.bool c.rs) ∧ W.cell? ⟨P, 3, none⟩ = some (.slice a n cap) := fun W hW => ⟨(hW.cell (p := ⟨P, 0, none⟩) cl).trans c0, (hW.cell (p := ⟨P, 1, none⟩) cl).trans c1, (hW.cell (p := ⟨P, 2, none⟩) cl).trans c2, (hW.cell (p := ⟨P, 3, none⟩) cl).trans c3⟩
  have hsame : ∀ W ta tn tc (G : Nat → Prop), Below wc.heap.size wc W → Bls W G (trimB c.bl) (.slice ta tn tc) → Calls Tryz.prog 25 #[.agg #[.int .i64 c.pa, .int .i64 c.re, .bool c.rs, .slice ta tn tc], .agg #[.int .i64 c.pa, .int .i64 c.re, .bool c.rs, .slice a n cap]] W fun e w' => e = .returned (.bool true) ∧ Below W.heap.size W w' := fun W ta tn tc G hW hb => by
   have h := Vc.same_any ⟨c.pa, c.re, c.rs, trimB c.bl⟩ c (wf_trim hwf (cok_of c (unhide HCk))) hwf W hb (hB W hW)
   rw [unhide HSm] at h; exact h
  have hint : ∀ (x y : List Int) (b : Nat) (va vb : Value) (W : World), x = y → x.length ≤ b → b ≤ 1099511627776 → NumsL W (fun k => k < W.heap.size) x va → NumsL W (fun k => k < W.heap.size) y vb → Calls Tryz.prog 14 #[va, vb] W fun e w' => e = .returned (.bool true) ∧ Below W.heap.size W w' := fun x y b va vb W e hx hb h1 h2 => by
   have h := ints_any x y (by omega) (by rw [← e]; omega) va vb W h1 h2
   rw [e, decide_eq_true (rfl : y = y)] at h; exact h
  have HK1 := hide K1; have HK2 := hide K2; have HK3 := hide K3; have HKp := hide hkeep; have HSa := hide hsame; have HIn := hide hint; have HBe := hide hbe; have HN := hide hn
  clear hbe hn cl K1 K2 K3 hkeep hsame hint hB hT hbl hco hwf HT HCk HOv HLp HSm
  go_upto_region 6 with (first
   | (go_at_call 10; refine (unhide HK1 _ (Below.refl _ _)).mono ?_; rintro e w1 ⟨u1, rfl, ho1, hb1⟩; obtain ⟨oa, oc, rfl, -⟩ := ho1.sl; obtain ⟨c0, c1, c2, c3⟩ := unhide HKp _ hb1; have HO1 := hide ho1; have HB1 := hide hb1; clear ho1 hb1)
   | (go_at_call 24; refine (unhide HK2 _ (unhide HB1)).mono ?_; rintro e w2 ⟨gp, cp, la, lm, rfl, hl2, hb2⟩; have hb2' := (unhide HB1).trans (hb2.mono (unhide HB1).size); obtain ⟨c0, c1, c2, c3⟩ := unhide HKp _ hb2'; have HL2 := hide hl2; have HBw2 := hide hb2; have HB2 := hide hb2'; clear hl2 hb2 hb2')
   | (go_at_call 17; refine (unhide HK3 _ (unhide HB2)).mono ?_; rintro e w3 ⟨ta, tn, tc, rfl, ht3, hb3⟩; have HT3 := hide ht3; have HBw3 := hide hb3; have HB3 := hide ((unhide HB2).trans (hb3.mono (unhide HB2).size)); clear ht3 hb3))
  have hb3 := unhide HB3
  have hb4 := hb3.trans ((Vc.one_alloc w3 (.cells (cob c.pa c.re c.rs (.slice ta tn tc)) 29)).mono hb3.size)
  have h34 := Vc.one_alloc w3 (.cells (cob c.pa c.re c.rs (.slice ta tn tc)) 29)
  have h24 := (unhide HBw3).trans (h34.mono (unhide HBw3).size)
  have h14 := (unhide HBw2).trans (h24.mono (unhide HBw2).size)
  have hrow := heap_alloc_new w3 (.cells (cob c.pa c.re c.rs (.slice ta tn tc)) 29)
  obtain ⟨W4, hW4⟩ : ∃ W4, W4 = w3.alloc (.cells (cob c.pa c.re c.rs (.slice ta tn tc)) 29) := ⟨_, rfl⟩
  rw [← hW4] at hb4 h34 h24 h14 hrow
  have n1 : NumsL W4 (fun k => k < W4.heap.size) [-1, 0, 1] (.slice oa ([-1, 0, 1] : List Int).length oc) := by
   have h := (unhide HO1).nums
   exact h.moved fun k hk _ => ⟨Nat.lt_of_lt_of_le hk h14.size, h14.block k hk⟩
  obtain ⟨p0, p1, n2⟩ := unhide HL2
  have n2' : NumsL W4 (fun k => k < W4.heap.size) [1] (.slice la 1 lm) := n2.moved fun k hk _ => ⟨Nat.lt_of_lt_of_le hk h24.size, h24.block k hk⟩
  have hbt : Bls W4 (fun k => k < W4.heap.size) (trimB c.bl) (.slice ta tn tc) := (unhide HT3).moved (fun k hk _ => ⟨Nat.lt_of_lt_of_le hk h34.size, h34.block k hk⟩) h34.size
  obtain ⟨b0, b1, b2, b3, -, bl⟩ := cob_cells hrow
  have q0 := (h24.cell (p := ⟨gp, 0, none⟩) (block_lt_of_cell p0)).trans p0
  have q1 := (h24.cell (p := ⟨gp, 1, none⟩) (block_lt_of_cell p1)).trans p1
  have hst : ∀ W, Below W4.heap.size W4 W → (W.cell? ⟨gp, 0, none⟩ = some (.int .i64 1) ∧ W.cell? ⟨gp, 1, none⟩ = some (.slice la 1 lm)) ∧ NumsL W (fun k => k < W.heap.size) [1] (.slice la 1 lm) ∧ (W.cell? ⟨w3.heap.size, 0, none⟩ = some (.int .i64 c.pa) ∧ W.cell? ⟨w3.heap.size, 1, none⟩ = some (.int .i64 c.re) ∧ W.cell? ⟨w3.heap.size, 2, none⟩ = some (.bool c.rs) ∧ W.cell? ⟨w3.heap.size, 3, none⟩ = some (.slice ta tn tc)) ∧ Bls W (fun k => k < W.heap.size) (trimB c.bl) (.slice ta tn tc) := fun W hW =>
   ⟨⟨(hW.cell (p := ⟨gp, 0, none⟩) (block_lt_of_cell q0)).trans q0, (hW.cell (p := ⟨gp, 1, none⟩) (block_lt_of_cell q1)).trans q1⟩, n2'.moved fun k hk _ => ⟨Nat.lt_of_lt_of_le hk hW.size, hW.block k hk⟩, ⟨(hW.cell (p := ⟨w3.heap.size, 0, none⟩) bl).trans b0, (hW.cell (p := ⟨w3.heap.size, 1, none⟩) bl).trans b1, (hW.cell (p := ⟨w3.heap.size, 2, none⟩) bl).trans b2, (hW.cell (p := ⟨w3.heap.size, 3, none⟩) bl).trans b3⟩, hbt.moved (fun k hk _ => ⟨Nat.lt_of_lt_of_le hk hW.size, hW.block k hk⟩) hW.size⟩
  have HSt := hide hst; have HB4 := hide hb4
  have ha5 := Vc.one_alloc W4 (.cells #[.int .i64 (-1), .int .i64 0, .int .i64 1] 3)
  have hi5 := unhide HIn [-1, 0, 1] [-1, 0, 1] 3 (.slice oa ([-1, 0, 1] : List Int).length oc) (.slice (some ⟨W4.heap.size, 0, none⟩) 3 3) (W4.alloc (.cells #[.int .i64 (-1), .int .i64 0, .int .i64 1] 3)) rfl (by decide) (by decide) (n1.moved fun k hk _ => ⟨Nat.lt_of_lt_of_le hk ha5.size, ha5.block k hk⟩) (nums_row (zs := [-1, 0, 1]) (heap_alloc_new W4 _) (by simp))
  have HI5 := hide hi5; have HA5 := hide ha5
  clear hst hb4 h34 h24 h14 hrow n1 n2 n2' hbt b0 b1 b2 b3 bl q0 q1 hb3 ha5 hi5 p0 p1 HO1 HL2 HT3 HBw2 HBw3 HK1 HK2 HK3 HB1 HB2
  rw [show w3.alloc (.cells #[.int .i64 c.pa, .int .i64 c.re, .bool c.rs, .slice ta tn tc] 29) = W4 from hW4.symm]
  clear hW4
  go_wp2_with (first
   | (go_at_call 25; refine (unhide HSa _ _ _ _ _ (unhide HB7) ((unhide HSt _ (unhide HC7)).2.2.2)).mono ?_; rintro e w8 ⟨rfl, hb8⟩; have HB8 := hide ((unhide HB7).trans (hb8.mono (unhide HB7).size)); clear hb8)
   | (go_at_call 14
      have ha6 := Vc.one_alloc w6 (.cells #[.int .i64 1] 3)
      have hc6 := (unhide HC6).trans (ha6.mono (unhide HC6).size)
      refine (unhide HIn [1] [1] 1 _ _ _ rfl (by decide) (by decide) ((unhide HSt _ hc6).2.1) (nums_row (zs := [1]) (heap_alloc_new w6 _) (by simp))).mono ?_
      rintro e w7 ⟨rfl, hb7⟩
      have hc7 := hc6.trans (hb7.mono hc6.size)
      have hb7' := (unhide HB4).trans (hc7.mono (unhide HB4).size)
      have HC7 := hide hc7; have HB7 := hide hb7'
      obtain ⟨c0, c1, c2, c3⟩ := unhide HKp _ hb7'
      obtain ⟨-, -, ⟨f0, f1, f2, f3⟩, -⟩ := unhide HSt _ hc7
      clear hb7 hc7 hb7' hc6 ha6)
   | (go_at_call 14; refine (unhide HI5).mono ?_; rintro e w6 ⟨rfl, hb6⟩; have HC6 := hide ((unhide HA5).trans (hb6.mono (unhide HA5).size)); obtain ⟨⟨g0, g1⟩, -⟩ := unhide HSt _ (unhide HC6); clear hb6))
  go_ret
  exact ⟨rfl, (unhide HBe).trans ((unhide HB8).mono (unhide HBe).size)⟩
end Fw
end Go.Proofs.YtglehoekehiaiaaGreatDoor
