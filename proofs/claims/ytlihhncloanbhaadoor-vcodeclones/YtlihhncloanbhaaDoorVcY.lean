/- VcodeClones' walk. By mkclones.py. -/
import Derived.Test.YtlihhncloanbhaaDoorVcX
import Derived.Test.YtlihhncloanbhaaDoorVcP
import Derived.Test.YtlihhncloanbhaaDoorVcR
import Derived.Test.YtlihhncloanbhaaDoorVcN
import Derived.BigRegion
namespace Go.Proofs.YtlihhncloanbhaaDoor
open Go.RowKit
namespace Vc
set_option linter.unusedVariables false
set_option linter.unusedSimpArgs false

theorem bls_shape {w : World} {g : Nat → Prop} {l : List Bl} {v : Value} (h : Bls w g l v) : ∃ a cp, v = .slice a l.length cp := by obtain ⟨a, cp, e, _⟩ := h; exact ⟨a, cp, e⟩
theorem sC_self (c : Co) : sC c c = true := (sC_iff c c).2 rfl
theorem sC_ne {c d : Co} (h : c ≠ d) : sC c d = false := by
  cases e : sC c d with
  | false => rfl
  | true => exact absurd ((sC_iff c d).1 e) h
theorem alloc_row (w : World) (o : Obj) {q : Nat} {x : Obj} (h : w.heap[q]? = some x) : (w.alloc o).heap[q]? = some x := by
  rw [Below.heap_alloc _ _ _ (Array.getElem?_eq_some_iff.1 h).1]; exact h

set_option maxRecDepth 100000 in
set_option maxHeartbeats 6400000 in
theorem clones_walk (c : Co) (hc0 : WfC0 c) (v : Value) (way : Int) (w : World) (hT : Fms w) (hN : Nms w) (hP : P10 w) (hv : Bls w (fun k => k < w.heap.size) c.bl v) :
    Calls Tryd.prog 5 #[.agg #[.int .i64 c.pa, .int .i64 c.re, .bool c.rs, v], .int .i64 way] w fun e w' => e = .returned (.bool true) ∧ Below w.heap.size w w' := by
  have hsure := fun W (h : Below w.heap.size w W) => sure_any W (TC.below hT h) (hN.below h) (hP.below h)
  have hsame := fun (x y : Co) (hx : WfC x) (hy : WfC y) (g g2 : Nat → Prop) (v v2 : Value) (W : World) h1 h2 => same_any x y hx hy (g := g) (g2 := g2) (v := v) (v2 := v2) W h1 h2
  have hgive : WfC c → ∀ W, Below w.heap.size w W → Calls Tryd.prog 9 #[.agg #[.int .i64 c.pa, .int .i64 c.re, .bool c.rs, v]] W fun e w' => ∃ v', e = .returned (.agg #[.int .i64 c.pa, .int .i64 c.re, .bool c.rs, v']) ∧ Bls w' (fun k => k < w'.heap.size) c.bl v' ∧ Below W.heap.size W w'   := fun hc W h => give_any c hc (fun k => k < w.heap.size) v W (hv.moved (fun k _ hk => ⟨hk, h.block k hk⟩) h.size) (fun k hk => Nat.lt_of_lt_of_le hk h.size)
  have hheavy := fun W (h : Below w.heap.size w W) => heavy_any c.pa c.re c.rs c.bl hc0.bl (fun k => k < w.heap.size) v W (hv.moved (fun k _ hk => ⟨hk, h.block k hk⟩) h.size) hc0.len
  have HSu := hide hsure; have HSa := hide hsame; have HGi0 := hide hgive; have HHe := hide hheavy; have HC0 := hide hc0; have HV := hide hv
  clear hsure hsame hgive hheavy hT hN hP
  obtain ⟨a, cp, rfl⟩ := bls_shape hv
  clear hv hc0
  have hb1 := one_alloc w (.cells #[.int .i64 c.pa, .int .i64 c.re, .bool c.rs, .slice a c.bl.length cp] 24)
  have r1 : (w.alloc (.cells #[.int .i64 c.pa, .int .i64 c.re, .bool c.rs, .slice a c.bl.length cp] 24)).heap[w.heap.size]? = some (.cells (cob c.pa c.re c.rs (.slice a c.bl.length cp)) 24 (0, 0)) := heap_alloc_new _ _
  have HB1 := hide hb1; have HR1 := hide r1
  clear hb1 r1
  go_enter Tryd.func5, Tryd.ntmps5
  go_upto_region 1 with fail
  generalize w.alloc (.cells #[.int .i64 c.pa, .int .i64 c.re, .bool c.rs, .slice a c.bl.length cp] 24) = W1 at *
  obtain ⟨x0, x1, x2, x3, _, xl⟩ := cob_cells (unhide HR1)
  go_wp2_with fail
  refine (unhide HHe W1 (unhide HB1)).mono ?_
  rintro e w2 ⟨⟨hb, rfl, hhv⟩, hb2⟩
  have hbe2 := (unhide HB1).trans (hb2.mono (unhide HB1).size)
  have r2 := (hb2.block _ xl).trans (unhide HR1)
  have HHv := hide hhv; have HBe2 := hide hbe2; have HR2 := hide r2
  clear hhv hb2 hbe2 x0 x1 x2 x3 xl HHe
  cases hb with
  | true =>
    clear r2 HHv
    go_wp2_with fail
    refine (unhide HSu w2 (unhide HBe2)).mono ?_
    rintro e w3 ⟨rfl, hb3⟩
    have HB3 := hide ((unhide HBe2).trans (hb3.mono (unhide HBe2).size))
    clear hb3
    go_wp2
    go_ret
    exact ⟨rfl, unhide HB3⟩
  | false =>
  have HC := hide ((unhide HC0).up (unhide HHv rfl).1 (unhide HHv rfl).2)
  have HGi := hide (unhide HGi0 (unhide HC))
  clear HGi0 HC0 HHv
  obtain ⟨x0, x1, x2, x3, _, xl⟩ := cob_cells r2
  clear r2
  go_wp2_with fail
  refine (unhide HGi w2 (unhide HBe2)).mono ?_
  rintro e w3 ⟨va, rfl, hla, hb3⟩
  obtain ⟨aa, ca, rfl⟩ := bls_shape hla
  have hal := one_alloc w3 (.cells #[.int .i64 c.pa, .int .i64 c.re, .bool c.rs, .slice aa c.bl.length ca] 29)
  have r3 : (w3.alloc (.cells #[.int .i64 c.pa, .int .i64 c.re, .bool c.rs, .slice aa c.bl.length ca] 29)).heap[w.heap.size]? = some (.cells (cob c.pa c.re c.rs (.slice a c.bl.length cp)) 24 (0, 0)) := alloc_row _ _ ((hb3.block _ xl).trans (unhide HR2))
  have r5 : (w3.alloc (.cells #[.int .i64 c.pa, .int .i64 c.re, .bool c.rs, .slice aa c.bl.length ca] 29)).heap[w3.heap.size]? = some (.cells (cob c.pa c.re c.rs (.slice aa c.bl.length ca)) 29 (0, 0)) := heap_alloc_new _ _
  have hz : (w3.alloc (.cells #[.int .i64 c.pa, .int .i64 c.re, .bool c.rs, .slice aa c.bl.length ca] 29)).heap.size = w3.heap.size + 1 := by simp
  have hbe3 := (unhide HBe2).trans (hb3.mono (unhide HBe2).size)
  have hlt : w.heap.size < w3.heap.size := Nat.lt_of_lt_of_le xl hb3.size
  have hbe4 : Below w.heap.size w (w3.alloc (.cells #[.int .i64 c.pa, .int .i64 c.re, .bool c.rs, .slice aa c.bl.length ca] 29)) := hbe3.trans (hal.mono hbe3.size)
  have hla4 : Bls (w3.alloc (.cells #[.int .i64 c.pa, .int .i64 c.re, .bool c.rs, .slice aa c.bl.length ca] 29)) (fun k => k < w3.heap.size) c.bl (.slice aa c.bl.length ca) := hla.below hal
  have HR3 := hide r3; have HR5 := hide r5; have HZ := hide hz; have HBe4 := hide hbe4; have HLa := hide hla4; have HLt := hide hlt
  clear hla hal r3 r5 hz hbe3 hlt hbe4 hla4 hb3 x0 x1 x2 x3 xl HBe2 HR2
  go_upto_region 4 with fail
  generalize w3.alloc (.cells #[.int .i64 c.pa, .int .i64 c.re, .bool c.rs, .slice aa c.bl.length ca] 29) = W4 at *
  obtain ⟨x0, x1, x2, x3, _, xl⟩ := cob_cells (unhide HR5)
  have HCl := hide (clone_any c (unhide HC) (fun k => k < w3.heap.size) (.slice aa c.bl.length ca) W4 (unhide HLa) (fun k hk => by rw [unhide HZ]; omega))
  go_wp2_with fail
  refine (unhide HCl).mono ?_
  rintro e w5 ⟨vb, rfl, hco, how, hb5⟩
  obtain ⟨ab, cb, rfl⟩ : ∃ ab cb, vb = .slice ab c.bl.length cb := by obtain ⟨ab, cb, e, _⟩ := hco; exact ⟨ab, cb, e⟩
  have hal := one_alloc w5 (.cells #[.int .i64 c.pa, .int .i64 c.re, .bool c.rs, .slice ab c.bl.length cb] 29)
  have hst : St w c c (.slice a c.bl.length cp) (.slice aa c.bl.length ca) (.slice ab c.bl.length cb) w3.heap.size w5.heap.size W4.heap.size (w5.alloc (.cells #[.int .i64 c.pa, .int .i64 c.re, .bool c.rs, .slice ab c.bl.length cb] 29)) := by
    have h1 := (Array.getElem?_eq_some_iff.1 (unhide HR3)).1
    have h2 := (Array.getElem?_eq_some_iff.1 (unhide HR5)).1
    refine ⟨alloc_row _ _ ((hb5.block _ h1).trans (unhide HR3)), alloc_row _ _ ((hb5.block _ h2).trans (unhide HR5)), heap_alloc_new _ _, ((unhide HLa).below hb5).below hal, CoO.bls (Own.move BlO.moves hco (fun k _ hk => hal.block k hk) (Nat.le_refl _) (Nat.le_refl _)) (fun _ _ _ => trivial), ((unhide HBe4).trans (hb5.mono (unhide HBe4).size)).trans (hal.mono (Nat.le_trans (unhide HBe4).size hb5.size)), unhide HLt, by rw [unhide HZ]; omega, hb5.size⟩
  have hcoo : CoO (w5.alloc (.cells #[.int .i64 c.pa, .int .i64 c.re, .bool c.rs, .slice ab c.bl.length cb] 29)) W4.heap.size w5.heap.size c.bl (.slice ab c.bl.length cb) := Own.move BlO.moves hco (fun k _ hk => hal.block k hk) (Nat.le_refl _) (Nat.le_refl _)
  have hz6 : (w5.alloc (.cells #[.int .i64 c.pa, .int .i64 c.re, .bool c.rs, .slice ab c.bl.length cb] 29)).heap.size = w5.heap.size + 1 := by simp
  have HSt := hide hst; have HCo := hide hcoo; have HZ6 := hide hz6
  have HOw := hide (fun h => (how h).alloc (.cells #[.int .i64 c.pa, .int .i64 c.re, .bool c.rs, .slice ab c.bl.length cb] 29))
  clear how
  clear hst hcoo hz6 hal hco hb5 x0 x1 x2 x3 xl HR3 HR5 HZ HBe4 HLa HLt HCl
  go_upto_region 5 with fail
  generalize w5.alloc (.cells #[.int .i64 c.pa, .int .i64 c.re, .bool c.rs, .slice ab c.bl.length cb] 29) = W6 at *
  generalize w3.heap.size = NA at *
  generalize hNB : w5.heap.size = NB at *
  generalize W4.heap.size = lo at *
  have HSa1 := hide (fun W h1 h2 => unhide HSa c c (unhide HC) (unhide HC) (fun k => k < NA) (fun _ => True) (.slice aa c.bl.length ca) (.slice ab c.bl.length cb) W h1 h2)
  have HSa2 := hide (fun vc W h1 h2 => unhide HSa c c (unhide HC) (unhide HC) (fun _ => True) (fun k => True) (.slice ab c.bl.length cb) vc W h1 h2)
  have hself := sC_self c
  rw [hself] at HSa1 HSa2
  have HSelf := hide hself
  clear hNB hself
  have hk := (unhide HSt).cls
  unfold Cls at hk
  have HWc := hide (show St w c c (.slice a c.bl.length cp) (.slice aa c.bl.length ca) (.slice ab c.bl.length cb) NA NB lo W6.drew from (unhide HSt).on (Below.refl _ _).drew)
  have HCo2 := hide (show CoO W6.drew lo NB c.bl (.slice ab c.bl.length cb) from unhide HCo)
  have HOw2 := hide (show c.bl = [] → W6.drew.ownsRow lo 47 3 (.slice ab c.bl.length cb) 0 [] from fun h => ownsRow_below (unhide HOw h) (Below.refl _ _).drew)
  go_region_held3 (fun W => (W.cell? ⟨w.heap.size, 0, none⟩ = some (.int .i64 c.pa) ∧ W.cell? ⟨w.heap.size, 1, none⟩ = some (.int .i64 c.re) ∧ W.cell? ⟨w.heap.size, 2, none⟩ = some (.bool c.rs) ∧ W.cell? ⟨w.heap.size, 3, none⟩ = some (.slice a c.bl.length cp)) ∧
      (W.cell? ⟨NA, 0, none⟩ = some (.int .i64 c.pa) ∧ W.cell? ⟨NA, 1, none⟩ = some (.int .i64 c.re) ∧ W.cell? ⟨NA, 2, none⟩ = some (.bool c.rs) ∧ W.cell? ⟨NA, 3, none⟩ = some (.slice aa c.bl.length ca)) ∧
      (W.cell? ⟨NB, 0, none⟩ = some (.int .i64 c.pa) ∧ W.cell? ⟨NB, 1, none⟩ = some (.int .i64 c.re) ∧ W.cell? ⟨NB, 2, none⟩ = some (.bool c.rs) ∧ W.cell? ⟨NB, 3, none⟩ = some (.slice ab c.bl.length cb)))
    (first | go_keep | exact hk)
    (first
      | (go_at_call_of 13 (Value.agg #[.int .i64 c.pa, .int .i64 c.re, .bool c.rs, .slice aa c.bl.length ca]); refine (unhide HSa1 _ (unhide HWc).la (unhide HWc).lb).mono ?_; rintro e w7 ⟨rfl, hb7⟩; have HCo2 := hide (Own.move BlO.moves (unhide HCo2) (Mo.below hb7 (Nat.le_of_lt (Array.getElem?_eq_some_iff.1 (unhide HWc).b6).1)) (Nat.le_refl _) (Nat.le_refl _)); have HOw2 := hide (fun h => ownsRow_below (unhide HOw2 h) hb7); have HWc := hide ((unhide HWc).on hb7); clear hb7; have hk := (unhide HWc).cls)
      | (go_at_call 9; refine (unhide HGi _ (unhide HWc).be).mono ?_; rintro e w8 ⟨vc, rfl, hlc, hb8⟩; obtain ⟨ac, cc, rfl⟩ := bls_shape hlc; have HLc := hide hlc; have HCo2 := hide (Own.move BlO.moves (unhide HCo2) (Mo.below hb8 (Nat.le_of_lt (Array.getElem?_eq_some_iff.1 (unhide HWc).b6).1)) (Nat.le_refl _) (Nat.le_refl _)); have HOw2 := hide (fun h => ownsRow_below (unhide HOw2 h) hb8); have HWc := hide ((unhide HWc).on hb8); clear hb8 hlc; have hk := (unhide HWc).cls)
      | (go_at_call_of 13 (Value.agg #[.int .i64 c.pa, .int .i64 c.re, .bool c.rs, .slice ab c.bl.length cb]); refine (unhide HSa2 _ _ (unhide HWc).lb ((unhide HLc).moved (fun k _ _ => ⟨trivial, rfl⟩) (Nat.le_refl _))).mono ?_; rintro e w9 ⟨rfl, hb9⟩; have HCo2 := hide (Own.move BlO.moves (unhide HCo2) (Mo.below hb9 (Nat.le_of_lt (Array.getElem?_eq_some_iff.1 (unhide HWc).b6).1)) (Nat.le_refl _) (Nat.le_refl _)); have HOw2 := hide (fun h => ownsRow_below (unhide HOw2 h) hb9); have HWc := hide ((unhide HWc).on hb9); clear hb9; have hk := (unhide HWc).cls)
      | fail)
  rename_i hHeld
  clear hHeld hk
  go_upto_region 10 with fail
  generalize wrap64 ((IntKind.u64.wrap way).tmod 7) = k
  clear HCo HOw HSt HSa1 HSa2 HLc
  generalize hnl : c.bl.length = n at *
  have HN := hide hnl; clear hnl
  obtain ⟨z0, z1, z2, z3, zf, zl⟩ := cob_cells (unhide HWc).b6
  by_cases k0 : k = 0
  · subst k0
    go_upto_region 26 with fail
    obtain ⟨c2, hc2⟩ : ∃ d : Co, d = ⟨wrap64 (c.pa + 1), c.re, c.rs, c.bl⟩ := ⟨_, rfl⟩
    have hst2 : St w c c2 (.slice a n cp) (.slice aa n ca) (.slice ab n cb) NA NB lo (w9.setCell ⟨NB, 0, none⟩ (.int .i64 (wrap64 (c.pa + 1)))) := by
      rw [hc2]
      have h6 := (unhide HWc).b6
      refine (unhide HWc).wrote (unhide HWc).n2 ((heap_setCell_same w9 _ 0 _ _ _ h6).trans rfl) ?_
      exact CoO.bls (Own.move BlO.moves (unhide HCo2) (fun q _ hq => heap_setCell_other _ _ _ _ (by show q ≠ NB; omega)) (Nat.le_refl _) (Nat.le_refl _)) (fun _ _ _ => trivial)
    have hwf2 : WfC c2 := by rw [hc2]; exact ⟨(wrap_ne c.pa (unhide HC).pa).2, (unhide HC).re, (unhide HC).bl, (unhide HC).len⟩
    have hsc2 : sC c c2 = false := by rw [hc2]; exact sC_ne fun e => (wrap_ne c.pa (unhide HC).pa).1 (by have h := congrArg Co.pa e; exact h.symm)
    have HSa1 := hide (fun W h1 h2 => unhide HSa c c2 (unhide HC) hwf2 (fun k => k < NA) (fun _ => True) (.slice aa n ca) (.slice ab n cb) W h1 h2)
    have HSa2 := hide (fun vc W h1 h2 => unhide HSa c c (unhide HC) (unhide HC) (fun k => k < NA) (fun k => True) (.slice aa n ca) vc W h1 h2)
    rw [hsc2] at HSa1
    rw [unhide HSelf] at HSa2
    have HS2 := hide hst2
    clear hst2 hwf2 hsc2 hc2
    generalize w9.setCell ⟨NB, 0, none⟩ (.int .i64 (wrap64 (c.pa + 1))) = WX at *
    have hk := (unhide HS2).cls
    unfold Cls at hk
    have HWc := hide (show St w c c2 (.slice a n cp) (.slice aa n ca) (.slice ab n cb) NA NB lo WX.drew from (unhide HS2).on (Below.refl _ _).drew)
    clear HS2
    go_region_held3 (fun W => (W.cell? ⟨w.heap.size, 0, none⟩ = some (.int .i64 c.pa) ∧ W.cell? ⟨w.heap.size, 1, none⟩ = some (.int .i64 c.re) ∧ W.cell? ⟨w.heap.size, 2, none⟩ = some (.bool c.rs) ∧ W.cell? ⟨w.heap.size, 3, none⟩ = some (.slice a n cp)) ∧
        (W.cell? ⟨NA, 0, none⟩ = some (.int .i64 c.pa) ∧ W.cell? ⟨NA, 1, none⟩ = some (.int .i64 c.re) ∧ W.cell? ⟨NA, 2, none⟩ = some (.bool c.rs) ∧ W.cell? ⟨NA, 3, none⟩ = some (.slice aa n ca)) ∧
        (W.cell? ⟨NB, 0, none⟩ = some (.int .i64 c2.pa) ∧ W.cell? ⟨NB, 1, none⟩ = some (.int .i64 c2.re) ∧ W.cell? ⟨NB, 2, none⟩ = some (.bool c2.rs) ∧ W.cell? ⟨NB, 3, none⟩ = some (.slice ab n cb)))
      (first | go_keep | exact hk)
      (first
        | (go_at_call 13; with_reducible refine (unhide HSa1 _ (unhide HWc).la (unhide HWc).lb).mono ?_; rintro e w11 ⟨rfl, hb11⟩; have HWc := hide ((unhide HWc).on hb11); clear hb11; have hk := (unhide HWc).cls)
        | (go_at_call 9; refine (unhide HGi _ (unhide HWc).be).mono ?_; rintro e w12 ⟨vc, rfl, hlc, hb12⟩; obtain ⟨ac2, cc2, rfl⟩ : ∃ x y, vc = .slice x n y := by { obtain ⟨x, y, e⟩ := bls_shape hlc; exact ⟨x, y, by rw [e, unhide HN]⟩ }; have HLc := hide hlc; have HWc := hide ((unhide HWc).on hb12); clear hb12 hlc; have hk := (unhide HWc).cls)
        | (go_at_call 13; refine (unhide HSa2 _ _ (unhide HWc).la ((unhide HLc).moved (fun k _ _ => ⟨trivial, rfl⟩) (Nat.le_refl _))).mono ?_; rintro e w13 ⟨rfl, hb13⟩; have HWc := hide ((unhide HWc).on hb13); clear hb13; have hk := (unhide HWc).cls)
        | (go_at_call 8; refine (unhide HSu _ (unhide HWc).be).mono ?_; rintro e w14 ⟨rfl, hb14⟩; have HWc := hide ((unhide HWc).on hb14); clear hb14; have hk := (unhide HWc).cls)
        | fail)
    rename_i hHeld
    clear hHeld hk
    have HBF := hide (unhide HWc).be
    go_wp2
    go_ret
    exact ⟨rfl, unhide HBF⟩
  have t0 : (k == 0) = false := by simpa using k0
  clear k0
  by_cases k1 : k = 1
  · subst k1
    go_upto_region 26 with fail
    obtain ⟨c2, hc2⟩ : ∃ d : Co, d = ⟨c.pa, wrap64 (c.re + 1), c.rs, c.bl⟩ := ⟨_, rfl⟩
    have hst2 : St w c c2 (.slice a n cp) (.slice aa n ca) (.slice ab n cb) NA NB lo (w9.setCell ⟨NB, 1, none⟩ (.int .i64 (wrap64 (c.re + 1)))) := by
      rw [hc2]
      have h6 := (unhide HWc).b6
      refine (unhide HWc).wrote (unhide HWc).n2 ((heap_setCell_same w9 _ 1 _ _ _ h6).trans rfl) ?_
      exact CoO.bls (Own.move BlO.moves (unhide HCo2) (fun q _ hq => heap_setCell_other _ _ _ _ (by show q ≠ NB; omega)) (Nat.le_refl _) (Nat.le_refl _)) (fun _ _ _ => trivial)
    have hwf2 : WfC c2 := by rw [hc2]; exact ⟨(unhide HC).pa, (wrap_ne c.re (unhide HC).re).2, (unhide HC).bl, (unhide HC).len⟩
    have hsc2 : sC c c2 = false := by rw [hc2]; exact sC_ne fun e => (wrap_ne c.re (unhide HC).re).1 (by have h := congrArg Co.re e; exact h.symm)
    have HSa1 := hide (fun W h1 h2 => unhide HSa c c2 (unhide HC) hwf2 (fun k => k < NA) (fun _ => True) (.slice aa n ca) (.slice ab n cb) W h1 h2)
    have HSa2 := hide (fun vc W h1 h2 => unhide HSa c c (unhide HC) (unhide HC) (fun k => k < NA) (fun k => True) (.slice aa n ca) vc W h1 h2)
    rw [hsc2] at HSa1
    rw [unhide HSelf] at HSa2
    have HS2 := hide hst2
    clear hst2 hwf2 hsc2 hc2
    generalize w9.setCell ⟨NB, 1, none⟩ (.int .i64 (wrap64 (c.re + 1))) = WX at *
    have hk := (unhide HS2).cls
    unfold Cls at hk
    have HWc := hide (show St w c c2 (.slice a n cp) (.slice aa n ca) (.slice ab n cb) NA NB lo WX.drew from (unhide HS2).on (Below.refl _ _).drew)
    clear HS2
    go_region_held3 (fun W => (W.cell? ⟨w.heap.size, 0, none⟩ = some (.int .i64 c.pa) ∧ W.cell? ⟨w.heap.size, 1, none⟩ = some (.int .i64 c.re) ∧ W.cell? ⟨w.heap.size, 2, none⟩ = some (.bool c.rs) ∧ W.cell? ⟨w.heap.size, 3, none⟩ = some (.slice a n cp)) ∧
        (W.cell? ⟨NA, 0, none⟩ = some (.int .i64 c.pa) ∧ W.cell? ⟨NA, 1, none⟩ = some (.int .i64 c.re) ∧ W.cell? ⟨NA, 2, none⟩ = some (.bool c.rs) ∧ W.cell? ⟨NA, 3, none⟩ = some (.slice aa n ca)) ∧
        (W.cell? ⟨NB, 0, none⟩ = some (.int .i64 c2.pa) ∧ W.cell? ⟨NB, 1, none⟩ = some (.int .i64 c2.re) ∧ W.cell? ⟨NB, 2, none⟩ = some (.bool c2.rs) ∧ W.cell? ⟨NB, 3, none⟩ = some (.slice ab n cb)))
      (first | go_keep | exact hk)
      (first
        | (go_at_call 13; with_reducible refine (unhide HSa1 _ (unhide HWc).la (unhide HWc).lb).mono ?_; rintro e w11 ⟨rfl, hb11⟩; have HWc := hide ((unhide HWc).on hb11); clear hb11; have hk := (unhide HWc).cls)
        | (go_at_call 9; refine (unhide HGi _ (unhide HWc).be).mono ?_; rintro e w12 ⟨vc, rfl, hlc, hb12⟩; obtain ⟨ac2, cc2, rfl⟩ : ∃ x y, vc = .slice x n y := by { obtain ⟨x, y, e⟩ := bls_shape hlc; exact ⟨x, y, by rw [e, unhide HN]⟩ }; have HLc := hide hlc; have HWc := hide ((unhide HWc).on hb12); clear hb12 hlc; have hk := (unhide HWc).cls)
        | (go_at_call 13; refine (unhide HSa2 _ _ (unhide HWc).la ((unhide HLc).moved (fun k _ _ => ⟨trivial, rfl⟩) (Nat.le_refl _))).mono ?_; rintro e w13 ⟨rfl, hb13⟩; have HWc := hide ((unhide HWc).on hb13); clear hb13; have hk := (unhide HWc).cls)
        | (go_at_call 8; refine (unhide HSu _ (unhide HWc).be).mono ?_; rintro e w14 ⟨rfl, hb14⟩; have HWc := hide ((unhide HWc).on hb14); clear hb14; have hk := (unhide HWc).cls)
        | fail)
    rename_i hHeld
    clear hHeld hk
    have HBF := hide (unhide HWc).be
    go_wp2
    go_ret
    exact ⟨rfl, unhide HBF⟩
  have t1 : (k == 1) = false := by simpa using k1
  clear k1
  by_cases k2 : k = 2
  · subst k2
    go_upto_region 26 with fail
    obtain ⟨c2, hc2⟩ : ∃ d : Co, d = ⟨c.pa, c.re, !c.rs, c.bl⟩ := ⟨_, rfl⟩
    have hst2 : St w c c2 (.slice a n cp) (.slice aa n ca) (.slice ab n cb) NA NB lo (w9.setCell ⟨NB, 2, none⟩ (.bool (!c.rs))) := by
      rw [hc2]
      have h6 := (unhide HWc).b6
      refine (unhide HWc).wrote (unhide HWc).n2 ((heap_setCell_same w9 _ 2 _ _ _ h6).trans rfl) ?_
      exact CoO.bls (Own.move BlO.moves (unhide HCo2) (fun q _ hq => heap_setCell_other _ _ _ _ (by show q ≠ NB; omega)) (Nat.le_refl _) (Nat.le_refl _)) (fun _ _ _ => trivial)
    have hwf2 : WfC c2 := by rw [hc2]; exact ⟨(unhide HC).pa, (unhide HC).re, (unhide HC).bl, (unhide HC).len⟩
    have hsc2 : sC c c2 = false := by rw [hc2]; exact sC_ne fun e => by have h : c.rs = !c.rs := congrArg Co.rs e; revert h; cases c.rs <;> simp
    have HSa1 := hide (fun W h1 h2 => unhide HSa c c2 (unhide HC) hwf2 (fun k => k < NA) (fun _ => True) (.slice aa n ca) (.slice ab n cb) W h1 h2)
    have HSa2 := hide (fun vc W h1 h2 => unhide HSa c c (unhide HC) (unhide HC) (fun k => k < NA) (fun k => True) (.slice aa n ca) vc W h1 h2)
    rw [hsc2] at HSa1
    rw [unhide HSelf] at HSa2
    have HS2 := hide hst2
    clear hst2 hwf2 hsc2 hc2
    generalize w9.setCell ⟨NB, 2, none⟩ (.bool (!c.rs)) = WX at *
    have hk := (unhide HS2).cls
    unfold Cls at hk
    have HWc := hide (show St w c c2 (.slice a n cp) (.slice aa n ca) (.slice ab n cb) NA NB lo WX.drew from (unhide HS2).on (Below.refl _ _).drew)
    clear HS2
    go_region_held3 (fun W => (W.cell? ⟨w.heap.size, 0, none⟩ = some (.int .i64 c.pa) ∧ W.cell? ⟨w.heap.size, 1, none⟩ = some (.int .i64 c.re) ∧ W.cell? ⟨w.heap.size, 2, none⟩ = some (.bool c.rs) ∧ W.cell? ⟨w.heap.size, 3, none⟩ = some (.slice a n cp)) ∧
        (W.cell? ⟨NA, 0, none⟩ = some (.int .i64 c.pa) ∧ W.cell? ⟨NA, 1, none⟩ = some (.int .i64 c.re) ∧ W.cell? ⟨NA, 2, none⟩ = some (.bool c.rs) ∧ W.cell? ⟨NA, 3, none⟩ = some (.slice aa n ca)) ∧
        (W.cell? ⟨NB, 0, none⟩ = some (.int .i64 c2.pa) ∧ W.cell? ⟨NB, 1, none⟩ = some (.int .i64 c2.re) ∧ W.cell? ⟨NB, 2, none⟩ = some (.bool c2.rs) ∧ W.cell? ⟨NB, 3, none⟩ = some (.slice ab n cb)))
      (first | go_keep | exact hk)
      (first
        | (go_at_call 13; with_reducible refine (unhide HSa1 _ (unhide HWc).la (unhide HWc).lb).mono ?_; rintro e w11 ⟨rfl, hb11⟩; have HWc := hide ((unhide HWc).on hb11); clear hb11; have hk := (unhide HWc).cls)
        | (go_at_call 9; refine (unhide HGi _ (unhide HWc).be).mono ?_; rintro e w12 ⟨vc, rfl, hlc, hb12⟩; obtain ⟨ac2, cc2, rfl⟩ : ∃ x y, vc = .slice x n y := by { obtain ⟨x, y, e⟩ := bls_shape hlc; exact ⟨x, y, by rw [e, unhide HN]⟩ }; have HLc := hide hlc; have HWc := hide ((unhide HWc).on hb12); clear hb12 hlc; have hk := (unhide HWc).cls)
        | (go_at_call 13; refine (unhide HSa2 _ _ (unhide HWc).la ((unhide HLc).moved (fun k _ _ => ⟨trivial, rfl⟩) (Nat.le_refl _))).mono ?_; rintro e w13 ⟨rfl, hb13⟩; have HWc := hide ((unhide HWc).on hb13); clear hb13; have hk := (unhide HWc).cls)
        | (go_at_call 8; refine (unhide HSu _ (unhide HWc).be).mono ?_; rintro e w14 ⟨rfl, hb14⟩; have HWc := hide ((unhide HWc).on hb14); clear hb14; have hk := (unhide HWc).cls)
        | fail)
    rename_i hHeld
    clear hHeld hk
    have HBF := hide (unhide HWc).be
    go_wp2
    go_ret
    exact ⟨rfl, unhide HBF⟩
  have t2 : (k == 2) = false := by simpa using k2
  clear k2
  by_cases hn0 : n = 0
  · subst hn0
    have hbl : c.bl = [] := List.eq_nil_of_length_eq_zero (unhide HN)
    have how := unhide HOw2 hbl
    obtain ⟨ib, hib, hb0, hb1, hb2⟩ := info_parts infoBl
    have HBl := hide hbl; have HOw3 := hide how
    clear hbl how
    go_wp2_with (at_builtin; refine wpList_append_lies (w9.alloc (.cells #[.slice none 0 0, .slice none 0 0, .int .i64 0] 47)) rfl (.tmp 74) (.tmp 76) 27 rfl lo 47 ib (.agg #[.slice none 0 0, .slice none 0 0, .int .i64 0]) 3 56 Tryd.underlying27 hib hb0 hb1 hb2 rfl (by decide) (.slice ab 0 cb) 0 [] rfl ((unhide HOw3).alloc _) ⟨w9.heap.size, 0, none⟩ 1 1 (blC 0 (.slice none 0 0) (.slice none 0 0)) rfl rfl (new_row w9 _ _) (blC_one _ _ _ ⟨_, _, _, rfl⟩ ⟨_, _, _, rfl⟩) (by omega) (by unfold maxLen; omega) (by omega) (by have := (unhide HWc).n2; simp; omega) (w9.heap.size + 1) (by simp) ?_)
    intro gg cpn w10 hown10 hgrow hat10 hlt10
    have hst10 := St.app (unhide HWc) (unhide HBl) (unhide HOw3) hown10 hgrow
    have hNB10 : NB < w10.heap.size := by have := hgrow.size; simp at this; omega
    have h610 : w10.heap[NB]? = some (.cells (cob c.pa c.re c.rs (.slice ab 0 cb)) 29 (0, 0)) := by
      refine ((hgrow.block NB (by simp; omega) (fun e => ?_)).trans (Below.heap_alloc w9 _ _ zl)).trans (unhide HWc).b6
      rcases (unhide HOw3).2 with ⟨e2, _⟩ | ⟨g, cap, cur, e2, _, hc, _⟩
      · cases e2; cases e
      · cases e2
        simp only [Value.ownBlock, Option.some.injEq] at e
        subst e
        rw [(unhide HWc).b6] at hc
        simp at hc
    have HST := hide hst10
    clear hst10 z0 z1 z2 z3 zf zl hown10 hgrow hat10 hlt10
    obtain ⟨z0, z1, z2, z3, zf, zl⟩ := cob_cells h610
    clear h610
    go_upto_region 26 with fail
    obtain ⟨c2, hc2⟩ : ∃ d : Co, d = ⟨c.pa, c.re, c.rs, [⟨[], [], 0⟩]⟩ := ⟨_, rfl⟩
    have hst2 : St w c c2 (.slice a 0 cp) (.slice aa 0 ca) (.slice (some ⟨gg, 0, none⟩) 1 cpn) NA NB lo (w10.setCell ⟨NB, 3, none⟩ (.slice (some ⟨gg, 0, none⟩) 1 cpn)) := by
      rw [hc2]
      exact unhide HST
    have hwf2 : WfC c2 := by rw [hc2]; exact ⟨(unhide HC).pa, (unhide HC).re, fun b hb => by simp only [List.mem_singleton] at hb; subst hb; exact ⟨nofun, nofun, ⟨by decide, by decide⟩, by decide, by decide⟩, by simp⟩
    have hsc2 : sC c c2 = false := by rw [hc2]; exact sC_ne fun e => by have h : c.bl = [⟨[], [], 0⟩] := congrArg Co.bl e; rw [unhide HBl] at h; cases h
    have HSa1 := hide (fun W h1 h2 => unhide HSa c c2 (unhide HC) hwf2 (fun k => k < NA) (fun _ => True) (.slice aa 0 ca) (.slice (some ⟨gg, 0, none⟩) 1 cpn) W h1 h2)
    have HSa2 := hide (fun vc W h1 h2 => unhide HSa c c (unhide HC) (unhide HC) (fun k => k < NA) (fun k => True) (.slice aa 0 ca) vc W h1 h2)
    rw [hsc2] at HSa1
    rw [unhide HSelf] at HSa2
    have HS2 := hide hst2
    clear hst2 hwf2 hsc2 hc2
    generalize w10.setCell ⟨NB, 3, none⟩ (.slice (some ⟨gg, 0, none⟩) 1 cpn) = WX at *
    have hk := (unhide HS2).cls
    unfold Cls at hk
    have HWc := hide (show St w c c2 (.slice a 0 cp) (.slice aa 0 ca) (.slice (some ⟨gg, 0, none⟩) 1 cpn) NA NB lo WX.drew from (unhide HS2).on (Below.refl _ _).drew)
    clear HS2
    go_region_held3 (fun W => (W.cell? ⟨w.heap.size, 0, none⟩ = some (.int .i64 c.pa) ∧ W.cell? ⟨w.heap.size, 1, none⟩ = some (.int .i64 c.re) ∧ W.cell? ⟨w.heap.size, 2, none⟩ = some (.bool c.rs) ∧ W.cell? ⟨w.heap.size, 3, none⟩ = some (.slice a 0 cp)) ∧
        (W.cell? ⟨NA, 0, none⟩ = some (.int .i64 c.pa) ∧ W.cell? ⟨NA, 1, none⟩ = some (.int .i64 c.re) ∧ W.cell? ⟨NA, 2, none⟩ = some (.bool c.rs) ∧ W.cell? ⟨NA, 3, none⟩ = some (.slice aa 0 ca)) ∧
        (W.cell? ⟨NB, 0, none⟩ = some (.int .i64 c2.pa) ∧ W.cell? ⟨NB, 1, none⟩ = some (.int .i64 c2.re) ∧ W.cell? ⟨NB, 2, none⟩ = some (.bool c2.rs) ∧ W.cell? ⟨NB, 3, none⟩ = some (.slice (some ⟨gg, 0, none⟩) 1 cpn)))
      (first | go_keep | exact hk)
      (first
        | (go_at_call 13; with_reducible refine (unhide HSa1 _ (unhide HWc).la (unhide HWc).lb).mono ?_; rintro e w11 ⟨rfl, hb11⟩; have HWc := hide ((unhide HWc).on hb11); clear hb11; have hk := (unhide HWc).cls)
        | (go_at_call 9; refine (unhide HGi _ (unhide HWc).be).mono ?_; rintro e w12 ⟨vc, rfl, hlc, hb12⟩; obtain ⟨ac2, cc2, rfl⟩ : ∃ x y, vc = .slice x 0 y := by { obtain ⟨x, y, e⟩ := bls_shape hlc; exact ⟨x, y, by rw [e, unhide HN]⟩ }; have HLc := hide hlc; have HWc := hide ((unhide HWc).on hb12); clear hb12 hlc; have hk := (unhide HWc).cls)
        | (go_at_call 13; refine (unhide HSa2 _ _ (unhide HWc).la ((unhide HLc).moved (fun k _ _ => ⟨trivial, rfl⟩) (Nat.le_refl _))).mono ?_; rintro e w13 ⟨rfl, hb13⟩; have HWc := hide ((unhide HWc).on hb13); clear hb13; have hk := (unhide HWc).cls)
        | (go_at_call 8; refine (unhide HSu _ (unhide HWc).be).mono ?_; rintro e w14 ⟨rfl, hb14⟩; have HWc := hide ((unhide HWc).on hb14); clear hb14; have hk := (unhide HWc).cls)
        | fail)
    rename_i hHeld
    clear hHeld hk
    have HBF := hide (unhide HWc).be
    go_wp2
    go_ret
    exact ⟨rfl, unhide HBF⟩
  obtain ⟨x, r, hbl⟩ : ∃ x r, c.bl = x :: r := by
    cases h : c.bl with
    | nil => exact absurd (by rw [← unhide HN, h]; rfl) hn0
    | cons x r => exact ⟨x, r, rfl⟩
  have hwfx := (unhide HC).bl x (by rw [hbl]; simp)
  have hwfr := fun b (hb : b ∈ r) => (unhide HC).bl b (by rw [hbl]; simp [hb])
  obtain ⟨ins, next, dep⟩ := x
  have hcoo := unhide HCo2
  rw [hbl] at hcoo
  obtain ⟨b, p, q, cap, vi, vn, ev, hF⟩ := CoO.fst hcoo
  simp only [Value.slice.injEq] at ev
  obtain ⟨rfl, hnr, rfl⟩ := ev
  have hnpos : (0 : Int) < n := by omega
  have tn : ((n : Int) == 0) = false := by simp; omega
  have f0 := hF.c0; have f1 := hF.c1; have f2 := hF.c2
  have ff := hF.t.frozen; have fl := hF.t.lt
  have hlob := hF.hb
  have hbNB : b < NB := by have := hF.bp; have := hF.ph; omega
  have HF := hide hF; have HBl := hide hbl; have HWx := hide hwfx; have HWr := hide hwfr; have HNr := hide hnr; have HLob := hide hlob
  obtain ⟨ai, ci, rfl⟩ : ∃ ai ci, vi = .slice ai ins.length ci := by obtain ⟨ai, ci, e, _⟩ := hF.i; exact ⟨ai, ci, e⟩
  obtain ⟨an, cn, rfl⟩ : ∃ an cn, vn = .slice an next.length cn := by obtain ⟨an, cn, e, _⟩ := hF.n; exact ⟨an, cn, e⟩
  have HB0 := hide (show c.bl.length ≤ 1099511627776 from (unhide HC).len)
  clear hcoo hF hbl hwfx hwfr hnr hn0 HOw2 HCo2 hlob
  have HBb := hide hbNB
  clear hbNB
  by_cases k3 : k = 3
  · subst k3
    go_upto_region 19 with fail
    go_region
    go_upto_region 26 with fail
    obtain ⟨c2, hc2⟩ : ∃ d : Co, d = ⟨c.pa, c.re, c.rs, ⟨ins, next, wrap64 (dep + 1)⟩ :: r⟩ := ⟨_, rfl⟩
    have hst2 : St w c c2 (.slice a n cp) (.slice aa n ca) (.slice (some ⟨b, 0, none⟩) n cb) NA NB lo ((w9.setCell ⟨b, 2, none⟩ (.int .i64 (wrap64 (dep + 1)))).drew) := by
      rw [hc2]
      refine St.on ?_ (Below.refl _ _).drew
      refine St.wrote (unhide HWc) (unhide HLob) ((unhide HWc).row (by have := unhide HBb; omega)) ?_
      have hq := (unhide HF).dep (wrap64 (dep + 1))
      rw [← unhide HNr] at hq
      exact hq
    have hwf2 : WfC c2 := by rw [hc2]; exact ⟨(unhide HC).pa, (unhide HC).re, fun b hb => (List.mem_cons.1 hb).elim (fun e => by subst e; exact ⟨(unhide HWx).ins, (unhide HWx).next, (wrap_ne dep (unhide HWx).dep).2, (unhide HWx).len, (unhide HWx).nlen⟩) (fun h => unhide HWr b h), by have := unhide HB0; rw [unhide HBl] at this; simpa using this⟩
    have hsc2 : sC c c2 = false := by rw [hc2]; exact sC_ne fun e => by have h : c.bl = ⟨ins, next, wrap64 (dep + 1)⟩ :: r := congrArg Co.bl e; rw [unhide HBl] at h; simp only [List.cons.injEq, Bl.mk.injEq, In.mk.injEq] at h; exact (wrap_ne dep (unhide HWx).dep).1 h.1.2.2.symm
    have HSa1 := hide (fun W h1 h2 => unhide HSa c c2 (unhide HC) hwf2 (fun k => k < NA) (fun _ => True) (.slice aa n ca) (.slice (some ⟨b, 0, none⟩) n cb) W h1 h2)
    have HSa2 := hide (fun vc W h1 h2 => unhide HSa c c (unhide HC) (unhide HC) (fun k => k < NA) (fun k => True) (.slice aa n ca) vc W h1 h2)
    rw [hsc2] at HSa1
    rw [unhide HSelf] at HSa2
    have HS2 := hide hst2
    clear hst2 hwf2 hsc2 hc2
    generalize (w9.setCell ⟨b, 2, none⟩ (.int .i64 (wrap64 (dep + 1)))).drew = WX at *
    have hk := (unhide HS2).cls
    unfold Cls at hk
    have HWc := hide (show St w c c2 (.slice a n cp) (.slice aa n ca) (.slice (some ⟨b, 0, none⟩) n cb) NA NB lo WX.drew from (unhide HS2).on (Below.refl _ _).drew)
    clear HS2
    go_region_held3 (fun W => (W.cell? ⟨w.heap.size, 0, none⟩ = some (.int .i64 c.pa) ∧ W.cell? ⟨w.heap.size, 1, none⟩ = some (.int .i64 c.re) ∧ W.cell? ⟨w.heap.size, 2, none⟩ = some (.bool c.rs) ∧ W.cell? ⟨w.heap.size, 3, none⟩ = some (.slice a n cp)) ∧
        (W.cell? ⟨NA, 0, none⟩ = some (.int .i64 c.pa) ∧ W.cell? ⟨NA, 1, none⟩ = some (.int .i64 c.re) ∧ W.cell? ⟨NA, 2, none⟩ = some (.bool c.rs) ∧ W.cell? ⟨NA, 3, none⟩ = some (.slice aa n ca)) ∧
        (W.cell? ⟨NB, 0, none⟩ = some (.int .i64 c2.pa) ∧ W.cell? ⟨NB, 1, none⟩ = some (.int .i64 c2.re) ∧ W.cell? ⟨NB, 2, none⟩ = some (.bool c2.rs) ∧ W.cell? ⟨NB, 3, none⟩ = some (.slice (some ⟨b, 0, none⟩) n cb)))
      (first | go_keep | exact hk)
      (first
        | (go_at_call 13; with_reducible refine (unhide HSa1 _ (unhide HWc).la (unhide HWc).lb).mono ?_; rintro e w11 ⟨rfl, hb11⟩; have HWc := hide ((unhide HWc).on hb11); clear hb11; have hk := (unhide HWc).cls)
        | (go_at_call 9; refine (unhide HGi _ (unhide HWc).be).mono ?_; rintro e w12 ⟨vc, rfl, hlc, hb12⟩; obtain ⟨ac2, cc2, rfl⟩ : ∃ x y, vc = .slice x n y := by { obtain ⟨x, y, e⟩ := bls_shape hlc; exact ⟨x, y, by rw [e, unhide HN]⟩ }; have HLc := hide hlc; have HWc := hide ((unhide HWc).on hb12); clear hb12 hlc; have hk := (unhide HWc).cls)
        | (go_at_call 13; refine (unhide HSa2 _ _ (unhide HWc).la ((unhide HLc).moved (fun k _ _ => ⟨trivial, rfl⟩) (Nat.le_refl _))).mono ?_; rintro e w13 ⟨rfl, hb13⟩; have HWc := hide ((unhide HWc).on hb13); clear hb13; have hk := (unhide HWc).cls)
        | (go_at_call 8; refine (unhide HSu _ (unhide HWc).be).mono ?_; rintro e w14 ⟨rfl, hb14⟩; have HWc := hide ((unhide HWc).on hb14); clear hb14; have hk := (unhide HWc).cls)
        | fail)
    rename_i hHeld
    clear hHeld hk
    have HBF := hide (unhide HWc).be
    go_wp2
    go_ret
    exact ⟨rfl, unhide HBF⟩
  have t3 : (k == 3) = false := by simpa using k3
  clear k3
  generalize hil : ins.length = il at *
  generalize hnl2 : next.length = nl at *
  have Hil := hide hil; have Hnl := hide hnl2
  clear hil hnl2
  by_cases k4 : k = 4
  · subst k4
    by_cases hnl0 : nl = 0
    · subst hnl0
      by_cases hil0 : il = 0
      · subst hil0
        go_upto_region 26 with fail
        clear z0 z1 z2 z3 zf

        obtain ⟨c2, hc2⟩ : ∃ d : Co, d = c := ⟨_, rfl⟩
        have hst2 : St w c c2 (.slice a n cp) (.slice aa n ca) (.slice (some ⟨b, 0, none⟩) n cb) NA NB lo (w9) := by
          rw [hc2]
          exact unhide HWc
        have hwf2 : WfC c2 := by rw [hc2]; exact unhide HC
        have hsc2 : sC c c2 = true := by rw [hc2]; exact sC_self c
        have HSa1 := hide (fun W h1 h2 => unhide HSa c c2 (unhide HC) hwf2 (fun k => k < NA) (fun _ => True) (.slice aa n ca) (.slice (some ⟨b, 0, none⟩) n cb) W h1 h2)
        have HSa2 := hide (fun vc W h1 h2 => unhide HSa c c (unhide HC) (unhide HC) (fun k => k < NA) (fun k => True) (.slice aa n ca) vc W h1 h2)
        rw [hsc2] at HSa1
        rw [unhide HSelf] at HSa2
        have HS2 := hide hst2
        clear hst2 hwf2 hsc2 hc2
        generalize w9 = WX at *
        have hk := (unhide HS2).cls
        unfold Cls at hk
        have HWc := hide (show St w c c2 (.slice a n cp) (.slice aa n ca) (.slice (some ⟨b, 0, none⟩) n cb) NA NB lo WX.drew from (unhide HS2).on (Below.refl _ _).drew)
        clear HS2
        go_region_held3 (fun W => (W.cell? ⟨w.heap.size, 0, none⟩ = some (.int .i64 c.pa) ∧ W.cell? ⟨w.heap.size, 1, none⟩ = some (.int .i64 c.re) ∧ W.cell? ⟨w.heap.size, 2, none⟩ = some (.bool c.rs) ∧ W.cell? ⟨w.heap.size, 3, none⟩ = some (.slice a n cp)) ∧
            (W.cell? ⟨NA, 0, none⟩ = some (.int .i64 c.pa) ∧ W.cell? ⟨NA, 1, none⟩ = some (.int .i64 c.re) ∧ W.cell? ⟨NA, 2, none⟩ = some (.bool c.rs) ∧ W.cell? ⟨NA, 3, none⟩ = some (.slice aa n ca)) ∧
            (W.cell? ⟨NB, 0, none⟩ = some (.int .i64 c2.pa) ∧ W.cell? ⟨NB, 1, none⟩ = some (.int .i64 c2.re) ∧ W.cell? ⟨NB, 2, none⟩ = some (.bool c2.rs) ∧ W.cell? ⟨NB, 3, none⟩ = some (.slice (some ⟨b, 0, none⟩) n cb)))
          (first | go_keep | exact hk)
          (first
            | (go_at_call 13; with_reducible refine (unhide HSa1 _ (unhide HWc).la (unhide HWc).lb).mono ?_; rintro e w11 ⟨rfl, hb11⟩; have HWc := hide ((unhide HWc).on hb11); clear hb11; have hk := (unhide HWc).cls)
            | (go_at_call 9; refine (unhide HGi _ (unhide HWc).be).mono ?_; rintro e w12 ⟨vc, rfl, hlc, hb12⟩; obtain ⟨ac2, cc2, rfl⟩ : ∃ x y, vc = .slice x n y := by { obtain ⟨x, y, e⟩ := bls_shape hlc; exact ⟨x, y, by rw [e, unhide HN]⟩ }; have HLc := hide hlc; have HWc := hide ((unhide HWc).on hb12); clear hb12 hlc; have hk := (unhide HWc).cls)
            | (go_at_call 13; refine (unhide HSa2 _ _ (unhide HWc).la ((unhide HLc).moved (fun k _ _ => ⟨trivial, rfl⟩) (Nat.le_refl _))).mono ?_; rintro e w13 ⟨rfl, hb13⟩; have HWc := hide ((unhide HWc).on hb13); clear hb13; have hk := (unhide HWc).cls)
            | (go_at_call 8; refine (unhide HSu _ (unhide HWc).be).mono ?_; rintro e w14 ⟨rfl, hb14⟩; have HWc := hide ((unhide HWc).on hb14); clear hb14; have hk := (unhide HWc).cls)
            | fail)
        rename_i hHeld
        clear hHeld hk
        have HBF := hide (unhide HWc).be
        go_wp2
        go_ret
        exact ⟨rfl, unhide HBF⟩
      · obtain ⟨y, tl2, rfl⟩ : ∃ y tl2, ins = y :: tl2 := by
          cases ins with
          | nil => exact absurd (unhide Hil).symm hil0
          | cons y tl2 => exact ⟨y, tl2, rfl⟩
        obtain ⟨bi, p2, ci2, vs, ev, hI⟩ := (unhide HF).ins
        simp only [Value.slice.injEq] at ev
        obtain ⟨rfl, hev, rfl⟩ := ev
        have hil1 : (0 : Int) < il := by omega
        have ti : ((il : Int) == 0) = false := by simp; omega
        obtain ⟨op, dst, src, nn, of⟩ := y
        obtain ⟨sa, sc, rfl⟩ : ∃ sa sc, vs = .slice sa src.length sc := by obtain ⟨sa, sc, e, _⟩ := hI.s; exact ⟨sa, sc, e⟩
        have i0 := hI.d0; have i2 := hI.d2; have i3 := hI.d3
        have jf := hI.tt.frozen; have jl := hI.tt.lt
        have hbi1 : lo ≤ bi := by have := hI.l1; have := hI.f.q1; have := hI.f.hb; omega
        have hbi2 : bi < NB := by have := hI.l2; have := hI.l3; have := hI.f.ph; omega
        have HI := hide hI; have HBi1 := hide hbi1; have HBi2 := hide hbi2; have HWy := hide ((unhide HWx).ins ⟨op, dst, src, nn, of⟩ (by simp))
        clear hev hI hbi1 hbi2 hil0
        simp only at i0 i3
        generalize hsl : src.length = sl at *
        have Hsl := hide hsl
        clear hsl
        go_upto_region 9 with fail
        go_region
        go_upto_region 26 with fail

        obtain ⟨c2, hc2⟩ : ∃ d : Co, d = ⟨c.pa, c.re, c.rs, ⟨⟨op, dst, src, wrap64 (nn + 1), of⟩ :: tl2, next, dep⟩ :: r⟩ := ⟨_, rfl⟩
        have hst2 : St w c c2 (.slice a n cp) (.slice aa n ca) (.slice (some ⟨b, 0, none⟩) n cb) NA NB lo ((w9.setCell ⟨bi, 3, none⟩ (.int .i64 (wrap64 (nn + 1)))).drew) := by
          rw [hc2]
          refine St.on ?_ (Below.refl _ _).drew
          refine St.wrote (unhide HWc) (unhide HBi1) ((unhide HWc).row (by have := unhide HBi2; omega)) ?_
          have hq := (unhide HI).num (wrap64 (nn + 1))
          rw [← unhide HNr] at hq
          exact hq
        have hwf2 : WfC c2 := by rw [hc2]; exact ⟨(unhide HC).pa, (unhide HC).re, fun b hb => (List.mem_cons.1 hb).elim (fun e => by subst e; exact ⟨fun y hy => (List.mem_cons.1 hy).elim (fun e => by subst e; exact ⟨(unhide HWy).op, (unhide HWy).dst, (unhide HWy).src, (wrap_ne nn (unhide HWy).n).2, (unhide HWy).of0, (unhide HWy).of1, (unhide HWy).len⟩) (fun h => (unhide HWx).ins y (by simp [h])), (unhide HWx).next, (unhide HWx).dep, by have := (unhide HWx).len; simpa using this, (unhide HWx).nlen⟩) (fun h => unhide HWr b h), by have := unhide HB0; rw [unhide HBl] at this; simpa using this⟩
        have hsc2 : sC c c2 = false := by rw [hc2]; exact sC_ne fun e => by have h : c.bl = ⟨⟨op, dst, src, wrap64 (nn + 1), of⟩ :: tl2, next, dep⟩ :: r := congrArg Co.bl e; rw [unhide HBl] at h; simp only [List.cons.injEq, Bl.mk.injEq, In.mk.injEq] at h; exact (wrap_ne nn (unhide HWy).n).1 h.1.1.1.2.2.2.1.symm
        have HSa1 := hide (fun W h1 h2 => unhide HSa c c2 (unhide HC) hwf2 (fun k => k < NA) (fun _ => True) (.slice aa n ca) (.slice (some ⟨b, 0, none⟩) n cb) W h1 h2)
        have HSa2 := hide (fun vc W h1 h2 => unhide HSa c c (unhide HC) (unhide HC) (fun k => k < NA) (fun k => True) (.slice aa n ca) vc W h1 h2)
        rw [hsc2] at HSa1
        rw [unhide HSelf] at HSa2
        have HS2 := hide hst2
        clear hst2 hwf2 hsc2 hc2
        generalize (w9.setCell ⟨bi, 3, none⟩ (.int .i64 (wrap64 (nn + 1)))).drew = WX at *
        have hk := (unhide HS2).cls
        unfold Cls at hk
        have HWc := hide (show St w c c2 (.slice a n cp) (.slice aa n ca) (.slice (some ⟨b, 0, none⟩) n cb) NA NB lo WX.drew from (unhide HS2).on (Below.refl _ _).drew)
        clear HS2
        go_region_held3 (fun W => (W.cell? ⟨w.heap.size, 0, none⟩ = some (.int .i64 c.pa) ∧ W.cell? ⟨w.heap.size, 1, none⟩ = some (.int .i64 c.re) ∧ W.cell? ⟨w.heap.size, 2, none⟩ = some (.bool c.rs) ∧ W.cell? ⟨w.heap.size, 3, none⟩ = some (.slice a n cp)) ∧
            (W.cell? ⟨NA, 0, none⟩ = some (.int .i64 c.pa) ∧ W.cell? ⟨NA, 1, none⟩ = some (.int .i64 c.re) ∧ W.cell? ⟨NA, 2, none⟩ = some (.bool c.rs) ∧ W.cell? ⟨NA, 3, none⟩ = some (.slice aa n ca)) ∧
            (W.cell? ⟨NB, 0, none⟩ = some (.int .i64 c2.pa) ∧ W.cell? ⟨NB, 1, none⟩ = some (.int .i64 c2.re) ∧ W.cell? ⟨NB, 2, none⟩ = some (.bool c2.rs) ∧ W.cell? ⟨NB, 3, none⟩ = some (.slice (some ⟨b, 0, none⟩) n cb)))
          (first | go_keep | exact hk)
          (first
            | (go_at_call 13; with_reducible refine (unhide HSa1 _ (unhide HWc).la (unhide HWc).lb).mono ?_; rintro e w11 ⟨rfl, hb11⟩; have HWc := hide ((unhide HWc).on hb11); clear hb11; have hk := (unhide HWc).cls)
            | (go_at_call 9; refine (unhide HGi _ (unhide HWc).be).mono ?_; rintro e w12 ⟨vc, rfl, hlc, hb12⟩; obtain ⟨ac2, cc2, rfl⟩ : ∃ x y, vc = .slice x n y := by { obtain ⟨x, y, e⟩ := bls_shape hlc; exact ⟨x, y, by rw [e, unhide HN]⟩ }; have HLc := hide hlc; have HWc := hide ((unhide HWc).on hb12); clear hb12 hlc; have hk := (unhide HWc).cls)
            | (go_at_call 13; refine (unhide HSa2 _ _ (unhide HWc).la ((unhide HLc).moved (fun k _ _ => ⟨trivial, rfl⟩) (Nat.le_refl _))).mono ?_; rintro e w13 ⟨rfl, hb13⟩; have HWc := hide ((unhide HWc).on hb13); clear hb13; have hk := (unhide HWc).cls)
            | (go_at_call 8; refine (unhide HSu _ (unhide HWc).be).mono ?_; rintro e w14 ⟨rfl, hb14⟩; have HWc := hide ((unhide HWc).on hb14); clear hb14; have hk := (unhide HWc).cls)
            | fail)
        rename_i hHeld
        clear hHeld hk
        have HBF := hide (unhide HWc).be
        go_wp2
        go_ret
        exact ⟨rfl, unhide HBF⟩
    · obtain ⟨z, t, rfl⟩ : ∃ z t, next = z :: t := by
        cases next with
        | nil => exact absurd (unhide Hnl).symm hnl0
        | cons z t => exact ⟨z, t, rfl⟩
      obtain ⟨bn, cn2, ev, g1, g2, g3, g4, g5⟩ := (unhide HF).nxt
      simp only [Value.slice.injEq] at ev
      obtain ⟨rfl, hev, rfl⟩ := ev
      have hnl1 : (0 : Int) < nl := by omega
      have HG1 := hide g1; have HG2 := hide g2; have HG5 := hide g5
      have gl : bn < w9.heap.size := World.block_lt_of_cell? w9 _ g3
      clear hev g1 g2 g5 hnl0
      go_upto_region 21 with fail
      go_region
      go_upto_region 26 with fail

      obtain ⟨c2, hc2⟩ : ∃ d : Co, d = ⟨c.pa, c.re, c.rs, ⟨ins, wrap64 (z + 1) :: t, dep⟩ :: r⟩ := ⟨_, rfl⟩
      have hst2 : St w c c2 (.slice a n cp) (.slice aa n ca) (.slice (some ⟨b, 0, none⟩) n cb) NA NB lo ((w9.setCell ⟨bn, 0, none⟩ (.int .i64 (wrap64 (z + 1)))).drew) := by
        rw [hc2]
        refine St.on ?_ (Below.refl _ _).drew
        refine St.wrote (unhide HWc) (unhide HG1) ((unhide HWc).row (by have := unhide HG2; omega)) ?_
        have hq := unhide HG5 (wrap64 (z + 1))
        rw [← unhide HNr] at hq
        exact hq
      have hwf2 : WfC c2 := by rw [hc2]; exact ⟨(unhide HC).pa, (unhide HC).re, fun b hb => (List.mem_cons.1 hb).elim (fun e => by subst e; exact ⟨(unhide HWx).ins, fun y hy => (List.mem_cons.1 hy).elim (fun e => by subst e; exact (wrap_ne z ((unhide HWx).next z (by simp))).2) (fun h => (unhide HWx).next y (by simp [h])), (unhide HWx).dep, (unhide HWx).len, by have := (unhide HWx).nlen; simpa using this⟩) (fun h => unhide HWr b h), by have := unhide HB0; rw [unhide HBl] at this; simpa using this⟩
      have hsc2 : sC c c2 = false := by rw [hc2]; exact sC_ne fun e => by have h : c.bl = ⟨ins, wrap64 (z + 1) :: t, dep⟩ :: r := congrArg Co.bl e; rw [unhide HBl] at h; simp only [List.cons.injEq, Bl.mk.injEq, In.mk.injEq] at h; exact (wrap_ne z ((unhide HWx).next z (by simp))).1 h.1.2.1.1.symm
      have HSa1 := hide (fun W h1 h2 => unhide HSa c c2 (unhide HC) hwf2 (fun k => k < NA) (fun _ => True) (.slice aa n ca) (.slice (some ⟨b, 0, none⟩) n cb) W h1 h2)
      have HSa2 := hide (fun vc W h1 h2 => unhide HSa c c (unhide HC) (unhide HC) (fun k => k < NA) (fun k => True) (.slice aa n ca) vc W h1 h2)
      rw [hsc2] at HSa1
      rw [unhide HSelf] at HSa2
      have HS2 := hide hst2
      clear hst2 hwf2 hsc2 hc2
      generalize (w9.setCell ⟨bn, 0, none⟩ (.int .i64 (wrap64 (z + 1)))).drew = WX at *
      have hk := (unhide HS2).cls
      unfold Cls at hk
      have HWc := hide (show St w c c2 (.slice a n cp) (.slice aa n ca) (.slice (some ⟨b, 0, none⟩) n cb) NA NB lo WX.drew from (unhide HS2).on (Below.refl _ _).drew)
      clear HS2
      go_region_held3 (fun W => (W.cell? ⟨w.heap.size, 0, none⟩ = some (.int .i64 c.pa) ∧ W.cell? ⟨w.heap.size, 1, none⟩ = some (.int .i64 c.re) ∧ W.cell? ⟨w.heap.size, 2, none⟩ = some (.bool c.rs) ∧ W.cell? ⟨w.heap.size, 3, none⟩ = some (.slice a n cp)) ∧
          (W.cell? ⟨NA, 0, none⟩ = some (.int .i64 c.pa) ∧ W.cell? ⟨NA, 1, none⟩ = some (.int .i64 c.re) ∧ W.cell? ⟨NA, 2, none⟩ = some (.bool c.rs) ∧ W.cell? ⟨NA, 3, none⟩ = some (.slice aa n ca)) ∧
          (W.cell? ⟨NB, 0, none⟩ = some (.int .i64 c2.pa) ∧ W.cell? ⟨NB, 1, none⟩ = some (.int .i64 c2.re) ∧ W.cell? ⟨NB, 2, none⟩ = some (.bool c2.rs) ∧ W.cell? ⟨NB, 3, none⟩ = some (.slice (some ⟨b, 0, none⟩) n cb)))
        (first | go_keep | exact hk)
        (first
          | (go_at_call 13; with_reducible refine (unhide HSa1 _ (unhide HWc).la (unhide HWc).lb).mono ?_; rintro e w11 ⟨rfl, hb11⟩; have HWc := hide ((unhide HWc).on hb11); clear hb11; have hk := (unhide HWc).cls)
          | (go_at_call 9; refine (unhide HGi _ (unhide HWc).be).mono ?_; rintro e w12 ⟨vc, rfl, hlc, hb12⟩; obtain ⟨ac2, cc2, rfl⟩ : ∃ x y, vc = .slice x n y := by { obtain ⟨x, y, e⟩ := bls_shape hlc; exact ⟨x, y, by rw [e, unhide HN]⟩ }; have HLc := hide hlc; have HWc := hide ((unhide HWc).on hb12); clear hb12 hlc; have hk := (unhide HWc).cls)
          | (go_at_call 13; refine (unhide HSa2 _ _ (unhide HWc).la ((unhide HLc).moved (fun k _ _ => ⟨trivial, rfl⟩) (Nat.le_refl _))).mono ?_; rintro e w13 ⟨rfl, hb13⟩; have HWc := hide ((unhide HWc).on hb13); clear hb13; have hk := (unhide HWc).cls)
          | (go_at_call 8; refine (unhide HSu _ (unhide HWc).be).mono ?_; rintro e w14 ⟨rfl, hb14⟩; have HWc := hide ((unhide HWc).on hb14); clear hb14; have hk := (unhide HWc).cls)
          | fail)
      rename_i hHeld
      clear hHeld hk
      have HBF := hide (unhide HWc).be
      go_wp2
      go_ret
      exact ⟨rfl, unhide HBF⟩
  have t4 : (k == 4) = false := by simpa using k4
  clear k4
  by_cases hil0 : il = 0
  · subst hil0
    go_upto_region 26 with fail
    clear z0 z1 z2 z3 zf

    obtain ⟨c2, hc2⟩ : ∃ d : Co, d = c := ⟨_, rfl⟩
    have hst2 : St w c c2 (.slice a n cp) (.slice aa n ca) (.slice (some ⟨b, 0, none⟩) n cb) NA NB lo (w9) := by
      rw [hc2]
      exact unhide HWc
    have hwf2 : WfC c2 := by rw [hc2]; exact unhide HC
    have hsc2 : sC c c2 = true := by rw [hc2]; exact sC_self c
    have HSa1 := hide (fun W h1 h2 => unhide HSa c c2 (unhide HC) hwf2 (fun k => k < NA) (fun _ => True) (.slice aa n ca) (.slice (some ⟨b, 0, none⟩) n cb) W h1 h2)
    have HSa2 := hide (fun vc W h1 h2 => unhide HSa c c (unhide HC) (unhide HC) (fun k => k < NA) (fun k => True) (.slice aa n ca) vc W h1 h2)
    rw [hsc2] at HSa1
    rw [unhide HSelf] at HSa2
    have HS2 := hide hst2
    clear hst2 hwf2 hsc2 hc2
    generalize w9 = WX at *
    have hk := (unhide HS2).cls
    unfold Cls at hk
    have HWc := hide (show St w c c2 (.slice a n cp) (.slice aa n ca) (.slice (some ⟨b, 0, none⟩) n cb) NA NB lo WX.drew from (unhide HS2).on (Below.refl _ _).drew)
    clear HS2
    go_region_held3 (fun W => (W.cell? ⟨w.heap.size, 0, none⟩ = some (.int .i64 c.pa) ∧ W.cell? ⟨w.heap.size, 1, none⟩ = some (.int .i64 c.re) ∧ W.cell? ⟨w.heap.size, 2, none⟩ = some (.bool c.rs) ∧ W.cell? ⟨w.heap.size, 3, none⟩ = some (.slice a n cp)) ∧
        (W.cell? ⟨NA, 0, none⟩ = some (.int .i64 c.pa) ∧ W.cell? ⟨NA, 1, none⟩ = some (.int .i64 c.re) ∧ W.cell? ⟨NA, 2, none⟩ = some (.bool c.rs) ∧ W.cell? ⟨NA, 3, none⟩ = some (.slice aa n ca)) ∧
        (W.cell? ⟨NB, 0, none⟩ = some (.int .i64 c2.pa) ∧ W.cell? ⟨NB, 1, none⟩ = some (.int .i64 c2.re) ∧ W.cell? ⟨NB, 2, none⟩ = some (.bool c2.rs) ∧ W.cell? ⟨NB, 3, none⟩ = some (.slice (some ⟨b, 0, none⟩) n cb)))
      (first | go_keep | exact hk)
      (first
        | (go_at_call 13; with_reducible refine (unhide HSa1 _ (unhide HWc).la (unhide HWc).lb).mono ?_; rintro e w11 ⟨rfl, hb11⟩; have HWc := hide ((unhide HWc).on hb11); clear hb11; have hk := (unhide HWc).cls)
        | (go_at_call 9; refine (unhide HGi _ (unhide HWc).be).mono ?_; rintro e w12 ⟨vc, rfl, hlc, hb12⟩; obtain ⟨ac2, cc2, rfl⟩ : ∃ x y, vc = .slice x n y := by { obtain ⟨x, y, e⟩ := bls_shape hlc; exact ⟨x, y, by rw [e, unhide HN]⟩ }; have HLc := hide hlc; have HWc := hide ((unhide HWc).on hb12); clear hb12 hlc; have hk := (unhide HWc).cls)
        | (go_at_call 13; refine (unhide HSa2 _ _ (unhide HWc).la ((unhide HLc).moved (fun k _ _ => ⟨trivial, rfl⟩) (Nat.le_refl _))).mono ?_; rintro e w13 ⟨rfl, hb13⟩; have HWc := hide ((unhide HWc).on hb13); clear hb13; have hk := (unhide HWc).cls)
        | (go_at_call 8; refine (unhide HSu _ (unhide HWc).be).mono ?_; rintro e w14 ⟨rfl, hb14⟩; have HWc := hide ((unhide HWc).on hb14); clear hb14; have hk := (unhide HWc).cls)
        | fail)
    rename_i hHeld
    clear hHeld hk
    have HBF := hide (unhide HWc).be
    go_wp2
    go_ret
    exact ⟨rfl, unhide HBF⟩
  obtain ⟨y, tl2, rfl⟩ : ∃ y tl2, ins = y :: tl2 := by
    cases ins with
    | nil => exact absurd (unhide Hil).symm hil0
    | cons y tl2 => exact ⟨y, tl2, rfl⟩
  obtain ⟨bi, p2, ci2, vs, ev, hI⟩ := (unhide HF).ins
  simp only [Value.slice.injEq] at ev
  obtain ⟨rfl, hev, rfl⟩ := ev
  have hil1 : (0 : Int) < il := by omega
  have ti : ((il : Int) == 0) = false := by simp; omega
  obtain ⟨op, dst, src, nn, of⟩ := y
  obtain ⟨sa, sc, rfl⟩ : ∃ sa sc, vs = .slice sa src.length sc := by obtain ⟨sa, sc, e, _⟩ := hI.s; exact ⟨sa, sc, e⟩
  have i0 := hI.d0; have i2 := hI.d2; have i3 := hI.d3
  have jf := hI.tt.frozen; have jl := hI.tt.lt
  have hbi1 : lo ≤ bi := by have := hI.l1; have := hI.f.q1; have := hI.f.hb; omega
  have hbi2 : bi < NB := by have := hI.l2; have := hI.l3; have := hI.f.ph; omega
  have HI := hide hI; have HBi1 := hide hbi1; have HBi2 := hide hbi2; have HWy := hide ((unhide HWx).ins ⟨op, dst, src, nn, of⟩ (by simp))
  clear hev hI hbi1 hbi2 hil0
  simp only at i0 i3
  generalize hsl : src.length = sl at *
  have Hsl := hide hsl
  clear hsl
  by_cases k5 : k = 5
  · subst k5
    by_cases hsl0 : sl = 0
    · subst hsl0
      go_upto_region 9 with fail
      go_region
      go_upto_region 26 with fail

      obtain ⟨c2, hc2⟩ : ∃ d : Co, d = ⟨c.pa, c.re, c.rs, ⟨⟨op, dst, src, wrap64 (nn + 1), of⟩ :: tl2, next, dep⟩ :: r⟩ := ⟨_, rfl⟩
      have hst2 : St w c c2 (.slice a n cp) (.slice aa n ca) (.slice (some ⟨b, 0, none⟩) n cb) NA NB lo ((w9.setCell ⟨bi, 3, none⟩ (.int .i64 (wrap64 (nn + 1)))).drew) := by
        rw [hc2]
        refine St.on ?_ (Below.refl _ _).drew
        refine St.wrote (unhide HWc) (unhide HBi1) ((unhide HWc).row (by have := unhide HBi2; omega)) ?_
        have hq := (unhide HI).num (wrap64 (nn + 1))
        rw [← unhide HNr] at hq
        exact hq
      have hwf2 : WfC c2 := by rw [hc2]; exact ⟨(unhide HC).pa, (unhide HC).re, fun b hb => (List.mem_cons.1 hb).elim (fun e => by subst e; exact ⟨fun y hy => (List.mem_cons.1 hy).elim (fun e => by subst e; exact ⟨(unhide HWy).op, (unhide HWy).dst, (unhide HWy).src, (wrap_ne nn (unhide HWy).n).2, (unhide HWy).of0, (unhide HWy).of1, (unhide HWy).len⟩) (fun h => (unhide HWx).ins y (by simp [h])), (unhide HWx).next, (unhide HWx).dep, by have := (unhide HWx).len; simpa using this, (unhide HWx).nlen⟩) (fun h => unhide HWr b h), by have := unhide HB0; rw [unhide HBl] at this; simpa using this⟩
      have hsc2 : sC c c2 = false := by rw [hc2]; exact sC_ne fun e => by have h : c.bl = ⟨⟨op, dst, src, wrap64 (nn + 1), of⟩ :: tl2, next, dep⟩ :: r := congrArg Co.bl e; rw [unhide HBl] at h; simp only [List.cons.injEq, Bl.mk.injEq, In.mk.injEq] at h; exact (wrap_ne nn (unhide HWy).n).1 h.1.1.1.2.2.2.1.symm
      have HSa1 := hide (fun W h1 h2 => unhide HSa c c2 (unhide HC) hwf2 (fun k => k < NA) (fun _ => True) (.slice aa n ca) (.slice (some ⟨b, 0, none⟩) n cb) W h1 h2)
      have HSa2 := hide (fun vc W h1 h2 => unhide HSa c c (unhide HC) (unhide HC) (fun k => k < NA) (fun k => True) (.slice aa n ca) vc W h1 h2)
      rw [hsc2] at HSa1
      rw [unhide HSelf] at HSa2
      have HS2 := hide hst2
      clear hst2 hwf2 hsc2 hc2
      generalize (w9.setCell ⟨bi, 3, none⟩ (.int .i64 (wrap64 (nn + 1)))).drew = WX at *
      have hk := (unhide HS2).cls
      unfold Cls at hk
      have HWc := hide (show St w c c2 (.slice a n cp) (.slice aa n ca) (.slice (some ⟨b, 0, none⟩) n cb) NA NB lo WX.drew from (unhide HS2).on (Below.refl _ _).drew)
      clear HS2
      go_region_held3 (fun W => (W.cell? ⟨w.heap.size, 0, none⟩ = some (.int .i64 c.pa) ∧ W.cell? ⟨w.heap.size, 1, none⟩ = some (.int .i64 c.re) ∧ W.cell? ⟨w.heap.size, 2, none⟩ = some (.bool c.rs) ∧ W.cell? ⟨w.heap.size, 3, none⟩ = some (.slice a n cp)) ∧
          (W.cell? ⟨NA, 0, none⟩ = some (.int .i64 c.pa) ∧ W.cell? ⟨NA, 1, none⟩ = some (.int .i64 c.re) ∧ W.cell? ⟨NA, 2, none⟩ = some (.bool c.rs) ∧ W.cell? ⟨NA, 3, none⟩ = some (.slice aa n ca)) ∧
          (W.cell? ⟨NB, 0, none⟩ = some (.int .i64 c2.pa) ∧ W.cell? ⟨NB, 1, none⟩ = some (.int .i64 c2.re) ∧ W.cell? ⟨NB, 2, none⟩ = some (.bool c2.rs) ∧ W.cell? ⟨NB, 3, none⟩ = some (.slice (some ⟨b, 0, none⟩) n cb)))
        (first | go_keep | exact hk)
        (first
          | (go_at_call 13; with_reducible refine (unhide HSa1 _ (unhide HWc).la (unhide HWc).lb).mono ?_; rintro e w11 ⟨rfl, hb11⟩; have HWc := hide ((unhide HWc).on hb11); clear hb11; have hk := (unhide HWc).cls)
          | (go_at_call 9; refine (unhide HGi _ (unhide HWc).be).mono ?_; rintro e w12 ⟨vc, rfl, hlc, hb12⟩; obtain ⟨ac2, cc2, rfl⟩ : ∃ x y, vc = .slice x n y := by { obtain ⟨x, y, e⟩ := bls_shape hlc; exact ⟨x, y, by rw [e, unhide HN]⟩ }; have HLc := hide hlc; have HWc := hide ((unhide HWc).on hb12); clear hb12 hlc; have hk := (unhide HWc).cls)
          | (go_at_call 13; refine (unhide HSa2 _ _ (unhide HWc).la ((unhide HLc).moved (fun k _ _ => ⟨trivial, rfl⟩) (Nat.le_refl _))).mono ?_; rintro e w13 ⟨rfl, hb13⟩; have HWc := hide ((unhide HWc).on hb13); clear hb13; have hk := (unhide HWc).cls)
          | (go_at_call 8; refine (unhide HSu _ (unhide HWc).be).mono ?_; rintro e w14 ⟨rfl, hb14⟩; have HWc := hide ((unhide HWc).on hb14); clear hb14; have hk := (unhide HWc).cls)
          | fail)
      rename_i hHeld
      clear hHeld hk
      have HBF := hide (unhide HWc).be
      go_wp2
      go_ret
      exact ⟨rfl, unhide HBF⟩
    · obtain ⟨z, zs, rfl⟩ : ∃ z zs, src = z :: zs := by
        cases src with
        | nil => exact absurd (unhide Hsl).symm hsl0
        | cons z zs => exact ⟨z, zs, rfl⟩
      obtain ⟨bs, cs2, ev, g1, g2, g3, g4, g5⟩ := (unhide HI).reg
      simp only [Value.slice.injEq] at ev
      obtain ⟨rfl, hev, rfl⟩ := ev
      have hsl1 : (0 : Int) < sl := by omega
      have HG1 := hide g1; have HG2 := hide g2; have HG5 := hide g5
      have gl : bs < w9.heap.size := World.block_lt_of_cell? w9 _ g3
      clear hev g1 g2 g5 hsl0
      go_upto_region 25 with fail
      go_region
      go_upto_region 26 with fail

      obtain ⟨c2, hc2⟩ : ∃ d : Co, d = ⟨c.pa, c.re, c.rs, ⟨⟨op, dst, wrap64 (z + 1) :: zs, nn, of⟩ :: tl2, next, dep⟩ :: r⟩ := ⟨_, rfl⟩
      have hst2 : St w c c2 (.slice a n cp) (.slice aa n ca) (.slice (some ⟨b, 0, none⟩) n cb) NA NB lo ((w9.setCell ⟨bs, 0, none⟩ (.int .i64 (wrap64 (z + 1)))).drew) := by
        rw [hc2]
        refine St.on ?_ (Below.refl _ _).drew
        refine St.wrote (unhide HWc) (unhide HG1) ((unhide HWc).row (by have := unhide HG2; omega)) ?_
        have hq := unhide HG5 (wrap64 (z + 1))
        rw [← unhide HNr] at hq
        exact hq
      have hwf2 : WfC c2 := by rw [hc2]; exact ⟨(unhide HC).pa, (unhide HC).re, fun b hb => (List.mem_cons.1 hb).elim (fun e => by subst e; exact ⟨fun y hy => (List.mem_cons.1 hy).elim (fun e => by subst e; exact ⟨(unhide HWy).op, (unhide HWy).dst, fun y hy => (List.mem_cons.1 hy).elim (fun e => by subst e; exact (wrap_ne z ((unhide HWy).src z (by simp))).2) (fun h => (unhide HWy).src y (by simp [h])), (unhide HWy).n, (unhide HWy).of0, (unhide HWy).of1, by have := (unhide HWy).len; simpa using this⟩) (fun h => (unhide HWx).ins y (by simp [h])), (unhide HWx).next, (unhide HWx).dep, by have := (unhide HWx).len; simpa using this, (unhide HWx).nlen⟩) (fun h => unhide HWr b h), by have := unhide HB0; rw [unhide HBl] at this; simpa using this⟩
      have hsc2 : sC c c2 = false := by rw [hc2]; exact sC_ne fun e => by have h : c.bl = ⟨⟨op, dst, wrap64 (z + 1) :: zs, nn, of⟩ :: tl2, next, dep⟩ :: r := congrArg Co.bl e; rw [unhide HBl] at h; simp only [List.cons.injEq, Bl.mk.injEq, In.mk.injEq] at h; exact (wrap_ne z ((unhide HWy).src z (by simp))).1 h.1.1.1.2.2.1.1.symm
      have HSa1 := hide (fun W h1 h2 => unhide HSa c c2 (unhide HC) hwf2 (fun k => k < NA) (fun _ => True) (.slice aa n ca) (.slice (some ⟨b, 0, none⟩) n cb) W h1 h2)
      have HSa2 := hide (fun vc W h1 h2 => unhide HSa c c (unhide HC) (unhide HC) (fun k => k < NA) (fun k => True) (.slice aa n ca) vc W h1 h2)
      rw [hsc2] at HSa1
      rw [unhide HSelf] at HSa2
      have HS2 := hide hst2
      clear hst2 hwf2 hsc2 hc2
      generalize (w9.setCell ⟨bs, 0, none⟩ (.int .i64 (wrap64 (z + 1)))).drew = WX at *
      have hk := (unhide HS2).cls
      unfold Cls at hk
      have HWc := hide (show St w c c2 (.slice a n cp) (.slice aa n ca) (.slice (some ⟨b, 0, none⟩) n cb) NA NB lo WX.drew from (unhide HS2).on (Below.refl _ _).drew)
      clear HS2
      go_region_held3 (fun W => (W.cell? ⟨w.heap.size, 0, none⟩ = some (.int .i64 c.pa) ∧ W.cell? ⟨w.heap.size, 1, none⟩ = some (.int .i64 c.re) ∧ W.cell? ⟨w.heap.size, 2, none⟩ = some (.bool c.rs) ∧ W.cell? ⟨w.heap.size, 3, none⟩ = some (.slice a n cp)) ∧
          (W.cell? ⟨NA, 0, none⟩ = some (.int .i64 c.pa) ∧ W.cell? ⟨NA, 1, none⟩ = some (.int .i64 c.re) ∧ W.cell? ⟨NA, 2, none⟩ = some (.bool c.rs) ∧ W.cell? ⟨NA, 3, none⟩ = some (.slice aa n ca)) ∧
          (W.cell? ⟨NB, 0, none⟩ = some (.int .i64 c2.pa) ∧ W.cell? ⟨NB, 1, none⟩ = some (.int .i64 c2.re) ∧ W.cell? ⟨NB, 2, none⟩ = some (.bool c2.rs) ∧ W.cell? ⟨NB, 3, none⟩ = some (.slice (some ⟨b, 0, none⟩) n cb)))
        (first | go_keep | exact hk)
        (first
          | (go_at_call 13; with_reducible refine (unhide HSa1 _ (unhide HWc).la (unhide HWc).lb).mono ?_; rintro e w11 ⟨rfl, hb11⟩; have HWc := hide ((unhide HWc).on hb11); clear hb11; have hk := (unhide HWc).cls)
          | (go_at_call 9; refine (unhide HGi _ (unhide HWc).be).mono ?_; rintro e w12 ⟨vc, rfl, hlc, hb12⟩; obtain ⟨ac2, cc2, rfl⟩ : ∃ x y, vc = .slice x n y := by { obtain ⟨x, y, e⟩ := bls_shape hlc; exact ⟨x, y, by rw [e, unhide HN]⟩ }; have HLc := hide hlc; have HWc := hide ((unhide HWc).on hb12); clear hb12 hlc; have hk := (unhide HWc).cls)
          | (go_at_call 13; refine (unhide HSa2 _ _ (unhide HWc).la ((unhide HLc).moved (fun k _ _ => ⟨trivial, rfl⟩) (Nat.le_refl _))).mono ?_; rintro e w13 ⟨rfl, hb13⟩; have HWc := hide ((unhide HWc).on hb13); clear hb13; have hk := (unhide HWc).cls)
          | (go_at_call 8; refine (unhide HSu _ (unhide HWc).be).mono ?_; rintro e w14 ⟨rfl, hb14⟩; have HWc := hide ((unhide HWc).on hb14); clear hb14; have hk := (unhide HWc).cls)
          | fail)
      rename_i hHeld
      clear hHeld hk
      have HBF := hide (unhide HWc).be
      go_wp2
      go_ret
      exact ⟨rfl, unhide HBF⟩
  have t5 : (k == 5) = false := by simpa using k5
  clear k5
  go_upto_region 9 with fail
  go_region
  go_upto_region 26 with fail

  obtain ⟨c2, hc2⟩ : ∃ d : Co, d = ⟨c.pa, c.re, c.rs, ⟨⟨op, dst, src, wrap64 (nn + 1), of⟩ :: tl2, next, dep⟩ :: r⟩ := ⟨_, rfl⟩
  have hst2 : St w c c2 (.slice a n cp) (.slice aa n ca) (.slice (some ⟨b, 0, none⟩) n cb) NA NB lo ((w9.setCell ⟨bi, 3, none⟩ (.int .i64 (wrap64 (nn + 1)))).drew) := by
    rw [hc2]
    refine St.on ?_ (Below.refl _ _).drew
    refine St.wrote (unhide HWc) (unhide HBi1) ((unhide HWc).row (by have := unhide HBi2; omega)) ?_
    have hq := (unhide HI).num (wrap64 (nn + 1))
    rw [← unhide HNr] at hq
    exact hq
  have hwf2 : WfC c2 := by rw [hc2]; exact ⟨(unhide HC).pa, (unhide HC).re, fun b hb => (List.mem_cons.1 hb).elim (fun e => by subst e; exact ⟨fun y hy => (List.mem_cons.1 hy).elim (fun e => by subst e; exact ⟨(unhide HWy).op, (unhide HWy).dst, (unhide HWy).src, (wrap_ne nn (unhide HWy).n).2, (unhide HWy).of0, (unhide HWy).of1, (unhide HWy).len⟩) (fun h => (unhide HWx).ins y (by simp [h])), (unhide HWx).next, (unhide HWx).dep, by have := (unhide HWx).len; simpa using this, (unhide HWx).nlen⟩) (fun h => unhide HWr b h), by have := unhide HB0; rw [unhide HBl] at this; simpa using this⟩
  have hsc2 : sC c c2 = false := by rw [hc2]; exact sC_ne fun e => by have h : c.bl = ⟨⟨op, dst, src, wrap64 (nn + 1), of⟩ :: tl2, next, dep⟩ :: r := congrArg Co.bl e; rw [unhide HBl] at h; simp only [List.cons.injEq, Bl.mk.injEq, In.mk.injEq] at h; exact (wrap_ne nn (unhide HWy).n).1 h.1.1.1.2.2.2.1.symm
  have HSa1 := hide (fun W h1 h2 => unhide HSa c c2 (unhide HC) hwf2 (fun k => k < NA) (fun _ => True) (.slice aa n ca) (.slice (some ⟨b, 0, none⟩) n cb) W h1 h2)
  have HSa2 := hide (fun vc W h1 h2 => unhide HSa c c (unhide HC) (unhide HC) (fun k => k < NA) (fun k => True) (.slice aa n ca) vc W h1 h2)
  rw [hsc2] at HSa1
  rw [unhide HSelf] at HSa2
  have HS2 := hide hst2
  clear hst2 hwf2 hsc2 hc2
  generalize (w9.setCell ⟨bi, 3, none⟩ (.int .i64 (wrap64 (nn + 1)))).drew = WX at *
  have hk := (unhide HS2).cls
  unfold Cls at hk
  have HWc := hide (show St w c c2 (.slice a n cp) (.slice aa n ca) (.slice (some ⟨b, 0, none⟩) n cb) NA NB lo WX.drew from (unhide HS2).on (Below.refl _ _).drew)
  clear HS2
  go_region_held3 (fun W => (W.cell? ⟨w.heap.size, 0, none⟩ = some (.int .i64 c.pa) ∧ W.cell? ⟨w.heap.size, 1, none⟩ = some (.int .i64 c.re) ∧ W.cell? ⟨w.heap.size, 2, none⟩ = some (.bool c.rs) ∧ W.cell? ⟨w.heap.size, 3, none⟩ = some (.slice a n cp)) ∧
      (W.cell? ⟨NA, 0, none⟩ = some (.int .i64 c.pa) ∧ W.cell? ⟨NA, 1, none⟩ = some (.int .i64 c.re) ∧ W.cell? ⟨NA, 2, none⟩ = some (.bool c.rs) ∧ W.cell? ⟨NA, 3, none⟩ = some (.slice aa n ca)) ∧
      (W.cell? ⟨NB, 0, none⟩ = some (.int .i64 c2.pa) ∧ W.cell? ⟨NB, 1, none⟩ = some (.int .i64 c2.re) ∧ W.cell? ⟨NB, 2, none⟩ = some (.bool c2.rs) ∧ W.cell? ⟨NB, 3, none⟩ = some (.slice (some ⟨b, 0, none⟩) n cb)))
    (first | go_keep | exact hk)
    (first
      | (go_at_call 13; with_reducible refine (unhide HSa1 _ (unhide HWc).la (unhide HWc).lb).mono ?_; rintro e w11 ⟨rfl, hb11⟩; have HWc := hide ((unhide HWc).on hb11); clear hb11; have hk := (unhide HWc).cls)
      | (go_at_call 9; refine (unhide HGi _ (unhide HWc).be).mono ?_; rintro e w12 ⟨vc, rfl, hlc, hb12⟩; obtain ⟨ac2, cc2, rfl⟩ : ∃ x y, vc = .slice x n y := by { obtain ⟨x, y, e⟩ := bls_shape hlc; exact ⟨x, y, by rw [e, unhide HN]⟩ }; have HLc := hide hlc; have HWc := hide ((unhide HWc).on hb12); clear hb12 hlc; have hk := (unhide HWc).cls)
      | (go_at_call 13; refine (unhide HSa2 _ _ (unhide HWc).la ((unhide HLc).moved (fun k _ _ => ⟨trivial, rfl⟩) (Nat.le_refl _))).mono ?_; rintro e w13 ⟨rfl, hb13⟩; have HWc := hide ((unhide HWc).on hb13); clear hb13; have hk := (unhide HWc).cls)
      | (go_at_call 8; refine (unhide HSu _ (unhide HWc).be).mono ?_; rintro e w14 ⟨rfl, hb14⟩; have HWc := hide ((unhide HWc).on hb14); clear hb14; have hk := (unhide HWc).cls)
      | fail)
  rename_i hHeld
  clear hHeld hk
  have HBF := hide (unhide HWc).be
  go_wp2
  go_ret
  exact ⟨rfl, unhide HBF⟩
end Vc
end Go.Proofs.YtlihhncloanbhaaDoor
