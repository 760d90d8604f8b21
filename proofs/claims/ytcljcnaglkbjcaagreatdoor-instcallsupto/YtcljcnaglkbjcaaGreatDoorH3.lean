/- H3: what follows, part by part: each part tells what it holds. -/
import Derived.Test.YtcljcnaglkbjcaaGreatDoorG2
import Derived.Deep.DeepCutAuto
import Derived.Test.YtcljcnaglkbjcaaGreatDoorInC
import Derived.Test.YtcljcnaglkbjcaaGreatDoorNum
import Derived.OpenShut
import Derived.Lib.SmallJoins
import Derived.Deep.QuietTactic
import Derived.BigQuiet
import Derived.BigRegion
import Derived.Deep.RegionHeld3

/- The reference's Pick. -/
namespace Go.Proofs.YtcljcnaglkbjcaaGreatDoor
open Go.RowKit
namespace Gm
set_option linter.unusedVariables false
set_option linter.unusedSimpArgs false
open Ex (Lies)
def rpickV : Option (Int × Int) → Value
  | none => .tuple #[.int .i64 0, .int .i64 0, .bool false]
  | some x => .tuple #[.int .i64 x.1, .int .i64 x.2, .bool true]
theorem start2m {w : World} {ms ss : Array Value} {t t2 : TypeId} : ∃ W0, ((w.alloc (.cells ms t)).alloc (.cells ss t2)) = W0 ∧ W0.heap[w.heap.size]? = some (.cells ms t (0, 0)) ∧ W0.heap[w.heap.size + 1]? = some (.cells ss t2 (0, 0)) ∧ w.heap.size + 1 < W0.heap.size ∧ Below w.heap.size w W0 := by
  have e2 : (w.alloc (.cells ms t)).heap.size = w.heap.size + 1 := by simp
  have hn := heap_alloc_new (w.alloc (.cells ms t)) (.cells ss t2)
  rw [e2] at hn
  exact ⟨_, rfl, (Below.heap_alloc _ _ _ (by simp)).trans (heap_alloc_new w (.cells ms t)), hn, by simp, ((Below.refl _ _).alloc (Nat.le_refl _) _).alloc (by simp) _⟩

theorem ad_below9 (w : World) (o : Obj) : Below w.heap.size w (w.alloc o).drew := Below.on ((Below.refl _ _).alloc (Nat.le_refl _) o) (drew_below9 _)
theorem ad_at9 {w w4 : World} {x0 x1 : Value} {t : TypeId} (h : Below (w.alloc (.cells #[x0, x1] t)).drew.heap.size (w.alloc (.cells #[x0, x1] t)).drew w4) : w4.heap[w.heap.size]? = some (.cells #[x0, x1] t (0, 0)) :=
  (h.block w.heap.size (by show w.heap.size < (w.alloc (.cells #[x0, x1] t)).heap.size; simp)).trans (heap_alloc_new w (.cells #[x0, x1] t))

set_option maxRecDepth 100000 in
set_option maxHeartbeats 3200000 in
theorem rpick_any {M : Mod} {g : Nat → Prop} {v0 v1 v2 v3 v4 v5 v6 v7 : Value} {w : World} (hg : ∀ b, g b → b < w.heap.size) (hM : ModL w g M v0 v1 v2 v3 v4 v5 v6 v7) (hwf : WfM M) (hsz : SzM M) {ta : Option Addr} {tc : Nat} {tbl : List Int}
    (htb : Lies (fun _ => True) tbl.length (Tab w tbl) (.slice ta tbl.length tc)) (htl : tbl.length ≤ 300) (typ a : Int) (ha : 0 ≤ a ∧ a < 18446744073709551616) :
    Calls Tryz.prog 28 #[.agg #[v0, v1, v2, v3, v4, v5, v6, v7], .agg #[.int .i64 0, .int .i64 0, .slice none 0 0, .bool false, .slice ta tbl.length tc, .slice none 0 0], .int .i64 typ, .int .u64 a] w fun e w' => e = .returned (rpickV (pick M tbl typ a)) ∧ Below w.heap.size w w' := by
  obtain ⟨a0, c0, hv0⟩ := hM.l0.sl
  obtain ⟨W0, hW0, b1, b2, b3, b4⟩ := start2m (w := w) (ms := #[v0, v1, v2, v3, v4, v5, v6, v7]) (ss := #[.int .i64 0, .int .i64 0, .slice none 0 0, .bool false, .slice ta tbl.length tc, .slice none 0 0]) (t := 30) (t2 := 55)
  obtain ⟨m0, m1, m2, m3, m4, m5, m6, m7⟩ := Ex.cel8 b1
  have s4 : W0.cell? ⟨w.heap.size + 1, 4, none⟩ = some (.slice ta tbl.length tc) := by rw [cell_of_row W0 _ 4 _ _ _ b2]; rfl
  have HM := hide hM; have HT := hide htb; have HWf := hide hwf; have HSz := hide hsz
  have hn0 : (M.types.length : Int) ≤ 1048576 := by have := hsz.n0; omega
  have hn1 : (tbl.length : Int) ≤ 300 := by omega
  have HW := hide hW0; have HB := hide b4; have HMb := hide b1; have HSb := hide b2
  clear hM htb hwf hsz hW0 b1 b2 b4 htl
  subst hv0
  by_cases ht : typ < 0 ∨ (M.types.length : Int) ≤ typ
  · have hp : pick M tbl typ a = none := by unfold pick; rw [if_pos ht]
    rw [hp]
    clear hp
    by_cases h0 : typ < 0
    · clear ht
      go_enter Tryz.func28, Tryz.ntmps28
      go_wp2_with fail
      rw [unhide HW]
      refine bodyPost_ret (v := rpickV none) (by simp [results, Tryz.results28, go_sem, rpickV]) rfl ⟨rfl, unhide HB⟩
    · have h1 : (M.types.length : Int) ≤ typ := by omega
      clear ht
      go_enter Tryz.func28, Tryz.ntmps28
      go_wp2_with fail
      rw [unhide HW]
      refine bodyPost_ret (v := rpickV none) (by simp [results, Tryz.results28, go_sem, rpickV]) rfl ⟨rfl, unhide HB⟩
  obtain ⟨k, rfl⟩ : ∃ k : Nat, typ = k := ⟨typ.toNat, by omega⟩
  have hk : k < M.types.length := by omega
  obtain ⟨i, hi⟩ : ∃ i : Nat, a % 4294967296 = i := ⟨(a % 4294967296).toNat, by omega⟩
  have hpk : pick M tbl k a = pick2 M tbl M.types[k] i := by
    unfold pick
    rw [if_neg (by omega), hi, Int.toNat_natCast, Int.toNat_natCast]
    simp only [List.getD_eq_getElem?_getD, List.getElem?_eq_getElem hk, Option.getD_some]
  rw [hpk]
  obtain ⟨ha0, ha1⟩ := ha
  have et : a.tmod 4294967296 = a % 4294967296 := Int.tmod_eq_emod_of_nonneg ha0
  have hla : (i : Int) < 4294967296 := by omega
  have hkn : (k : Int) < M.types.length := by omega
  have d0 : decide ((k : Int) < 0) = false := decide_eq_false (by omega)
  have d1 : decide ((k : Int) ≥ (M.types.length : Int)) = false := decide_eq_false (by omega)
  have d2 : decide (M.types.length ≤ k) = false := decide_eq_false (by omega)
  have HI := hide hi
  clear hpk ht hi
  by_cases h1 : tbl.length ≤ i
  · have hp2 : pick2 M tbl M.types[k] i = some (0, 5) := by unfold pick2; rw [if_pos h1]
    rw [hp2]
    have hti : (tbl.length : Int) ≤ (i : Int) := by omega
    clear hp2 HT h1
    generalize tbl.length = tl at *
    generalize M.types.length = nt at *
    clear hk
    go_enter Tryz.func28, Tryz.ntmps28
    go_upto_region 4 with fail
    rw [unhide HW, unhide HI]
    clear et ha0 ha1
    go_wp2_with fail
    refine bodyPost_ret (v := rpickV (some (0, 5))) (by simp [results, Tryz.results28, go_sem, rpickV]) rfl ⟨rfl, unhide HB⟩
  · have hni : (i : Int) < tbl.length := by omega
    obtain ⟨ta', tc', et2, htcap, -, htr⟩ := unhide HT
    simp only [Value.slice.injEq] at et2
    obtain ⟨rfl, -, rfl⟩ := et2
    obtain ⟨bt, ot, rfl, -, htab⟩ := htr (by omega)
    have hct := htab i (by omega)
    have hbt : bt < w.heap.size := World.block_lt_of_cell? w _ hct
    have hp2 : pick2 M tbl M.types[k] i = match ty? M (tbl.getD i 0) with
        | none => some (0, 5)
        | some t => if tyEq t M.types[k] = true then some (tbl.getD i 0, 0) else some (0, 6) := by unfold pick2; rw [if_neg h1]; try (cases ty? M (tbl.getD i 0) <;> rfl)
    generalize tbl.getD i 0 = z at *
    have hty : ∀ W, Below w.heap.size w W → TyB 50 (.agg #[.slice a0 M.types.length c0, v1, v2, v3, v4, v5, v6, v7]) W g z (ty? M z) := fun W hW => rtype_any ((unhide HM).moved (Mv.below (g' := g) hW (fun _ _ h => h)) hW.size) (unhide HWf) (unhide HSz) z
    have hc0 : W0.cell? ⟨bt, ot + i, none⟩ = some (.int .i64 z) := ((unhide HB).cell (p := ⟨bt, ot + i, none⟩) hbt).trans hct
    have d3 : decide ((tbl.length : Int) ≤ (i : Int)) = false := decide_eq_false (by omega)
    have d4 : decide (tbl.length ≤ i) = false := decide_eq_false h1
    have HP2 := hide hp2; have HTy := hide hty
    have nt1 : ¬ bt = w.heap.size + 1 := by omega
    obtain ⟨b0, o0, c0', hv0, -, hb0, -, cs0, -, ⟨vp, rfl, hp⟩, hcs0⟩ := (unhide HM).l0.at hk
    simp only [Value.slice.injEq] at hv0
    obtain ⟨rfl, -, rfl⟩ := hv0
    have HWl := hide hp
    obtain ⟨wa, wc, rfl, -⟩ := hp
    have hsB := (unhide HB).size
    have b0l : b0 < W0.heap.size := by omega
    have HE2 := hide (((unhide HB).cell (p := ⟨b0, o0 + k * 2, none⟩) hb0).trans (hcs0 0 _ rfl))
    have HE3 := hide (((unhide HB).cell (p := ⟨b0, o0 + k * 2 + 1, none⟩) hb0).trans (hcs0 1 _ rfl))
    have HM0 := hide m0
    have HBk := hide (((unhide HWf).1 _ (List.getElem_mem hk)).1)
    generalize M.types[k] = t0 at *
    clear hp2 hty htr htab hct HT h1 hcs0 hsB
    go_enter Tryz.func28, Tryz.ntmps28
    go_upto_region 4 with fail
    rw [unhide HW, unhide HI]
    clear et ha0 ha1
    go_upto_region 6 with fail
    have hty := unhide HTy
    have hp2 := unhide HP2
    have hmm : ∀ t, ty? M z = some t → (∀ x ∈ t.ps, 0 ≤ x ∧ x ≤ 255) := fun t ht => ((unhide HWf).1 t (ty_mem ht)).1
    generalize ty? M z = o at hty hp2 hmm
    clear HTy HP2
    have wlt : w.heap.size < W0.heap.size := by omega
    have btl : bt < W0.heap.size := by omega
    cases o with
    | none =>
      have HTn : Hid (∀ W, Below W0.heap.size W0 W → TyNo 50 (.agg #[.slice (some ⟨b0, o0, none⟩) M.types.length c0, v1, v2, v3, v4, v5, v6, v7]) W z) := hide (fun W hW => hty W (Below.on0 (unhide HB) hW (unhide HB).size))
      unfold TyNo at HTn
      have HP3 := hide hp2
      clear hty hp2 hmm
      go_region_held3 (fun w' => w'.cell? ⟨w.heap.size, 0, none⟩ = some (.slice (some ⟨b0, o0, none⟩) M.types.length c0) ∧ w'.cell? ⟨w.heap.size, 1, none⟩ = some v1 ∧ w'.cell? ⟨w.heap.size, 2, none⟩ = some v2 ∧ w'.cell? ⟨w.heap.size, 3, none⟩ = some v3 ∧ w'.cell? ⟨w.heap.size, 4, none⟩ = some v4 ∧ w'.cell? ⟨w.heap.size, 5, none⟩ = some v5 ∧ w'.cell? ⟨w.heap.size, 6, none⟩ = some v6 ∧ w'.cell? ⟨w.heap.size, 7, none⟩ = some v7 ∧ w'.cell? ⟨w.heap.size + 1, 4, none⟩ = some (.slice (some ⟨bt, ot, none⟩) tbl.length tc) ∧ w'.cell? ⟨bt, ot + i, none⟩ = some (.int .i64 z))
        (first | go_keep | exact ⟨m0, m1, m2, m3, m4, m5, m6, m7, s4, hc0⟩ | exact ⟨(hk2 _ _ wlt).trans m0, (hk2 _ _ wlt).trans m1, (hk2 _ _ wlt).trans m2, (hk2 _ _ wlt).trans m3, (hk2 _ _ wlt).trans m4, (hk2 _ _ wlt).trans m5, (hk2 _ _ wlt).trans m6, (hk2 _ _ wlt).trans m7, (hk2 _ _ b3).trans s4, (hk2 _ _ btl).trans hc0⟩ | exact ⟨(hk3 _ _ _ _ wlt).trans m0, (hk3 _ _ _ _ wlt).trans m1, (hk3 _ _ _ _ wlt).trans m2, (hk3 _ _ _ _ wlt).trans m3, (hk3 _ _ _ _ wlt).trans m4, (hk3 _ _ _ _ wlt).trans m5, (hk3 _ _ _ _ wlt).trans m6, (hk3 _ _ _ _ wlt).trans m7, (hk3 _ _ _ _ b3).trans s4, (hk3 _ _ _ _ btl).trans hc0⟩ | fail)
        (first
          | (go_at_call 50; refine (unhide HTn _ (drew_below9 W0)).mono ?_; rintro e w4 ⟨rfl, hb4⟩; have HB4 := hide (Below.on (drew_below9 W0) hb4); clear hb4; have hk2 : ∀ b o, b < W0.heap.size → w4.cell? ⟨b, o, none⟩ = W0.cell? ⟨b, o, none⟩ := fun b o hlt => (unhide HB4).cell (p := ⟨b, o, none⟩) hlt; have hn1 : W0.heap.size ≤ w4.heap.size := (unhide HB4).size)
          | (go_at_call 50; refine (unhide HTn _ (ad_below9 W0 _)).mono ?_; rintro e w4 ⟨rfl, hb4⟩; have HB4 := hide (Below.on (ad_below9 W0 _) hb4); have HR4 := hide (ad_at9 hb4); obtain ⟨y0, y1⟩ := cel2 (ad_at9 hb4); have fy : ∀ j, w4.frozen? ⟨W0.heap.size, j, none⟩ = false := fun j => frozen_of_row w4 _ j _ _ (ad_at9 hb4); have hl4 : W0.heap.size < w4.heap.size := (Array.getElem?_eq_some_iff.1 (ad_at9 hb4)).1; have hk3 : ∀ b o x y, b < W0.heap.size → ((w4.setCell ⟨W0.heap.size, 0, none⟩ x).setCell ⟨W0.heap.size, 1, none⟩ y).cell? ⟨b, o, none⟩ = W0.cell? ⟨b, o, none⟩ := (fun b o x y hlt => (((unhide HB4).setCell (p := ⟨W0.heap.size, 0, none⟩) (Nat.le_refl _) x).setCell (p := ⟨W0.heap.size, 1, none⟩) (Nat.le_refl _) y).cell (p := ⟨b, o, none⟩) hlt); clear hb4; have hk2 : ∀ b o, b < W0.heap.size → w4.cell? ⟨b, o, none⟩ = W0.cell? ⟨b, o, none⟩ := fun b o hlt => (unhide HB4).cell (p := ⟨b, o, none⟩) hlt; have hn1 : W0.heap.size ≤ w4.heap.size := (unhide HB4).size)
          | fail)
      · have HB5 := hide (Below.on0 (unhide HB) (unhide HB4) (unhide HB).size)
        clear hk2
        go_wp2
        refine bodyPost_ret (v := rpickV (some (0, 5))) (by simp [results, Tryz.results28, go_sem, rpickV]) rfl ⟨by rw [unhide HP3], (unhide HB5).alloc (unhide HB5).size _⟩
      · have HB5 := hide (Below.on0 (unhide HB) (unhide HB4) (unhide HB).size)
        have hsw := (unhide HB).size
        clear hk2 hk3
        go_wp2
        refine bodyPost_ret (v := rpickV (some (0, 5))) (by simp [results, Tryz.results28, go_sem, rpickV]) rfl ⟨by rw [unhide HP3], ((unhide HB5).setCell (p := ⟨W0.heap.size, 0, none⟩) hsw _).setCell (p := ⟨W0.heap.size, 1, none⟩) hsw _⟩
    | some t =>
      have HTs : Hid (∀ W, Below W0.heap.size W0 W → Calls Tryz.prog 50 #[.agg #[.slice (some ⟨b0, o0, none⟩) M.types.length c0, v1, v2, v3, v4, v5, v6, v7], .int .i64 z] W fun e w' => ∃ pa pc, (e = .returned (.tuple #[.agg #[.slice pa t.ps.length pc, .int .u8 t.re], .bool true]) ∧ Below W.heap.size W w') ∧ Lies g t.ps.length (Byts W0 t.ps) (.slice pa t.ps.length pc)) := hide (fun W hW => (show TyYes _ _ _ _ _ _ from hty W (Below.on0 (unhide HB) hW (unhide HB).size)).mono (fun e w' h => by
        obtain ⟨pa, pc, h1, h2, h3⟩ := h
        exact ⟨pa, pc, ⟨h1, h3⟩, Byts.moved (fun k _ hgk => ⟨hgk, (hW.block k (by have := hg k hgk; have := (unhide HB).size; omega)).symm⟩) h2⟩))
      have HSame : Hid (∀ pa pc, Lies g t.ps.length (Byts W0 t.ps) (.slice pa t.ps.length pc) → ∀ V, Below W0.heap.size W0 V → Calls Tryz.prog 59 #[.agg #[.slice pa t.ps.length pc, .int .u8 t.re], .agg #[.slice wa t0.ps.length wc, .int .u8 t0.re]] V fun e w' => e = .returned (.bool (tyEq t t0)) ∧ Below V.heap.size V w') := hide (fun pa pc h V hV =>
        same_any (Byts.moved (Mv.below (g' := g) hV (fun _ _ h => h)) h) (Byts.moved (Mv.below (g' := g) (Below.on0 (unhide HB) hV (unhide HB).size) (fun _ _ h => h)) (unhide HWl)) (hmm t rfl) (unhide HBk))
      have HP3 := hide hp2
      clear hty hp2 hmm
      go_region_held3 (fun w' => w'.cell? ⟨w.heap.size, 0, none⟩ = some (.slice (some ⟨b0, o0, none⟩) M.types.length c0) ∧ w'.cell? ⟨w.heap.size, 1, none⟩ = some v1 ∧ w'.cell? ⟨w.heap.size, 2, none⟩ = some v2 ∧ w'.cell? ⟨w.heap.size, 3, none⟩ = some v3 ∧ w'.cell? ⟨w.heap.size, 4, none⟩ = some v4 ∧ w'.cell? ⟨w.heap.size, 5, none⟩ = some v5 ∧ w'.cell? ⟨w.heap.size, 6, none⟩ = some v6 ∧ w'.cell? ⟨w.heap.size, 7, none⟩ = some v7 ∧ w'.cell? ⟨w.heap.size + 1, 4, none⟩ = some (.slice (some ⟨bt, ot, none⟩) tbl.length tc) ∧ w'.cell? ⟨bt, ot + i, none⟩ = some (.int .i64 z))
        (first | go_keep | exact ⟨m0, m1, m2, m3, m4, m5, m6, m7, s4, hc0⟩ | exact ⟨(hk2 _ _ wlt).trans m0, (hk2 _ _ wlt).trans m1, (hk2 _ _ wlt).trans m2, (hk2 _ _ wlt).trans m3, (hk2 _ _ wlt).trans m4, (hk2 _ _ wlt).trans m5, (hk2 _ _ wlt).trans m6, (hk2 _ _ wlt).trans m7, (hk2 _ _ b3).trans s4, (hk2 _ _ btl).trans hc0⟩ | exact ⟨(hk3 _ _ _ _ wlt).trans m0, (hk3 _ _ _ _ wlt).trans m1, (hk3 _ _ _ _ wlt).trans m2, (hk3 _ _ _ _ wlt).trans m3, (hk3 _ _ _ _ wlt).trans m4, (hk3 _ _ _ _ wlt).trans m5, (hk3 _ _ _ _ wlt).trans m6, (hk3 _ _ _ _ wlt).trans m7, (hk3 _ _ _ _ b3).trans s4, (hk3 _ _ _ _ btl).trans hc0⟩ | fail)
        (first
          | (go_at_call 50; refine (unhide HTs _ (drew_below9 W0)).mono ?_; rintro e w4 ⟨pa, pc, ⟨rfl, hb4⟩, hly⟩; have HLy := hide hly; clear hly; have HB4 := hide (Below.on (drew_below9 W0) hb4); clear hb4; have hk2 : ∀ b o, b < W0.heap.size → w4.cell? ⟨b, o, none⟩ = W0.cell? ⟨b, o, none⟩ := fun b o hlt => (unhide HB4).cell (p := ⟨b, o, none⟩) hlt; have hn1 : W0.heap.size ≤ w4.heap.size := (unhide HB4).size)
          | (go_at_call 50; refine (unhide HTs _ (ad_below9 W0 _)).mono ?_; rintro e w4 ⟨pa, pc, ⟨rfl, hb4⟩, hly⟩; have HLy := hide hly; clear hly; have HB4 := hide (Below.on (ad_below9 W0 _) hb4); have HR4 := hide (ad_at9 hb4); obtain ⟨y0, y1⟩ := cel2 (ad_at9 hb4); have fy : ∀ j, w4.frozen? ⟨W0.heap.size, j, none⟩ = false := fun j => frozen_of_row w4 _ j _ _ (ad_at9 hb4); have hl4 : W0.heap.size < w4.heap.size := (Array.getElem?_eq_some_iff.1 (ad_at9 hb4)).1; have hk3 : ∀ b o x y, b < W0.heap.size → ((w4.setCell ⟨W0.heap.size, 0, none⟩ x).setCell ⟨W0.heap.size, 1, none⟩ y).cell? ⟨b, o, none⟩ = W0.cell? ⟨b, o, none⟩ := (fun b o x y hlt => (((unhide HB4).setCell (p := ⟨W0.heap.size, 0, none⟩) (Nat.le_refl _) x).setCell (p := ⟨W0.heap.size, 1, none⟩) (Nat.le_refl _) y).cell (p := ⟨b, o, none⟩) hlt); clear hb4; have hk2 : ∀ b o, b < W0.heap.size → w4.cell? ⟨b, o, none⟩ = W0.cell? ⟨b, o, none⟩ := fun b o hlt => (unhide HB4).cell (p := ⟨b, o, none⟩) hlt; have hn1 : W0.heap.size ≤ w4.heap.size := (unhide HB4).size)
          | fail)
      · have HB5 : Hid (Below W0.heap.size W0 (w4.alloc (.cells #[.slice pa t.ps.length pc, .int .u8 t.re] 107))) := hide ((unhide HB4).alloc hn1 _)
        have hwb : (w4.alloc (.cells #[.slice pa t.ps.length pc, .int .u8 t.re] 107)).heap[w4.heap.size]? = some (.cells #[.slice pa t.ps.length pc, .int .u8 t.re] 107 (0, 0)) := heap_alloc_new w4 _
        have HWB := hide hwb
        have HSm := hide (unhide HSame _ _ (unhide HLy))
        clear hk2  hwb HTs HSame HLy m0 m1 m2 m3 m4 m5 m6 m7
        go_upto_region 9 with fail
        generalize w4.alloc (.cells #[.slice pa t.ps.length pc, .int .u8 t.re] 107) = V at *
        obtain ⟨y4, y5⟩ := cel2 (unhide HWB)
        have hlB : w4.heap.size < V.heap.size := (Array.getElem?_eq_some_iff.1 (unhide HWB)).1
        have hkV : ∀ b o, b < W0.heap.size → V.cell? ⟨b, o, none⟩ = W0.cell? ⟨b, o, none⟩ := fun b o hlt => (unhide HB5).cell (p := ⟨b, o, none⟩) hlt
        have hsV := (unhide HB5).size
        have x0 := (hkV _ _ wlt).trans (unhide HM0)
        have x1 := (hkV _ _ b0l).trans (unhide HE2)
        have x2 := (hkV _ _ b0l).trans (unhide HE3)
        have x3 := (hkV _ _ b3).trans s4
        have x4 := (hkV _ _ btl).trans hc0
        have lt1 : w.heap.size < V.heap.size := by omega
        have lt2 : b0 < V.heap.size := by omega
        have lt3 : w.heap.size + 1 < V.heap.size := by omega
        have lt4 : bt < V.heap.size := by omega
        clear hkV s4 hc0
        go_region_held3 (fun w' => w'.cell? ⟨w4.heap.size, 0, none⟩ = some (.slice pa t.ps.length pc) ∧ w'.cell? ⟨w4.heap.size, 1, none⟩ = some (.int .u8 t.re) ∧ w'.cell? ⟨w.heap.size, 0, none⟩ = some (.slice (some ⟨b0, o0, none⟩) M.types.length c0) ∧ w'.cell? ⟨b0, o0 + k * 2, none⟩ = some (.slice wa t0.ps.length wc) ∧ w'.cell? ⟨b0, o0 + k * 2 + 1, none⟩ = some (.int .u8 t0.re))
          (first | go_keep | exact ⟨y4, y5, x0, x1, x2⟩ | exact ⟨(hk6 _ _ hlB).trans y4, (hk6 _ _ hlB).trans y5, (hk6 _ _ lt1).trans x0, (hk6 _ _ lt2).trans x1, (hk6 _ _ lt2).trans x2⟩ | fail)
          (first
            | (go_at_call 59; refine (unhide HSm _ (Below.on (unhide HB5) (drew_below9 V))).mono ?_; rintro e w6 ⟨rfl, hb6⟩; have HB6 := hide (Below.on (drew_below9 V) hb6); clear hb6; have hk6 : ∀ b o, b < V.heap.size → w6.cell? ⟨b, o, none⟩ = V.cell? ⟨b, o, none⟩ := fun b o hlt => (unhide HB6).cell (p := ⟨b, o, none⟩) hlt)
            | fail)
        have z3 := (hk6 _ _ lt3).trans x3
        have z4 := (hk6 _ _ lt4).trans x4
        have HB7 := hide (Below.on0 (unhide HB) (Below.on (unhide HB5) (unhide HB6)) (unhide HB).size)
        clear hk6 x0 x1 x2 x3 x4 y4 y5
        cases hte : tyEq t t0
        · have hp4 : pick2 M tbl t0 i = some (0, 6) := by rw [unhide HP3]; simp [hte]
          have HP4 := hide hp4
          clear hp4 HP3 hte d0 d1 d2 d3 d4 hkn hsV hlB lt1 lt2 lt3 lt4 z3 z4 hla hni hn0 hbt nt1 b0l wlt btl hn1 hb0 b3 htcap
          go_wp2_with fail
          refine bodyPost_ret (v := rpickV (some (0, 6))) (by simp [results, Tryz.results28, go_sem, rpickV]) rfl ⟨by rw [unhide HP4], unhide HB7⟩
        · have hp4 : pick2 M tbl t0 i = some (z, 0) := by rw [unhide HP3]; simp [hte]
          have HP4 := hide hp4
          clear hp4 HP3 hte d0 d1 d2 d3 d4 hkn hsV hlB lt1 lt2 hn0 hbt nt1 b0l wlt btl hn1 hb0 b3 htcap hla lt3 lt4
          go_wp2_with fail
          refine bodyPost_ret (v := rpickV (some (z, 0))) (by simp [results, Tryz.results28, go_sem, rpickV]) rfl ⟨by rw [unhide HP4], unhide HB7⟩
      · have HB5 : Hid (Below W0.heap.size W0 ((w4.setCell ⟨W0.heap.size, 0, none⟩ (.slice pa t.ps.length pc)).setCell ⟨W0.heap.size, 1, none⟩ (.int .u8 t.re))) := hide (((unhide HB4).setCell (p := ⟨W0.heap.size, 0, none⟩) (Nat.le_refl _) _).setCell (p := ⟨W0.heap.size, 1, none⟩) (Nat.le_refl _) _)
        have hwb : ((w4.setCell ⟨W0.heap.size, 0, none⟩ (.slice pa t.ps.length pc)).setCell ⟨W0.heap.size, 1, none⟩ (.int .u8 t.re)).heap[W0.heap.size]? = some (.cells #[.slice pa t.ps.length pc, .int .u8 t.re] 107 (0, 0)) := set2 (unhide HR4) _ _
        have HWB := hide hwb
        have HSm := hide (unhide HSame _ _ (unhide HLy))
        clear hk2 hk3 hwb HTs HSame HLy m0 m1 m2 m3 m4 m5 m6 m7
        go_upto_region 9 with fail
        generalize (w4.setCell ⟨W0.heap.size, 0, none⟩ (.slice pa t.ps.length pc)).setCell ⟨W0.heap.size, 1, none⟩ (.int .u8 t.re) = V at *
        obtain ⟨y4, y5⟩ := cel2 (unhide HWB)
        have hlB : W0.heap.size < V.heap.size := (Array.getElem?_eq_some_iff.1 (unhide HWB)).1
        have hkV : ∀ b o, b < W0.heap.size → V.cell? ⟨b, o, none⟩ = W0.cell? ⟨b, o, none⟩ := fun b o hlt => (unhide HB5).cell (p := ⟨b, o, none⟩) hlt
        have hsV := (unhide HB5).size
        have x0 := (hkV _ _ wlt).trans (unhide HM0)
        have x1 := (hkV _ _ b0l).trans (unhide HE2)
        have x2 := (hkV _ _ b0l).trans (unhide HE3)
        have x3 := (hkV _ _ b3).trans s4
        have x4 := (hkV _ _ btl).trans hc0
        have lt1 : w.heap.size < V.heap.size := by omega
        have lt2 : b0 < V.heap.size := by omega
        have lt3 : w.heap.size + 1 < V.heap.size := by omega
        have lt4 : bt < V.heap.size := by omega
        clear hkV s4 hc0
        go_region_held3 (fun w' => w'.cell? ⟨W0.heap.size, 0, none⟩ = some (.slice pa t.ps.length pc) ∧ w'.cell? ⟨W0.heap.size, 1, none⟩ = some (.int .u8 t.re) ∧ w'.cell? ⟨w.heap.size, 0, none⟩ = some (.slice (some ⟨b0, o0, none⟩) M.types.length c0) ∧ w'.cell? ⟨b0, o0 + k * 2, none⟩ = some (.slice wa t0.ps.length wc) ∧ w'.cell? ⟨b0, o0 + k * 2 + 1, none⟩ = some (.int .u8 t0.re))
          (first | go_keep | exact ⟨y4, y5, x0, x1, x2⟩ | exact ⟨(hk6 _ _ hlB).trans y4, (hk6 _ _ hlB).trans y5, (hk6 _ _ lt1).trans x0, (hk6 _ _ lt2).trans x1, (hk6 _ _ lt2).trans x2⟩ | fail)
          (first
            | (go_at_call 59; refine (unhide HSm _ (Below.on (unhide HB5) (drew_below9 V))).mono ?_; rintro e w6 ⟨rfl, hb6⟩; have HB6 := hide (Below.on (drew_below9 V) hb6); clear hb6; have hk6 : ∀ b o, b < V.heap.size → w6.cell? ⟨b, o, none⟩ = V.cell? ⟨b, o, none⟩ := fun b o hlt => (unhide HB6).cell (p := ⟨b, o, none⟩) hlt)
            | fail)
        have z3 := (hk6 _ _ lt3).trans x3
        have z4 := (hk6 _ _ lt4).trans x4
        have HB7 := hide (Below.on0 (unhide HB) (Below.on (unhide HB5) (unhide HB6)) (unhide HB).size)
        clear hk6 x0 x1 x2 x3 x4 y4 y5
        cases hte : tyEq t t0
        · have hp4 : pick2 M tbl t0 i = some (0, 6) := by rw [unhide HP3]; simp [hte]
          have HP4 := hide hp4
          clear hp4 HP3 hte d0 d1 d2 d3 d4 hkn hsV hlB lt1 lt2 lt3 lt4 z3 z4 hla hni hn0 hbt nt1 b0l wlt btl hn1 hb0 b3 htcap
          go_wp2_with fail
          refine bodyPost_ret (v := rpickV (some (0, 6))) (by simp [results, Tryz.results28, go_sem, rpickV]) rfl ⟨by rw [unhide HP4], unhide HB7⟩
        · have hp4 : pick2 M tbl t0 i = some (z, 0) := by rw [unhide HP3]; simp [hte]
          have HP4 := hide hp4
          clear hp4 HP3 hte d0 d1 d2 d3 d4 hkn hsV hlB lt1 lt2 hn0 hbt nt1 b0l wlt btl hn1 hb0 b3 htcap hla lt3 lt4
          go_wp2_with fail
          refine bodyPost_ret (v := rpickV (some (z, 0))) (by simp [results, Tryz.results28, go_sem, rpickV]) rfl ⟨by rw [unhide HP4], unhide HB7⟩
end Gm
end Go.Proofs.YtcljcnaglkbjcaaGreatDoor

/- InstPicks' walk. -/
namespace Go.Proofs.YtcljcnaglkbjcaaGreatDoor
open Go.RowKit
namespace Gm
set_option linter.unusedVariables false
set_option linter.unusedSimpArgs false
open Ex (Lies)
theorem pick_all {M : Mod} {g : Nat → Prop} {v0 v1 v2 v3 v4 v5 v6 v7 : Value} {w : World} (hM : ModL w g M v0 v1 v2 v3 v4 v5 v6 v7) (hwf : WfM M) (hsz : SzM M) {bs : Nat} {x0 x2 : Value} {ta : Option Addr} {tc : Nat} {tbl : List Int} {T : TypeId} (hst : w.heap[bs]? = some (.cells #[x0, .slice ta tbl.length tc, x2] T (0, 0)))
    (htb : Lies (fun _ => True) tbl.length (Tab w tbl) (.slice ta tbl.length tc)) (typ a : Int) (ha : 0 ≤ a ∧ a < 18446744073709551616) :
    Calls Tryz.prog 27 #[.agg #[v0, v1, v2, v3, v4, v5, v6, v7], .pointer (some ⟨bs, 0, none⟩), .int .i64 typ, .int .u64 a] w fun e w' => e = .returned (pickV (pick M tbl typ a)) ∧ Below w.heap.size w w' := by
  by_cases ht : typ < 0 ∨ (M.types.length : Int) ≤ typ
  · have hp : pick M tbl typ a = none := by unfold pick; rw [if_pos ht]
    rw [hp]; exact pick_out hM _ typ a ht
  · obtain ⟨k, rfl⟩ : ∃ k : Nat, typ = k := ⟨typ.toNat, by omega⟩
    exact pick_in hM hwf hsz hst htb k (by omega) a ha
theorem Tab.moved {w w' : World} (hb : Below w.heap.size w w') {zs : List Int} {v : Value} (h : Lies (fun _ => True) zs.length (Tab w zs) v) : Lies (fun _ => True) zs.length (Tab w' zs) v :=
  Ex.Lies.move h fun hl b o hg hp => ⟨trivial, fun j hj => (hb.cell (p := ⟨b, o + j, none⟩) (World.block_lt_of_cell? w _ (hp j hj))).trans (hp j hj)⟩
theorem ModL.sls {w : World} {g : Nat → Prop} {M : Mod} {v0 v1 v2 v3 v4 v5 v6 v7 : Value} (h : ModL w g M v0 v1 v2 v3 v4 v5 v6 v7) : ∃ a0 n0 c0 a1 n1 c1 a2 n2 c2 a3 n3 c3 a4 n4 c4 a5 n5 c5 a6 n6 c6 a7 n7 c7, v0 = .slice a0 n0 c0 ∧ v1 = .slice a1 n1 c1 ∧ v2 = .slice a2 n2 c2 ∧ v3 = .slice a3 n3 c3 ∧ v4 = .slice a4 n4 c4 ∧ v5 = .slice a5 n5 c5 ∧ v6 = .slice a6 n6 c6 ∧ v7 = .slice a7 n7 c7 := by
  obtain ⟨a0, c0, e0⟩ := h.l0.sl; obtain ⟨a1, c1, e1⟩ := h.l1.sl; obtain ⟨a2, c2, e2⟩ := h.l2.sl; obtain ⟨a3, c3, e3⟩ := h.l3.sl
  obtain ⟨a4, c4, e4⟩ := h.l4.sl; obtain ⟨a5, c5, e5⟩ := h.l5.sl; obtain ⟨a6, c6, e6⟩ := h.l6.sl; obtain ⟨a7, c7, e7⟩ := h.l7.sl
  exact ⟨a0, _, c0, a1, _, c1, a2, _, c2, a3, _, c3, a4, _, c4, a5, _, c5, a6, _, c6, a7, _, c7, e0, e1, e2, e3, e4, e5, e6, e7⟩
set_option maxRecDepth 100000 in
set_option maxHeartbeats 3200000 in
theorem picks_walk {M : Mod} {v0 v1 v2 v3 v4 v5 v6 v7 : Value} {w : World} (hM0 : ModL w (fun _ => True) M v0 v1 v2 v3 v4 v5 v6 v7) (hwf : WfM M) (hsz : SzM M) (hG : Gl w) {ta : Option Addr} {tc : Nat} {tbl : List Int}
    (htb : Lies (fun _ => True) tbl.length (Tab w tbl) (.slice ta tbl.length tc)) (p q : Int) (hp : -9223372036854775808 ≤ p ∧ p ≤ 9223372036854775807) (hq : -9223372036854775808 ≤ q ∧ q ≤ 9223372036854775807) :
    Calls Tryz.prog 6 #[.agg #[v0, v1, v2, v3, v4, v5, v6, v7], .slice ta tbl.length tc, .agg #[.int .i64 p, .int .i64 q]] w fun e w' => e = .returned (.bool true) ∧ Below w.heap.size w w' := by
  have hM : ModL w (fun b => b < w.heap.size) M v0 v1 v2 v3 v4 v5 v6 v7 := hM0.moved (fun k hk _ => ⟨hk, rfl⟩) (Nat.le_refl _)
  obtain ⟨W0, hW0, b1, b2, b3, b4⟩ := start2m (w := w) (ms := #[v0, v1, v2, v3, v4, v5, v6, v7]) (ss := #[.int .i64 p, .int .i64 q]) (t := 30) (t2 := 86)
  obtain ⟨m0, m1, m2, m3, m4, m5, m6, m7⟩ := Ex.cel8 b1
  obtain ⟨o0, o1⟩ := cel2 b2
  have hbig := big_any M _ _ _ _ _ _ _ _ _ W0 (hM.moved (Mv.below (g' := fun b => b < w.heap.size) b4 (fun _ _ h => h)) b4.size) hsz
  have hsure : ∀ W, Below w.heap.size w W → _ := fun W hW => sure_any W (hG.below hW)
  have HM := hide hM; have HBig := hide hbig; have HSure := hide hsure; have HT := hide htb; have HG := hide hG; have HWf := hide hwf; have HSz := hide hsz
  have HW := hide hW0; have HB := hide b4; have HMb := hide b1; have HOb := hide b2
  clear hM0 hM hbig hsure htb hG hwf hsz hW0 b1 b2 b4
  obtain ⟨tl, htl⟩ : ∃ tl, tl = tbl.length := ⟨_, rfl⟩
  rw [← htl]
  have HTL := hide htl; clear htl
  go_enter Tryz.func6, Tryz.ntmps6
  go_wp2_with fail
  rw [unhide HW]
  refine (unhide HBig).mono ?_
  rintro e w1 ⟨⟨bb, rfl⟩, hb1⟩
  have HB1 := hide hb1
  have HBw1 := hide (Below.on0 (unhide HB) hb1 (unhide HB).size)
  clear HBig m0 m1 m2 m3 m4 m5 m6 m7 o0 o1
  have hcm := (hb1.block w.heap.size (by omega)).trans (unhide HMb)
  have hco := (hb1.block (w.heap.size + 1) b3).trans (unhide HOb)
  obtain ⟨m0, m1, m2, m3, m4, m5, m6, m7⟩ := Ex.cel8 hcm
  obtain ⟨o0, o1⟩ := cel2 hco
  have HC1 := hide hcm; have HO1 := hide hco
  clear hb1 hcm hco
  cases bb with
  | true =>
    go_wp2_with fail
    refine (unhide HSure _ (unhide HBw1)).mono ?_
    rintro e w2 ⟨rfl, hb2⟩
    have HB2 := hide (Below.on0 (unhide HBw1) hb2 (unhide HBw1).size)
    clear hb2
    go_wp2
    go_ret
    exact ⟨rfl, unhide HB2⟩
  | false =>
    by_cases ht : (tl : Int) > 300
    · go_wp2_with fail
      refine (unhide HSure _ (unhide HBw1)).mono ?_
      rintro e w2 ⟨rfl, hb2⟩
      have HB2 := hide (Below.on0 (unhide HBw1) hb2 (unhide HBw1).size)
      clear hb2
      go_wp2
      go_ret
      exact ⟨rfl, unhide HB2⟩
    · have hd : decide ((tl : Int) > 300) = false := decide_eq_false ht
      have hgv := giveModule_any M (fun b => b < w.heap.size) _ _ _ _ _ _ _ _ w1 (fun k hk => by have := (unhide HBw1).size; omega) ((unhide HM).moved (Mv.below (g' := fun b => b < w.heap.size) (unhide HBw1) (fun _ _ h => h)) (unhide HBw1).size) (unhide HSz)
      have HGv := hide hgv
      clear hgv
      go_wp2_with fail
      refine (unhide HGv).mono ?_
      rintro e w2 ⟨u0, u1, u2, u3, u4, u5, u6, u7, rfl, hM2, hb2⟩
      have HM2 := hide hM2
      obtain ⟨a0, n0, c0, a1, n1, c1, a2, n2, c2, a3, n3, c3, a4, n4, c4, a5, n5, c5, a6, n6, c6, a7, n7, c7, rfl, rfl, rfl, rfl, rfl, rfl, rfl, rfl⟩ := hM2.sls
      have HBw2 := hide (Below.on0 (unhide HBw1) hb2 (unhide HBw1).size)
      have hs1 := (unhide HB1).size
      have hs2 := hb2.size
      have hcm := (hb2.block w.heap.size (by omega)).trans (unhide HC1)
      have hco := (hb2.block (w.heap.size + 1) (by omega)).trans (unhide HO1)
      clear m0 m1 m2 m3 m4 m5 m6 m7 o0 o1
      obtain ⟨m0, m1, m2, m3, m4, m5, m6, m7⟩ := Ex.cel8 hcm
      obtain ⟨o0, o1⟩ := cel2 hco
      have l1 : w.heap.size < w2.heap.size := by omega
      have l2 : w.heap.size + 1 < w2.heap.size := by omega
      have HC2 := hide hcm; have HO2 := hide hco
      clear hb2 hM2 hcm hco HC1 HO1 HGv
      obtain ⟨a, hqa⟩ : ∃ a, IntKind.u64.wrap q = a := ⟨_, rfl⟩
      go_wp2_with fail
      obtain ⟨W3, hW3, r1, r2, r3, r4⟩ := start2m (w := w2) (ms := #[.slice a0 n0 c0, .slice a1 n1 c1, .slice a2 n2 c2, .slice a3 n3 c3, .slice a4 n4 c4, .slice a5 n5 c5, .slice a6 n6 c6, .slice a7 n7 c7]) (ss := #[.pointer none, .slice ta tl tc, .slice none 0 0]) (t := 47) (t2 := 90)
      rw [hW3]
      have hB3 := Below.on0 (unhide HBw2) r4 (unhide HBw2).size
      have ha : 0 ≤ a ∧ a < 18446744073709551616 := by rw [← hqa, IntKind.wrap_u64]; omega
      have hpk := pick_all (tbl := tbl) ((unhide HM2).moved (Mv.below (g' := Ex.gor (fun b => b < w.heap.size) w1.heap.size) r4 (fun _ _ h => h)) r4.size) (unhide HWf) (unhide HSz) (by rw [← unhide HTL]; exact r2) (Tab.moved hB3 (unhide HT)) p a ha
      have hrp : ∀ W, Below w.heap.size w W → _ := fun W hW => rpick_any (tbl := tbl) (fun b hb => by have := hW.size; exact Nat.lt_of_lt_of_le hb this) ((unhide HM).moved (Mv.below (g' := fun b => b < w.heap.size) hW (fun _ _ h => h)) hW.size) (unhide HWf) (unhide HSz) (Tab.moved hW (unhide HT)) (by have := unhide HTL; omega) p a ha
      have hpn : ∀ W, Below w2.heap.size w2 W → _ := fun W hW => pick_nil ((unhide HM2).moved (Mv.below (g' := Ex.gor (fun b => b < w.heap.size) w1.heap.size) hW (fun _ _ h => h)) hW.size) 0 0
      generalize pick M tbl p a = R at hpk hrp
      rw [← unhide HTL] at hrp
      have HPk := hide hpk; have HRp := hide hrp; have HPn := hide hpn; have HR1 := hide r1; have HR4 := hide r4
      clear hpk hrp hpn hW3 r1 r2 r4 hB3 m0 m1 m2 m3 m4 m5 m6 m7 o0 o1
      refine (unhide HPk).mono ?_
      rintro e w4 ⟨rfl, hb4⟩
      have h24 := Below.on (unhide HR4) hb4
      have hcm := (h24.block w.heap.size l1).trans (unhide HC2)
      have hco := (h24.block (w.heap.size + 1) l2).trans (unhide HO2)
      have hcw := (hb4.block w2.heap.size (by omega)).trans (unhide HR1)
      obtain ⟨m0, m1, m2, m3, m4, m5, m6, m7⟩ := Ex.cel8 hcm
      obtain ⟨o0, o1⟩ := cel2 hco
      have HX4 := hide (Below.on0 (unhide HBw2) h24 (unhide HBw2).size)
      have H24 := hide h24; have HCw := hide hcw
      have l4 : w2.heap.size < w4.heap.size := by have := hb4.size; omega
      clear hb4 h24 hcm hco hcw HPk HR1 HR4 HC2 HO2
      cases R with
      | none =>
        unfold pickV
        go_wp2_with fail
        refine (unhide HRp _ (unhide HX4)).mono ?_
        rintro e w5 ⟨rfl, hb5⟩
        have HX5 := hide (Below.on0 (unhide HX4) hb5 (unhide HX4).size)
        have H25 := hide (Below.on0 (unhide H24) hb5 (unhide H24).size)
        clear m0 m1 m2 m3 m4 m5 m6 m7 o0 o1
        obtain ⟨m0, m1, m2, m3, m4, m5, m6, m7⟩ := Ex.cel8 ((hb5.block w2.heap.size l4).trans (unhide HCw))
        clear hb5
        unfold rpickV
        go_wp2_with fail
        refine (unhide HPn _ (unhide H25)).mono ?_
        rintro e w6 ⟨rfl, hb6⟩
        have HX := hide (Below.on0 (unhide HX5) hb6 (unhide HX5).size)
        clear hb6 m0 m1 m2 m3 m4 m5 m6 m7
        unfold pickV
        go_wp2_with (first
          | (go_at_call 15; refine (num_hit 1 _ ((unhide HG).below (unhide HX)).2).mono ?_; rintro e w7 ⟨rfl, hb7⟩; have HX := hide (Below.on0 (unhide HX) hb7 (unhide HX).size); clear hb7)
          | (go_at_call 11; refine (unhide HSure _ (unhide HX)).mono ?_; rintro e w8 ⟨rfl, hb8⟩; have HX := hide (Below.on0 (unhide HX) hb8 (unhide HX).size); clear hb8))
        go_ret
        exact ⟨rfl, unhide HX⟩
      | some x =>
        obtain ⟨x1, x2⟩ := x
        unfold pickV
        go_wp2_with fail
        refine (unhide HRp _ (unhide HX4)).mono ?_
        rintro e w5 ⟨rfl, hb5⟩
        have HX5 := hide (Below.on0 (unhide HX4) hb5 (unhide HX4).size)
        have H25 := hide (Below.on0 (unhide H24) hb5 (unhide H24).size)
        clear m0 m1 m2 m3 m4 m5 m6 m7 o0 o1
        obtain ⟨m0, m1, m2, m3, m4, m5, m6, m7⟩ := Ex.cel8 ((hb5.block w2.heap.size l4).trans (unhide HCw))
        clear hb5
        unfold rpickV
        go_wp2_with fail
        refine (unhide HPn _ (unhide H25)).mono ?_
        rintro e w6 ⟨rfl, hb6⟩
        have HX := hide (Below.on0 (unhide HX5) hb6 (unhide HX5).size)
        clear hb6 m0 m1 m2 m3 m4 m5 m6 m7
        unfold pickV
        go_wp2_with (first
          | (go_at_call 15; refine (num_hit 1 _ ((unhide HG).below (unhide HX)).2).mono ?_; rintro e w7 ⟨rfl, hb7⟩; have HX := hide (Below.on0 (unhide HX) hb7 (unhide HX).size); clear hb7)
          | (go_at_call 11; refine (unhide HSure _ (unhide HX)).mono ?_; rintro e w8 ⟨rfl, hb8⟩; have HX := hide (Below.on0 (unhide HX) hb8 (unhide HX).size); clear hb8))
        go_ret
        exact ⟨rfl, unhide HX⟩
end Gm
end Go.Proofs.YtcljcnaglkbjcaaGreatDoor

/- Arguments opened: rows of numbers, two numbers in an array. -/
namespace Go.Proofs.YtcljcnaglkbjcaaGreatDoor
open Go.ChangeShapes Go.WideShapes Go.ChangeAt Go.RowKit
namespace Gm
set_option linter.unusedVariables false
set_option linter.unusedSimpArgs false
open Ex (Lies)
/-- numbers of 64 bits at a place -/
def Tau (w : World) (zs : List Int) (b o : Nat) : Prop := ∀ j, j < zs.length → w.cell? ⟨b, o + j, none⟩ = some (.int .u64 (zs.getD j 0))
theorem Tau.moved {w w' : World} (hb : Below w.heap.size w w') {zs : List Int} {v : Value} (h : Lies (fun _ => True) zs.length (Tau w zs) v) : Lies (fun _ => True) zs.length (Tau w' zs) v :=
  Ex.Lies.move h fun hl b o hg hp => ⟨trivial, fun j hj => (hb.cell (p := ⟨b, o + j, none⟩) (World.block_lt_of_cell? w _ (hp j hj))).trans (hp j hj)⟩
theorem open_i64s {H : Type} {enc : TypeId × Value → H} {w : World} {a : Option Addr} {n c : Nat} {d : DataW H} {p : List MemPlace}
    (h : DataW.Trod enc Tryz.prog w 0 (fun _ => true) true 52 (.slice a n c) d p) : ∃ zs : List Int, n = zs.length ∧ Lies (fun _ => True) zs.length (Tab w zs) (.slice a n c) ∧ ∀ z ∈ zs, -9223372036854775808 ≤ z ∧ z ≤ 9223372036854775807 := by
  obtain ⟨fuel, hf⟩ := h
  rcases open_ints Tryz.underlying52 Tryz.underlying3 (by kernel_rfl) hf with ⟨hcs, _⟩ | ⟨x, len, cap, zs, hcs, _, hl, hm, hz, _, hc, hw⟩
  · simp [Value.cells] at hcs
    obtain ⟨rfl, rfl, rfl⟩ := hcs
    exact ⟨[], rfl, ⟨none, 0, rfl, Nat.le_refl _, fun _ => rfl, fun h => by simp at h⟩, by simp⟩
  · simp [Value.cells] at hcs
    obtain ⟨rfl, rfl, rfl⟩ := hcs
    have hzl : zs.length = c := by simpa using hz
    have hlt : (zs.take n).length = n := by simp; omega
    refine ⟨zs.take n, hlt.symm, ⟨some x, c, by rw [hlt], by omega, by simp, fun h0 => ?_⟩, fun z hzm => ?_⟩
    · obtain ⟨b, off, spot⟩ := x
      have h00 := hc 0 (by omega)
      have hspot : spot = none := by simpa [Addr.add] using World.cell?_spot h00
      subst hspot
      refine ⟨b, off, rfl, trivial, fun i hi => ?_⟩
      have := hc i (by omega)
      rw [addr_add] at this
      rw [this]; simp [List.getD, show i < n by omega]
    · exact bounds_i64 (hw z (List.mem_of_mem_take hzm))
theorem open_u64s {H : Type} {enc : TypeId × Value → H} {w : World} {a : Option Addr} {n c : Nat} {d : DataW H} {p : List MemPlace}
    (h : DataW.Trod enc Tryz.prog w 0 (fun _ => true) true 53 (.slice a n c) d p) : ∃ zs : List Int, n = zs.length ∧ Lies (fun _ => True) zs.length (Tau w zs) (.slice a n c) ∧ ∀ z ∈ zs, 0 ≤ z ∧ z ≤ 18446744073709551615 := by
  obtain ⟨fuel, hf⟩ := h
  rcases open_ints Tryz.underlying53 Tryz.underlying72 (by kernel_rfl) hf with ⟨hcs, _⟩ | ⟨x, len, cap, zs, hcs, _, hl, hm, hz, _, hc, hw⟩
  · simp [Value.cells] at hcs
    obtain ⟨rfl, rfl, rfl⟩ := hcs
    exact ⟨[], rfl, ⟨none, 0, rfl, Nat.le_refl _, fun _ => rfl, fun h => by simp at h⟩, by simp⟩
  · simp [Value.cells] at hcs
    obtain ⟨rfl, rfl, rfl⟩ := hcs
    have hzl : zs.length = c := by simpa using hz
    have hlt : (zs.take n).length = n := by simp; omega
    refine ⟨zs.take n, hlt.symm, ⟨some x, c, by rw [hlt], by omega, by simp, fun h0 => ?_⟩, fun z hzm => ?_⟩
    · obtain ⟨b, off, spot⟩ := x
      have h00 := hc 0 (by omega)
      have hspot : spot = none := by simpa [Addr.add] using World.cell?_spot h00
      subst hspot
      refine ⟨b, off, rfl, trivial, fun i hi => ?_⟩
      have := hc i (by omega)
      rw [addr_add] at this
      rw [this]; simp [List.getD, show i < n by omega]
    · exact bounds_u64 (hw z (List.mem_of_mem_take hzm))
set_option maxRecDepth 100000 in
theorem open_arr2 {H : Type} {enc : TypeId × Value → H} {w : World} {r : Reach} {b0 base : Nat} {spare : Nat → Bool} {held : Bool} {v : Value} {d : DataW H} {p : List MemPlace}
    (hv : Value.okWide Tryz.prog w r b0 86 v) (h : DataW.Trod enc Tryz.prog w base spare held 86 v d p) :
    ∃ x y : Int, v = .agg #[.int .i64 x, .int .i64 y] ∧ (Lit.int .i64 x).wf = true ∧ (Lit.int .i64 y).wf = true := by
  have hc : ∃ cs, v = .agg cs ∧ cs.size = Tryz.prog.cellsOf 86 := by
    simp only [Value.okWide, Tryz.underlying86] at hv
    obtain ⟨cs, h1, h2, _⟩ := hv
    exact ⟨cs, h1, h2⟩
  obtain ⟨cs, rfl, hsz⟩ := hc
  obtain ⟨c0, c1, rfl⟩ := Go.Joins.array2 (hsz.trans (by kernel_rfl))
  obtain ⟨fuel, hf⟩ := h
  obtain ⟨xs, m, _, _, _, hxl, hxs⟩ := DataW.trod_array Tryz.underlying86 hf
  have e1 : Tryz.prog.cellsOf 2 = 1 := by kernel_rfl
  have h0 := hxs 0 (by omega)
  have h1 := hxs 1 (by omega)
  rw [e1] at h0 h1
  simp only [Value.cells, Nat.zero_mul, List.drop_zero, Nat.one_mul] at h0 h1
  rw [List.getElem?_eq_getElem (by omega)] at h0 h1
  obtain ⟨x, e0, _, wx⟩ := DataW.trod_int Tryz.underlying2 h0
  obtain ⟨y, e2, _, wy⟩ := DataW.trod_int Tryz.underlying2 h1
  simp at e0 e2
  subst e0 e2
  exact ⟨x, y, rfl, wx, wy⟩
end Gm
end Go.Proofs.YtcljcnaglkbjcaaGreatDoor

/- inst.Find, inst.Fits, and the reference's Fits. -/
namespace Go.Proofs.YtcljcnaglkbjcaaGreatDoor
open Go.RowKit
namespace Gm
set_option linter.unusedVariables false
set_option linter.unusedSimpArgs false
open Ex (Lies)
def hitE (s : ByteArray) (e : Exo) : Bool := (e.wh == 0) && (e.nm.toList == s.toList)
def find (M : Mod) (s : ByteArray) : Option Int := (M.exps.find? (hitE s)).map (·.ix)
def findV (o : Option Int) : Value := match o with
  | some x => .tuple #[.int .i64 x, .nilIface]
  | none => .tuple #[.int .i64 0, .iface 135 (.int .i64 10)]
theorem find_yes {M : Mod} {s : ByteArray} {j : Nat} (h : j < M.exps.length) (h2 : hitE s M.exps[j] = true) (hno : ∀ i, i < j → (h : i < M.exps.length) → hitE s M.exps[i] = false) : find M s = some M.exps[j].ix := by
  unfold find
  rw [List.find?_eq_some_iff_getElem.2 ⟨h2, j, h, rfl, fun i hi => by rw [hno i hi (by omega)]; decide⟩]; rfl
theorem find_no {M : Mod} {s : ByteArray} (hno : ∀ i, (h : i < M.exps.length) → hitE s M.exps[i] = false) : find M s = none := by
  unfold find
  rw [List.find?_eq_none.2 fun x hx => by obtain ⟨i, hi, rfl⟩ := List.getElem_of_mem hx; rw [hno i hi]; decide]; rfl

set_option maxRecDepth 100000 in
set_option maxHeartbeats 1600000 in
theorem find_any {M : Mod} {g : Nat → Prop} {v0 v1 v2 v3 v4 v5 v6 v7 : Value} {w : World} (hM : ModL w g M v0 v1 v2 v3 v4 v5 v6 v7) (hwf : WfM M) (hn : M.exps.length ≤ 1048576) (s : ByteArray) :
    Calls Tryz.prog 17 #[.agg #[v0, v1, v2, v3, v4, v5, v6, v7], .string s] w fun e w' => e = .returned (findV (find M s)) ∧ Below w.heap.size w w' := by
  obtain ⟨a5, c5, rfl⟩ := hM.l5.sl
  have hL := hM.l5
  have hwx : ∀ x ∈ M.exps, Exo.wf x := hwf.2.2.2.2.2.1
  have hb0 : Below w.heap.size w (w.alloc (.cells #[v0, v1, v2, v3, v4, .slice a5 M.exps.length c5, v6, v7] 47)) := (Below.refl _ _).alloc (Nat.le_refl _) _
  have HL := hide hL; have HB0 := hide hb0; have HN := hide hn; have HX := hide hwx
  clear hM hL hb0 hn hwx hwf
  obtain ⟨n, hnl⟩ : ∃ n, n = M.exps.length := ⟨_, rfl⟩
  rw [← hnl]
  have hn' : (n : Int) ≤ 1048576 := by have := unhide HN; omega
  have HE := hide hnl; clear hnl
  go_enter Tryz.func17, Tryz.ntmps17
  go_wp2
  go_loopw [11] (fun i wr => ∃ k : Nat, k ≤ n ∧ i = .int .i64 k ∧ (∀ i, i < k → (h : i < M.exps.length) → hitE s M.exps[i] = false) ∧ Below w.heap.size w wr)
    (fun i _ => ((n : Int) - intOf i).toNat)
  case atStart => exact ⟨0, Nat.zero_le _, rfl, fun i hi => absurd hi (by omega), by have := unhide HB0; rw [← unhide HE] at this; exact this⟩
  case round =>
    obtain ⟨k, hk, rfl, hno, hbl⟩ := hrel
    by_cases hlt : k < n
    · have hlm : k < M.exps.length := by rw [← unhide HE]; exact hlt
      obtain ⟨b, o, cp, hv, _, hbw, _, cs, _, hcs, hcell⟩ := (unhide HL).at hlm
      have hcs' : cs = [.string M.exps[k].nm, .int .u8 M.exps[k].wh, .int .u32 M.exps[k].ix] := hcs
      subst hcs'
      obtain ⟨rfl, -, rfl⟩ : a5 = some ⟨b, o, none⟩ ∧ n = M.exps.length ∧ c5 = cp := by simp at hv; exact ⟨hv.1, unhide HE, hv.2⟩
      have c0 : wr.cell? ⟨b, o + k * 3, none⟩ = some (.string M.exps[k].nm) := (hbl.cell (p := ⟨b, o + k * 3, none⟩) hbw).trans (hcell 0 _ rfl)
      have c1 : wr.cell? ⟨b, o + k * 3 + 1, none⟩ = some (.int .u8 M.exps[k].wh) := (hbl.cell (p := ⟨b, o + k * 3 + 1, none⟩) hbw).trans (hcell 1 _ rfl)
      have c2 : wr.cell? ⟨b, o + k * 3 + 2, none⟩ = some (.int .u32 M.exps[k].ix) := (hbl.cell (p := ⟨b, o + k * 3 + 2, none⟩) hbw).trans (hcell 2 _ rfl)
      have hxw := unhide HX _ (List.getElem_mem hlm)
      have hix : 0 ≤ M.exps[k].ix ∧ M.exps[k].ix ≤ 4294967295 := hxw.2.2
      have hlt' : (k : Int) < n := by omega
      have hbl2 := hbl.alloc (hbl.size) (.cells #[.string M.exps[k].nm, .int .u8 M.exps[k].wh, .int .u32 M.exps[k].ix] 129)
      have HH : Hid (hitE s M.exps[k] = ((M.exps[k].wh == 0) && (M.exps[k].nm.toList == s.toList))) := hide rfl
      have HY : Hid (hitE s M.exps[k] = true → find M s = some M.exps[k].ix) := hide fun h2 => find_yes hlm h2 hno
      have HNo := hide hno; have HBl := hide hbl2; have HK := hide hlt
      clear hcell hv hno hbl hbl2 hk hlt hxw hcs
      have hi2 : (0 : Int) ≤ M.exps[k].ix := hix.1
      have hi3 : M.exps[k].ix ≤ (4294967295 : Int) := hix.2
      clear hix
      have HLm := hide hlm
      generalize hg1 : M.exps[k].nm = nm at *
      generalize hg2 : M.exps[k].wh = wh at *
      generalize hg3 : M.exps[k].ix = ix at *
      clear hg1 hg2 hg3
      by_cases h0 : wh = 0
      · subst h0
        cases hq : (nm.toList == s.toList)
        · have hd : Hid (hitE s M.exps[k] = false) := by have := unhide HH; rw [hq] at this; exact hide (this.trans (by decide))
          clear HH HY hlm
          go_wp2
          go_roundw
          case rel =>
            refine ⟨k + 1, unhide HK, rfl, fun i hi h => ?_, unhide HBl⟩
            by_cases e : i = k
            · subst e; exact unhide hd
            · exact unhide HNo i (by omega) h
          case measure => have := unhide HK; simp [intOf]; omega
        · have hf : find M s = some ix := unhide HY (by have := unhide HH; rw [hq] at this; exact this.trans (by decide))
          have HF := hide hf
          clear HH HY hlm hf
          go_wp2
          go_ret2
          exact ⟨by rw [unhide HF]; unfold findV; simp, unhide HBl⟩
      · have hw0 : (wh == 0) = false := by simpa using h0
        have hd : Hid (hitE s M.exps[k] = false) := by have := unhide HH; rw [hw0] at this; exact hide (this.trans (by simp))
        clear HH HY hlm
        go_wp2
        go_roundw
        case rel =>
          refine ⟨k + 1, unhide HK, rfl, fun i hi h => ?_, unhide HBl⟩
          by_cases e : i = k
          · subst e; exact unhide hd
          · exact unhide HNo i (by omega) h
        case measure => have := unhide HK; simp [intOf]; omega
    · have hkn : k = n := by omega
      subst hkn
      have hf : find M s = none := find_no fun i h => hno i (by rw [unhide HE]; exact h) h
      have HBl := hide hbl; have HF := hide hf; clear hno hbl hf
      go_wp2
      go_ret2
      exact ⟨by rw [unhide HF]; unfold findV; rfl, unhide HBl⟩

def badA (ps zs : List Int) (j : Nat) : Prop := ps.getD j 0 = 127 ∧ 4294967296 ≤ zs.getD j 0
def fits (o : Option Typ) (zs : List Int) : Prop := match o with
  | none => False
  | some t => zs.length = t.ps.length ∧ ∀ j, j < zs.length → ¬ badA t.ps zs j
def fitV (p : Prop) (v : Value) : Prop := (p ∧ v = .nilIface) ∨ (¬ p ∧ v = .iface 135 (.int .i64 1))
def fitB (p : Prop) (b : Bool) : Prop := (p ∧ b = true) ∨ (¬ p ∧ b = false)
def RFit (p : Prop) (e : Ending) : Prop := ∃ b, e = .returned (.bool b) ∧ fitB p b
theorem low32_same (v : Int) (w : World) (h0 : 0 ≤ v) (h1 : v < 18446744073709551616) :
    Calls Tryz.prog 49 #[.int .u64 v] w fun e w' => e = .returned (.int .u64 (v % 4294967296)) ∧ w' = w :=
  (low32_any v w h0 h1).mono fun e w' h => ⟨h.1, h.2.symm⟩
theorem Lies.none {g : Nat → Prop} {n : Nat} {p : Nat → Nat → Prop} {a : Option Addr} {c : Nat} (h : Lies g n p (.slice a n c)) (hn : 0 < n) : ∃ b o, a = some ⟨b, o, none⟩ ∧ g b ∧ p b o := by
  obtain ⟨a', c', e, _, _, hr⟩ := h
  simp only [Value.slice.injEq] at e
  obtain ⟨rfl, -, rfl⟩ := e
  obtain ⟨b, o, rfl, h1, h2⟩ := hr hn
  exact ⟨b, o, rfl, h1, h2⟩

set_option maxRecDepth 100000 in
set_option maxHeartbeats 1600000 in
theorem fits_any {M : Mod} {g : Nat → Prop} {v0 v1 v2 v3 v4 v5 v6 v7 : Value} {w : World} (hM : ModL w g M v0 v1 v2 v3 v4 v5 v6 v7) (hwf : WfM M) {aa : Option Addr} {ac : Nat} {zs : List Int}
    (hA : Lies (fun _ => True) zs.length (Tau w zs) (.slice aa zs.length ac)) (hz : ∀ z ∈ zs, 0 ≤ z ∧ z ≤ 18446744073709551615) (hzl : zs.length ≤ 300) (f : Int) :
    Calls Tryz.prog 18 #[.agg #[v0, v1, v2, v3, v4, v5, v6, v7], .int .i64 f, .slice aa zs.length ac] w fun e w' => (∃ v, e = .returned v ∧ fitV (fits (ty? M f) zs) v) ∧ Below w.heap.size w w' := by
  obtain ⟨W0, hW0⟩ : ∃ W0, w.alloc (.cells #[v0, v1, v2, v3, v4, v5, v6, v7] 47) = W0 := ⟨_, rfl⟩
  have hb0 : Below w.heap.size w W0 := by rw [← hW0]; exact (Below.refl _ _).alloc (Nat.le_refl _) _
  have hbx : W0.heap[w.heap.size]? = some (.cells #[v0, v1, v2, v3, v4, v5, v6, v7] 47 (0, 0)) := by rw [← hW0]; exact heap_alloc_new _ _
  obtain ⟨m0, m1, m2, m3, m4, m5, m6, m7⟩ := Ex.cel8 hbx
  have hT := typeOf_any (hM.moved (Mv.below (g' := g) hb0 (fun _ _ h => h)) hb0.size) hwf f
  have hA0 := Tau.moved hb0 hA
  have HA := hide hA0; have HB0 := hide hb0; have HW := hide hW0; have HZ := hide hz; have HZL := hide hzl
  clear hM hwf hA hA0 hb0 hW0 hbx hz hzl
  cases ht : ty? M f with
  | none =>
    rw [ht] at hT
    have HT : Hid (TyNo _ _ _ _) := hide hT
    clear hT ht
    go_enter Tryz.func18, Tryz.ntmps18
    go_wp2_with fail
    rw [unhide HW]
    refine (unhide HT).mono ?_
    rintro e w1 ⟨rfl, hb1⟩
    have HB1 := hide (Below.on0 (unhide HB0) hb1 (unhide HB0).size)
    clear hb1 HT HW m0 m1 m2 m3 m4 m5 m6 m7
    go_wp2
    go_ret
    exact ⟨⟨_, rfl, .inr ⟨fun h => h, rfl⟩⟩, (unhide HB1).alloc (unhide HB1).size _⟩
  | some t =>
    rw [ht] at hT
    have HT : Hid (TyYes _ _ _ _ _ _) := hide hT
    clear hT ht
    go_enter Tryz.func18, Tryz.ntmps18
    go_wp2_with fail
    rw [unhide HW]
    refine (unhide HT).mono ?_
    rintro e w1 ⟨pa, pc, rfl, hps, hb1⟩
    have hps1 := Byts.moved (Mv.below (g' := g) hb1 (fun _ _ h => h)) hps
    have hA1 := Tau.moved hb1 (unhide HA)
    have HB1 := hide (Below.on0 (unhide HB0) hb1 (unhide HB0).size)
    have HP := hide hps1; have HA1 := hide hA1
    clear hb1 HT HW HA hps hps1 hA1 m0 m1 m2 m3 m4 m5 m6 m7
    by_cases hl : zs.length = t.ps.length
    · have hd : ((zs.length : Int) != (t.ps.length : Int)) = false := by rw [hl]; simp
      have HLn := hide hl
      obtain ⟨n, hn⟩ : ∃ n, n = zs.length := ⟨_, rfl⟩
      rw [← hn] at hd
      have hn2 : n = t.ps.length := hn.trans hl
      rw [← hn, ← hn2]
      rw [← hn2] at hd
      have hn' : (n : Int) ≤ 300 := by have := unhide HZL; omega
      have HNn := hide hn; have HNp := hide hn2
      clear hl hn hn2
      go_wp2
      go_loopw [31] (fun i wr => ∃ k : Nat, k ≤ n ∧ i = .int .i64 k ∧ (∀ j, j < k → ¬ badA t.ps zs j) ∧ Below w1.heap.size w1 wr)
        (fun i _ => ((n : Int) - intOf i).toNat)
      case atStart => exact ⟨0, Nat.zero_le _, rfl, fun i hi => absurd hi (by omega), (Below.refl _ _).alloc (Nat.le_refl _) _⟩
      case round =>
        obtain ⟨k, hk, rfl, hno, hbl⟩ := hrel
        by_cases hlt : k < n
        · have hkz : k < zs.length := by rw [← unhide HNn]; exact hlt
          have hkp : k < t.ps.length := by rw [← unhide HNp]; exact hlt
          have hAx := unhide HA1
          rw [← unhide HNn] at hAx
          obtain ⟨b, o, rfl, -, hca⟩ := Lies.none hAx (by omega)
          have hPx := unhide HP
          rw [← unhide HNp] at hPx
          obtain ⟨b2, o2, rfl, -, hcp⟩ := Lies.none hPx (by omega)
          have c0 : wr.cell? ⟨b, o + k, none⟩ = some (.int .u64 (zs.getD k 0)) := (hbl.cell (p := ⟨b, o + k, none⟩) (World.block_lt_of_cell? w1 _ (hca k hkz))).trans (hca k hkz)
          have c1 : wr.cell? ⟨b2, o2 + k, none⟩ = some (.int .u8 (t.ps.getD k 0)) := (hbl.cell (p := ⟨b2, o2 + k, none⟩) (World.block_lt_of_cell? w1 _ (hcp k hkp))).trans (hcp k hkp)
          have hzk : 0 ≤ zs.getD k 0 ∧ zs.getD k 0 ≤ 18446744073709551615 := by
            have := unhide HZ (zs[k]) (List.getElem_mem hkz)
            simpa [List.getD, hkz] using this
          have hlow := fun W => low32_same (zs.getD k 0) W hzk.1 (by omega)
          have HBad : Hid (badA t.ps zs k ↔ (t.ps.getD k 0 = 127 ∧ 4294967296 ≤ zs.getD k 0)) := hide Iff.rfl
          have HL := hide hlow; have HNo := hide hno; have HBl := hide hbl; have HK := hide hlt
          have hlt' : (k : Int) < n := by omega
          have HZk := hide hzk
          clear hAx hPx hca hcp hno hbl hk hlt hkz hkp hlow hzk
          generalize hg1 : zs.getD k 0 = z at *
          generalize hg2 : t.ps.getD k 0 = p at *
          clear hg1 hg2
          have hno' : ∀ (hb : ¬ badA t.ps zs k), ∀ j, j < k + 1 → ¬ badA t.ps zs j := fun hb j hj => by
            by_cases e : j = k
            · subst e; exact hb
            · exact unhide HNo j (by omega)
          have HNo' := hide hno'; clear hno'
          by_cases hp : p = 127
          · subst hp
            by_cases hz : z < 4294967296
            · have hm : (z != z % 4294967296) = false := by have := unhide HZk; rw [Int.emod_eq_of_lt this.1 hz]; simp
              have hnb : Hid (¬ badA t.ps zs k) := hide fun h => by have := ((unhide HBad).1 h).2; omega
              clear hz
              go_wp2_with fail
              go_quiet ((go_at_call 49; exact Calls.quiet_of_same (unhide HL _)))
              go_wp2
              go_roundw
              case rel => exact ⟨k + 1, unhide HK, rfl, unhide HNo' (unhide hnb), Below.on0 (unhide HBl) (drewn_below9 _ _) (unhide HBl).size⟩
              case measure => have := unhide HK; simp [intOf]; omega
            · have hm : (z != z % 4294967296) = true := by
                have := unhide HZk
                simp; omega
              have hnb : Hid (badA t.ps zs k) := hide ((unhide HBad).2 ⟨rfl, by omega⟩)
              clear hz
              go_wp2_with fail
              go_quiet ((go_at_call 49; exact Calls.quiet_of_same (unhide HL _)))
              go_wp2
              go_ret
              refine ⟨⟨_, rfl, .inr ⟨fun h => ?_, rfl⟩⟩, Below.on0 (unhide HB1) (Below.on0 (unhide HBl) (drewn_below9 _ _) (unhide HBl).size) (unhide HB1).size⟩
              exact h.2 k (by rw [← unhide HNn]; exact unhide HK) (unhide hnb)
          · have hp0 : (p == 127) = false := by simpa using hp
            have hnb : Hid (¬ badA t.ps zs k) := hide fun h => hp ((unhide HBad).1 h).1
            clear hp
            go_wp2_with fail
            go_quiet (fail)
            go_wp2
            go_roundw
            case rel => exact ⟨k + 1, unhide HK, rfl, unhide HNo' (unhide hnb), Below.on0 (unhide HBl) (drewn_below9 _ _) (unhide HBl).size⟩
            case measure => have := unhide HK; simp [intOf]; omega
        · have hkn : k = n := by omega
          subst hkn
          have HBl := hide hbl; have HNo := hide hno; clear hno hbl
          go_wp2
          go_ret
          exact ⟨⟨_, rfl, .inl ⟨⟨unhide HLn, fun j hj => unhide HNo j (by rw [unhide HNn]; exact hj)⟩, rfl⟩⟩, Below.on0 (unhide HB1) (unhide HBl) (unhide HB1).size⟩
    · have hd : ((zs.length : Int) != (t.ps.length : Int)) = true := by simp; omega
      have HLn : Hid (¬ fits (some t) zs) := hide fun h => hl h.1
      generalize zs.length = n at *
      generalize t.ps.length = m at *
      clear hl
      go_wp2
      go_ret
      exact ⟨⟨_, rfl, .inr ⟨unhide HLn, rfl⟩⟩, (unhide HB1).alloc (unhide HB1).size _⟩
set_option maxRecDepth 100000 in
set_option maxHeartbeats 1600000 in
theorem rfits_any {M : Mod} {g : Nat → Prop} {v0 v1 v2 v3 v4 v5 v6 v7 : Value} {w : World} (hM : ModL w g M v0 v1 v2 v3 v4 v5 v6 v7) (hwf : WfM M) (hsz : SzM M) {aa : Option Addr} {ac : Nat} {zs : List Int}
    (hA : Lies (fun _ => True) zs.length (Tau w zs) (.slice aa zs.length ac)) (hz : ∀ z ∈ zs, 0 ≤ z ∧ z ≤ 18446744073709551615) (hzl : zs.length ≤ 300) (f : Int) :
    Calls Tryz.prog 19 #[.agg #[v0, v1, v2, v3, v4, v5, v6, v7], .int .i64 f, .slice aa zs.length ac] w fun e w' => RFit (fits (ty? M f) zs) e ∧ Below w.heap.size w w' := by
  obtain ⟨W0, hW0⟩ : ∃ W0, w.alloc (.cells #[v0, v1, v2, v3, v4, v5, v6, v7] 30) = W0 := ⟨_, rfl⟩
  have hb0 : Below w.heap.size w W0 := by rw [← hW0]; exact (Below.refl _ _).alloc (Nat.le_refl _) _
  have hbx : W0.heap[w.heap.size]? = some (.cells #[v0, v1, v2, v3, v4, v5, v6, v7] 30 (0, 0)) := by rw [← hW0]; exact heap_alloc_new _ _
  obtain ⟨m0, m1, m2, m3, m4, m5, m6, m7⟩ := Ex.cel8 hbx
  have hT := rtype_any (hM.moved (Mv.below (g' := g) hb0 (fun _ _ h => h)) hb0.size) hwf hsz f
  have hA0 := Tau.moved hb0 hA
  have HA := hide hA0; have HB0 := hide hb0; have HW := hide hW0; have HZ := hide hz; have HZL := hide hzl
  clear hM hwf hsz hA hA0 hb0 hW0 hbx hz hzl
  cases ht : ty? M f with
  | none =>
    rw [ht] at hT
    have HT : Hid (TyNo _ _ _ _) := hide hT
    clear hT ht
    go_enter Tryz.func19, Tryz.ntmps19
    go_wp2_with fail
    rw [unhide HW]
    refine (unhide HT).mono ?_
    rintro e w1 ⟨rfl, hb1⟩
    have HB1 := hide (Below.on0 (unhide HB0) hb1 (unhide HB0).size)
    clear hb1 HT HW m0 m1 m2 m3 m4 m5 m6 m7
    go_wp2
    go_ret
    exact ⟨⟨_, rfl, .inr ⟨fun h => h, rfl⟩⟩, (unhide HB1).alloc (unhide HB1).size _⟩
  | some t =>
    rw [ht] at hT
    have HT : Hid (TyYes _ _ _ _ _ _) := hide hT
    clear hT ht
    go_enter Tryz.func19, Tryz.ntmps19
    go_wp2_with fail
    rw [unhide HW]
    refine (unhide HT).mono ?_
    rintro e w1 ⟨pa, pc, rfl, hps, hb1⟩
    have hps1 := Byts.moved (Mv.below (g' := g) hb1 (fun _ _ h => h)) hps
    have hA1 := Tau.moved hb1 (unhide HA)
    have HB1 := hide (Below.on0 (unhide HB0) hb1 (unhide HB0).size)
    have HP := hide hps1; have HA1 := hide hA1
    clear hb1 HT HW HA hps hps1 hA1 m0 m1 m2 m3 m4 m5 m6 m7
    by_cases hl : zs.length = t.ps.length
    · have hd : ((zs.length : Int) != (t.ps.length : Int)) = false := by rw [hl]; simp
      have HLn := hide hl
      obtain ⟨n, hn⟩ : ∃ n, n = zs.length := ⟨_, rfl⟩
      rw [← hn] at hd
      have hn2 : n = t.ps.length := hn.trans hl
      rw [← hn, ← hn2]
      rw [← hn2] at hd
      have hn' : (n : Int) ≤ 300 := by have := unhide HZL; omega
      have HNn := hide hn; have HNp := hide hn2
      clear hl hn hn2
      obtain ⟨W1, hW1⟩ : ∃ W1, w1.alloc (.cells #[.slice pa n pc, .int .u8 t.re] 107) = W1 := ⟨_, rfl⟩
      have hbW : Below w1.heap.size w1 W1 := by rw [← hW1]; exact (Below.refl _ _).alloc (Nat.le_refl _) _
      have hrW : W1.heap[w1.heap.size]? = some (.cells #[.slice pa n pc, .int .u8 t.re] 107 (0, 0)) := by rw [← hW1]; exact heap_alloc_new _ _
      have HbW := hide hbW; have HrW := hide hrW; have HW1 := hide hW1
      clear hbW hrW hW1
      go_wp2
      go_loopw [9] (fun i wr => ∃ k : Nat, k ≤ n ∧ i = .int .i64 k ∧ (∀ j, j < k → ¬ badA t.ps zs j) ∧ wr = W1)
        (fun i _ => ((n : Int) - intOf i).toNat)
      case atStart => exact ⟨0, Nat.zero_le _, rfl, fun i hi => absurd hi (by omega), unhide HW1⟩
      case round =>
        obtain ⟨k, hk, rfl, hno, rfl⟩ := hrel
        have hbl := unhide HbW
        by_cases hlt : k < n
        · obtain ⟨m0, m1⟩ := cel2 (unhide HrW)
          have hkz : k < zs.length := by rw [← unhide HNn]; exact hlt
          have hkp : k < t.ps.length := by rw [← unhide HNp]; exact hlt
          have hAx := unhide HA1
          rw [← unhide HNn] at hAx
          obtain ⟨b, o, rfl, -, hca⟩ := Lies.none hAx (by omega)
          have hPx := unhide HP
          rw [← unhide HNp] at hPx
          obtain ⟨b2, o2, rfl, -, hcp⟩ := Lies.none hPx (by omega)
          have c0 : wr.cell? ⟨b, o + k, none⟩ = some (.int .u64 (zs.getD k 0)) := (hbl.cell (p := ⟨b, o + k, none⟩) (World.block_lt_of_cell? w1 _ (hca k hkz))).trans (hca k hkz)
          have c1 : wr.cell? ⟨b2, o2 + k, none⟩ = some (.int .u8 (t.ps.getD k 0)) := (hbl.cell (p := ⟨b2, o2 + k, none⟩) (World.block_lt_of_cell? w1 _ (hcp k hkp))).trans (hcp k hkp)
          have hzk : 0 ≤ zs.getD k 0 ∧ zs.getD k 0 ≤ 18446744073709551615 := by
            have := unhide HZ (zs[k]) (List.getElem_mem hkz)
            simpa [List.getD, hkz] using this
          have HBad : Hid (badA t.ps zs k ↔ (t.ps.getD k 0 = 127 ∧ 4294967296 ≤ zs.getD k 0)) := hide Iff.rfl
          have HNo := hide hno; have HBl := hide hbl; have HK := hide hlt
          have hlt' : (k : Int) < n := by omega
          have HZk := hide hzk
          clear hAx hPx hca hcp hno hbl hk hlt hkz hkp hzk
          generalize hg1 : zs.getD k 0 = z at *
          generalize hg2 : t.ps.getD k 0 = p at *
          clear hg1 hg2
          have hno' : ∀ (hb : ¬ badA t.ps zs k), ∀ j, j < k + 1 → ¬ badA t.ps zs j := fun hb j hj => by
            by_cases e : j = k
            · subst e; exact hb
            · exact unhide HNo j (by omega)
          have HNo' := hide hno'; clear hno'
          by_cases hp : p = 127
          · subst hp
            by_cases hz : z < 4294967296
            · have hm : decide (z ≥ 4294967296) = false := decide_eq_false (by omega)
              have hnb : Hid (¬ badA t.ps zs k) := hide fun h => by have := ((unhide HBad).1 h).2; omega
              clear hz
              go_wp2
              go_roundw
              case rel => exact ⟨k + 1, unhide HK, rfl, unhide HNo' (unhide hnb), trivial⟩
              case measure => have := unhide HK; simp [intOf]; omega
            · have hm : decide (z ≥ 4294967296) = true := decide_eq_true (by omega)
              have hnb : Hid (badA t.ps zs k) := hide ((unhide HBad).2 ⟨rfl, by omega⟩)
              clear hz
              go_wp2
              go_ret
              refine ⟨⟨_, rfl, .inr ⟨fun h => ?_, rfl⟩⟩, Below.on0 (unhide HB1) (unhide HBl) (unhide HB1).size⟩
              exact h.2 k (by rw [← unhide HNn]; exact unhide HK) (unhide hnb)
          · have hp0 : (p == 127) = false := by simpa using hp
            have hnb : Hid (¬ badA t.ps zs k) := hide fun h => hp ((unhide HBad).1 h).1
            clear hp
            go_wp2
            go_roundw
            case rel => exact ⟨k + 1, unhide HK, rfl, unhide HNo' (unhide hnb), trivial⟩
            case measure => have := unhide HK; simp [intOf]; omega
        · have hkn : k = n := by omega
          subst hkn
          have HBl := hide hbl; have HNo := hide hno; clear hno hbl
          go_wp2
          go_ret
          exact ⟨⟨_, rfl, .inl ⟨⟨unhide HLn, fun j hj => unhide HNo j (by rw [unhide HNn]; exact hj)⟩, rfl⟩⟩, Below.on0 (unhide HB1) (unhide HBl) (unhide HB1).size⟩
    · have hd : ((zs.length : Int) != (t.ps.length : Int)) = true := by simp; omega
      have HLn : Hid (¬ fits (some t) zs) := hide fun h => hl h.1
      generalize zs.length = n at *
      generalize t.ps.length = m at *
      clear hl
      go_wp2
      go_ret
      exact ⟨⟨_, rfl, .inr ⟨unhide HLn, rfl⟩⟩, (unhide HB1).alloc (unhide HB1).size _⟩
end Gm
end Go.Proofs.YtcljcnaglkbjcaaGreatDoor

/- InstCalls' walk. -/
namespace Go.Proofs.YtcljcnaglkbjcaaGreatDoor
open Go.RowKit
namespace Gm
set_option linter.unusedVariables false
set_option linter.unusedSimpArgs false
open Ex (Lies)
theorem fits_yes {M : Mod} {g : Nat → Prop} {v0 v1 v2 v3 v4 v5 v6 v7 : Value} {w : World} (hM : ModL w g M v0 v1 v2 v3 v4 v5 v6 v7) (hwf : WfM M) {aa : Option Addr} {ac : Nat} {zs : List Int}
    (hA : Lies (fun _ => True) zs.length (Tau w zs) (.slice aa zs.length ac)) (hz : ∀ z ∈ zs, 0 ≤ z ∧ z ≤ 18446744073709551615) (hzl : zs.length ≤ 300) (f : Int) (hp : fits (ty? M f) zs) :
    Calls Tryz.prog 18 #[.agg #[v0, v1, v2, v3, v4, v5, v6, v7], .int .i64 f, .slice aa zs.length ac] w fun e w' => e = .returned .nilIface ∧ Below w.heap.size w w' :=
  (fits_any hM hwf hA hz hzl f).mono fun e w' ⟨⟨v, he, hv⟩, hb⟩ => by
    rcases hv with ⟨_, rfl⟩ | ⟨h, _⟩
    · exact ⟨he, hb⟩
    · exact absurd hp h
theorem fits_no {M : Mod} {g : Nat → Prop} {v0 v1 v2 v3 v4 v5 v6 v7 : Value} {w : World} (hM : ModL w g M v0 v1 v2 v3 v4 v5 v6 v7) (hwf : WfM M) {aa : Option Addr} {ac : Nat} {zs : List Int}
    (hA : Lies (fun _ => True) zs.length (Tau w zs) (.slice aa zs.length ac)) (hz : ∀ z ∈ zs, 0 ≤ z ∧ z ≤ 18446744073709551615) (hzl : zs.length ≤ 300) (f : Int) (hp : ¬ fits (ty? M f) zs) :
    Calls Tryz.prog 18 #[.agg #[v0, v1, v2, v3, v4, v5, v6, v7], .int .i64 f, .slice aa zs.length ac] w fun e w' => e = .returned (.iface 135 (.int .i64 1)) ∧ Below w.heap.size w w' :=
  (fits_any hM hwf hA hz hzl f).mono fun e w' ⟨⟨v, he, hv⟩, hb⟩ => by
    rcases hv with ⟨h, _⟩ | ⟨_, rfl⟩
    · exact absurd h hp
    · exact ⟨he, hb⟩
theorem rfits_is {M : Mod} {g : Nat → Prop} {v0 v1 v2 v3 v4 v5 v6 v7 : Value} {w : World} (hM : ModL w g M v0 v1 v2 v3 v4 v5 v6 v7) (hwf : WfM M) (hsz : SzM M) {aa : Option Addr} {ac : Nat} {zs : List Int}
    (hA : Lies (fun _ => True) zs.length (Tau w zs) (.slice aa zs.length ac)) (hz : ∀ z ∈ zs, 0 ≤ z ∧ z ≤ 18446744073709551615) (hzl : zs.length ≤ 300) (f : Int) (b : Bool) (hp : fitB (fits (ty? M f) zs) b) :
    Calls Tryz.prog 19 #[.agg #[v0, v1, v2, v3, v4, v5, v6, v7], .int .i64 f, .slice aa zs.length ac] w fun e w' => e = .returned (.bool b) ∧ Below w.heap.size w w' :=
  (rfits_any hM hwf hsz hA hz hzl f).mono fun e w' ⟨⟨b', he, hv⟩, hb⟩ => by
    rcases hv with ⟨h, rfl⟩ | ⟨h, rfl⟩ <;> rcases hp with ⟨h', rfl⟩ | ⟨h', rfl⟩
    · exact ⟨he, hb⟩
    · exact absurd h h'
    · exact absurd h' h
    · exact ⟨he, hb⟩

set_option maxRecDepth 100000 in
set_option maxHeartbeats 3200000 in
theorem calls_walk {M : Mod} {v0 v1 v2 v3 v4 v5 v6 v7 : Value} {w : World} (hM0 : ModL w (fun _ => True) M v0 v1 v2 v3 v4 v5 v6 v7) (hwf : WfM M) (hsz : SzM M) (hG : Gl w) (s : ByteArray) {aa : Option Addr} {ac : Nat} {zs : List Int}
    (hA : Lies (fun _ => True) zs.length (Tau w zs) (.slice aa zs.length ac)) (hz : ∀ z ∈ zs, 0 ≤ z ∧ z ≤ 18446744073709551615) :
    Calls Tryz.prog 4 #[.agg #[v0, v1, v2, v3, v4, v5, v6, v7], .string s, .slice aa zs.length ac] w fun e w' => e = .returned (.bool true) ∧ Below w.heap.size w w' := by
  have hM : ModL w (fun b => b < w.heap.size) M v0 v1 v2 v3 v4 v5 v6 v7 := hM0.moved (fun k hk _ => ⟨hk, rfl⟩) (Nat.le_refl _)
  obtain ⟨W0, hW0⟩ : ∃ W0, w.alloc (.cells #[v0, v1, v2, v3, v4, v5, v6, v7] 30) = W0 := ⟨_, rfl⟩
  have b4 : Below w.heap.size w W0 := by rw [← hW0]; exact (Below.refl _ _).alloc (Nat.le_refl _) _
  have b1 : W0.heap[w.heap.size]? = some (.cells #[v0, v1, v2, v3, v4, v5, v6, v7] 30 (0, 0)) := by rw [← hW0]; exact heap_alloc_new _ _
  have b3 : w.heap.size < W0.heap.size := (Array.getElem?_eq_some_iff.1 b1).1
  obtain ⟨m0, m1, m2, m3, m4, m5, m6, m7⟩ := Ex.cel8 b1
  have hbig := big_any M _ _ _ _ _ _ _ _ _ W0 (hM.moved (Mv.below (g' := fun b => b < w.heap.size) b4 (fun _ _ h => h)) b4.size) hsz
  have hsure : ∀ W, Below w.heap.size w W → _ := fun W hW => sure_any W (hG.below hW)
  have HM := hide hM; have HBig := hide hbig; have HSure := hide hsure; have HA := hide hA; have HG := hide hG; have HWf := hide hwf; have HSz := hide hsz
  have HW := hide hW0; have HB := hide b4; have HMb := hide b1; have HZ := hide hz
  clear hM0 hM hbig hsure hA hG hwf hsz hW0 b1 b4 hz
  obtain ⟨tl, htl⟩ : ∃ tl, tl = zs.length := ⟨_, rfl⟩
  rw [← htl]
  have HTL := hide htl; clear htl
  go_enter Tryz.func4, Tryz.ntmps4
  go_wp2_with fail
  rw [unhide HW]
  refine (unhide HBig).mono ?_
  rintro e w1 ⟨⟨bb, rfl⟩, hb1⟩
  have HB1 := hide hb1
  have HBw1 := hide (Below.on0 (unhide HB) hb1 (unhide HB).size)
  clear HBig m0 m1 m2 m3 m4 m5 m6 m7
  have hcm := (hb1.block w.heap.size (by omega)).trans (unhide HMb)
  obtain ⟨m0, m1, m2, m3, m4, m5, m6, m7⟩ := Ex.cel8 hcm
  have HC1 := hide hcm
  clear hb1 hcm
  cases bb with
  | true =>
    go_wp2_with fail
    refine (unhide HSure _ (unhide HBw1)).mono ?_
    rintro e w2 ⟨rfl, hb2⟩
    have HB2 := hide (Below.on0 (unhide HBw1) hb2 (unhide HBw1).size)
    clear hb2
    go_wp2
    go_ret
    exact ⟨rfl, unhide HB2⟩
  | false =>
    by_cases ht : (tl : Int) > 300
    · go_wp2_with fail
      refine (unhide HSure _ (unhide HBw1)).mono ?_
      rintro e w2 ⟨rfl, hb2⟩
      have HB2 := hide (Below.on0 (unhide HBw1) hb2 (unhide HBw1).size)
      clear hb2
      go_wp2
      go_ret
      exact ⟨rfl, unhide HB2⟩
    · have hd : decide ((tl : Int) > 300) = false := decide_eq_false ht
      have hgv := giveModule_any M (fun b => b < w.heap.size) _ _ _ _ _ _ _ _ w1 (fun k hk => by have := (unhide HBw1).size; omega) ((unhide HM).moved (Mv.below (g' := fun b => b < w.heap.size) (unhide HBw1) (fun _ _ h => h)) (unhide HBw1).size) (unhide HSz)
      have HGv := hide hgv
      clear hgv
      go_wp2_with fail
      refine (unhide HGv).mono ?_
      rintro e w2 ⟨u0, u1, u2, u3, u4, u5, u6, u7, rfl, hM2, hb2⟩
      have HM2 := hide hM2
      obtain ⟨a0, n0, c0, a1, n1, c1, a2, n2, c2, a3, n3, c3, a4, n4, c4, a5, n5, c5, a6, n6, c6, a7, n7, c7, rfl, rfl, rfl, rfl, rfl, rfl, rfl, rfl⟩ := hM2.sls
      have HBw2 := hide (Below.on0 (unhide HBw1) hb2 (unhide HBw1).size)
      have hs1 := (unhide HB1).size
      have hs2 := hb2.size
      have hcm := (hb2.block w.heap.size (by omega)).trans (unhide HC1)
      clear m0 m1 m2 m3 m4 m5 m6 m7
      have HC2 := hide hcm
      obtain ⟨W3, hW3⟩ : ∃ W3, w2.alloc (.cells #[.slice a0 n0 c0, .slice a1 n1 c1, .slice a2 n2 c2, .slice a3 n3 c3, .slice a4 n4 c4, .slice a5 n5 c5, .slice a6 n6 c6, .slice a7 n7 c7] 47) = W3 := ⟨_, rfl⟩
      have q1 : Below w2.heap.size w2 W3 := by rw [← hW3]; exact (Below.refl _ _).alloc (Nat.le_refl _) _
      have q2 : W3.heap[w2.heap.size]? = some (.cells #[.slice a0 n0 c0, .slice a1 n1 c1, .slice a2 n2 c2, .slice a3 n3 c3, .slice a4 n4 c4, .slice a5 n5 c5, .slice a6 n6 c6, .slice a7 n7 c7] 47 (0, 0)) := by rw [← hW3]; exact heap_alloc_new _ _
      have hcm3 := (q1.block w.heap.size (by omega)).trans hcm
      have l1 : w.heap.size < W3.heap.size := (Array.getElem?_eq_some_iff.1 hcm3).1
      have l2 : w2.heap.size < W3.heap.size := (Array.getElem?_eq_some_iff.1 q2).1
      have hB3 := Below.on0 (unhide HBw2) q1 (unhide HBw2).size
      have hfd := find_any ((unhide HM2).moved (Mv.below (g' := Ex.gor (fun b => b < w.heap.size) w1.heap.size) q1 (fun _ _ h => h)) q1.size) (unhide HWf) (unhide HSz).n5 s
      obtain ⟨x0, x1, x2, x3, x4, x5, x6, x7⟩ := Ex.cel8 q2
      have HFd := hide hfd; have HW3 := hide hW3; have HQ1 := hide q1; have HQ2 := hide q2; have HC3 := hide hcm3; have HB3 := hide hB3
      clear hb2 hM2 hcm HC1 HGv hfd hW3 q1 q2 hcm3 hB3
      go_wp2_with fail
      rw [unhide HW3]
      refine (unhide HFd).mono ?_
      rintro e w4 ⟨rfl, hb4⟩
      clear HFd HW3 x0 x1 x2 x3 x4 x5 x6 x7
      have HB4 := hide (Below.on0 (unhide HB3) hb4 (unhide HB3).size)
      have hcm4 := (hb4.block w.heap.size l1).trans (unhide HC3)
      have hco4 := (hb4.block w2.heap.size l2).trans (unhide HQ2)
      have HM4 := hide ((unhide HM2).moved (Mv.below (g' := Ex.gor (fun b => b < w.heap.size) w1.heap.size) (Below.on0 (unhide HQ1) hb4 (unhide HQ1).size) (fun _ _ h => h)) (by have := hb4.size; have := (unhide HQ1).size; omega))
      have l14 : w.heap.size < w4.heap.size := by have := hb4.size; omega
      have l24 : w2.heap.size < w4.heap.size := by have := hb4.size; omega
      have HC4 := hide hcm4; have HO4 := hide hco4
      clear hb4 HM2 HQ1 HQ2 HC3 HC2
      have HMw4 := hide ((unhide HM).moved (Mv.below (g' := fun b => b < w.heap.size) (unhide HB4) (fun _ _ h => h)) (unhide HB4).size)
      obtain ⟨e5a, e5c, rfl⟩ := (unhide HMw4).l5.sl
      obtain ⟨e1a, e1c, rfl⟩ := (unhide HMw4).l1.sl
      have hn5 := (unhide HSz).n5
      have hn1 := (unhide HSz).n1
      have hEl : LL ExoC 3 w4 (fun b => b < w.heap.size) M.exps (.slice e5a M.exps.length e5c) := (unhide HMw4).l5
      have HEl := hide hEl; clear hEl
      obtain ⟨n, hnl⟩ : ∃ n, n = M.exps.length := ⟨_, rfl⟩
      obtain ⟨nf, hnf⟩ : ∃ nf, nf = M.funcs.length := ⟨_, rfl⟩
      rw [← hnl] at hn5 hcm4 HC4 ⊢
      rw [← hnf] at hn1 hcm4 HC4 ⊢
      have hn5' : (n : Int) ≤ 1048576 := by omega
      have hn1' : (nf : Int) ≤ 1048576 := by omega
      have HNl := hide hnl; have HNf := hide hnf; clear hnl hnf hn5 hn1
      obtain ⟨m0, m1, m2, m3, m4, m5, m6, m7⟩ := Ex.cel8 hcm4
      have hWx : ∀ x ∈ M.exps, Exo.wf x := (unhide HWf).2.2.2.2.2.1
      have HWx := hide hWx
      clear hcm4 hco4 hWx
      obtain ⟨fo, eo, hfo, hfe⟩ : ∃ fo eo, findV (find M s) = .tuple #[.int .i64 fo, eo] ∧ ((find M s = none ∧ eo = .iface 135 (.int .i64 10)) ∨ (find M s = some fo ∧ eo = .nilIface)) := by
        cases hh : find M s with
        | none => exact ⟨0, _, rfl, .inl ⟨rfl, rfl⟩⟩
        | some x => exact ⟨x, _, rfl, .inr ⟨rfl, rfl⟩⟩
      rw [hfo]
      have HEO := hide hfe; clear hfo hfe
      go_wp2
      go_loopw [10, 11] (fun u v wr => ∃ k : Nat, k ≤ n ∧ v = .int .i64 k ∧ wr = w4 ∧ ((u = .int .i64 (-1) ∧ ∀ i, i < k → (h : i < M.exps.length) → hitE s M.exps[i] = false) ∨ (∃ x, find M s = some x ∧ 0 ≤ x ∧ u = .int .i64 x))) (fun _ v _ => ((n : Int) - intOf v).toNat)
      case atStart => exact ⟨0, Nat.zero_le _, rfl, rfl, .inl ⟨rfl, fun i hi => absurd hi (by omega)⟩⟩
      case round =>
        obtain ⟨k, hk, rfl, hwr, hcase⟩ := hrel
        have hwr2 := hwr.symm
        subst hwr2
        rcases hcase with ⟨rfl, hno⟩ | ⟨x, hf, hx0, rfl⟩
        · by_cases hlt : k < n
          · have hlm : k < M.exps.length := by rw [← unhide HNl]; exact hlt
            obtain ⟨b, o, cp, hv, _, hbw, _, cs, _, hcs, hcell⟩ := (unhide HEl).at hlm
            have hcs' : cs = [.string M.exps[k].nm, .int .u8 M.exps[k].wh, .int .u32 M.exps[k].ix] := hcs
            subst hcs'
            obtain ⟨rfl, rfl⟩ : e5a = some ⟨b, o, none⟩ ∧ e5c = cp := by simp at hv; exact hv
            have c0 : w4.cell? ⟨b, o + k * 3, none⟩ = some (.string M.exps[k].nm) := hcell 0 _ rfl
            have c1 : w4.cell? ⟨b, o + k * 3 + 1, none⟩ = some (.int .u8 M.exps[k].wh) := hcell 1 _ rfl
            have c2 : w4.cell? ⟨b, o + k * 3 + 2, none⟩ = some (.int .u32 M.exps[k].ix) := hcell 2 _ rfl
            have hix : 0 ≤ M.exps[k].ix ∧ M.exps[k].ix ≤ 4294967295 := (unhide HWx _ (List.getElem_mem hlm)).2.2
            have hlt' : (k : Int) < n := by omega
            have HH : Hid (hitE s M.exps[k] = ((M.exps[k].wh == 0) && (M.exps[k].nm.toList == s.toList))) := hide rfl
            have HY : Hid (hitE s M.exps[k] = true → find M s = some M.exps[k].ix) := hide fun h2 => find_yes hlm h2 hno
            have HNo := hide hno; have HK := hide hlt
            clear hcell hv hno hk hlt hcs hbw
            have hi2 : (0 : Int) ≤ M.exps[k].ix := hix.1
            have hi3 : M.exps[k].ix ≤ (4294967295 : Int) := hix.2
            clear hix
            generalize hg1 : M.exps[k].nm = nm at *
            generalize hg2 : M.exps[k].wh = wh at *
            generalize hg3 : M.exps[k].ix = ix at *
            clear hg1 hg2 hg3
            by_cases h0 : wh = 0
            · subst h0
              cases hq : (nm.toList == s.toList)
              · have hd : Hid (hitE s M.exps[k] = false) := by have := unhide HH; rw [hq] at this; exact hide (this.trans (by decide))
                clear HH HY
                go_wp2
                go_roundw
                case rel =>
                  refine ⟨k + 1, unhide HK, rfl, trivial, .inl ⟨rfl, fun i hi h => ?_⟩⟩
                  by_cases e : i = k
                  · subst e; exact unhide hd
                  · exact unhide HNo i (by omega) h
                case measure => have := unhide HK; simp [intOf]; omega
              · have hf : find M s = some ix := unhide HY (by have := unhide HH; rw [hq] at this; exact this.trans (by decide))
                have HF := hide hf
                clear HH HY hf
                go_wp2
                go_roundw
                case rel => exact ⟨k + 1, unhide HK, rfl, trivial, .inr ⟨ix, unhide HF, hi2, rfl⟩⟩
                case measure => have := unhide HK; simp [intOf]; omega
            · have hw0 : (wh == 0) = false := by simpa using h0
              have hd : Hid (hitE s M.exps[k] = false) := by have := unhide HH; rw [hw0] at this; exact hide (this.trans (by simp))
              clear HH HY
              go_wp2
              go_roundw
              case rel =>
                refine ⟨k + 1, unhide HK, rfl, trivial, .inl ⟨rfl, fun i hi h => ?_⟩⟩
                by_cases e : i = k
                · subst e; exact unhide hd
                · exact unhide HNo i (by omega) h
              case measure => have := unhide HK; simp [intOf]; omega
          · have hkn : n = k := by omega
            subst hkn
            have hf : find M s = none := find_no fun i h => hno i (by rw [unhide HNl]; exact h) h
            have heo : eo = .iface 135 (.int .i64 10) := by
              rcases unhide HEO with ⟨_, h⟩ | ⟨h, _⟩
              · exact h
              · rw [hf] at h; cases h
            subst heo
            clear hno hf
            go_wp2_with (go_at_call 15; refine (num_hit 10 _ ((unhide HG).below (unhide HB4)).2).mono ?_; rintro e w5 ⟨rfl, hb5⟩; have HBW := hide (Below.on0 (unhide HB4) hb5 (unhide HB4).size); have HCW := hide ((hb5.block w.heap.size l14).trans (unhide HC4)); have HOW := hide ((hb5.block w2.heap.size l24).trans (unhide HO4)); have HMW := hide ((unhide HM4).moved (Mv.below (g' := Ex.gor (fun b => b < w.heap.size) w1.heap.size) hb5 (fun _ _ h => h)) hb5.size); have LW1 : Hid (w.heap.size < w5.heap.size) := hide (by have := hb5.size; omega); have LW2 : Hid (w2.heap.size < w5.heap.size) := hide (by have := hb5.size; omega); clear hb5)
            clear HB4 HC4 HO4 HM4 l14 l24 m0 m1 m2 m3 m4 m5 m6 m7 HEl HMw4 HWx HEO
            go_loopw [12] (fun v wr => ∃ i : Int, -1 ≤ i ∧ i ≤ 20 ∧ v = .int .i64 i ∧ Below w5.heap.size w5 wr) (fun v _ => (21 - intOf v).toNat)
            case atStart => exact ⟨-1, by omega, by omega, rfl, Below.refl _ _⟩
            case round =>
              obtain ⟨i, hi0, hi1, rfl, hbl⟩ := hrel
              have HBq := hide (Below.on0 (unhide HBW) hbl (unhide HBW).size)
              have hcq := (hbl.block w.heap.size (unhide LW1)).trans (unhide HCW)
              have hoq := (hbl.block w2.heap.size (unhide LW2)).trans (unhide HOW)
              have hMq := (unhide HMW).moved (Mv.below (g' := Ex.gor (fun b => b < w.heap.size) w1.heap.size) hbl (fun _ _ h => h)) hbl.size
              have hlq1 : w.heap.size < wr.heap.size := (Array.getElem?_eq_some_iff.1 hcq).1
              have HBl := hide hbl
              clear hbl
              by_cases ht1 : i ≤ (nf : Int)
              · by_cases ht2 : i < 20
                · obtain ⟨x0, x1, x2, x3, x4, x5, x6, x7⟩ := Ex.cel8 hoq
                  have hAq : ∀ W', Below w.heap.size w W' → _ := fun W' hW' => Tau.moved hW' (unhide HA)
                  have hMw : ∀ W', Below w.heap.size w W' → _ := fun W' hW' => (unhide HM).moved (Mv.below (g' := fun b => b < w.heap.size) hW' (fun _ _ h => h)) hW'.size
                  have hzl : zs.length ≤ 300 := by have := unhide HTL; omega
                  by_cases hp : fits (ty? M i) zs
                  · have hF := fits_yes hMq (unhide HWf) (hAq _ (unhide HBq)) (unhide HZ) hzl i hp
                    have hR : ∀ W', Below w.heap.size w W' → _ := fun W' hW' => rfits_is (hMw W' hW') (unhide HWf) (unhide HSz) (hAq W' hW') (unhide HZ) hzl i true (.inl ⟨hp, rfl⟩)
                    rw [← unhide HTL] at hF hR
                    rw [← unhide HNf, ← unhide HNl] at hR
                    have HF := hide hF; have HR := hide hR; have HCq := hide hcq
                    have r1 := (Ex.cel8 hcq).2.1
                    clear hF hR hcq hoq hMq hAq hMw hzl hp
                    go_wp2_with fail
                    refine (unhide HF).mono ?_
                    rintro e w6 ⟨rfl, hb6⟩
                    have HB6 := hide (Below.on0 (unhide HBq) hb6 (unhide HBq).size)
                    have HX6 := hide (Below.on0 (unhide HBl) hb6 (unhide HBl).size)
                    obtain ⟨y0, y1, y2, y3, y4, y5, y6, y7⟩ := Ex.cel8 ((hb6.block w.heap.size hlq1).trans (unhide HCq))
                    have hl6 : w.heap.size < w6.heap.size := by have := hb6.size; omega
                    clear hb6 HF x0 x1 x2 x3 x4 x5 x6 x7 HCq r1
                    go_wp2_with fail
                    first
                    | (go_region_held (fun w' => w'.cell? ⟨w.heap.size, 0, none⟩ = some (v0) ∧ w'.cell? ⟨w.heap.size, 1, none⟩ = some (.slice e1a nf e1c) ∧ w'.cell? ⟨w.heap.size, 2, none⟩ = some (v2) ∧ w'.cell? ⟨w.heap.size, 3, none⟩ = some (v3) ∧ w'.cell? ⟨w.heap.size, 4, none⟩ = some (v4) ∧ w'.cell? ⟨w.heap.size, 5, none⟩ = some (.slice e5a n e5c) ∧ w'.cell? ⟨w.heap.size, 6, none⟩ = some (v6) ∧ w'.cell? ⟨w.heap.size, 7, none⟩ = some (v7))
                        (first | go_keep | exact ⟨y0, y1, y2, y3, y4, y5, y6, y7⟩ | exact ⟨(hk2 _ _ hl6).trans y0, (hk2 _ _ hl6).trans y1, (hk2 _ _ hl6).trans y2, (hk2 _ _ hl6).trans y3, (hk2 _ _ hl6).trans y4, (hk2 _ _ hl6).trans y5, (hk2 _ _ hl6).trans y6, (hk2 _ _ hl6).trans y7⟩ | fail)
                        (first
                          | (go_at_call 19; refine (unhide HR _ (Below.on0 (unhide HB6) (drew_below9 w6) (unhide HB6).size)).mono ?_; rintro e w7 ⟨rfl, hb7⟩; have HB7 := hide (Below.on (drew_below9 w6) hb7); clear hb7; have hk2 : ∀ b o, b < w6.heap.size → w7.cell? ⟨b, o, none⟩ = w6.cell? ⟨b, o, none⟩ := fun b o hlt => (unhide HB7).cell (p := ⟨b, o, none⟩) hlt)
                          | fail))
                    | fail
                    have HX7 := hide (Below.on0 (unhide HX6) (unhide HB7) (unhide HX6).size)
                    clear hk2 y0 y1 y2 y3 y4 y5 y6 y7
                    go_wp2
                    go_roundw
                    case rel => exact ⟨i + 1, by omega, by omega, rfl, unhide HX7⟩
                    case measure => simp [intOf]; omega
                  · have hF := fits_no hMq (unhide HWf) (hAq _ (unhide HBq)) (unhide HZ) hzl i hp
                    have hR : ∀ W', Below w.heap.size w W' → _ := fun W' hW' => rfits_is (hMw W' hW') (unhide HWf) (unhide HSz) (hAq W' hW') (unhide HZ) hzl i false (.inr ⟨hp, rfl⟩)
                    rw [← unhide HTL] at hF hR
                    rw [← unhide HNf, ← unhide HNl] at hR
                    have HF := hide hF; have HR := hide hR; have HCq := hide hcq
                    have r1 := (Ex.cel8 hcq).2.1
                    clear hF hR hcq hoq hMq hAq hMw hzl hp
                    go_wp2_with fail
                    refine (unhide HF).mono ?_
                    rintro e w6 ⟨rfl, hb6⟩
                    have HB6 := hide (Below.on0 (unhide HBq) hb6 (unhide HBq).size)
                    have HX6 := hide (Below.on0 (unhide HBl) hb6 (unhide HBl).size)
                    obtain ⟨y0, y1, y2, y3, y4, y5, y6, y7⟩ := Ex.cel8 ((hb6.block w.heap.size hlq1).trans (unhide HCq))
                    have hl6 : w.heap.size < w6.heap.size := by have := hb6.size; omega
                    clear hb6 HF x0 x1 x2 x3 x4 x5 x6 x7 HCq r1
                    go_wp2_with fail
                    go_region_held3 (fun w' => w'.cell? ⟨w.heap.size, 0, none⟩ = some (v0) ∧ w'.cell? ⟨w.heap.size, 1, none⟩ = some (.slice e1a nf e1c) ∧ w'.cell? ⟨w.heap.size, 2, none⟩ = some (v2) ∧ w'.cell? ⟨w.heap.size, 3, none⟩ = some (v3) ∧ w'.cell? ⟨w.heap.size, 4, none⟩ = some (v4) ∧ w'.cell? ⟨w.heap.size, 5, none⟩ = some (.slice e5a n e5c) ∧ w'.cell? ⟨w.heap.size, 6, none⟩ = some (v6) ∧ w'.cell? ⟨w.heap.size, 7, none⟩ = some (v7))
                      (first | go_keep | exact ⟨y0, y1, y2, y3, y4, y5, y6, y7⟩ | exact ⟨(hk2 _ _ hl6).trans y0, (hk2 _ _ hl6).trans y1, (hk2 _ _ hl6).trans y2, (hk2 _ _ hl6).trans y3, (hk2 _ _ hl6).trans y4, (hk2 _ _ hl6).trans y5, (hk2 _ _ hl6).trans y6, (hk2 _ _ hl6).trans y7⟩ | exact ⟨(hk3 _ _ hl6).trans y0, (hk3 _ _ hl6).trans y1, (hk3 _ _ hl6).trans y2, (hk3 _ _ hl6).trans y3, (hk3 _ _ hl6).trans y4, (hk3 _ _ hl6).trans y5, (hk3 _ _ hl6).trans y6, (hk3 _ _ hl6).trans y7⟩ | fail)
                      (first
                        | (go_at_call 19; refine (unhide HR _ (Below.on0 (unhide HB6) (drew_below9 w6) (unhide HB6).size)).mono ?_; rintro e w7 ⟨rfl, hb7⟩; have HB7 := hide (Below.on (drew_below9 w6) hb7); clear hb7; have hk2 : ∀ b o, b < w6.heap.size → w7.cell? ⟨b, o, none⟩ = w6.cell? ⟨b, o, none⟩ := fun b o hlt => (unhide HB7).cell (p := ⟨b, o, none⟩) hlt)
                        | (go_at_call 15; refine (num_hit 1 _ ((unhide HG).below (Below.on0 (unhide HB6) (unhide HB7) (unhide HB6).size)).2).mono ?_; rintro e w8 ⟨rfl, hb8⟩; have HB8 := hide (Below.on0 (unhide HB7) hb8 (unhide HB7).size); clear hb8; have hk3 : ∀ b o, b < w6.heap.size → w8.cell? ⟨b, o, none⟩ = w6.cell? ⟨b, o, none⟩ := fun b o hlt => (unhide HB8).cell (p := ⟨b, o, none⟩) hlt)
                        | fail)
                    have HX7 := hide (Below.on0 (unhide HX6) (unhide HB8) (unhide HX6).size)
                    clear hk2 hk3 y0 y1 y2 y3 y4 y5 y6 y7
                    go_wp2
                    go_roundw
                    case rel => exact ⟨i + 1, by omega, by omega, rfl, unhide HX7⟩
                    case measure => simp [intOf]; omega
                · obtain ⟨y0, y1, y2, y3, y4, y5, y6, y7⟩ := Ex.cel8 hcq
                  clear hcq hoq hMq
                  go_wp2_with (go_at_call 11; refine (unhide HSure _ (unhide HBq)).mono ?_; rintro e w8 ⟨rfl, hb8⟩; have HB8 := hide (Below.on0 (unhide HBq) hb8 (unhide HBq).size); clear hb8)
                  go_ret
                  exact ⟨rfl, unhide HB8⟩
              · obtain ⟨y0, y1, y2, y3, y4, y5, y6, y7⟩ := Ex.cel8 hcq
                clear hcq hoq hMq
                go_wp2_with (go_at_call 11; refine (unhide HSure _ (unhide HBq)).mono ?_; rintro e w8 ⟨rfl, hb8⟩; have HB8 := hide (Below.on0 (unhide HBq) hb8 (unhide HBq).size); clear hb8)
                go_ret
                exact ⟨rfl, unhide HB8⟩
        · have heo : fo = x ∧ eo = .nilIface := by
            rcases unhide HEO with ⟨h, _⟩ | ⟨h, h2⟩
            · rw [hf] at h; cases h
            · rw [hf] at h; exact ⟨(Option.some.inj h).symm, h2⟩
          obtain ⟨rfl, rfl⟩ := heo
          have hd1 : decide (fo < 0) = false := decide_eq_false (by omega)
          by_cases hlt : (k : Int) < n
          · have HF := hide hf; clear hf
            go_wp2
            have HBW := HB4; have HCW := HC4; have HOW := HO4; have HMW := HM4; have LW1 := hide l14; have LW2 := hide l24
            clear HB4 HC4 HO4 HM4 l14 l24 m0 m1 m2 m3 m4 m5 m6 m7 HEl HMw4 HWx HEO
            go_loopw [12] (fun v wr => ∃ i : Int, -1 ≤ i ∧ i ≤ 20 ∧ v = .int .i64 i ∧ Below w4.heap.size w4 wr) (fun v _ => (21 - intOf v).toNat)
            case atStart => exact ⟨-1, by omega, by omega, rfl, Below.refl _ _⟩
            case round =>
              obtain ⟨i, hi0, hi1, rfl, hbl⟩ := hrel
              have HBq := hide (Below.on0 (unhide HBW) hbl (unhide HBW).size)
              have hcq := (hbl.block w.heap.size (unhide LW1)).trans (unhide HCW)
              have hoq := (hbl.block w2.heap.size (unhide LW2)).trans (unhide HOW)
              have hMq := (unhide HMW).moved (Mv.below (g' := Ex.gor (fun b => b < w.heap.size) w1.heap.size) hbl (fun _ _ h => h)) hbl.size
              have hlq1 : w.heap.size < wr.heap.size := (Array.getElem?_eq_some_iff.1 hcq).1
              have HBl := hide hbl
              clear hbl
              by_cases ht1 : i ≤ (nf : Int)
              · by_cases ht2 : i < 20
                · obtain ⟨x0, x1, x2, x3, x4, x5, x6, x7⟩ := Ex.cel8 hoq
                  have hAq : ∀ W', Below w.heap.size w W' → _ := fun W' hW' => Tau.moved hW' (unhide HA)
                  have hMw : ∀ W', Below w.heap.size w W' → _ := fun W' hW' => (unhide HM).moved (Mv.below (g' := fun b => b < w.heap.size) hW' (fun _ _ h => h)) hW'.size
                  have hzl : zs.length ≤ 300 := by have := unhide HTL; omega
                  by_cases hp : fits (ty? M i) zs
                  · have hF := fits_yes hMq (unhide HWf) (hAq _ (unhide HBq)) (unhide HZ) hzl i hp
                    have hR : ∀ W', Below w.heap.size w W' → _ := fun W' hW' => rfits_is (hMw W' hW') (unhide HWf) (unhide HSz) (hAq W' hW') (unhide HZ) hzl i true (.inl ⟨hp, rfl⟩)
                    rw [← unhide HTL] at hF hR
                    rw [← unhide HNf, ← unhide HNl] at hR
                    have HF := hide hF; have HR := hide hR; have HCq := hide hcq
                    have r1 := (Ex.cel8 hcq).2.1
                    clear hF hR hcq hoq hMq hAq hMw hzl hp
                    go_wp2_with fail
                    refine (unhide HF).mono ?_
                    rintro e w6 ⟨rfl, hb6⟩
                    have HB6 := hide (Below.on0 (unhide HBq) hb6 (unhide HBq).size)
                    have HX6 := hide (Below.on0 (unhide HBl) hb6 (unhide HBl).size)
                    obtain ⟨y0, y1, y2, y3, y4, y5, y6, y7⟩ := Ex.cel8 ((hb6.block w.heap.size hlq1).trans (unhide HCq))
                    have hl6 : w.heap.size < w6.heap.size := by have := hb6.size; omega
                    clear hb6 HF x0 x1 x2 x3 x4 x5 x6 x7 HCq r1
                    go_wp2_with fail
                    first
                    | (go_region_held (fun w' => w'.cell? ⟨w.heap.size, 0, none⟩ = some (v0) ∧ w'.cell? ⟨w.heap.size, 1, none⟩ = some (.slice e1a nf e1c) ∧ w'.cell? ⟨w.heap.size, 2, none⟩ = some (v2) ∧ w'.cell? ⟨w.heap.size, 3, none⟩ = some (v3) ∧ w'.cell? ⟨w.heap.size, 4, none⟩ = some (v4) ∧ w'.cell? ⟨w.heap.size, 5, none⟩ = some (.slice e5a n e5c) ∧ w'.cell? ⟨w.heap.size, 6, none⟩ = some (v6) ∧ w'.cell? ⟨w.heap.size, 7, none⟩ = some (v7))
                        (first | go_keep | exact ⟨y0, y1, y2, y3, y4, y5, y6, y7⟩ | exact ⟨(hk2 _ _ hl6).trans y0, (hk2 _ _ hl6).trans y1, (hk2 _ _ hl6).trans y2, (hk2 _ _ hl6).trans y3, (hk2 _ _ hl6).trans y4, (hk2 _ _ hl6).trans y5, (hk2 _ _ hl6).trans y6, (hk2 _ _ hl6).trans y7⟩ | fail)
                        (first
                          | (go_at_call 19; refine (unhide HR _ (Below.on0 (unhide HB6) (drew_below9 w6) (unhide HB6).size)).mono ?_; rintro e w7 ⟨rfl, hb7⟩; have HB7 := hide (Below.on (drew_below9 w6) hb7); clear hb7; have hk2 : ∀ b o, b < w6.heap.size → w7.cell? ⟨b, o, none⟩ = w6.cell? ⟨b, o, none⟩ := fun b o hlt => (unhide HB7).cell (p := ⟨b, o, none⟩) hlt)
                          | fail))
                    | fail
                    have HX7 := hide (Below.on0 (unhide HX6) (unhide HB7) (unhide HX6).size)
                    clear hk2 y0 y1 y2 y3 y4 y5 y6 y7
                    go_wp2
                    go_roundw
                    case rel => exact ⟨i + 1, by omega, by omega, rfl, unhide HX7⟩
                    case measure => simp [intOf]; omega
                  · have hF := fits_no hMq (unhide HWf) (hAq _ (unhide HBq)) (unhide HZ) hzl i hp
                    have hR : ∀ W', Below w.heap.size w W' → _ := fun W' hW' => rfits_is (hMw W' hW') (unhide HWf) (unhide HSz) (hAq W' hW') (unhide HZ) hzl i false (.inr ⟨hp, rfl⟩)
                    rw [← unhide HTL] at hF hR
                    rw [← unhide HNf, ← unhide HNl] at hR
                    have HF := hide hF; have HR := hide hR; have HCq := hide hcq
                    have r1 := (Ex.cel8 hcq).2.1
                    clear hF hR hcq hoq hMq hAq hMw hzl hp
                    go_wp2_with fail
                    refine (unhide HF).mono ?_
                    rintro e w6 ⟨rfl, hb6⟩
                    have HB6 := hide (Below.on0 (unhide HBq) hb6 (unhide HBq).size)
                    have HX6 := hide (Below.on0 (unhide HBl) hb6 (unhide HBl).size)
                    obtain ⟨y0, y1, y2, y3, y4, y5, y6, y7⟩ := Ex.cel8 ((hb6.block w.heap.size hlq1).trans (unhide HCq))
                    have hl6 : w.heap.size < w6.heap.size := by have := hb6.size; omega
                    clear hb6 HF x0 x1 x2 x3 x4 x5 x6 x7 HCq r1
                    go_wp2_with fail
                    go_region_held3 (fun w' => w'.cell? ⟨w.heap.size, 0, none⟩ = some (v0) ∧ w'.cell? ⟨w.heap.size, 1, none⟩ = some (.slice e1a nf e1c) ∧ w'.cell? ⟨w.heap.size, 2, none⟩ = some (v2) ∧ w'.cell? ⟨w.heap.size, 3, none⟩ = some (v3) ∧ w'.cell? ⟨w.heap.size, 4, none⟩ = some (v4) ∧ w'.cell? ⟨w.heap.size, 5, none⟩ = some (.slice e5a n e5c) ∧ w'.cell? ⟨w.heap.size, 6, none⟩ = some (v6) ∧ w'.cell? ⟨w.heap.size, 7, none⟩ = some (v7))
                      (first | go_keep | exact ⟨y0, y1, y2, y3, y4, y5, y6, y7⟩ | exact ⟨(hk2 _ _ hl6).trans y0, (hk2 _ _ hl6).trans y1, (hk2 _ _ hl6).trans y2, (hk2 _ _ hl6).trans y3, (hk2 _ _ hl6).trans y4, (hk2 _ _ hl6).trans y5, (hk2 _ _ hl6).trans y6, (hk2 _ _ hl6).trans y7⟩ | exact ⟨(hk3 _ _ hl6).trans y0, (hk3 _ _ hl6).trans y1, (hk3 _ _ hl6).trans y2, (hk3 _ _ hl6).trans y3, (hk3 _ _ hl6).trans y4, (hk3 _ _ hl6).trans y5, (hk3 _ _ hl6).trans y6, (hk3 _ _ hl6).trans y7⟩ | fail)
                      (first
                        | (go_at_call 19; refine (unhide HR _ (Below.on0 (unhide HB6) (drew_below9 w6) (unhide HB6).size)).mono ?_; rintro e w7 ⟨rfl, hb7⟩; have HB7 := hide (Below.on (drew_below9 w6) hb7); clear hb7; have hk2 : ∀ b o, b < w6.heap.size → w7.cell? ⟨b, o, none⟩ = w6.cell? ⟨b, o, none⟩ := fun b o hlt => (unhide HB7).cell (p := ⟨b, o, none⟩) hlt)
                        | (go_at_call 15; refine (num_hit 1 _ ((unhide HG).below (Below.on0 (unhide HB6) (unhide HB7) (unhide HB6).size)).2).mono ?_; rintro e w8 ⟨rfl, hb8⟩; have HB8 := hide (Below.on0 (unhide HB7) hb8 (unhide HB7).size); clear hb8; have hk3 : ∀ b o, b < w6.heap.size → w8.cell? ⟨b, o, none⟩ = w6.cell? ⟨b, o, none⟩ := fun b o hlt => (unhide HB8).cell (p := ⟨b, o, none⟩) hlt)
                        | fail)
                    have HX7 := hide (Below.on0 (unhide HX6) (unhide HB8) (unhide HX6).size)
                    clear hk2 hk3 y0 y1 y2 y3 y4 y5 y6 y7
                    go_wp2
                    go_roundw
                    case rel => exact ⟨i + 1, by omega, by omega, rfl, unhide HX7⟩
                    case measure => simp [intOf]; omega
                · obtain ⟨y0, y1, y2, y3, y4, y5, y6, y7⟩ := Ex.cel8 hcq
                  clear hcq hoq hMq
                  go_wp2_with (go_at_call 11; refine (unhide HSure _ (unhide HBq)).mono ?_; rintro e w8 ⟨rfl, hb8⟩; have HB8 := hide (Below.on0 (unhide HBq) hb8 (unhide HBq).size); clear hb8)
                  go_ret
                  exact ⟨rfl, unhide HB8⟩
              · obtain ⟨y0, y1, y2, y3, y4, y5, y6, y7⟩ := Ex.cel8 hcq
                clear hcq hoq hMq
                go_wp2_with (go_at_call 11; refine (unhide HSure _ (unhide HBq)).mono ?_; rintro e w8 ⟨rfl, hb8⟩; have HB8 := hide (Below.on0 (unhide HBq) hb8 (unhide HBq).size); clear hb8)
                go_ret
                exact ⟨rfl, unhide HB8⟩
          · have HF := hide hf; clear hf
            go_wp2
            have HBW := HB4; have HCW := HC4; have HOW := HO4; have HMW := HM4; have LW1 := hide l14; have LW2 := hide l24
            clear HB4 HC4 HO4 HM4 l14 l24 m0 m1 m2 m3 m4 m5 m6 m7 HEl HMw4 HWx HEO
            go_loopw [12] (fun v wr => ∃ i : Int, -1 ≤ i ∧ i ≤ 20 ∧ v = .int .i64 i ∧ Below w4.heap.size w4 wr) (fun v _ => (21 - intOf v).toNat)
            case atStart => exact ⟨-1, by omega, by omega, rfl, Below.refl _ _⟩
            case round =>
              obtain ⟨i, hi0, hi1, rfl, hbl⟩ := hrel
              have HBq := hide (Below.on0 (unhide HBW) hbl (unhide HBW).size)
              have hcq := (hbl.block w.heap.size (unhide LW1)).trans (unhide HCW)
              have hoq := (hbl.block w2.heap.size (unhide LW2)).trans (unhide HOW)
              have hMq := (unhide HMW).moved (Mv.below (g' := Ex.gor (fun b => b < w.heap.size) w1.heap.size) hbl (fun _ _ h => h)) hbl.size
              have hlq1 : w.heap.size < wr.heap.size := (Array.getElem?_eq_some_iff.1 hcq).1
              have HBl := hide hbl
              clear hbl
              by_cases ht1 : i ≤ (nf : Int)
              · by_cases ht2 : i < 20
                · obtain ⟨x0, x1, x2, x3, x4, x5, x6, x7⟩ := Ex.cel8 hoq
                  have hAq : ∀ W', Below w.heap.size w W' → _ := fun W' hW' => Tau.moved hW' (unhide HA)
                  have hMw : ∀ W', Below w.heap.size w W' → _ := fun W' hW' => (unhide HM).moved (Mv.below (g' := fun b => b < w.heap.size) hW' (fun _ _ h => h)) hW'.size
                  have hzl : zs.length ≤ 300 := by have := unhide HTL; omega
                  by_cases hp : fits (ty? M i) zs
                  · have hF := fits_yes hMq (unhide HWf) (hAq _ (unhide HBq)) (unhide HZ) hzl i hp
                    have hR : ∀ W', Below w.heap.size w W' → _ := fun W' hW' => rfits_is (hMw W' hW') (unhide HWf) (unhide HSz) (hAq W' hW') (unhide HZ) hzl i true (.inl ⟨hp, rfl⟩)
                    rw [← unhide HTL] at hF hR
                    rw [← unhide HNf, ← unhide HNl] at hR
                    have HF := hide hF; have HR := hide hR; have HCq := hide hcq
                    have r1 := (Ex.cel8 hcq).2.1
                    clear hF hR hcq hoq hMq hAq hMw hzl hp
                    go_wp2_with fail
                    refine (unhide HF).mono ?_
                    rintro e w6 ⟨rfl, hb6⟩
                    have HB6 := hide (Below.on0 (unhide HBq) hb6 (unhide HBq).size)
                    have HX6 := hide (Below.on0 (unhide HBl) hb6 (unhide HBl).size)
                    obtain ⟨y0, y1, y2, y3, y4, y5, y6, y7⟩ := Ex.cel8 ((hb6.block w.heap.size hlq1).trans (unhide HCq))
                    have hl6 : w.heap.size < w6.heap.size := by have := hb6.size; omega
                    clear hb6 HF x0 x1 x2 x3 x4 x5 x6 x7 HCq r1
                    go_wp2_with fail
                    first
                    | (go_region_held (fun w' => w'.cell? ⟨w.heap.size, 0, none⟩ = some (v0) ∧ w'.cell? ⟨w.heap.size, 1, none⟩ = some (.slice e1a nf e1c) ∧ w'.cell? ⟨w.heap.size, 2, none⟩ = some (v2) ∧ w'.cell? ⟨w.heap.size, 3, none⟩ = some (v3) ∧ w'.cell? ⟨w.heap.size, 4, none⟩ = some (v4) ∧ w'.cell? ⟨w.heap.size, 5, none⟩ = some (.slice e5a n e5c) ∧ w'.cell? ⟨w.heap.size, 6, none⟩ = some (v6) ∧ w'.cell? ⟨w.heap.size, 7, none⟩ = some (v7))
                        (first | go_keep | exact ⟨y0, y1, y2, y3, y4, y5, y6, y7⟩ | exact ⟨(hk2 _ _ hl6).trans y0, (hk2 _ _ hl6).trans y1, (hk2 _ _ hl6).trans y2, (hk2 _ _ hl6).trans y3, (hk2 _ _ hl6).trans y4, (hk2 _ _ hl6).trans y5, (hk2 _ _ hl6).trans y6, (hk2 _ _ hl6).trans y7⟩ | fail)
                        (first
                          | (go_at_call 19; refine (unhide HR _ (Below.on0 (unhide HB6) (drew_below9 w6) (unhide HB6).size)).mono ?_; rintro e w7 ⟨rfl, hb7⟩; have HB7 := hide (Below.on (drew_below9 w6) hb7); clear hb7; have hk2 : ∀ b o, b < w6.heap.size → w7.cell? ⟨b, o, none⟩ = w6.cell? ⟨b, o, none⟩ := fun b o hlt => (unhide HB7).cell (p := ⟨b, o, none⟩) hlt)
                          | fail))
                    | fail
                    have HX7 := hide (Below.on0 (unhide HX6) (unhide HB7) (unhide HX6).size)
                    clear hk2 y0 y1 y2 y3 y4 y5 y6 y7
                    go_wp2
                    go_roundw
                    case rel => exact ⟨i + 1, by omega, by omega, rfl, unhide HX7⟩
                    case measure => simp [intOf]; omega
                  · have hF := fits_no hMq (unhide HWf) (hAq _ (unhide HBq)) (unhide HZ) hzl i hp
                    have hR : ∀ W', Below w.heap.size w W' → _ := fun W' hW' => rfits_is (hMw W' hW') (unhide HWf) (unhide HSz) (hAq W' hW') (unhide HZ) hzl i false (.inr ⟨hp, rfl⟩)
                    rw [← unhide HTL] at hF hR
                    rw [← unhide HNf, ← unhide HNl] at hR
                    have HF := hide hF; have HR := hide hR; have HCq := hide hcq
                    have r1 := (Ex.cel8 hcq).2.1
                    clear hF hR hcq hoq hMq hAq hMw hzl hp
                    go_wp2_with fail
                    refine (unhide HF).mono ?_
                    rintro e w6 ⟨rfl, hb6⟩
                    have HB6 := hide (Below.on0 (unhide HBq) hb6 (unhide HBq).size)
                    have HX6 := hide (Below.on0 (unhide HBl) hb6 (unhide HBl).size)
                    obtain ⟨y0, y1, y2, y3, y4, y5, y6, y7⟩ := Ex.cel8 ((hb6.block w.heap.size hlq1).trans (unhide HCq))
                    have hl6 : w.heap.size < w6.heap.size := by have := hb6.size; omega
                    clear hb6 HF x0 x1 x2 x3 x4 x5 x6 x7 HCq r1
                    go_wp2_with fail
                    go_region_held3 (fun w' => w'.cell? ⟨w.heap.size, 0, none⟩ = some (v0) ∧ w'.cell? ⟨w.heap.size, 1, none⟩ = some (.slice e1a nf e1c) ∧ w'.cell? ⟨w.heap.size, 2, none⟩ = some (v2) ∧ w'.cell? ⟨w.heap.size, 3, none⟩ = some (v3) ∧ w'.cell? ⟨w.heap.size, 4, none⟩ = some (v4) ∧ w'.cell? ⟨w.heap.size, 5, none⟩ = some (.slice e5a n e5c) ∧ w'.cell? ⟨w.heap.size, 6, none⟩ = some (v6) ∧ w'.cell? ⟨w.heap.size, 7, none⟩ = some (v7))
                      (first | go_keep | exact ⟨y0, y1, y2, y3, y4, y5, y6, y7⟩ | exact ⟨(hk2 _ _ hl6).trans y0, (hk2 _ _ hl6).trans y1, (hk2 _ _ hl6).trans y2, (hk2 _ _ hl6).trans y3, (hk2 _ _ hl6).trans y4, (hk2 _ _ hl6).trans y5, (hk2 _ _ hl6).trans y6, (hk2 _ _ hl6).trans y7⟩ | exact ⟨(hk3 _ _ hl6).trans y0, (hk3 _ _ hl6).trans y1, (hk3 _ _ hl6).trans y2, (hk3 _ _ hl6).trans y3, (hk3 _ _ hl6).trans y4, (hk3 _ _ hl6).trans y5, (hk3 _ _ hl6).trans y6, (hk3 _ _ hl6).trans y7⟩ | fail)
                      (first
                        | (go_at_call 19; refine (unhide HR _ (Below.on0 (unhide HB6) (drew_below9 w6) (unhide HB6).size)).mono ?_; rintro e w7 ⟨rfl, hb7⟩; have HB7 := hide (Below.on (drew_below9 w6) hb7); clear hb7; have hk2 : ∀ b o, b < w6.heap.size → w7.cell? ⟨b, o, none⟩ = w6.cell? ⟨b, o, none⟩ := fun b o hlt => (unhide HB7).cell (p := ⟨b, o, none⟩) hlt)
                        | (go_at_call 15; refine (num_hit 1 _ ((unhide HG).below (Below.on0 (unhide HB6) (unhide HB7) (unhide HB6).size)).2).mono ?_; rintro e w8 ⟨rfl, hb8⟩; have HB8 := hide (Below.on0 (unhide HB7) hb8 (unhide HB7).size); clear hb8; have hk3 : ∀ b o, b < w6.heap.size → w8.cell? ⟨b, o, none⟩ = w6.cell? ⟨b, o, none⟩ := fun b o hlt => (unhide HB8).cell (p := ⟨b, o, none⟩) hlt)
                        | fail)
                    have HX7 := hide (Below.on0 (unhide HX6) (unhide HB8) (unhide HX6).size)
                    clear hk2 hk3 y0 y1 y2 y3 y4 y5 y6 y7
                    go_wp2
                    go_roundw
                    case rel => exact ⟨i + 1, by omega, by omega, rfl, unhide HX7⟩
                    case measure => simp [intOf]; omega
                · obtain ⟨y0, y1, y2, y3, y4, y5, y6, y7⟩ := Ex.cel8 hcq
                  clear hcq hoq hMq
                  go_wp2_with (go_at_call 11; refine (unhide HSure _ (unhide HBq)).mono ?_; rintro e w8 ⟨rfl, hb8⟩; have HB8 := hide (Below.on0 (unhide HBq) hb8 (unhide HBq).size); clear hb8)
                  go_ret
                  exact ⟨rfl, unhide HB8⟩
              · obtain ⟨y0, y1, y2, y3, y4, y5, y6, y7⟩ := Ex.cel8 hcq
                clear hcq hoq hMq
                go_wp2_with (go_at_call 11; refine (unhide HSure _ (unhide HBq)).mono ?_; rintro e w8 ⟨rfl, hb8⟩; have HB8 := hide (Below.on0 (unhide HBq) hb8 (unhide HBq).size); clear hb8)
                go_ret
                exact ⟨rfl, unhide HB8⟩
end Gm
end Go.Proofs.YtcljcnaglkbjcaaGreatDoor
