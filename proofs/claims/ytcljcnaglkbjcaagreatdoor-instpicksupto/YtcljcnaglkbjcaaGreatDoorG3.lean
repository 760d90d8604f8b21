/- G3: what follows, part by part: each part tells what it holds. -/
import Derived.Test.YtcljcnaglkbjcaaGreatDoorG2
import Derived.Deep.DeepCutAuto
import Derived.Test.YtcljcnaglkbjcaaGreatDoorInC
import Derived.Test.YtcljcnaglkbjcaaGreatDoorNum
import Derived.OpenShut
import Derived.Lib.SmallJoins
import Derived.Test.YtcljcnaglkbjcaaGreatDoorRows
import Derived.Test.YtcljcnaglkbjcaaGreatDoorTie
import Derived.Test.YtcljcnaglkbjcaaGreatDoorCards
import Derived.WalkKit
import Derived.ProofKit
import Derived.ShutString
import Derived.ChangeOld
import Derived.Below
import Derived.ChangeMaps5
import Derived.Deep.DeepHandedRow
import Derived.Test.YtcljcnaglkbjcaaGreatDoorOpL
import Derived.Test.YtcljcnaglkbjcaaGreatDoorHandle3

/- The reference's Pick. -/
namespace Go.Proofs.YtcljcnaglkbjcaaGreatDoor
open Go.RowKit
namespace Gm
set_option linter.unusedVariables false
set_option linter.unusedSimpArgs false
open Ex (Lies)
def rpickV : Option (Int × Int) → Value
  | none => .tuple #[.int .i64 0, .int .i64 0, .bool false]
  | some x => .tuple #[.int .i64 x.1, .int .i64 x.2, .bool true]
theorem start2m {w : World} {ms ss : Array Value} {t t2 : TypeId} : ∃ W0, ((w.alloc (.cells ms t)).alloc (.cells ss t2)) = W0 ∧ W0.heap[w.heap.size]? = some (.cells ms t (0, 0)) ∧ W0.heap[w.heap.size + 1]? = some (.cells ss t2 (0, 0)) ∧ w.heap.size + 1 < W0.heap.size ∧ Below w.heap.size w W0 := by
  have e2 : (w.alloc (.cells ms t)).heap.size = w.heap.size + 1 := by simp
  have hn := heap_alloc_new (w.alloc (.cells ms t)) (.cells ss t2)
  rw [e2] at hn
  exact ⟨_, rfl, (Below.heap_alloc _ _ _ (by simp)).trans (heap_alloc_new w (.cells ms t)), hn, by simp, ((Below.refl _ _).alloc (Nat.le_refl _) _).alloc (by simp) _⟩

theorem ad_below9 (w : World) (o : Obj) : Below w.heap.size w (w.alloc o).drew := Below.on ((Below.refl _ _).alloc (Nat.le_refl _) o) (drew_below9 _)
theorem ad_at9 {w w4 : World} {x0 x1 : Value} {t : TypeId} (h : Below (w.alloc (.cells #[x0, x1] t)).drew.heap.size (w.alloc (.cells #[x0, x1] t)).drew w4) : w4.heap[w.heap.size]? = some (.cells #[x0, x1] t (0, 0)) :=
  (h.block w.heap.size (by show w.heap.size < (w.alloc (.cells #[x0, x1] t)).heap.size; simp)).trans (heap_alloc_new w (.cells #[x0, x1] t))

set_option maxRecDepth 100000 in
set_option maxHeartbeats 3200000 in
theorem rpick_any {M : Mod} {g : Nat → Prop} {v0 v1 v2 v3 v4 v5 v6 v7 : Value} {w : World} (hg : ∀ b, g b → b < w.heap.size) (hM : ModL w g M v0 v1 v2 v3 v4 v5 v6 v7) (hwf : WfM M) (hsz : SzM M) {ta : Option Addr} {tc : Nat} {tbl : List Int}
    (htb : Lies (fun _ => True) tbl.length (Tab w tbl) (.slice ta tbl.length tc)) (htl : tbl.length ≤ 300) (typ a : Int) (ha : 0 ≤ a ∧ a < 18446744073709551616) :
    Calls Tryz.prog 28 #[.agg #[v0, v1, v2, v3, v4, v5, v6, v7], .agg #[.int .i64 0, .int .i64 0, .slice none 0 0, .bool false, .slice ta tbl.length tc, .slice none 0 0], .int .i64 typ, .int .u64 a] w fun e w' => e = .returned (rpickV (pick M tbl typ a)) ∧ Below w.heap.size w w' := by
  obtain ⟨a0, c0, hv0⟩ := hM.l0.sl
  obtain ⟨W0, hW0, b1, b2, b3, b4⟩ := start2m (w := w) (ms := #[v0, v1, v2, v3, v4, v5, v6, v7]) (ss := #[.int .i64 0, .int .i64 0, .slice none 0 0, .bool false, .slice ta tbl.length tc, .slice none 0 0]) (t := 30) (t2 := 55)
  obtain ⟨m0, m1, m2, m3, m4, m5, m6, m7⟩ := Ex.cel8 b1
  have s4 : W0.cell? ⟨w.heap.size + 1, 4, none⟩ = some (.slice ta tbl.length tc) := by rw [cell_of_row W0 _ 4 _ _ _ b2]; rfl
  have HM := hide hM; have HT := hide htb; have HWf := hide hwf; have HSz := hide hsz
  have hn0 : (M.types.length : Int) ≤ 1048576 := by have := hsz.n0; omega
  have hn1 : (tbl.length : Int) ≤ 300 := by omega
  have HW := hide hW0; have HB := hide b4; have HMb := hide b1; have HSb := hide b2
  clear hM htb hwf hsz hW0 b1 b2 b4 htl
  subst hv0
  by_cases ht : typ < 0 ∨ (M.types.length : Int) ≤ typ
  · have hp : pick M tbl typ a = none := by unfold pick; rw [if_pos ht]
    rw [hp]
    clear hp
    by_cases h0 : typ < 0
    · clear ht
      go_enter Tryz.func28, Tryz.ntmps28
      go_wp2_with fail
      rw [unhide HW]
      refine bodyPost_ret (v := rpickV none) (by simp [results, Tryz.results28, go_sem, rpickV]) rfl ⟨rfl, unhide HB⟩
    · have h1 : (M.types.length : Int) ≤ typ := by omega
      clear ht
      go_enter Tryz.func28, Tryz.ntmps28
      go_wp2_with fail
      rw [unhide HW]
      refine bodyPost_ret (v := rpickV none) (by simp [results, Tryz.results28, go_sem, rpickV]) rfl ⟨rfl, unhide HB⟩
  obtain ⟨k, rfl⟩ : ∃ k : Nat, typ = k := ⟨typ.toNat, by omega⟩
  have hk : k < M.types.length := by omega
  obtain ⟨i, hi⟩ : ∃ i : Nat, a % 4294967296 = i := ⟨(a % 4294967296).toNat, by omega⟩
  have hpk : pick M tbl k a = pick2 M tbl M.types[k] i := by
    unfold pick
    rw [if_neg (by omega), hi, Int.toNat_natCast, Int.toNat_natCast]
    simp only [List.getD_eq_getElem?_getD, List.getElem?_eq_getElem hk, Option.getD_some]
  rw [hpk]
  obtain ⟨ha0, ha1⟩ := ha
  have et : a.tmod 4294967296 = a % 4294967296 := Int.tmod_eq_emod_of_nonneg ha0
  have hla : (i : Int) < 4294967296 := by omega
  have hkn : (k : Int) < M.types.length := by omega
  have d0 : decide ((k : Int) < 0) = false := decide_eq_false (by omega)
  have d1 : decide ((k : Int) ≥ (M.types.length : Int)) = false := decide_eq_false (by omega)
  have d2 : decide (M.types.length ≤ k) = false := decide_eq_false (by omega)
  have HI := hide hi
  clear hpk ht hi
  by_cases h1 : tbl.length ≤ i
  · have hp2 : pick2 M tbl M.types[k] i = some (0, 5) := by unfold pick2; rw [if_pos h1]
    rw [hp2]
    have hti : (tbl.length : Int) ≤ (i : Int) := by omega
    clear hp2 HT h1
    generalize tbl.length = tl at *
    generalize M.types.length = nt at *
    clear hk
    go_enter Tryz.func28, Tryz.ntmps28
    go_upto_region 4 with fail
    rw [unhide HW, unhide HI]
    clear et ha0 ha1
    go_wp2_with fail
    refine bodyPost_ret (v := rpickV (some (0, 5))) (by simp [results, Tryz.results28, go_sem, rpickV]) rfl ⟨rfl, unhide HB⟩
  · have hni : (i : Int) < tbl.length := by omega
    obtain ⟨ta', tc', et2, htcap, -, htr⟩ := unhide HT
    simp only [Value.slice.injEq] at et2
    obtain ⟨rfl, -, rfl⟩ := et2
    obtain ⟨bt, ot, rfl, -, htab⟩ := htr (by omega)
    have hct := htab i (by omega)
    have hbt : bt < w.heap.size := World.block_lt_of_cell? w _ hct
    have hp2 : pick2 M tbl M.types[k] i = match ty? M (tbl.getD i 0) with
        | none => some (0, 5)
        | some t => if tyEq t M.types[k] = true then some (tbl.getD i 0, 0) else some (0, 6) := by unfold pick2; rw [if_neg h1]; try (cases ty? M (tbl.getD i 0) <;> rfl)
    generalize tbl.getD i 0 = z at *
    have hty : ∀ W, Below w.heap.size w W → TyB 50 (.agg #[.slice a0 M.types.length c0, v1, v2, v3, v4, v5, v6, v7]) W g z (ty? M z) := fun W hW => rtype_any ((unhide HM).moved (Mv.below (g' := g) hW (fun _ _ h => h)) hW.size) (unhide HWf) (unhide HSz) z
    have hc0 : W0.cell? ⟨bt, ot + i, none⟩ = some (.int .i64 z) := ((unhide HB).cell (p := ⟨bt, ot + i, none⟩) hbt).trans hct
    have d3 : decide ((tbl.length : Int) ≤ (i : Int)) = false := decide_eq_false (by omega)
    have d4 : decide (tbl.length ≤ i) = false := decide_eq_false h1
    have HP2 := hide hp2; have HTy := hide hty
    have nt1 : ¬ bt = w.heap.size + 1 := by omega
    obtain ⟨b0, o0, c0', hv0, -, hb0, -, cs0, -, ⟨vp, rfl, hp⟩, hcs0⟩ := (unhide HM).l0.at hk
    simp only [Value.slice.injEq] at hv0
    obtain ⟨rfl, -, rfl⟩ := hv0
    have HWl := hide hp
    obtain ⟨wa, wc, rfl, -⟩ := hp
    have hsB := (unhide HB).size
    have b0l : b0 < W0.heap.size := by omega
    have HE2 := hide (((unhide HB).cell (p := ⟨b0, o0 + k * 2, none⟩) hb0).trans (hcs0 0 _ rfl))
    have HE3 := hide (((unhide HB).cell (p := ⟨b0, o0 + k * 2 + 1, none⟩) hb0).trans (hcs0 1 _ rfl))
    have HM0 := hide m0
    have HBk := hide (((unhide HWf).1 _ (List.getElem_mem hk)).1)
    generalize M.types[k] = t0 at *
    clear hp2 hty htr htab hct HT h1 hcs0 hsB
    go_enter Tryz.func28, Tryz.ntmps28
    go_upto_region 4 with fail
    rw [unhide HW, unhide HI]
    clear et ha0 ha1
    go_upto_region 6 with fail
    have hty := unhide HTy
    have hp2 := unhide HP2
    have hmm : ∀ t, ty? M z = some t → (∀ x ∈ t.ps, 0 ≤ x ∧ x ≤ 255) := fun t ht => ((unhide HWf).1 t (ty_mem ht)).1
    generalize ty? M z = o at hty hp2 hmm
    clear HTy HP2
    have wlt : w.heap.size < W0.heap.size := by omega
    have btl : bt < W0.heap.size := by omega
    cases o with
    | none =>
      have HTn : Hid (∀ W, Below W0.heap.size W0 W → TyNo 50 (.agg #[.slice (some ⟨b0, o0, none⟩) M.types.length c0, v1, v2, v3, v4, v5, v6, v7]) W z) := hide (fun W hW => hty W (Below.on0 (unhide HB) hW (unhide HB).size))
      unfold TyNo at HTn
      have HP3 := hide hp2
      clear hty hp2 hmm
      go_region_held3 (fun w' => w'.cell? ⟨w.heap.size, 0, none⟩ = some (.slice (some ⟨b0, o0, none⟩) M.types.length c0) ∧ w'.cell? ⟨w.heap.size, 1, none⟩ = some v1 ∧ w'.cell? ⟨w.heap.size, 2, none⟩ = some v2 ∧ w'.cell? ⟨w.heap.size, 3, none⟩ = some v3 ∧ w'.cell? ⟨w.heap.size, 4, none⟩ = some v4 ∧ w'.cell? ⟨w.heap.size, 5, none⟩ = some v5 ∧ w'.cell? ⟨w.heap.size, 6, none⟩ = some v6 ∧ w'.cell? ⟨w.heap.size, 7, none⟩ = some v7 ∧ w'.cell? ⟨w.heap.size + 1, 4, none⟩ = some (.slice (some ⟨bt, ot, none⟩) tbl.length tc) ∧ w'.cell? ⟨bt, ot + i, none⟩ = some (.int .i64 z))
        (first | go_keep | exact ⟨m0, m1, m2, m3, m4, m5, m6, m7, s4, hc0⟩ | exact ⟨(hk2 _ _ wlt).trans m0, (hk2 _ _ wlt).trans m1, (hk2 _ _ wlt).trans m2, (hk2 _ _ wlt).trans m3, (hk2 _ _ wlt).trans m4, (hk2 _ _ wlt).trans m5, (hk2 _ _ wlt).trans m6, (hk2 _ _ wlt).trans m7, (hk2 _ _ b3).trans s4, (hk2 _ _ btl).trans hc0⟩ | exact ⟨(hk3 _ _ _ _ wlt).trans m0, (hk3 _ _ _ _ wlt).trans m1, (hk3 _ _ _ _ wlt).trans m2, (hk3 _ _ _ _ wlt).trans m3, (hk3 _ _ _ _ wlt).trans m4, (hk3 _ _ _ _ wlt).trans m5, (hk3 _ _ _ _ wlt).trans m6, (hk3 _ _ _ _ wlt).trans m7, (hk3 _ _ _ _ b3).trans s4, (hk3 _ _ _ _ btl).trans hc0⟩ | fail)
        (first
          | (go_at_call 50; refine (unhide HTn _ (drew_below9 W0)).mono ?_; rintro e w4 ⟨rfl, hb4⟩; have HB4 := hide (Below.on (drew_below9 W0) hb4); clear hb4; have hk2 : ∀ b o, b < W0.heap.size → w4.cell? ⟨b, o, none⟩ = W0.cell? ⟨b, o, none⟩ := fun b o hlt => (unhide HB4).cell (p := ⟨b, o, none⟩) hlt; have hn1 : W0.heap.size ≤ w4.heap.size := (unhide HB4).size)
          | (go_at_call 50; refine (unhide HTn _ (ad_below9 W0 _)).mono ?_; rintro e w4 ⟨rfl, hb4⟩; have HB4 := hide (Below.on (ad_below9 W0 _) hb4); have HR4 := hide (ad_at9 hb4); obtain ⟨y0, y1⟩ := cel2 (ad_at9 hb4); have fy : ∀ j, w4.frozen? ⟨W0.heap.size, j, none⟩ = false := fun j => frozen_of_row w4 _ j _ _ (ad_at9 hb4); have hl4 : W0.heap.size < w4.heap.size := (Array.getElem?_eq_some_iff.1 (ad_at9 hb4)).1; have hk3 : ∀ b o x y, b < W0.heap.size → ((w4.setCell ⟨W0.heap.size, 0, none⟩ x).setCell ⟨W0.heap.size, 1, none⟩ y).cell? ⟨b, o, none⟩ = W0.cell? ⟨b, o, none⟩ := (fun b o x y hlt => (((unhide HB4).setCell (p := ⟨W0.heap.size, 0, none⟩) (Nat.le_refl _) x).setCell (p := ⟨W0.heap.size, 1, none⟩) (Nat.le_refl _) y).cell (p := ⟨b, o, none⟩) hlt); clear hb4; have hk2 : ∀ b o, b < W0.heap.size → w4.cell? ⟨b, o, none⟩ = W0.cell? ⟨b, o, none⟩ := fun b o hlt => (unhide HB4).cell (p := ⟨b, o, none⟩) hlt; have hn1 : W0.heap.size ≤ w4.heap.size := (unhide HB4).size)
          | fail)
      · have HB5 := hide (Below.on0 (unhide HB) (unhide HB4) (unhide HB).size)
        clear hk2
        go_wp2
        refine bodyPost_ret (v := rpickV (some (0, 5))) (by simp [results, Tryz.results28, go_sem, rpickV]) rfl ⟨by rw [unhide HP3], (unhide HB5).alloc (unhide HB5).size _⟩
      · have HB5 := hide (Below.on0 (unhide HB) (unhide HB4) (unhide HB).size)
        have hsw := (unhide HB).size
        clear hk2 hk3
        go_wp2
        refine bodyPost_ret (v := rpickV (some (0, 5))) (by simp [results, Tryz.results28, go_sem, rpickV]) rfl ⟨by rw [unhide HP3], ((unhide HB5).setCell (p := ⟨W0.heap.size, 0, none⟩) hsw _).setCell (p := ⟨W0.heap.size, 1, none⟩) hsw _⟩
    | some t =>
      have HTs : Hid (∀ W, Below W0.heap.size W0 W → Calls Tryz.prog 50 #[.agg #[.slice (some ⟨b0, o0, none⟩) M.types.length c0, v1, v2, v3, v4, v5, v6, v7], .int .i64 z] W fun e w' => ∃ pa pc, (e = .returned (.tuple #[.agg #[.slice pa t.ps.length pc, .int .u8 t.re], .bool true]) ∧ Below W.heap.size W w') ∧ Lies g t.ps.length (Byts W0 t.ps) (.slice pa t.ps.length pc)) := hide (fun W hW => (show TyYes _ _ _ _ _ _ from hty W (Below.on0 (unhide HB) hW (unhide HB).size)).mono (fun e w' h => by
        obtain ⟨pa, pc, h1, h2, h3⟩ := h
        exact ⟨pa, pc, ⟨h1, h3⟩, Byts.moved (fun k _ hgk => ⟨hgk, (hW.block k (by have := hg k hgk; have := (unhide HB).size; omega)).symm⟩) h2⟩))
      have HSame : Hid (∀ pa pc, Lies g t.ps.length (Byts W0 t.ps) (.slice pa t.ps.length pc) → ∀ V, Below W0.heap.size W0 V → Calls Tryz.prog 59 #[.agg #[.slice pa t.ps.length pc, .int .u8 t.re], .agg #[.slice wa t0.ps.length wc, .int .u8 t0.re]] V fun e w' => e = .returned (.bool (tyEq t t0)) ∧ Below V.heap.size V w') := hide (fun pa pc h V hV =>
        same_any (Byts.moved (Mv.below (g' := g) hV (fun _ _ h => h)) h) (Byts.moved (Mv.below (g' := g) (Below.on0 (unhide HB) hV (unhide HB).size) (fun _ _ h => h)) (unhide HWl)) (hmm t rfl) (unhide HBk))
      have HP3 := hide hp2
      clear hty hp2 hmm
      go_region_held3 (fun w' => w'.cell? ⟨w.heap.size, 0, none⟩ = some (.slice (some ⟨b0, o0, none⟩) M.types.length c0) ∧ w'.cell? ⟨w.heap.size, 1, none⟩ = some v1 ∧ w'.cell? ⟨w.heap.size, 2, none⟩ = some v2 ∧ w'.cell? ⟨w.heap.size, 3, none⟩ = some v3 ∧ w'.cell? ⟨w.heap.size, 4, none⟩ = some v4 ∧ w'.cell? ⟨w.heap.size, 5, none⟩ = some v5 ∧ w'.cell? ⟨w.heap.size, 6, none⟩ = some v6 ∧ w'.cell? ⟨w.heap.size, 7, none⟩ = some v7 ∧ w'.cell? ⟨w.heap.size + 1, 4, none⟩ = some (.slice (some ⟨bt, ot, none⟩) tbl.length tc) ∧ w'.cell? ⟨bt, ot + i, none⟩ = some (.int .i64 z))
        (first | go_keep | exact ⟨m0, m1, m2, m3, m4, m5, m6, m7, s4, hc0⟩ | exact ⟨(hk2 _ _ wlt).trans m0, (hk2 _ _ wlt).trans m1, (hk2 _ _ wlt).trans m2, (hk2 _ _ wlt).trans m3, (hk2 _ _ wlt).trans m4, (hk2 _ _ wlt).trans m5, (hk2 _ _ wlt).trans m6, (hk2 _ _ wlt).trans m7, (hk2 _ _ b3).trans s4, (hk2 _ _ btl).trans hc0⟩ | exact ⟨(hk3 _ _ _ _ wlt).trans m0, (hk3 _ _ _ _ wlt).trans m1, (hk3 _ _ _ _ wlt).trans m2, (hk3 _ _ _ _ wlt).trans m3, (hk3 _ _ _ _ wlt).trans m4, (hk3 _ _ _ _ wlt).trans m5, (hk3 _ _ _ _ wlt).trans m6, (hk3 _ _ _ _ wlt).trans m7, (hk3 _ _ _ _ b3).trans s4, (hk3 _ _ _ _ btl).trans hc0⟩ | fail)
        (first
          | (go_at_call 50; refine (unhide HTs _ (drew_below9 W0)).mono ?_; rintro e w4 ⟨pa, pc, ⟨rfl, hb4⟩, hly⟩; have HLy := hide hly; clear hly; have HB4 := hide (Below.on (drew_below9 W0) hb4); clear hb4; have hk2 : ∀ b o, b < W0.heap.size → w4.cell? ⟨b, o, none⟩ = W0.cell? ⟨b, o, none⟩ := fun b o hlt => (unhide HB4).cell (p := ⟨b, o, none⟩) hlt; have hn1 : W0.heap.size ≤ w4.heap.size := (unhide HB4).size)
          | (go_at_call 50; refine (unhide HTs _ (ad_below9 W0 _)).mono ?_; rintro e w4 ⟨pa, pc, ⟨rfl, hb4⟩, hly⟩; have HLy := hide hly; clear hly; have HB4 := hide (Below.on (ad_below9 W0 _) hb4); have HR4 := hide (ad_at9 hb4); obtain ⟨y0, y1⟩ := cel2 (ad_at9 hb4); have fy : ∀ j, w4.frozen? ⟨W0.heap.size, j, none⟩ = false := fun j => frozen_of_row w4 _ j _ _ (ad_at9 hb4); have hl4 : W0.heap.size < w4.heap.size := (Array.getElem?_eq_some_iff.1 (ad_at9 hb4)).1; have hk3 : ∀ b o x y, b < W0.heap.size → ((w4.setCell ⟨W0.heap.size, 0, none⟩ x).setCell ⟨W0.heap.size, 1, none⟩ y).cell? ⟨b, o, none⟩ = W0.cell? ⟨b, o, none⟩ := (fun b o x y hlt => (((unhide HB4).setCell (p := ⟨W0.heap.size, 0, none⟩) (Nat.le_refl _) x).setCell (p := ⟨W0.heap.size, 1, none⟩) (Nat.le_refl _) y).cell (p := ⟨b, o, none⟩) hlt); clear hb4; have hk2 : ∀ b o, b < W0.heap.size → w4.cell? ⟨b, o, none⟩ = W0.cell? ⟨b, o, none⟩ := fun b o hlt => (unhide HB4).cell (p := ⟨b, o, none⟩) hlt; have hn1 : W0.heap.size ≤ w4.heap.size := (unhide HB4).size)
          | fail)
      · have HB5 : Hid (Below W0.heap.size W0 (w4.alloc (.cells #[.slice pa t.ps.length pc, .int .u8 t.re] 107))) := hide ((unhide HB4).alloc hn1 _)
        have hwb : (w4.alloc (.cells #[.slice pa t.ps.length pc, .int .u8 t.re] 107)).heap[w4.heap.size]? = some (.cells #[.slice pa t.ps.length pc, .int .u8 t.re] 107 (0, 0)) := heap_alloc_new w4 _
        have HWB := hide hwb
        have HSm := hide (unhide HSame _ _ (unhide HLy))
        clear hk2  hwb HTs HSame HLy m0 m1 m2 m3 m4 m5 m6 m7
        go_upto_region 9 with fail
        generalize w4.alloc (.cells #[.slice pa t.ps.length pc, .int .u8 t.re] 107) = V at *
        obtain ⟨y4, y5⟩ := cel2 (unhide HWB)
        have hlB : w4.heap.size < V.heap.size := (Array.getElem?_eq_some_iff.1 (unhide HWB)).1
        have hkV : ∀ b o, b < W0.heap.size → V.cell? ⟨b, o, none⟩ = W0.cell? ⟨b, o, none⟩ := fun b o hlt => (unhide HB5).cell (p := ⟨b, o, none⟩) hlt
        have hsV := (unhide HB5).size
        have x0 := (hkV _ _ wlt).trans (unhide HM0)
        have x1 := (hkV _ _ b0l).trans (unhide HE2)
        have x2 := (hkV _ _ b0l).trans (unhide HE3)
        have x3 := (hkV _ _ b3).trans s4
        have x4 := (hkV _ _ btl).trans hc0
        have lt1 : w.heap.size < V.heap.size := by omega
        have lt2 : b0 < V.heap.size := by omega
        have lt3 : w.heap.size + 1 < V.heap.size := by omega
        have lt4 : bt < V.heap.size := by omega
        clear hkV s4 hc0
        go_region_held3 (fun w' => w'.cell? ⟨w4.heap.size, 0, none⟩ = some (.slice pa t.ps.length pc) ∧ w'.cell? ⟨w4.heap.size, 1, none⟩ = some (.int .u8 t.re) ∧ w'.cell? ⟨w.heap.size, 0, none⟩ = some (.slice (some ⟨b0, o0, none⟩) M.types.length c0) ∧ w'.cell? ⟨b0, o0 + k * 2, none⟩ = some (.slice wa t0.ps.length wc) ∧ w'.cell? ⟨b0, o0 + k * 2 + 1, none⟩ = some (.int .u8 t0.re))
          (first | go_keep | exact ⟨y4, y5, x0, x1, x2⟩ | exact ⟨(hk6 _ _ hlB).trans y4, (hk6 _ _ hlB).trans y5, (hk6 _ _ lt1).trans x0, (hk6 _ _ lt2).trans x1, (hk6 _ _ lt2).trans x2⟩ | fail)
          (first
            | (go_at_call 59; refine (unhide HSm _ (Below.on (unhide HB5) (drew_below9 V))).mono ?_; rintro e w6 ⟨rfl, hb6⟩; have HB6 := hide (Below.on (drew_below9 V) hb6); clear hb6; have hk6 : ∀ b o, b < V.heap.size → w6.cell? ⟨b, o, none⟩ = V.cell? ⟨b, o, none⟩ := fun b o hlt => (unhide HB6).cell (p := ⟨b, o, none⟩) hlt)
            | fail)
        have z3 := (hk6 _ _ lt3).trans x3
        have z4 := (hk6 _ _ lt4).trans x4
        have HB7 := hide (Below.on0 (unhide HB) (Below.on (unhide HB5) (unhide HB6)) (unhide HB).size)
        clear hk6 x0 x1 x2 x3 x4 y4 y5
        cases hte : tyEq t t0
        · have hp4 : pick2 M tbl t0 i = some (0, 6) := by rw [unhide HP3]; simp [hte]
          have HP4 := hide hp4
          clear hp4 HP3 hte d0 d1 d2 d3 d4 hkn hsV hlB lt1 lt2 lt3 lt4 z3 z4 hla hni hn0 hbt nt1 b0l wlt btl hn1 hb0 b3 htcap
          go_wp2_with fail
          refine bodyPost_ret (v := rpickV (some (0, 6))) (by simp [results, Tryz.results28, go_sem, rpickV]) rfl ⟨by rw [unhide HP4], unhide HB7⟩
        · have hp4 : pick2 M tbl t0 i = some (z, 0) := by rw [unhide HP3]; simp [hte]
          have HP4 := hide hp4
          clear hp4 HP3 hte d0 d1 d2 d3 d4 hkn hsV hlB lt1 lt2 hn0 hbt nt1 b0l wlt btl hn1 hb0 b3 htcap hla lt3 lt4
          go_wp2_with fail
          refine bodyPost_ret (v := rpickV (some (z, 0))) (by simp [results, Tryz.results28, go_sem, rpickV]) rfl ⟨by rw [unhide HP4], unhide HB7⟩
      · have HB5 : Hid (Below W0.heap.size W0 ((w4.setCell ⟨W0.heap.size, 0, none⟩ (.slice pa t.ps.length pc)).setCell ⟨W0.heap.size, 1, none⟩ (.int .u8 t.re))) := hide (((unhide HB4).setCell (p := ⟨W0.heap.size, 0, none⟩) (Nat.le_refl _) _).setCell (p := ⟨W0.heap.size, 1, none⟩) (Nat.le_refl _) _)
        have hwb : ((w4.setCell ⟨W0.heap.size, 0, none⟩ (.slice pa t.ps.length pc)).setCell ⟨W0.heap.size, 1, none⟩ (.int .u8 t.re)).heap[W0.heap.size]? = some (.cells #[.slice pa t.ps.length pc, .int .u8 t.re] 107 (0, 0)) := set2 (unhide HR4) _ _
        have HWB := hide hwb
        have HSm := hide (unhide HSame _ _ (unhide HLy))
        clear hk2 hk3 hwb HTs HSame HLy m0 m1 m2 m3 m4 m5 m6 m7
        go_upto_region 9 with fail
        generalize (w4.setCell ⟨W0.heap.size, 0, none⟩ (.slice pa t.ps.length pc)).setCell ⟨W0.heap.size, 1, none⟩ (.int .u8 t.re) = V at *
        obtain ⟨y4, y5⟩ := cel2 (unhide HWB)
        have hlB : W0.heap.size < V.heap.size := (Array.getElem?_eq_some_iff.1 (unhide HWB)).1
        have hkV : ∀ b o, b < W0.heap.size → V.cell? ⟨b, o, none⟩ = W0.cell? ⟨b, o, none⟩ := fun b o hlt => (unhide HB5).cell (p := ⟨b, o, none⟩) hlt
        have hsV := (unhide HB5).size
        have x0 := (hkV _ _ wlt).trans (unhide HM0)
        have x1 := (hkV _ _ b0l).trans (unhide HE2)
        have x2 := (hkV _ _ b0l).trans (unhide HE3)
        have x3 := (hkV _ _ b3).trans s4
        have x4 := (hkV _ _ btl).trans hc0
        have lt1 : w.heap.size < V.heap.size := by omega
        have lt2 : b0 < V.heap.size := by omega
        have lt3 : w.heap.size + 1 < V.heap.size := by omega
        have lt4 : bt < V.heap.size := by omega
        clear hkV s4 hc0
        go_region_held3 (fun w' => w'.cell? ⟨W0.heap.size, 0, none⟩ = some (.slice pa t.ps.length pc) ∧ w'.cell? ⟨W0.heap.size, 1, none⟩ = some (.int .u8 t.re) ∧ w'.cell? ⟨w.heap.size, 0, none⟩ = some (.slice (some ⟨b0, o0, none⟩) M.types.length c0) ∧ w'.cell? ⟨b0, o0 + k * 2, none⟩ = some (.slice wa t0.ps.length wc) ∧ w'.cell? ⟨b0, o0 + k * 2 + 1, none⟩ = some (.int .u8 t0.re))
          (first | go_keep | exact ⟨y4, y5, x0, x1, x2⟩ | exact ⟨(hk6 _ _ hlB).trans y4, (hk6 _ _ hlB).trans y5, (hk6 _ _ lt1).trans x0, (hk6 _ _ lt2).trans x1, (hk6 _ _ lt2).trans x2⟩ | fail)
          (first
            | (go_at_call 59; refine (unhide HSm _ (Below.on (unhide HB5) (drew_below9 V))).mono ?_; rintro e w6 ⟨rfl, hb6⟩; have HB6 := hide (Below.on (drew_below9 V) hb6); clear hb6; have hk6 : ∀ b o, b < V.heap.size → w6.cell? ⟨b, o, none⟩ = V.cell? ⟨b, o, none⟩ := fun b o hlt => (unhide HB6).cell (p := ⟨b, o, none⟩) hlt)
            | fail)
        have z3 := (hk6 _ _ lt3).trans x3
        have z4 := (hk6 _ _ lt4).trans x4
        have HB7 := hide (Below.on0 (unhide HB) (Below.on (unhide HB5) (unhide HB6)) (unhide HB).size)
        clear hk6 x0 x1 x2 x3 x4 y4 y5
        cases hte : tyEq t t0
        · have hp4 : pick2 M tbl t0 i = some (0, 6) := by rw [unhide HP3]; simp [hte]
          have HP4 := hide hp4
          clear hp4 HP3 hte d0 d1 d2 d3 d4 hkn hsV hlB lt1 lt2 lt3 lt4 z3 z4 hla hni hn0 hbt nt1 b0l wlt btl hn1 hb0 b3 htcap
          go_wp2_with fail
          refine bodyPost_ret (v := rpickV (some (0, 6))) (by simp [results, Tryz.results28, go_sem, rpickV]) rfl ⟨by rw [unhide HP4], unhide HB7⟩
        · have hp4 : pick2 M tbl t0 i = some (z, 0) := by rw [unhide HP3]; simp [hte]
          have HP4 := hide hp4
          clear hp4 HP3 hte d0 d1 d2 d3 d4 hkn hsV hlB lt1 lt2 hn0 hbt nt1 b0l wlt btl hn1 hb0 b3 htcap hla lt3 lt4
          go_wp2_with fail
          refine bodyPost_ret (v := rpickV (some (z, 0))) (by simp [results, Tryz.results28, go_sem, rpickV]) rfl ⟨by rw [unhide HP4], unhide HB7⟩
end Gm
end Go.Proofs.YtcljcnaglkbjcaaGreatDoor

/- InstPicks' walk. -/
namespace Go.Proofs.YtcljcnaglkbjcaaGreatDoor
open Go.RowKit
namespace Gm
set_option linter.unusedVariables false
set_option linter.unusedSimpArgs false
open Ex (Lies)
theorem pick_all {M : Mod} {g : Nat → Prop} {v0 v1 v2 v3 v4 v5 v6 v7 : Value} {w : World} (hM : ModL w g M v0 v1 v2 v3 v4 v5 v6 v7) (hwf : WfM M) (hsz : SzM M) {bs : Nat} {x0 x2 : Value} {ta : Option Addr} {tc : Nat} {tbl : List Int} {T : TypeId} (hst : w.heap[bs]? = some (.cells #[x0, .slice ta tbl.length tc, x2] T (0, 0)))
    (htb : Lies (fun _ => True) tbl.length (Tab w tbl) (.slice ta tbl.length tc)) (typ a : Int) (ha : 0 ≤ a ∧ a < 18446744073709551616) :
    Calls Tryz.prog 27 #[.agg #[v0, v1, v2, v3, v4, v5, v6, v7], .pointer (some ⟨bs, 0, none⟩), .int .i64 typ, .int .u64 a] w fun e w' => e = .returned (pickV (pick M tbl typ a)) ∧ Below w.heap.size w w' := by
  by_cases ht : typ < 0 ∨ (M.types.length : Int) ≤ typ
  · have hp : pick M tbl typ a = none := by unfold pick; rw [if_pos ht]
    rw [hp]; exact pick_out hM _ typ a ht
  · obtain ⟨k, rfl⟩ : ∃ k : Nat, typ = k := ⟨typ.toNat, by omega⟩
    exact pick_in hM hwf hsz hst htb k (by omega) a ha
theorem Tab.moved {w w' : World} (hb : Below w.heap.size w w') {zs : List Int} {v : Value} (h : Lies (fun _ => True) zs.length (Tab w zs) v) : Lies (fun _ => True) zs.length (Tab w' zs) v :=
  Ex.Lies.move h fun hl b o hg hp => ⟨trivial, fun j hj => (hb.cell (p := ⟨b, o + j, none⟩) (World.block_lt_of_cell? w _ (hp j hj))).trans (hp j hj)⟩
theorem ModL.sls {w : World} {g : Nat → Prop} {M : Mod} {v0 v1 v2 v3 v4 v5 v6 v7 : Value} (h : ModL w g M v0 v1 v2 v3 v4 v5 v6 v7) : ∃ a0 n0 c0 a1 n1 c1 a2 n2 c2 a3 n3 c3 a4 n4 c4 a5 n5 c5 a6 n6 c6 a7 n7 c7, v0 = .slice a0 n0 c0 ∧ v1 = .slice a1 n1 c1 ∧ v2 = .slice a2 n2 c2 ∧ v3 = .slice a3 n3 c3 ∧ v4 = .slice a4 n4 c4 ∧ v5 = .slice a5 n5 c5 ∧ v6 = .slice a6 n6 c6 ∧ v7 = .slice a7 n7 c7 := by
  obtain ⟨a0, c0, e0⟩ := h.l0.sl; obtain ⟨a1, c1, e1⟩ := h.l1.sl; obtain ⟨a2, c2, e2⟩ := h.l2.sl; obtain ⟨a3, c3, e3⟩ := h.l3.sl
  obtain ⟨a4, c4, e4⟩ := h.l4.sl; obtain ⟨a5, c5, e5⟩ := h.l5.sl; obtain ⟨a6, c6, e6⟩ := h.l6.sl; obtain ⟨a7, c7, e7⟩ := h.l7.sl
  exact ⟨a0, _, c0, a1, _, c1, a2, _, c2, a3, _, c3, a4, _, c4, a5, _, c5, a6, _, c6, a7, _, c7, e0, e1, e2, e3, e4, e5, e6, e7⟩
set_option maxRecDepth 100000 in
set_option maxHeartbeats 3200000 in
theorem picks_walk {M : Mod} {v0 v1 v2 v3 v4 v5 v6 v7 : Value} {w : World} (hM0 : ModL w (fun _ => True) M v0 v1 v2 v3 v4 v5 v6 v7) (hwf : WfM M) (hsz : SzM M) (hG : Gl w) {ta : Option Addr} {tc : Nat} {tbl : List Int}
    (htb : Lies (fun _ => True) tbl.length (Tab w tbl) (.slice ta tbl.length tc)) (p q : Int) (hp : -9223372036854775808 ≤ p ∧ p ≤ 9223372036854775807) (hq : -9223372036854775808 ≤ q ∧ q ≤ 9223372036854775807) :
    Calls Tryz.prog 6 #[.agg #[v0, v1, v2, v3, v4, v5, v6, v7], .slice ta tbl.length tc, .agg #[.int .i64 p, .int .i64 q]] w fun e w' => e = .returned (.bool true) ∧ Below w.heap.size w w' := by
  have hM : ModL w (fun b => b < w.heap.size) M v0 v1 v2 v3 v4 v5 v6 v7 := hM0.moved (fun k hk _ => ⟨hk, rfl⟩) (Nat.le_refl _)
  obtain ⟨W0, hW0, b1, b2, b3, b4⟩ := start2m (w := w) (ms := #[v0, v1, v2, v3, v4, v5, v6, v7]) (ss := #[.int .i64 p, .int .i64 q]) (t := 30) (t2 := 86)
  obtain ⟨m0, m1, m2, m3, m4, m5, m6, m7⟩ := Ex.cel8 b1
  obtain ⟨o0, o1⟩ := cel2 b2
  have hbig := big_any M _ _ _ _ _ _ _ _ _ W0 (hM.moved (Mv.below (g' := fun b => b < w.heap.size) b4 (fun _ _ h => h)) b4.size) hsz
  have hsure : ∀ W, Below w.heap.size w W → _ := fun W hW => sure_any W (hG.below hW)
  have HM := hide hM; have HBig := hide hbig; have HSure := hide hsure; have HT := hide htb; have HG := hide hG; have HWf := hide hwf; have HSz := hide hsz
  have HW := hide hW0; have HB := hide b4; have HMb := hide b1; have HOb := hide b2
  clear hM0 hM hbig hsure htb hG hwf hsz hW0 b1 b2 b4
  obtain ⟨tl, htl⟩ : ∃ tl, tl = tbl.length := ⟨_, rfl⟩
  rw [← htl]
  have HTL := hide htl; clear htl
  go_enter Tryz.func6, Tryz.ntmps6
  go_wp2_with fail
  rw [unhide HW]
  refine (unhide HBig).mono ?_
  rintro e w1 ⟨⟨bb, rfl⟩, hb1⟩
  have HB1 := hide hb1
  have HBw1 := hide (Below.on0 (unhide HB) hb1 (unhide HB).size)
  clear HBig m0 m1 m2 m3 m4 m5 m6 m7 o0 o1
  have hcm := (hb1.block w.heap.size (by omega)).trans (unhide HMb)
  have hco := (hb1.block (w.heap.size + 1) b3).trans (unhide HOb)
  obtain ⟨m0, m1, m2, m3, m4, m5, m6, m7⟩ := Ex.cel8 hcm
  obtain ⟨o0, o1⟩ := cel2 hco
  have HC1 := hide hcm; have HO1 := hide hco
  clear hb1 hcm hco
  cases bb with
  | true =>
    go_wp2_with fail
    refine (unhide HSure _ (unhide HBw1)).mono ?_
    rintro e w2 ⟨rfl, hb2⟩
    have HB2 := hide (Below.on0 (unhide HBw1) hb2 (unhide HBw1).size)
    clear hb2
    go_wp2
    go_ret
    exact ⟨rfl, unhide HB2⟩
  | false =>
    by_cases ht : (tl : Int) > 300
    · go_wp2_with fail
      refine (unhide HSure _ (unhide HBw1)).mono ?_
      rintro e w2 ⟨rfl, hb2⟩
      have HB2 := hide (Below.on0 (unhide HBw1) hb2 (unhide HBw1).size)
      clear hb2
      go_wp2
      go_ret
      exact ⟨rfl, unhide HB2⟩
    · have hd : decide ((tl : Int) > 300) = false := decide_eq_false ht
      have hgv := giveModule_any M (fun b => b < w.heap.size) _ _ _ _ _ _ _ _ w1 (fun k hk => by have := (unhide HBw1).size; omega) ((unhide HM).moved (Mv.below (g' := fun b => b < w.heap.size) (unhide HBw1) (fun _ _ h => h)) (unhide HBw1).size) (unhide HSz)
      have HGv := hide hgv
      clear hgv
      go_wp2_with fail
      refine (unhide HGv).mono ?_
      rintro e w2 ⟨u0, u1, u2, u3, u4, u5, u6, u7, rfl, hM2, hb2⟩
      have HM2 := hide hM2
      obtain ⟨a0, n0, c0, a1, n1, c1, a2, n2, c2, a3, n3, c3, a4, n4, c4, a5, n5, c5, a6, n6, c6, a7, n7, c7, rfl, rfl, rfl, rfl, rfl, rfl, rfl, rfl⟩ := hM2.sls
      have HBw2 := hide (Below.on0 (unhide HBw1) hb2 (unhide HBw1).size)
      have hs1 := (unhide HB1).size
      have hs2 := hb2.size
      have hcm := (hb2.block w.heap.size (by omega)).trans (unhide HC1)
      have hco := (hb2.block (w.heap.size + 1) (by omega)).trans (unhide HO1)
      clear m0 m1 m2 m3 m4 m5 m6 m7 o0 o1
      obtain ⟨m0, m1, m2, m3, m4, m5, m6, m7⟩ := Ex.cel8 hcm
      obtain ⟨o0, o1⟩ := cel2 hco
      have l1 : w.heap.size < w2.heap.size := by omega
      have l2 : w.heap.size + 1 < w2.heap.size := by omega
      have HC2 := hide hcm; have HO2 := hide hco
      clear hb2 hM2 hcm hco HC1 HO1 HGv
      obtain ⟨a, hqa⟩ : ∃ a, IntKind.u64.wrap q = a := ⟨_, rfl⟩
      go_wp2_with fail
      obtain ⟨W3, hW3, r1, r2, r3, r4⟩ := start2m (w := w2) (ms := #[.slice a0 n0 c0, .slice a1 n1 c1, .slice a2 n2 c2, .slice a3 n3 c3, .slice a4 n4 c4, .slice a5 n5 c5, .slice a6 n6 c6, .slice a7 n7 c7]) (ss := #[.pointer none, .slice ta tl tc, .slice none 0 0]) (t := 47) (t2 := 90)
      rw [hW3]
      have hB3 := Below.on0 (unhide HBw2) r4 (unhide HBw2).size
      have ha : 0 ≤ a ∧ a < 18446744073709551616 := by rw [← hqa, IntKind.wrap_u64]; omega
      have hpk := pick_all (tbl := tbl) ((unhide HM2).moved (Mv.below (g' := Ex.gor (fun b => b < w.heap.size) w1.heap.size) r4 (fun _ _ h => h)) r4.size) (unhide HWf) (unhide HSz) (by rw [← unhide HTL]; exact r2) (Tab.moved hB3 (unhide HT)) p a ha
      have hrp : ∀ W, Below w.heap.size w W → _ := fun W hW => rpick_any (tbl := tbl) (fun b hb => by have := hW.size; exact Nat.lt_of_lt_of_le hb this) ((unhide HM).moved (Mv.below (g' := fun b => b < w.heap.size) hW (fun _ _ h => h)) hW.size) (unhide HWf) (unhide HSz) (Tab.moved hW (unhide HT)) (by have := unhide HTL; omega) p a ha
      have hpn : ∀ W, Below w2.heap.size w2 W → _ := fun W hW => pick_nil ((unhide HM2).moved (Mv.below (g' := Ex.gor (fun b => b < w.heap.size) w1.heap.size) hW (fun _ _ h => h)) hW.size) 0 0
      generalize pick M tbl p a = R at hpk hrp
      rw [← unhide HTL] at hrp
      have HPk := hide hpk; have HRp := hide hrp; have HPn := hide hpn; have HR1 := hide r1; have HR4 := hide r4
      clear hpk hrp hpn hW3 r1 r2 r4 hB3 m0 m1 m2 m3 m4 m5 m6 m7 o0 o1
      refine (unhide HPk).mono ?_
      rintro e w4 ⟨rfl, hb4⟩
      have h24 := Below.on (unhide HR4) hb4
      have hcm := (h24.block w.heap.size l1).trans (unhide HC2)
      have hco := (h24.block (w.heap.size + 1) l2).trans (unhide HO2)
      have hcw := (hb4.block w2.heap.size (by omega)).trans (unhide HR1)
      obtain ⟨m0, m1, m2, m3, m4, m5, m6, m7⟩ := Ex.cel8 hcm
      obtain ⟨o0, o1⟩ := cel2 hco
      have HX4 := hide (Below.on0 (unhide HBw2) h24 (unhide HBw2).size)
      have H24 := hide h24; have HCw := hide hcw
      have l4 : w2.heap.size < w4.heap.size := by have := hb4.size; omega
      clear hb4 h24 hcm hco hcw HPk HR1 HR4 HC2 HO2
      cases R with
      | none =>
        unfold pickV
        go_wp2_with fail
        refine (unhide HRp _ (unhide HX4)).mono ?_
        rintro e w5 ⟨rfl, hb5⟩
        have HX5 := hide (Below.on0 (unhide HX4) hb5 (unhide HX4).size)
        have H25 := hide (Below.on0 (unhide H24) hb5 (unhide H24).size)
        clear m0 m1 m2 m3 m4 m5 m6 m7 o0 o1
        obtain ⟨m0, m1, m2, m3, m4, m5, m6, m7⟩ := Ex.cel8 ((hb5.block w2.heap.size l4).trans (unhide HCw))
        clear hb5
        unfold rpickV
        go_wp2_with fail
        refine (unhide HPn _ (unhide H25)).mono ?_
        rintro e w6 ⟨rfl, hb6⟩
        have HX := hide (Below.on0 (unhide HX5) hb6 (unhide HX5).size)
        clear hb6 m0 m1 m2 m3 m4 m5 m6 m7
        unfold pickV
        go_wp2_with (first
          | (go_at_call 15; refine (num_hit 1 _ ((unhide HG).below (unhide HX)).2).mono ?_; rintro e w7 ⟨rfl, hb7⟩; have HX := hide (Below.on0 (unhide HX) hb7 (unhide HX).size); clear hb7)
          | (go_at_call 11; refine (unhide HSure _ (unhide HX)).mono ?_; rintro e w8 ⟨rfl, hb8⟩; have HX := hide (Below.on0 (unhide HX) hb8 (unhide HX).size); clear hb8))
        go_ret
        exact ⟨rfl, unhide HX⟩
      | some x =>
        obtain ⟨x1, x2⟩ := x
        unfold pickV
        go_wp2_with fail
        refine (unhide HRp _ (unhide HX4)).mono ?_
        rintro e w5 ⟨rfl, hb5⟩
        have HX5 := hide (Below.on0 (unhide HX4) hb5 (unhide HX4).size)
        have H25 := hide (Below.on0 (unhide H24) hb5 (unhide H24).size)
        clear m0 m1 m2 m3 m4 m5 m6 m7 o0 o1
        obtain ⟨m0, m1, m2, m3, m4, m5, m6, m7⟩ := Ex.cel8 ((hb5.block w2.heap.size l4).trans (unhide HCw))
        clear hb5
        unfold rpickV
        go_wp2_with fail
        refine (unhide HPn _ (unhide H25)).mono ?_
        rintro e w6 ⟨rfl, hb6⟩
        have HX := hide (Below.on0 (unhide HX5) hb6 (unhide HX5).size)
        clear hb6 m0 m1 m2 m3 m4 m5 m6 m7
        unfold pickV
        go_wp2_with (first
          | (go_at_call 15; refine (num_hit 1 _ ((unhide HG).below (unhide HX)).2).mono ?_; rintro e w7 ⟨rfl, hb7⟩; have HX := hide (Below.on0 (unhide HX) hb7 (unhide HX).size); clear hb7)
          | (go_at_call 11; refine (unhide HSure _ (unhide HX)).mono ?_; rintro e w8 ⟨rfl, hb8⟩; have HX := hide (Below.on0 (unhide HX) hb8 (unhide HX).size); clear hb8))
        go_ret
        exact ⟨rfl, unhide HX⟩
end Gm
end Go.Proofs.YtcljcnaglkbjcaaGreatDoor

/- Arguments opened: rows of numbers, two numbers in an array. -/
namespace Go.Proofs.YtcljcnaglkbjcaaGreatDoor
open Go.ChangeShapes Go.WideShapes Go.ChangeAt Go.RowKit
namespace Gm
set_option linter.unusedVariables false
set_option linter.unusedSimpArgs false
open Ex (Lies)
/-- numbers of 64 bits at a place -/
def Tau (w : World) (zs : List Int) (b o : Nat) : Prop := ∀ j, j < zs.length → w.cell? ⟨b, o + j, none⟩ = some (.int .u64 (zs.getD j 0))
theorem Tau.moved {w w' : World} (hb : Below w.heap.size w w') {zs : List Int} {v : Value} (h : Lies (fun _ => True) zs.length (Tau w zs) v) : Lies (fun _ => True) zs.length (Tau w' zs) v :=
  Ex.Lies.move h fun hl b o hg hp => ⟨trivial, fun j hj => (hb.cell (p := ⟨b, o + j, none⟩) (World.block_lt_of_cell? w _ (hp j hj))).trans (hp j hj)⟩
theorem open_i64s {H : Type} {enc : TypeId × Value → H} {w : World} {a : Option Addr} {n c : Nat} {d : DataW H} {p : List MemPlace}
    (h : DataW.Trod enc Tryz.prog w 0 (fun _ => true) true 52 (.slice a n c) d p) : ∃ zs : List Int, n = zs.length ∧ Lies (fun _ => True) zs.length (Tab w zs) (.slice a n c) ∧ ∀ z ∈ zs, -9223372036854775808 ≤ z ∧ z ≤ 9223372036854775807 := by
  obtain ⟨fuel, hf⟩ := h
  rcases open_ints Tryz.underlying52 Tryz.underlying3 (by kernel_rfl) hf with ⟨hcs, _⟩ | ⟨x, len, cap, zs, hcs, _, hl, hm, hz, _, hc, hw⟩
  · simp [Value.cells] at hcs
    obtain ⟨rfl, rfl, rfl⟩ := hcs
    exact ⟨[], rfl, ⟨none, 0, rfl, Nat.le_refl _, fun _ => rfl, fun h => by simp at h⟩, by simp⟩
  · simp [Value.cells] at hcs
    obtain ⟨rfl, rfl, rfl⟩ := hcs
    have hzl : zs.length = c := by simpa using hz
    have hlt : (zs.take n).length = n := by simp; omega
    refine ⟨zs.take n, hlt.symm, ⟨some x, c, by rw [hlt], by omega, by simp, fun h0 => ?_⟩, fun z hzm => ?_⟩
    · obtain ⟨b, off, spot⟩ := x
      have h00 := hc 0 (by omega)
      have hspot : spot = none := by simpa [Addr.add] using World.cell?_spot h00
      subst hspot
      refine ⟨b, off, rfl, trivial, fun i hi => ?_⟩
      have := hc i (by omega)
      rw [addr_add] at this
      rw [this]; simp [List.getD, show i < n by omega]
    · exact bounds_i64 (hw z (List.mem_of_mem_take hzm))
theorem open_u64s {H : Type} {enc : TypeId × Value → H} {w : World} {a : Option Addr} {n c : Nat} {d : DataW H} {p : List MemPlace}
    (h : DataW.Trod enc Tryz.prog w 0 (fun _ => true) true 53 (.slice a n c) d p) : ∃ zs : List Int, n = zs.length ∧ Lies (fun _ => True) zs.length (Tau w zs) (.slice a n c) ∧ ∀ z ∈ zs, 0 ≤ z ∧ z ≤ 18446744073709551615 := by
  obtain ⟨fuel, hf⟩ := h
  rcases open_ints Tryz.underlying53 Tryz.underlying72 (by kernel_rfl) hf with ⟨hcs, _⟩ | ⟨x, len, cap, zs, hcs, _, hl, hm, hz, _, hc, hw⟩
  · simp [Value.cells] at hcs
    obtain ⟨rfl, rfl, rfl⟩ := hcs
    exact ⟨[], rfl, ⟨none, 0, rfl, Nat.le_refl _, fun _ => rfl, fun h => by simp at h⟩, by simp⟩
  · simp [Value.cells] at hcs
    obtain ⟨rfl, rfl, rfl⟩ := hcs
    have hzl : zs.length = c := by simpa using hz
    have hlt : (zs.take n).length = n := by simp; omega
    refine ⟨zs.take n, hlt.symm, ⟨some x, c, by rw [hlt], by omega, by simp, fun h0 => ?_⟩, fun z hzm => ?_⟩
    · obtain ⟨b, off, spot⟩ := x
      have h00 := hc 0 (by omega)
      have hspot : spot = none := by simpa [Addr.add] using World.cell?_spot h00
      subst hspot
      refine ⟨b, off, rfl, trivial, fun i hi => ?_⟩
      have := hc i (by omega)
      rw [addr_add] at this
      rw [this]; simp [List.getD, show i < n by omega]
    · exact bounds_u64 (hw z (List.mem_of_mem_take hzm))
set_option maxRecDepth 100000 in
theorem open_arr2 {H : Type} {enc : TypeId × Value → H} {w : World} {r : Reach} {b0 base : Nat} {spare : Nat → Bool} {held : Bool} {v : Value} {d : DataW H} {p : List MemPlace}
    (hv : Value.okWide Tryz.prog w r b0 86 v) (h : DataW.Trod enc Tryz.prog w base spare held 86 v d p) :
    ∃ x y : Int, v = .agg #[.int .i64 x, .int .i64 y] ∧ (Lit.int .i64 x).wf = true ∧ (Lit.int .i64 y).wf = true := by
  have hc : ∃ cs, v = .agg cs ∧ cs.size = Tryz.prog.cellsOf 86 := by
    simp only [Value.okWide, Tryz.underlying86] at hv
    obtain ⟨cs, h1, h2, _⟩ := hv
    exact ⟨cs, h1, h2⟩
  obtain ⟨cs, rfl, hsz⟩ := hc
  obtain ⟨c0, c1, rfl⟩ := Go.Joins.array2 (hsz.trans (by kernel_rfl))
  obtain ⟨fuel, hf⟩ := h
  obtain ⟨xs, m, _, _, _, hxl, hxs⟩ := DataW.trod_array Tryz.underlying86 hf
  have e1 : Tryz.prog.cellsOf 2 = 1 := by kernel_rfl
  have h0 := hxs 0 (by omega)
  have h1 := hxs 1 (by omega)
  rw [e1] at h0 h1
  simp only [Value.cells, Nat.zero_mul, List.drop_zero, Nat.one_mul] at h0 h1
  rw [List.getElem?_eq_getElem (by omega)] at h0 h1
  obtain ⟨x, e0, _, wx⟩ := DataW.trod_int Tryz.underlying2 h0
  obtain ⟨y, e2, _, wy⟩ := DataW.trod_int Tryz.underlying2 h1
  simp at e0 e2
  subst e0 e2
  exact ⟨x, y, rfl, wx, wy⟩
end Gm
end Go.Proofs.YtcljcnaglkbjcaaGreatDoor

/- InstPicks returns true for every module, every table and every two numbers that together hold at most 1048576 values, and leaves them: the function that a value finds in a table, by a type, or the trap, or the error, is the document's. Of ops' tables and of errors.errorType it takes what the program's text lays (the card ties it). -/
namespace Go.Proofs.YtcljcnaglkbjcaaGreatDoor.instPicks
open Go.ChangeShapes Go.WideShapes Go.ChangeAt Go.RowKit
set_option linter.unusedVariables false

theorem own : ownKnob Tryz.prog.godebug = none := by kernel_rfl
theorem laidOut : laidOutB Tryz.prog = true := by kernel_rfl

theorem walk (M0 : Gm.Mod) (x00 x01 x02 x03 x04 x05 x06 x07 : Value) (a1 : Option Addr) (c1 : Nat) (z1 : List Int) (a2 c2 : Int) (w : World) (hErr : ErrT w) (hTb : Tb w) (h0 : Gm.ModL w (fun _ => True) M0 x00 x01 x02 x03 x04 x05 x06 x07) (f0 : Gm.WfM M0) (b0 : Gm.SzM M0) (h1 : Ex.Lies (fun _ => True) z1.length (Gm.Tab w z1) (.slice a1 z1.length c1)) (f1 : ∀ z ∈ z1, -9223372036854775808 ≤ z ∧ z ≤ 9223372036854775807) (w2 : (Lit.int .i64 a2).wf = true) (u2 : (Lit.int .i64 c2).wf = true) :
    Calls Tryz.prog 6 #[.agg #[x00, x01, x02, x03, x04, x05, x06, x07], .slice a1 z1.length c1, .agg #[.int .i64 a2, .int .i64 c2]] w fun e w' => e = .returned (.bool true) ∧ Below w.heap.size w w' := by
  exact Gm.picks_walk h0 f0 b0 ⟨hTb, hErr⟩ h1 a2 c2 (bounds_i64 w2) (bounds_i64 u2)

noncomputable def laidWorld (os : Os) : World := ({ World.holding Tryz.prog os ⟨#[], #[], []⟩ with heap := (((((((World.holding Tryz.prog os ⟨#[], #[], []⟩).heap.modify 0 fun | .cells _ t frozen => .cells #[.iface 255 (.agg #[.pointer (some ⟨6, 36, none⟩)])] t frozen | o => o).modify 2 fun | .cells _ t frozen => .cells #[.string ⟨#[117, 110, 114, 101, 97, 99, 104, 97, 98, 108, 101]⟩, .string ⟨#[110, 111, 112]⟩, .string ⟨#[98, 108, 111, 99, 107]⟩, .string ⟨#[108, 111, 111, 112]⟩, .string ⟨#[105, 102]⟩, .string ⟨#[]⟩, .string ⟨#[]⟩, .string ⟨#[]⟩, .string ⟨#[]⟩, .string ⟨#[]⟩, .string ⟨#[]⟩, .string ⟨#[]⟩, .string ⟨#[98, 114]⟩, .string ⟨#[98, 114, 95, 105, 102]⟩, .string ⟨#[98, 114, 95, 116, 97, 98, 108, 101]⟩, .string ⟨#[114, 101, 116, 117, 114, 110]⟩, .string ⟨#[99, 97, 108, 108]⟩, .string ⟨#[99, 97, 108, 108, 95, 105, 110, 100, 105, 114, 101, 99, 116]⟩, .string ⟨#[]⟩, .string ⟨#[]⟩, .string ⟨#[]⟩, .string ⟨#[]⟩, .string ⟨#[]⟩, .string ⟨#[]⟩, .string ⟨#[]⟩, .string ⟨#[]⟩, .string ⟨#[100, 114, 111, 112]⟩, .string ⟨#[115, 101, 108, 101, 99, 116]⟩, .string ⟨#[]⟩, .string ⟨#[]⟩, .string ⟨#[]⟩, .string ⟨#[]⟩, .string ⟨#[108, 111, 99, 97, 108, 46, 103, 101, 116]⟩, .string ⟨#[108, 111, 99, 97, 108, 46, 115, 101, 116]⟩, .string ⟨#[108, 111, 99, 97, 108, 46, 116, 101, 101]⟩, .string ⟨#[103, 108, 111, 98, 97, 108, 46, 103, 101, 116]⟩, .string ⟨#[103, 108, 111, 98, 97, 108, 46, 115, 101, 116]⟩, .string ⟨#[]⟩, .string ⟨#[]⟩, .string ⟨#[]⟩, .string ⟨#[105, 51, 50, 46, 108, 111, 97, 100]⟩, .string ⟨#[105, 54, 52, 46, 108, 111, 97, 100]⟩, .string ⟨#[]⟩, .string ⟨#[]⟩, .string ⟨#[105, 51, 50, 46, 108, 111, 97, 100, 56, 95, 115]⟩, .string ⟨#[105, 51, 50, 46, 108, 111, 97, 100, 56, 95, 117]⟩, .string ⟨#[105, 51, 50, 46, 108, 111, 97, 100, 49, 54, 95, 115]⟩, .string ⟨#[105, 51, 50, 46, 108, 111, 97, 100, 49, 54, 95, 117]⟩, .string ⟨#[105, 54, 52, 46, 108, 111, 97, 100, 56, 95, 115]⟩, .string ⟨#[105, 54, 52, 46, 108, 111, 97, 100, 56, 95, 117]⟩, .string ⟨#[105, 54, 52, 46, 108, 111, 97, 100, 49, 54, 95, 115]⟩, .string ⟨#[105, 54, 52, 46, 108, 111, 97, 100, 49, 54, 95, 117]⟩, .string ⟨#[105, 54, 52, 46, 108, 111, 97, 100, 51, 50, 95, 115]⟩, .string ⟨#[105, 54, 52, 46, 108, 111, 97, 100, 51, 50, 95, 117]⟩, .string ⟨#[105, 51, 50, 46, 115, 116, 111, 114, 101]⟩, .string ⟨#[105, 54, 52, 46, 115, 116, 111, 114, 101]⟩, .string ⟨#[]⟩, .string ⟨#[]⟩, .string ⟨#[105, 51, 50, 46, 115, 116, 111, 114, 101, 56]⟩, .string ⟨#[105, 51, 50, 46, 115, 116, 111, 114, 101, 49, 54]⟩, .string ⟨#[105, 54, 52, 46, 115, 116, 111, 114, 101, 56]⟩, .string ⟨#[105, 54, 52, 46, 115, 116, 111, 114, 101, 49, 54]⟩, .string ⟨#[105, 54, 52, 46, 115, 116, 111, 114, 101, 51, 50]⟩, .string ⟨#[109, 101, 109, 111, 114, 121, 46, 115, 105, 122, 101]⟩, .string ⟨#[109, 101, 109, 111, 114, 121, 46, 103, 114, 111, 119]⟩, .string ⟨#[105, 51, 50, 46, 99, 111, 110, 115, 116]⟩, .string ⟨#[105, 54, 52, 46, 99, 111, 110, 115, 116]⟩] t frozen | o => o).modify 3 fun | .cells _ t frozen => .cells #[.string ⟨#[105, 51, 50, 46, 101, 113, 122]⟩, .string ⟨#[105, 51, 50, 46, 101, 113]⟩, .string ⟨#[105, 51, 50, 46, 110, 101]⟩, .string ⟨#[105, 51, 50, 46, 108, 116, 95, 115]⟩, .string ⟨#[105, 51, 50, 46, 108, 116, 95, 117]⟩, .string ⟨#[105, 51, 50, 46, 103, 116, 95, 115]⟩, .string ⟨#[105, 51, 50, 46, 103, 116, 95, 117]⟩, .string ⟨#[105, 51, 50, 46, 108, 101, 95, 115]⟩, .string ⟨#[105, 51, 50, 46, 108, 101, 95, 117]⟩, .string ⟨#[105, 51, 50, 46, 103, 101, 95, 115]⟩, .string ⟨#[105, 51, 50, 46, 103, 101, 95, 117]⟩, .string ⟨#[105, 54, 52, 46, 101, 113, 122]⟩, .string ⟨#[105, 54, 52, 46, 101, 113]⟩, .string ⟨#[105, 54, 52, 46, 110, 101]⟩, .string ⟨#[105, 54, 52, 46, 108, 116, 95, 115]⟩, .string ⟨#[105, 54, 52, 46, 108, 116, 95, 117]⟩, .string ⟨#[105, 54, 52, 46, 103, 116, 95, 115]⟩, .string ⟨#[105, 54, 52, 46, 103, 116, 95, 117]⟩, .string ⟨#[105, 54, 52, 46, 108, 101, 95, 115]⟩, .string ⟨#[105, 54, 52, 46, 108, 101, 95, 117]⟩, .string ⟨#[105, 54, 52, 46, 103, 101, 95, 115]⟩, .string ⟨#[105, 54, 52, 46, 103, 101, 95, 117]⟩] t frozen | o => o).modify 4 fun | .cells _ t frozen => .cells #[.string ⟨#[105, 51, 50, 46, 99, 108, 122]⟩, .string ⟨#[105, 51, 50, 46, 99, 116, 122]⟩, .string ⟨#[105, 51, 50, 46, 112, 111, 112, 99, 110, 116]⟩, .string ⟨#[105, 51, 50, 46, 97, 100, 100]⟩, .string ⟨#[105, 51, 50, 46, 115, 117, 98]⟩, .string ⟨#[105, 51, 50, 46, 109, 117, 108]⟩, .string ⟨#[105, 51, 50, 46, 100, 105, 118, 95, 115]⟩, .string ⟨#[105, 51, 50, 46, 100, 105, 118, 95, 117]⟩, .string ⟨#[105, 51, 50, 46, 114, 101, 109, 95, 115]⟩, .string ⟨#[105, 51, 50, 46, 114, 101, 109, 95, 117]⟩, .string ⟨#[105, 51, 50, 46, 97, 110, 100]⟩, .string ⟨#[105, 51, 50, 46, 111, 114]⟩, .string ⟨#[105, 51, 50, 46, 120, 111, 114]⟩, .string ⟨#[105, 51, 50, 46, 115, 104, 108]⟩, .string ⟨#[105, 51, 50, 46, 115, 104, 114, 95, 115]⟩, .string ⟨#[105, 51, 50, 46, 115, 104, 114, 95, 117]⟩, .string ⟨#[105, 51, 50, 46, 114, 111, 116, 108]⟩, .string ⟨#[105, 51, 50, 46, 114, 111, 116, 114]⟩, .string ⟨#[105, 54, 52, 46, 99, 108, 122]⟩, .string ⟨#[105, 54, 52, 46, 99, 116, 122]⟩, .string ⟨#[105, 54, 52, 46, 112, 111, 112, 99, 110, 116]⟩, .string ⟨#[105, 54, 52, 46, 97, 100, 100]⟩, .string ⟨#[105, 54, 52, 46, 115, 117, 98]⟩, .string ⟨#[105, 54, 52, 46, 109, 117, 108]⟩, .string ⟨#[105, 54, 52, 46, 100, 105, 118, 95, 115]⟩, .string ⟨#[105, 54, 52, 46, 100, 105, 118, 95, 117]⟩, .string ⟨#[105, 54, 52, 46, 114, 101, 109, 95, 115]⟩, .string ⟨#[105, 54, 52, 46, 114, 101, 109, 95, 117]⟩, .string ⟨#[105, 54, 52, 46, 97, 110, 100]⟩, .string ⟨#[105, 54, 52, 46, 111, 114]⟩, .string ⟨#[105, 54, 52, 46, 120, 111, 114]⟩, .string ⟨#[105, 54, 52, 46, 115, 104, 108]⟩, .string ⟨#[105, 54, 52, 46, 115, 104, 114, 95, 115]⟩, .string ⟨#[105, 54, 52, 46, 115, 104, 114, 95, 117]⟩, .string ⟨#[105, 54, 52, 46, 114, 111, 116, 108]⟩, .string ⟨#[105, 54, 52, 46, 114, 111, 116, 114]⟩] t frozen | o => o).modify 5 fun | .cells _ t frozen => .cells #[.int .u8 0, .int .u8 1, .int .i64 0, .int .u8 0, .int .u8 0, .int .u8 0, .int .u8 2, .int .u8 3, .int .i64 6, .int .u8 0, .int .u8 0, .int .u8 0, .int .u8 4, .int .u8 4, .int .i64 7, .int .u8 0, .int .u8 0, .int .u8 0, .int .u8 12, .int .u8 13, .int .i64 3, .int .u8 0, .int .u8 0, .int .u8 0, .int .u8 14, .int .u8 14, .int .i64 8, .int .u8 0, .int .u8 0, .int .u8 0, .int .u8 15, .int .u8 15, .int .i64 0, .int .u8 0, .int .u8 0, .int .u8 0, .int .u8 16, .int .u8 16, .int .i64 3, .int .u8 0, .int .u8 0, .int .u8 0, .int .u8 17, .int .u8 17, .int .i64 9, .int .u8 0, .int .u8 0, .int .u8 0, .int .u8 26, .int .u8 27, .int .i64 0, .int .u8 0, .int .u8 0, .int .u8 0, .int .u8 32, .int .u8 36, .int .i64 3, .int .u8 0, .int .u8 0, .int .u8 0, .int .u8 40, .int .u8 40, .int .i64 4, .int .u8 127, .int .u8 0, .int .u8 127, .int .u8 41, .int .u8 41, .int .i64 4, .int .u8 127, .int .u8 0, .int .u8 126, .int .u8 44, .int .u8 47, .int .i64 4, .int .u8 127, .int .u8 0, .int .u8 127, .int .u8 48, .int .u8 53, .int .i64 4, .int .u8 127, .int .u8 0, .int .u8 126, .int .u8 54, .int .u8 54, .int .i64 4, .int .u8 127, .int .u8 127, .int .u8 0, .int .u8 55, .int .u8 55, .int .i64 4, .int .u8 127, .int .u8 126, .int .u8 0, .int .u8 58, .int .u8 59, .int .i64 4, .int .u8 127, .int .u8 127, .int .u8 0, .int .u8 60, .int .u8 62, .int .i64 4, .int .u8 127, .int .u8 126, .int .u8 0, .int .u8 63, .int .u8 63, .int .i64 5, .int .u8 0, .int .u8 0, .int .u8 127, .int .u8 64, .int .u8 64, .int .i64 5, .int .u8 127, .int .u8 0, .int .u8 127, .int .u8 65, .int .u8 65, .int .i64 1, .int .u8 0, .int .u8 0, .int .u8 127, .int .u8 66, .int .u8 66, .int .i64 2, .int .u8 0, .int .u8 0, .int .u8 126, .int .u8 69, .int .u8 69, .int .i64 0, .int .u8 127, .int .u8 0, .int .u8 127, .int .u8 70, .int .u8 79, .int .i64 0, .int .u8 127, .int .u8 127, .int .u8 127, .int .u8 80, .int .u8 80, .int .i64 0, .int .u8 126, .int .u8 0, .int .u8 127, .int .u8 81, .int .u8 90, .int .i64 0, .int .u8 126, .int .u8 126, .int .u8 127, .int .u8 103, .int .u8 105, .int .i64 0, .int .u8 127, .int .u8 0, .int .u8 127, .int .u8 106, .int .u8 120, .int .i64 0, .int .u8 127, .int .u8 127, .int .u8 127, .int .u8 121, .int .u8 123, .int .i64 0, .int .u8 126, .int .u8 0, .int .u8 126, .int .u8 124, .int .u8 138, .int .i64 0, .int .u8 126, .int .u8 126, .int .u8 126, .int .u8 167, .int .u8 167, .int .i64 0, .int .u8 126, .int .u8 0, .int .u8 127, .int .u8 172, .int .u8 173, .int .i64 0, .int .u8 127, .int .u8 0, .int .u8 126] t frozen | o => o).modify 1 fun | .cells _ t frozen => .cells #[.int .u8 0, .int .u8 0, .int .u8 0, .int .u8 0, .int .u8 0, .int .u8 0, .int .u8 0, .int .u8 0, .int .u8 0, .int .u8 0, .int .u8 0, .int .u8 0, .int .u8 0, .int .u8 0, .int .u8 0, .int .u8 0, .int .u8 0, .int .u8 0, .int .u8 0, .int .u8 0, .int .u8 0, .int .u8 0, .int .u8 0, .int .u8 0, .int .u8 0, .int .u8 0, .int .u8 0, .int .u8 0, .int .u8 0, .int .u8 0, .int .u8 0, .int .u8 0, .int .u8 0, .int .u8 0, .int .u8 0, .int .u8 0, .int .u8 0, .int .u8 0, .int .u8 0, .int .u8 0, .int .u8 4, .int .u8 8, .int .u8 0, .int .u8 0, .int .u8 1, .int .u8 1, .int .u8 2, .int .u8 2, .int .u8 1, .int .u8 1, .int .u8 2, .int .u8 2, .int .u8 4, .int .u8 4, .int .u8 4, .int .u8 8, .int .u8 0, .int .u8 0, .int .u8 1, .int .u8 2, .int .u8 1, .int .u8 2, .int .u8 4] t frozen | o => o) } : World)
set_option maxRecDepth 100000 in
theorem laid_met (os : Os) : laidMetH Tryz.prog Rows.instPicksUptoRow.laid ((laidWorld os).forCall (fun _ _ => 0) ⟨#[], #[.agg #[.slice none 0 0, .slice none 0 0, .slice none 0 0, .slice none 0 0, .slice none 0 0, .slice none 0 0, .slice none 0 0, .slice none 0 0], .slice none 0 0, .agg #[.int .i64 0, .int .i64 0]], []⟩).memory :=
  laidMetH_of_parts (laidMet_of_run' 8 (by kernel_rfl) (by kernel_rfl)) (by kernel_rfl)
set_option maxRecDepth 100000 in
theorem reads (os : Os) {H : Type} (enc : TypeId × Value → H) : ∃ places, DataW.whole enc Tryz.prog ((laidWorld os).forCall (fun _ _ => 0) ⟨#[], #[.agg #[.slice none 0 0, .slice none 0 0, .slice none 0 0, .slice none 0 0, .slice none 0 0, .slice none 0 0, .slice none 0 0, .slice none 0 0], .slice none 0 0, .agg #[.int .i64 0, .int .i64 0]], []⟩).memory Tryz.f6.params.toList Rows.instPicksSpec.vars false (#[.agg #[.slice none 0 0, .slice none 0 0, .slice none 0 0, .slice none 0 0, .slice none 0 0, .slice none 0 0, .slice none 0 0, .slice none 0 0], .slice none 0 0, .agg #[.int .i64 0, .int .i64 0]] : Array Value).toList 8 = some ([.agg [.nil, .nil, .nil, .nil, .nil, .nil, .nil, .nil], .nil, .agg [.lit (.int .i64 0), .lit (.int .i64 0)]], [], places) :=
  ⟨[], by kernel_rfl⟩

set_option maxRecDepth 100000 in
theorem contract (H : Type) (enc : TypeId × Value → H) (W : World) (base : Nat) (args : Array Value) (ds gs : List (DataW H)) (before : List MemPlace)
    (hval0 : ∀ (j : Nat) t v, Tryz.f6.params[j]? = some t → args[j]? = some v → Value.okWide Tryz.prog W .any base t v)
    (hW : DataW.Whole enc Tryz.prog Tryz.f6.params.toList Rows.instPicksSpec.vars false W args.toList ds gs before) (hL : laidMetH Tryz.prog Rows.instPicksUptoRow.laid W) (hk0 : Rows.uptoSmall H (ds ++ gs) = true) :
    Calls Tryz.prog 6 args W fun e W' => ∃ v, e = .returned v ∧ Rows.instPicksSpec.post enc Tryz.prog Tryz.f6 false true false false W args v W' := by
  have hLL : laidMet Tryz.prog [("mandrel/ops.names", Rows.laid_mandrel_ops_names), ("mandrel/ops.testNames", Rows.laid_mandrel_ops_testNames), ("mandrel/ops.reckonNames", Rows.laid_mandrel_ops_reckonNames), ("mandrel/ops.families", Rows.laid_mandrel_ops_families), ("mandrel/ops.accessBytes", Rows.laid_mandrel_ops_accessBytes)] W ∧ handlesMet Tryz.prog [("errors.errorType", Rows.laid_errors_errorType)] W := hL
  have hg : ErrT W := handle_of_met hLL.2
  have hgTb : Tb W := ⟨⟨names_laid hLL.1, tests_laid hLL.1.tail, reckons_laid hLL.1.tail.tail⟩, families_laid hLL.1.tail.tail.tail, access_laid hLL.1.tail.tail.tail.tail⟩
  have hval : ∀ (j : Nat) t v, Tryz.f6.params[j]? = some t → args[j]? = some v → Value.okWide Tryz.prog W .any base t v := hval0
  have hk1 := Ex.small_of hk0
  have hW' := hW
  obtain ⟨p, q, hA0, hV, rfl, hfz, hnd⟩ := hW
  have hA : DataW.TrodAll enc Tryz.prog W 0 (fun _ => true) true Tryz.f6.params.toList args.toList ds p := hA0
  rw [Tryz.params6] at hA hval
  obtain ⟨v0, vs0, d0, ds0, p0, q0, hargs, rfl, rfl, h0, r0⟩ := trodAll_cons hA
  obtain ⟨v1, vs1, d1, ds1, p1, q1, rfl, rfl, rfl, h1, r1⟩ := trodAll_cons r0
  obtain ⟨v2, vs2, d2, ds2, p2, q2, rfl, rfl, rfl, h2, r2⟩ := trodAll_cons r1
  obtain ⟨rfl, rfl, rfl⟩ := trodAll_nil r2
  obtain rfl : args = #[v0, v1, v2] := by cases args; simp_all
  obtain ⟨rfl, rfl⟩ := trodVars_none hV
  have hk : Rows.uptoBulkAll [d0, d1, d2] ≤ 1048576 := hk1
  have m0 := h0
  have lt0 : ∀ x ∈ p0, x.block < W.heap.size := by obtain ⟨m, hm⟩ := m0; exact DataW.trod_lt m _ _ _ hm
  obtain ⟨cs0, hcs0, _⟩ := okWide_struct Tryz.underlying30 (hval 0 30 v0 rfl rfl)
  obtain ⟨M0, x00, x01, x02, x03, x04, x05, x06, x07, rfl, h0c, f0, b0'⟩ := Gm.open_mod hcs0 h0
  have b0 := b0' (Nat.le_trans (Ex.bulk_at (ds := _) (i := 0) rfl) hk)
  have m1 := h1
  have lt1 : ∀ x ∈ p1, x.block < W.heap.size := by obtain ⟨m, hm⟩ := m1; exact DataW.trod_lt m _ _ _ hm
  obtain ⟨a1, n1, c1, rfl⟩ := okWide_slice Tryz.underlying52 (hval 1 52 v1 rfl rfl)
  obtain ⟨z1, rfl, h1c, f1⟩ := Gm.open_i64s h1
  have m2 := h2
  have lt2 : ∀ x ∈ p2, x.block < W.heap.size := by obtain ⟨m, hm⟩ := m2; exact DataW.trod_lt m _ _ _ hm
  obtain ⟨a2, c2, rfl, w2, u2⟩ := Gm.open_arr2 (hval 2 86 v2 rfl rfl) h2
  clear hA0 hval0
  refine (walk M0 x00 x01 x02 x03 x04 x05 x06 x07 a1 c1 z1 a2 c2 W hg hgTb h0c f0 b0 h1c f1 w2 u2).mono fun e W' ⟨he, bel⟩ => ?_
  subst he
  exact ⟨_, rfl, _, _, _, [], _, [], hW', trodAll_mk1 (shut_bool Tryz.underlying4 _), (trodAll_cons_mk (Below.trod laidOut (by kernel_rfl) (of_decide_eq_true (by kernel_rfl)) m0 bel lt0) (trodAll_cons_mk (Below.trod laidOut (by kernel_rfl) (of_decide_eq_true (by kernel_rfl)) m1 bel lt1) (trodAll_cons_mk (Below.trod laidOut (by kernel_rfl) (of_decide_eq_true (by kernel_rfl)) m2 bel lt2) trodAll_mk0))), rfl, bel.frame _, fun h => by cases h⟩

set_option maxRecDepth 100000 in
theorem lifted (os : Os) (started : os.Started) (H : Type) (enc : TypeId × Value → H) (F : Stop.Interp) :
    ReturnsInHanded {} Tryz.checked os 6 .any ((Rows.OpenSpec.upto Rows.instPicksSpec).preRow enc Tryz.prog Tryz.f6 Rows.instPicksUptoRow.domain false Rows.instPicksUptoRow.laid) (((Rows.OpenSpec.upto Rows.instPicksSpec).at F).post enc Tryz.prog Tryz.f6 false true false false) := by
  obtain ⟨places, hx⟩ := reads os enc
  refine returnsInHanded_of_row (C := Tryz.checked) (s := Rows.OpenSpec.upto Rows.instPicksSpec) own started (by kernel_rfl) Tryz.func6
    (witness_row_at (enc := enc) (C := Tryz.checked) false (laidWorld os) #[.agg #[.slice none 0 0, .slice none 0 0, .slice none 0 0, .slice none 0 0, .slice none 0 0, .slice none 0 0, .slice none 0 0, .slice none 0 0], .slice none 0 0, .agg #[.int .i64 0, .int .i64 0]] rfl (by kernel_rfl) (by kernel_rfl) (by kernel_rfl)
      (OpenSpec.preRow_of_cond 8 hx (by kernel_rfl) (fun k hk => by cases hk; kernel_rfl) (by kernel_rfl) (laid_met os))) ?_
  intro W base args ds gs before hval hW _ hcond _ hL _ _
  exact contract H enc W base args ds gs before hval hW hL (hcond _ rfl)

theorem proved : Rows.InstPicksUptoSaid :=
  OpenClaim.holds_of_cond 6 Tryz.f6 rfl rfl rfl rfl rfl rfl rfl ⟨rfl, rfl, rfl, rfl, rfl⟩ rfl rfl rfl rfl rfl (by kernel_rfl) Tryz.func6 (by kernel_rfl)
    (of_decide_eq_true (by kernel_rfl)) (by unfold Func.isWrapper; first | (rw [if_pos (by decide +kernel)]; kernel_rfl) | (rw [if_neg (by decide +kernel)]; exact ⟨rfl, rfl⟩))
    (fun os started H enc _ F => by rw [OpenClaim.pre_eq_preRow]; exact lifted os started H enc F)
end Go.Proofs.YtcljcnaglkbjcaaGreatDoor.instPicks

namespace Go.Proofs.YtcljcnaglkbjcaaGreatDoor
theorem instPicks_upto_card : Rows.InstPicksUptoCardSaid :=
  Claim7.holds_tied_plain_at .later [] _ _ _ _ instPicks.proved (fun _ h => by cases h) (by kernel_rfl) (fun _ h => by cases h) instPicksUpto_row_tie rfl ⟨rfl, rfl⟩ (by kernel_rfl) rfl
    (fun f fn hf hfn => by
      obtain rfl : 6 = f := Option.some.inj (Eq.trans (by kernel_rfl) hf)
      obtain rfl : fn = Tryz.f6 := (Option.some.inj (Tryz.func6.symm.trans hfn)).symm
      exact ⟨by kernel_rfl, fun j t ht => by
        rw [Tryz.params6] at ht
        rcases j with _ | _ | _ | j
        · obtain rfl : t = 30 := by simpa using ht.symm
          exact (show Tryz.prog.wantsStandIn 30 = false by kernel_rfl)
        · obtain rfl : t = 52 := by simpa using ht.symm
          exact (show Tryz.prog.wantsStandIn 52 = false by kernel_rfl)
        · obtain rfl : t = 86 := by simpa using ht.symm
          exact (show Tryz.prog.wantsStandIn 86 = false by kernel_rfl)
        · simp at ht⟩)
    (by kernel_rfl)
end Go.Proofs.YtcljcnaglkbjcaaGreatDoor
