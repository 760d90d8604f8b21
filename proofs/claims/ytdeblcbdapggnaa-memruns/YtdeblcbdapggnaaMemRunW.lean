/- MemRuns: the walk. -/
import Derived.Test.YtdeblcbdapggnaaMemRunA
import Derived.Deep.QuietTactic
import Derived.BigQuiet
import Derived.Deep.RegionWith
namespace Go.Proofs.Ytdeblcbdapggnaa
open Go.RowKit Mm
set_option linter.unusedVariables false

theorem both_new {w w1 : World} {K N : Nat} (hm : MemAt w1 (w.heap.size + 1) w.heap.size (N * 4096) (N * 4096) K (List.replicate (N * 4096) 0)) (hb : Below w.heap.size w w1) (hs : w1.heap.size = w.heap.size + 2) (hNK : N ≤ K) :
    Both w (w1.alloc (.cells #[.int .i64 N, .int .i64 K, .slice none 0 0] 31)) K N (List.replicate (N * 4096) 0) w.heap.size (N * 4096) none 0 0 := by
  have ha : Below w1.heap.size w1 (w1.alloc (.cells #[.int .i64 N, .int .i64 K, .slice none 0 0] 31)) := (Below.refl _ _).alloc (Nat.le_refl _) _
  refine ⟨hNK, hm.below (Nat.le_refl _) ha, Nat.le_refl _, ?_, ?_, Below.on hb ha⟩
  · rw [nz_zero]
    exact ⟨World.ownsRow_nil _ _ _ _, by simp, by simp⟩
  · rw [← hs]; exact heap_alloc_new _ _

set_option maxRecDepth 100000 in
set_option maxHeartbeats 8000000 in
theorem runs_any (pg mo : Int) (al : Option Addr) (ll cl : Nat) (A : Nat → Int × Int × Int × Int × Int) (w : World) (hA : Acts w al ll A) (K N : Nat) (hK : (IntKind.u64.wrap mo).tmod 17 = (K : Int)) (hK16 : K ≤ 16) (hN : (IntKind.u64.wrap pg).tmod ((K : Int) + 1) = (N : Int)) (hNK : N ≤ K) :
    Calls Try.prog 3 #[.int .i64 pg, .int .i64 mo, .slice al ll cl] w fun e w' => e = .returned (.bool true) ∧ Below w.heap.size w w' := by
  have H := hide hA; clear hA
  go_enter Try.func3, Try.ntmps3
  go_wp2_with fail
  generalize IntKind.u64.wrap pg = Wp at *
  generalize IntKind.u64.wrap mo = Wm at *
  clear hN hK
  refine (new_yes2 N K _ (by omega) (by omega) (by omega)).mono ?_
  rintro e w1 ⟨rfl, hm1, hb1, hs1⟩
  simp only [Int.toNat_natCast] at hm1
  have hBo := both_new hm1 hb1 hs1 hNK
  have HBo := hide hBo; have HS1 := hide hs1
  clear hm1 hb1 hBo hs1
  go_wp2_with fail
  rw [unhide HS1]
  have hlen := (unhide H).len
  go_loopw [12] (fun i wr => RunRel w K ll i wr) (fun i _ => (ll - intOf i).toNat)
  case atStart => exact ⟨0, N, _, _, _, _, _, _, by omega, by omega, rfl, unhide HBo⟩
  case round =>
    obtain ⟨j, P, zs, g, capm, ad, n, cap, hjl, hj40, rfl, hbo⟩ := hrel
    clear HBo HS1
    by_cases hl1 : j < ll
    · by_cases hl2 : j < 40
      · obtain ⟨b, off, rfl, hbw, hcs⟩ := (unhide H).at_ (by omega)
        obtain ⟨c0, c1, c2, c3, c4⟩ := hcs j hl1
        obtain ⟨bd1, bd2, bd3, bd4⟩ := (unhide H).bd j hl1
        generalize A j = act at *
        obtain ⟨q, ta, to, ts, tv⟩ := act
        simp only at c0 c1 c2 c3 c4 bd1 bd2 bd3 bd4
        have hk := fun o => hbo.b.cell (p := ⟨b, o, none⟩) hbw
        have d0 := (hk _).trans c0; have d1 := (hk _).trans c1; have d2 := (hk _).trans c2; have d3 := (hk _).trans c3; have d4 := (hk _).trans c4
        clear hcs c0 c1 c2 c3 c4 hk
        have x0 : wr.cell? ⟨w.heap.size + 2, 0, none⟩ = some (.int .i64 P) := by rw [cell_of_row wr _ 0 _ _ _ hbo.x]; rfl
        have x1 : wr.cell? ⟨w.heap.size + 2, 1, none⟩ = some (.int .i64 K) := by rw [cell_of_row wr _ 1 _ _ _ hbo.x]; rfl
        have x2 : wr.cell? ⟨w.heap.size + 2, 2, none⟩ = some (.slice ad n cap) := by rw [cell_of_row wr _ 2 _ _ _ hbo.x]; rfl
        have hlt2 := hbo.lt2
        have hj1 : (j : Int) < ll := by omega
        have hj2 : (j : Int) < 40 := by omega
        obtain ⟨V, rfl⟩ := Int.eq_ofNat_of_zero_le bd4.1
        have hV1 := bd4.2
        have hPK := hbo.pk
        obtain ⟨wA, hwA⟩ : ∃ wA, wr.alloc (.cells #[.int .i64 q, .int .u64 ta, .int .u64 to, .int .i64 ts, .int .u64 V] 34) = wA := ⟨_, rfl⟩
        have hbA : Below wr.heap.size wr wA := by rw [← hwA]; exact (Below.refl _ _).alloc (Nat.le_refl _) _
        have haA : wA.heap[wr.heap.size]? = some (.cells #[.int .i64 q, .int .u64 ta, .int .u64 to, .int .i64 ts, .int .u64 V] 34 (0, 0)) := by rw [← hwA]; exact heap_alloc_new _ _
        have hboA := hbo.later hbA
        have hT1 : w.heap.size + 2 < wr.heap.size := hbo.lt2
        have HWA := hide hwA; have HAA := hide haA; have HBA := hide hboA
        have B1 := hide bd1; have B2 := hide bd2; have B3 := hide bd3
        clear hbo hl1 hl2 hjl hj40 bd1 bd2 bd3 bd4 hwA haA hbA hboA
        have hmod : (IntKind.u64.wrap q).tmod 7 = IntKind.u64.wrap q % 7 := Int.tmod_eq_emod_of_nonneg (by rw [IntKind.wrap_u64]; omega)
        have hq7 : (IntKind.u64.wrap q).tmod 7 = 0 ∨ (IntKind.u64.wrap q).tmod 7 = 1 ∨ (IntKind.u64.wrap q).tmod 7 = 2 ∨ (IntKind.u64.wrap q).tmod 7 = 3 ∨ (IntKind.u64.wrap q).tmod 7 = 4 ∨ (IntKind.u64.wrap q).tmod 7 = 5 ∨ (IntKind.u64.wrap q).tmod 7 = 6 := by rw [hmod]; omega
        clear hmod
        rcases hq7 with hT | hT | hT | hT | hT | hT | hT
        · by_cases hg : (V : Int) + P ≤ K
          · go_wp2_with fail
            rw [unhide HWA]
            refine (refGrow_yes P cap n ad K V wA (by omega) hg (by omega)).mono ?_
            rintro e wB ⟨rfl, hbB⟩
            have hboB := (unhide HBA).later hbB
            have haB := (hbB.block _ (Array.getElem?_eq_some_iff.1 (unhide HAA)).1).trans (unhide HAA)
            generalize wr.heap.size = T at *
            have hTB : T < wB.heap.size := (Array.getElem?_eq_some_iff.1 haB).1
            have a1 : wB.cell? ⟨T, 1, none⟩ = some (.int .u64 ta) := by rw [cell_of_row wB _ 1 _ _ _ haB]; rfl
            have a2 : wB.cell? ⟨T, 2, none⟩ = some (.int .u64 to) := by rw [cell_of_row wB _ 2 _ _ _ haB]; rfl
            have a3 : wB.cell? ⟨T, 3, none⟩ = some (.int .i64 ts) := by rw [cell_of_row wB _ 3 _ _ _ haB]; rfl
            have a4 : wB.cell? ⟨T, 4, none⟩ = some (.int .u64 V) := by rw [cell_of_row wB _ 4 _ _ _ haB]; rfl
            have y0 : wB.cell? ⟨w.heap.size + 2, 0, none⟩ = some (.int .i64 P) := by rw [cell_of_row wB _ 0 _ _ _ hboB.x]; rfl
            have y1 : wB.cell? ⟨w.heap.size + 2, 1, none⟩ = some (.int .i64 K) := by rw [cell_of_row wB _ 1 _ _ _ hboB.x]; rfl
            have y2 : wB.cell? ⟨w.heap.size + 2, 2, none⟩ = some (.slice ad n cap) := by rw [cell_of_row wB _ 2 _ _ _ hboB.x]; rfl
            have z0 := frozen_of_row wB (w.heap.size + 2) 0 _ _ hboB.x
            have z1 := frozen_of_row wB (w.heap.size + 2) 1 _ _ hboB.x
            have z2 := frozen_of_row wB (w.heap.size + 2) 2 _ _ hboB.x
            have hSB : w.heap.size + 2 < wB.heap.size := hboB.lt2
            have hsg : w.heap.size ≤ g := hboB.sg
            have HSG := hide hsg
            clear hsg
            have hput := hboB.put ((P : Int) + (V : Int)) ad n cap (zs ++ List.replicate (V * 4096) 0) (.cells #[.int .i64 ((P : Int) + (V : Int)), .int .i64 K, .slice ad n cap] 31) (by rw [nz_grown]; exact hboB.l)
            have HPU := hide hput
            clear hbB hboB haB d0 d1 d2 d3 d4 x0 x1 x2 hput HWA HAA HBA
            go_wp2_with fail
            refine (grow_yes (unhide HPU).1 V (by omega) hg (by omega)).mono ?_
            rintro e wE ⟨rfl, g', capm', hmE, hoE, hgE⟩
            simp only [Int.toNat_natCast] at hmE
            have hboE := both_mk (P' := P + V) (unhide HPU) (by omega) (unhide HSG) hmE hoE hgE (by omega)
            clear hmE hoE hgE HPU HSG a1 a2 a3 a4 y0 y1 y2 z0 z1 z2
            generalize hPV : P + V = PV at *
            have HPV := hide hPV; clear hPV
            have p0 : wE.cell? ⟨w.heap.size + 2, 0, none⟩ = some (.int .i64 PV) := by rw [cell_of_row wE _ 0 _ _ _ hboE.x]; rfl
            have hpg := pages_q hboE.m PV rfl
            have HBE := hide hboE; have HPG := hide hpg
            clear hboE hpg
            go_wp2_with fail
            go_quiet ((go_at_call 14; exact Calls.quiet_of_same (unhide HPG _)))
            go_wp2
            go_roundw
            case rel => exact ⟨j + 1, PV, _, _, _, _, _, _, by omega, by omega, by go_num, (unhide HBE).later (below_drewN (Below.refl _ _) _)⟩
            case measure => simp [intOf]; omega
          · go_wp2_with fail
            rw [unhide HWA]
            refine (refGrow_no P cap n ad K V wA (by omega) (by omega) (by omega)).mono ?_
            rintro e wB ⟨rfl, hbB⟩
            have hboB := (unhide HBA).later hbB
            have haB := (hbB.block _ (Array.getElem?_eq_some_iff.1 (unhide HAA)).1).trans (unhide HAA)
            generalize wr.heap.size = T at *
            have hTB : T < wB.heap.size := (Array.getElem?_eq_some_iff.1 haB).1
            have a1 : wB.cell? ⟨T, 1, none⟩ = some (.int .u64 ta) := by rw [cell_of_row wB _ 1 _ _ _ haB]; rfl
            have a2 : wB.cell? ⟨T, 2, none⟩ = some (.int .u64 to) := by rw [cell_of_row wB _ 2 _ _ _ haB]; rfl
            have a3 : wB.cell? ⟨T, 3, none⟩ = some (.int .i64 ts) := by rw [cell_of_row wB _ 3 _ _ _ haB]; rfl
            have a4 : wB.cell? ⟨T, 4, none⟩ = some (.int .u64 V) := by rw [cell_of_row wB _ 4 _ _ _ haB]; rfl
            have y0 : wB.cell? ⟨w.heap.size + 2, 0, none⟩ = some (.int .i64 P) := by rw [cell_of_row wB _ 0 _ _ _ hboB.x]; rfl
            have y1 : wB.cell? ⟨w.heap.size + 2, 1, none⟩ = some (.int .i64 K) := by rw [cell_of_row wB _ 1 _ _ _ hboB.x]; rfl
            have y2 : wB.cell? ⟨w.heap.size + 2, 2, none⟩ = some (.slice ad n cap) := by rw [cell_of_row wB _ 2 _ _ _ hboB.x]; rfl
            have z0 := frozen_of_row wB (w.heap.size + 2) 0 _ _ hboB.x
            have z1 := frozen_of_row wB (w.heap.size + 2) 1 _ _ hboB.x
            have z2 := frozen_of_row wB (w.heap.size + 2) 2 _ _ hboB.x
            have hSB : w.heap.size + 2 < wB.heap.size := hboB.lt2
            have hsg : w.heap.size ≤ g := hboB.sg
            have HSG := hide hsg
            clear hsg
            have hput := hboB.put (P : Int) ad n cap zs (.cells #[.int .i64 (P : Int), .int .i64 K, .slice ad n cap] 31) hboB.l
            have HPU := hide hput
            clear hbB hboB haB d0 d1 d2 d3 d4 x0 x1 x2 hput HWA HAA HBA
            go_wp2_with fail
            refine (grow_no (unhide HPU).1 V (by omega) (by omega) (by omega)).mono ?_
            rintro e wE ⟨rfl, hwE⟩
            have hboE := both_same (unhide HPU) (unhide HSG) hPK
            rw [hwE] at hboE
            clear hwE HPU HSG a1 a2 a3 a4 y0 y1 y2 z0 z1 z2
            have p0 : wE.cell? ⟨w.heap.size + 2, 0, none⟩ = some (.int .i64 P) := by rw [cell_of_row wE _ 0 _ _ _ hboE.x]; rfl
            have hpg := pages_q hboE.m P rfl
            have HBE := hide hboE; have HPG := hide hpg
            clear hboE hpg
            go_wp2_with fail
            go_quiet ((go_at_call 14; exact Calls.quiet_of_same (unhide HPG _)))
            go_wp2
            go_roundw
            case rel => exact ⟨j + 1, P, _, _, _, _, _, _, by omega, by omega, by go_num, (unhide HBE).later (below_drewN (Below.refl _ _) _)⟩
            case measure => simp [intOf]; omega
        · by_cases hg : (V : Int) + P ≤ K
          · go_wp2_with fail
            rw [unhide HWA]
            refine (refGrow_yes P cap n ad K V wA (by omega) hg (by omega)).mono ?_
            rintro e wB ⟨rfl, hbB⟩
            have hboB := (unhide HBA).later hbB
            have haB := (hbB.block _ (Array.getElem?_eq_some_iff.1 (unhide HAA)).1).trans (unhide HAA)
            generalize wr.heap.size = T at *
            have hTB : T < wB.heap.size := (Array.getElem?_eq_some_iff.1 haB).1
            have a1 : wB.cell? ⟨T, 1, none⟩ = some (.int .u64 ta) := by rw [cell_of_row wB _ 1 _ _ _ haB]; rfl
            have a2 : wB.cell? ⟨T, 2, none⟩ = some (.int .u64 to) := by rw [cell_of_row wB _ 2 _ _ _ haB]; rfl
            have a3 : wB.cell? ⟨T, 3, none⟩ = some (.int .i64 ts) := by rw [cell_of_row wB _ 3 _ _ _ haB]; rfl
            have a4 : wB.cell? ⟨T, 4, none⟩ = some (.int .u64 V) := by rw [cell_of_row wB _ 4 _ _ _ haB]; rfl
            have y0 : wB.cell? ⟨w.heap.size + 2, 0, none⟩ = some (.int .i64 P) := by rw [cell_of_row wB _ 0 _ _ _ hboB.x]; rfl
            have y1 : wB.cell? ⟨w.heap.size + 2, 1, none⟩ = some (.int .i64 K) := by rw [cell_of_row wB _ 1 _ _ _ hboB.x]; rfl
            have y2 : wB.cell? ⟨w.heap.size + 2, 2, none⟩ = some (.slice ad n cap) := by rw [cell_of_row wB _ 2 _ _ _ hboB.x]; rfl
            have z0 := frozen_of_row wB (w.heap.size + 2) 0 _ _ hboB.x
            have z1 := frozen_of_row wB (w.heap.size + 2) 1 _ _ hboB.x
            have z2 := frozen_of_row wB (w.heap.size + 2) 2 _ _ hboB.x
            have hSB : w.heap.size + 2 < wB.heap.size := hboB.lt2
            have hsg : w.heap.size ≤ g := hboB.sg
            have HSG := hide hsg
            clear hsg
            have hput := hboB.put ((P : Int) + (V : Int)) ad n cap (zs ++ List.replicate (V * 4096) 0) (.cells #[.int .i64 ((P : Int) + (V : Int)), .int .i64 K, .slice ad n cap] 31) (by rw [nz_grown]; exact hboB.l)
            have HPU := hide hput
            clear hbB hboB haB d0 d1 d2 d3 d4 x0 x1 x2 hput HWA HAA HBA
            go_wp2_with fail
            refine (grow_yes (unhide HPU).1 V (by omega) hg (by omega)).mono ?_
            rintro e wE ⟨rfl, g', capm', hmE, hoE, hgE⟩
            simp only [Int.toNat_natCast] at hmE
            have hboE := both_mk (P' := P + V) (unhide HPU) (by omega) (unhide HSG) hmE hoE hgE (by omega)
            clear hmE hoE hgE HPU HSG a1 a2 a3 a4 y0 y1 y2 z0 z1 z2
            generalize hPV : P + V = PV at *
            have HPV := hide hPV; clear hPV
            have p0 : wE.cell? ⟨w.heap.size + 2, 0, none⟩ = some (.int .i64 PV) := by rw [cell_of_row wE _ 0 _ _ _ hboE.x]; rfl
            have hpg := pages_q hboE.m PV rfl
            have HBE := hide hboE; have HPG := hide hpg
            clear hboE hpg
            go_wp2_with fail
            go_quiet ((go_at_call 14; exact Calls.quiet_of_same (unhide HPG _)))
            go_wp2
            go_roundw
            case rel => exact ⟨j + 1, PV, _, _, _, _, _, _, by omega, by omega, by go_num, (unhide HBE).later (below_drewN (Below.refl _ _) _)⟩
            case measure => simp [intOf]; omega
          · go_wp2_with fail
            rw [unhide HWA]
            refine (refGrow_no P cap n ad K V wA (by omega) (by omega) (by omega)).mono ?_
            rintro e wB ⟨rfl, hbB⟩
            have hboB := (unhide HBA).later hbB
            have haB := (hbB.block _ (Array.getElem?_eq_some_iff.1 (unhide HAA)).1).trans (unhide HAA)
            generalize wr.heap.size = T at *
            have hTB : T < wB.heap.size := (Array.getElem?_eq_some_iff.1 haB).1
            have a1 : wB.cell? ⟨T, 1, none⟩ = some (.int .u64 ta) := by rw [cell_of_row wB _ 1 _ _ _ haB]; rfl
            have a2 : wB.cell? ⟨T, 2, none⟩ = some (.int .u64 to) := by rw [cell_of_row wB _ 2 _ _ _ haB]; rfl
            have a3 : wB.cell? ⟨T, 3, none⟩ = some (.int .i64 ts) := by rw [cell_of_row wB _ 3 _ _ _ haB]; rfl
            have a4 : wB.cell? ⟨T, 4, none⟩ = some (.int .u64 V) := by rw [cell_of_row wB _ 4 _ _ _ haB]; rfl
            have y0 : wB.cell? ⟨w.heap.size + 2, 0, none⟩ = some (.int .i64 P) := by rw [cell_of_row wB _ 0 _ _ _ hboB.x]; rfl
            have y1 : wB.cell? ⟨w.heap.size + 2, 1, none⟩ = some (.int .i64 K) := by rw [cell_of_row wB _ 1 _ _ _ hboB.x]; rfl
            have y2 : wB.cell? ⟨w.heap.size + 2, 2, none⟩ = some (.slice ad n cap) := by rw [cell_of_row wB _ 2 _ _ _ hboB.x]; rfl
            have z0 := frozen_of_row wB (w.heap.size + 2) 0 _ _ hboB.x
            have z1 := frozen_of_row wB (w.heap.size + 2) 1 _ _ hboB.x
            have z2 := frozen_of_row wB (w.heap.size + 2) 2 _ _ hboB.x
            have hSB : w.heap.size + 2 < wB.heap.size := hboB.lt2
            have hsg : w.heap.size ≤ g := hboB.sg
            have HSG := hide hsg
            clear hsg
            have hput := hboB.put (P : Int) ad n cap zs (.cells #[.int .i64 (P : Int), .int .i64 K, .slice ad n cap] 31) hboB.l
            have HPU := hide hput
            clear hbB hboB haB d0 d1 d2 d3 d4 x0 x1 x2 hput HWA HAA HBA
            go_wp2_with fail
            refine (grow_no (unhide HPU).1 V (by omega) (by omega) (by omega)).mono ?_
            rintro e wE ⟨rfl, hwE⟩
            have hboE := both_same (unhide HPU) (unhide HSG) hPK
            rw [hwE] at hboE
            clear hwE HPU HSG a1 a2 a3 a4 y0 y1 y2 z0 z1 z2
            have p0 : wE.cell? ⟨w.heap.size + 2, 0, none⟩ = some (.int .i64 P) := by rw [cell_of_row wE _ 0 _ _ _ hboE.x]; rfl
            have hpg := pages_q hboE.m P rfl
            have HBE := hide hboE; have HPG := hide hpg
            clear hboE hpg
            go_wp2_with fail
            go_quiet ((go_at_call 14; exact Calls.quiet_of_same (unhide HPG _)))
            go_wp2
            go_roundw
            case rel => exact ⟨j + 1, P, _, _, _, _, _, _, by omega, by omega, by go_num, (unhide HBE).later (below_drewN (Below.refl _ _) _)⟩
            case measure => simp [intOf]; omega
        · by_cases hf : fits (P * 4096) ta to ts = true
          · have hfh := hide hf
            clear hf
            go_wp2_with fail
            rw [unhide HWA]
            refine (refStore_yes (unhide HBA).l (by have := (unhide HBA).lt2; omega) (unhide HBA).m.len (unhide HBA).m.byt K ta to ts V (by omega) (unhide B1) (unhide B2) ⟨by omega, hV1⟩ (unhide hfh)).mono ?_
            rintro e wB ⟨ad', n', cap', rfl, hLB, hbB⟩
            have hboB := (unhide HBA).later hbB
            have haB := (hbB.block _ (Array.getElem?_eq_some_iff.1 (unhide HAA)).1).trans (unhide HAA)
            generalize wr.heap.size = T at *
            have hTB : T < wB.heap.size := (Array.getElem?_eq_some_iff.1 haB).1
            have a1 : wB.cell? ⟨T, 1, none⟩ = some (.int .u64 ta) := by rw [cell_of_row wB _ 1 _ _ _ haB]; rfl
            have a2 : wB.cell? ⟨T, 2, none⟩ = some (.int .u64 to) := by rw [cell_of_row wB _ 2 _ _ _ haB]; rfl
            have a3 : wB.cell? ⟨T, 3, none⟩ = some (.int .i64 ts) := by rw [cell_of_row wB _ 3 _ _ _ haB]; rfl
            have a4 : wB.cell? ⟨T, 4, none⟩ = some (.int .u64 V) := by rw [cell_of_row wB _ 4 _ _ _ haB]; rfl
            have y0 : wB.cell? ⟨w.heap.size + 2, 0, none⟩ = some (.int .i64 P) := by rw [cell_of_row wB _ 0 _ _ _ hboB.x]; rfl
            have y1 : wB.cell? ⟨w.heap.size + 2, 1, none⟩ = some (.int .i64 K) := by rw [cell_of_row wB _ 1 _ _ _ hboB.x]; rfl
            have y2 : wB.cell? ⟨w.heap.size + 2, 2, none⟩ = some (.slice ad n cap) := by rw [cell_of_row wB _ 2 _ _ _ hboB.x]; rfl
            have z0 := frozen_of_row wB (w.heap.size + 2) 0 _ _ hboB.x
            have z1 := frozen_of_row wB (w.heap.size + 2) 1 _ _ hboB.x
            have z2 := frozen_of_row wB (w.heap.size + 2) 2 _ _ hboB.x
            have hSB : w.heap.size + 2 < wB.heap.size := hboB.lt2
            have hsg : w.heap.size ≤ g := hboB.sg
            have HSG := hide hsg
            clear hsg
            have hput := hboB.put (P : Int) ad' n' cap' _ (.cells #[.int .i64 (P : Int), .int .i64 K, .slice ad' n' cap'] 31) hLB
            have HPU := hide hput
            clear hbB hboB haB d0 d1 d2 d3 d4 x0 x1 x2 hput HWA HAA HBA hLB
            go_wp2_with fail
            refine (store_yes (unhide HPU).1 ta to ts V (unhide B1) (unhide B2) ⟨by omega, hV1⟩ (unhide hfh)).mono ?_
            rintro e wE ⟨rfl, hmE, hoE⟩
            have hboE := both_mk (P' := P) (unhide HPU) rfl (unhide HSG) hmE hoE (.inl rfl) hPK
            clear hmE hoE HPU HSG a1 a2 a3 a4 y0 y1 y2 z0 z1 z2
            have p0 : wE.cell? ⟨w.heap.size + 2, 0, none⟩ = some (.int .i64 P) := by rw [cell_of_row wE _ 0 _ _ _ hboE.x]; rfl
            have hpg := pages_q hboE.m P rfl
            have HBE := hide hboE; have HPG := hide hpg
            clear hboE hpg
            go_wp2_with fail
            go_quiet ((go_at_call 14; exact Calls.quiet_of_same (unhide HPG _)))
            go_wp2
            go_roundw
            case rel => exact ⟨j + 1, P, _, _, _, _, _, _, by omega, by omega, by go_num, (unhide HBE).later (below_drewN (Below.refl _ _) _)⟩
            case measure => simp [intOf]; omega
          · have hf2 : fits (P * 4096) ta to ts = false := by simpa using hf
            have hfh := hide hf2
            clear hf hf2
            go_wp2_with fail
            rw [unhide HWA]
            refine (refStore_no P cap n ad K ta to ts V wA (by omega) (unhide B1) (unhide B2) (unhide hfh)).mono ?_
            rintro e wB ⟨rfl, hbB⟩
            have hboB := (unhide HBA).later hbB
            have haB := (hbB.block _ (Array.getElem?_eq_some_iff.1 (unhide HAA)).1).trans (unhide HAA)
            generalize wr.heap.size = T at *
            have hTB : T < wB.heap.size := (Array.getElem?_eq_some_iff.1 haB).1
            have a1 : wB.cell? ⟨T, 1, none⟩ = some (.int .u64 ta) := by rw [cell_of_row wB _ 1 _ _ _ haB]; rfl
            have a2 : wB.cell? ⟨T, 2, none⟩ = some (.int .u64 to) := by rw [cell_of_row wB _ 2 _ _ _ haB]; rfl
            have a3 : wB.cell? ⟨T, 3, none⟩ = some (.int .i64 ts) := by rw [cell_of_row wB _ 3 _ _ _ haB]; rfl
            have a4 : wB.cell? ⟨T, 4, none⟩ = some (.int .u64 V) := by rw [cell_of_row wB _ 4 _ _ _ haB]; rfl
            have y0 : wB.cell? ⟨w.heap.size + 2, 0, none⟩ = some (.int .i64 P) := by rw [cell_of_row wB _ 0 _ _ _ hboB.x]; rfl
            have y1 : wB.cell? ⟨w.heap.size + 2, 1, none⟩ = some (.int .i64 K) := by rw [cell_of_row wB _ 1 _ _ _ hboB.x]; rfl
            have y2 : wB.cell? ⟨w.heap.size + 2, 2, none⟩ = some (.slice ad n cap) := by rw [cell_of_row wB _ 2 _ _ _ hboB.x]; rfl
            have z0 := frozen_of_row wB (w.heap.size + 2) 0 _ _ hboB.x
            have z1 := frozen_of_row wB (w.heap.size + 2) 1 _ _ hboB.x
            have z2 := frozen_of_row wB (w.heap.size + 2) 2 _ _ hboB.x
            have hSB : w.heap.size + 2 < wB.heap.size := hboB.lt2
            have hsg : w.heap.size ≤ g := hboB.sg
            have HSG := hide hsg
            clear hsg
            have hput := hboB.put (P : Int) ad n cap zs (.cells #[.int .i64 (P : Int), .int .i64 K, .slice ad n cap] 31) hboB.l
            have HPU := hide hput
            clear hbB hboB haB d0 d1 d2 d3 d4 x0 x1 x2 hput HWA HAA HBA
            go_wp2_with fail
            refine (store_no (unhide HPU).1 ta to ts V (unhide B1) (unhide B2) (unhide B3) (unhide hfh)).mono ?_
            rintro e wE ⟨rfl, hwE⟩
            have hboE := both_same (unhide HPU) (unhide HSG) hPK
            rw [hwE] at hboE
            clear hwE HPU HSG a1 a2 a3 a4 y0 y1 y2 z0 z1 z2
            have p0 : wE.cell? ⟨w.heap.size + 2, 0, none⟩ = some (.int .i64 P) := by rw [cell_of_row wE _ 0 _ _ _ hboE.x]; rfl
            have hpg := pages_q hboE.m P rfl
            have HBE := hide hboE; have HPG := hide hpg
            clear hboE hpg
            go_wp2_with fail
            go_quiet ((go_at_call 14; exact Calls.quiet_of_same (unhide HPG _)))
            go_wp2
            go_roundw
            case rel => exact ⟨j + 1, P, _, _, _, _, _, _, by omega, by omega, by go_num, (unhide HBE).later (below_drewN (Below.refl _ _) _)⟩
            case measure => simp [intOf]; omega
        · by_cases hf : fits (P * 4096) ta to ts = true
          · have hfh := hide hf
            clear hf
            go_wp2_with fail
            rw [unhide HWA]
            refine (refStore_yes (unhide HBA).l (by have := (unhide HBA).lt2; omega) (unhide HBA).m.len (unhide HBA).m.byt K ta to ts V (by omega) (unhide B1) (unhide B2) ⟨by omega, hV1⟩ (unhide hfh)).mono ?_
            rintro e wB ⟨ad', n', cap', rfl, hLB, hbB⟩
            have hboB := (unhide HBA).later hbB
            have haB := (hbB.block _ (Array.getElem?_eq_some_iff.1 (unhide HAA)).1).trans (unhide HAA)
            generalize wr.heap.size = T at *
            have hTB : T < wB.heap.size := (Array.getElem?_eq_some_iff.1 haB).1
            have a1 : wB.cell? ⟨T, 1, none⟩ = some (.int .u64 ta) := by rw [cell_of_row wB _ 1 _ _ _ haB]; rfl
            have a2 : wB.cell? ⟨T, 2, none⟩ = some (.int .u64 to) := by rw [cell_of_row wB _ 2 _ _ _ haB]; rfl
            have a3 : wB.cell? ⟨T, 3, none⟩ = some (.int .i64 ts) := by rw [cell_of_row wB _ 3 _ _ _ haB]; rfl
            have a4 : wB.cell? ⟨T, 4, none⟩ = some (.int .u64 V) := by rw [cell_of_row wB _ 4 _ _ _ haB]; rfl
            have y0 : wB.cell? ⟨w.heap.size + 2, 0, none⟩ = some (.int .i64 P) := by rw [cell_of_row wB _ 0 _ _ _ hboB.x]; rfl
            have y1 : wB.cell? ⟨w.heap.size + 2, 1, none⟩ = some (.int .i64 K) := by rw [cell_of_row wB _ 1 _ _ _ hboB.x]; rfl
            have y2 : wB.cell? ⟨w.heap.size + 2, 2, none⟩ = some (.slice ad n cap) := by rw [cell_of_row wB _ 2 _ _ _ hboB.x]; rfl
            have z0 := frozen_of_row wB (w.heap.size + 2) 0 _ _ hboB.x
            have z1 := frozen_of_row wB (w.heap.size + 2) 1 _ _ hboB.x
            have z2 := frozen_of_row wB (w.heap.size + 2) 2 _ _ hboB.x
            have hSB : w.heap.size + 2 < wB.heap.size := hboB.lt2
            have hsg : w.heap.size ≤ g := hboB.sg
            have HSG := hide hsg
            clear hsg
            have hput := hboB.put (P : Int) ad' n' cap' _ (.cells #[.int .i64 (P : Int), .int .i64 K, .slice ad' n' cap'] 31) hLB
            have HPU := hide hput
            clear hbB hboB haB d0 d1 d2 d3 d4 x0 x1 x2 hput HWA HAA HBA hLB
            go_wp2_with fail
            refine (store_yes (unhide HPU).1 ta to ts V (unhide B1) (unhide B2) ⟨by omega, hV1⟩ (unhide hfh)).mono ?_
            rintro e wE ⟨rfl, hmE, hoE⟩
            have hboE := both_mk (P' := P) (unhide HPU) rfl (unhide HSG) hmE hoE (.inl rfl) hPK
            clear hmE hoE HPU HSG a1 a2 a3 a4 y0 y1 y2 z0 z1 z2
            have p0 : wE.cell? ⟨w.heap.size + 2, 0, none⟩ = some (.int .i64 P) := by rw [cell_of_row wE _ 0 _ _ _ hboE.x]; rfl
            have hpg := pages_q hboE.m P rfl
            have HBE := hide hboE; have HPG := hide hpg
            clear hboE hpg
            go_wp2_with fail
            go_quiet ((go_at_call 14; exact Calls.quiet_of_same (unhide HPG _)))
            go_wp2
            go_roundw
            case rel => exact ⟨j + 1, P, _, _, _, _, _, _, by omega, by omega, by go_num, (unhide HBE).later (below_drewN (Below.refl _ _) _)⟩
            case measure => simp [intOf]; omega
          · have hf2 : fits (P * 4096) ta to ts = false := by simpa using hf
            have hfh := hide hf2
            clear hf hf2
            go_wp2_with fail
            rw [unhide HWA]
            refine (refStore_no P cap n ad K ta to ts V wA (by omega) (unhide B1) (unhide B2) (unhide hfh)).mono ?_
            rintro e wB ⟨rfl, hbB⟩
            have hboB := (unhide HBA).later hbB
            have haB := (hbB.block _ (Array.getElem?_eq_some_iff.1 (unhide HAA)).1).trans (unhide HAA)
            generalize wr.heap.size = T at *
            have hTB : T < wB.heap.size := (Array.getElem?_eq_some_iff.1 haB).1
            have a1 : wB.cell? ⟨T, 1, none⟩ = some (.int .u64 ta) := by rw [cell_of_row wB _ 1 _ _ _ haB]; rfl
            have a2 : wB.cell? ⟨T, 2, none⟩ = some (.int .u64 to) := by rw [cell_of_row wB _ 2 _ _ _ haB]; rfl
            have a3 : wB.cell? ⟨T, 3, none⟩ = some (.int .i64 ts) := by rw [cell_of_row wB _ 3 _ _ _ haB]; rfl
            have a4 : wB.cell? ⟨T, 4, none⟩ = some (.int .u64 V) := by rw [cell_of_row wB _ 4 _ _ _ haB]; rfl
            have y0 : wB.cell? ⟨w.heap.size + 2, 0, none⟩ = some (.int .i64 P) := by rw [cell_of_row wB _ 0 _ _ _ hboB.x]; rfl
            have y1 : wB.cell? ⟨w.heap.size + 2, 1, none⟩ = some (.int .i64 K) := by rw [cell_of_row wB _ 1 _ _ _ hboB.x]; rfl
            have y2 : wB.cell? ⟨w.heap.size + 2, 2, none⟩ = some (.slice ad n cap) := by rw [cell_of_row wB _ 2 _ _ _ hboB.x]; rfl
            have z0 := frozen_of_row wB (w.heap.size + 2) 0 _ _ hboB.x
            have z1 := frozen_of_row wB (w.heap.size + 2) 1 _ _ hboB.x
            have z2 := frozen_of_row wB (w.heap.size + 2) 2 _ _ hboB.x
            have hSB : w.heap.size + 2 < wB.heap.size := hboB.lt2
            have hsg : w.heap.size ≤ g := hboB.sg
            have HSG := hide hsg
            clear hsg
            have hput := hboB.put (P : Int) ad n cap zs (.cells #[.int .i64 (P : Int), .int .i64 K, .slice ad n cap] 31) hboB.l
            have HPU := hide hput
            clear hbB hboB haB d0 d1 d2 d3 d4 x0 x1 x2 hput HWA HAA HBA
            go_wp2_with fail
            refine (store_no (unhide HPU).1 ta to ts V (unhide B1) (unhide B2) (unhide B3) (unhide hfh)).mono ?_
            rintro e wE ⟨rfl, hwE⟩
            have hboE := both_same (unhide HPU) (unhide HSG) hPK
            rw [hwE] at hboE
            clear hwE HPU HSG a1 a2 a3 a4 y0 y1 y2 z0 z1 z2
            have p0 : wE.cell? ⟨w.heap.size + 2, 0, none⟩ = some (.int .i64 P) := by rw [cell_of_row wE _ 0 _ _ _ hboE.x]; rfl
            have hpg := pages_q hboE.m P rfl
            have HBE := hide hboE; have HPG := hide hpg
            clear hboE hpg
            go_wp2_with fail
            go_quiet ((go_at_call 14; exact Calls.quiet_of_same (unhide HPG _)))
            go_wp2
            go_roundw
            case rel => exact ⟨j + 1, P, _, _, _, _, _, _, by omega, by omega, by go_num, (unhide HBE).later (below_drewN (Below.refl _ _) _)⟩
            case measure => simp [intOf]; omega
        · by_cases hf : fits (P * 4096) ta to ts = true
          · have hfh := hide hf
            clear hf
            go_wp2_with fail
            rw [unhide HWA]
            refine (refStore_yes (unhide HBA).l (by have := (unhide HBA).lt2; omega) (unhide HBA).m.len (unhide HBA).m.byt K ta to ts V (by omega) (unhide B1) (unhide B2) ⟨by omega, hV1⟩ (unhide hfh)).mono ?_
            rintro e wB ⟨ad', n', cap', rfl, hLB, hbB⟩
            have hboB := (unhide HBA).later hbB
            have haB := (hbB.block _ (Array.getElem?_eq_some_iff.1 (unhide HAA)).1).trans (unhide HAA)
            generalize wr.heap.size = T at *
            have hTB : T < wB.heap.size := (Array.getElem?_eq_some_iff.1 haB).1
            have a1 : wB.cell? ⟨T, 1, none⟩ = some (.int .u64 ta) := by rw [cell_of_row wB _ 1 _ _ _ haB]; rfl
            have a2 : wB.cell? ⟨T, 2, none⟩ = some (.int .u64 to) := by rw [cell_of_row wB _ 2 _ _ _ haB]; rfl
            have a3 : wB.cell? ⟨T, 3, none⟩ = some (.int .i64 ts) := by rw [cell_of_row wB _ 3 _ _ _ haB]; rfl
            have a4 : wB.cell? ⟨T, 4, none⟩ = some (.int .u64 V) := by rw [cell_of_row wB _ 4 _ _ _ haB]; rfl
            have y0 : wB.cell? ⟨w.heap.size + 2, 0, none⟩ = some (.int .i64 P) := by rw [cell_of_row wB _ 0 _ _ _ hboB.x]; rfl
            have y1 : wB.cell? ⟨w.heap.size + 2, 1, none⟩ = some (.int .i64 K) := by rw [cell_of_row wB _ 1 _ _ _ hboB.x]; rfl
            have y2 : wB.cell? ⟨w.heap.size + 2, 2, none⟩ = some (.slice ad n cap) := by rw [cell_of_row wB _ 2 _ _ _ hboB.x]; rfl
            have z0 := frozen_of_row wB (w.heap.size + 2) 0 _ _ hboB.x
            have z1 := frozen_of_row wB (w.heap.size + 2) 1 _ _ hboB.x
            have z2 := frozen_of_row wB (w.heap.size + 2) 2 _ _ hboB.x
            have hSB : w.heap.size + 2 < wB.heap.size := hboB.lt2
            have hsg : w.heap.size ≤ g := hboB.sg
            have HSG := hide hsg
            clear hsg
            have hput := hboB.put (P : Int) ad' n' cap' _ (.cells #[.int .i64 (P : Int), .int .i64 K, .slice ad' n' cap'] 31) hLB
            have HPU := hide hput
            clear hbB hboB haB d0 d1 d2 d3 d4 x0 x1 x2 hput HWA HAA HBA hLB
            go_wp2_with fail
            refine (store_yes (unhide HPU).1 ta to ts V (unhide B1) (unhide B2) ⟨by omega, hV1⟩ (unhide hfh)).mono ?_
            rintro e wE ⟨rfl, hmE, hoE⟩
            have hboE := both_mk (P' := P) (unhide HPU) rfl (unhide HSG) hmE hoE (.inl rfl) hPK
            clear hmE hoE HPU HSG a1 a2 a3 a4 y0 y1 y2 z0 z1 z2
            have p0 : wE.cell? ⟨w.heap.size + 2, 0, none⟩ = some (.int .i64 P) := by rw [cell_of_row wE _ 0 _ _ _ hboE.x]; rfl
            have hpg := pages_q hboE.m P rfl
            have HBE := hide hboE; have HPG := hide hpg
            clear hboE hpg
            go_wp2_with fail
            go_quiet ((go_at_call 14; exact Calls.quiet_of_same (unhide HPG _)))
            go_wp2
            go_roundw
            case rel => exact ⟨j + 1, P, _, _, _, _, _, _, by omega, by omega, by go_num, (unhide HBE).later (below_drewN (Below.refl _ _) _)⟩
            case measure => simp [intOf]; omega
          · have hf2 : fits (P * 4096) ta to ts = false := by simpa using hf
            have hfh := hide hf2
            clear hf hf2
            go_wp2_with fail
            rw [unhide HWA]
            refine (refStore_no P cap n ad K ta to ts V wA (by omega) (unhide B1) (unhide B2) (unhide hfh)).mono ?_
            rintro e wB ⟨rfl, hbB⟩
            have hboB := (unhide HBA).later hbB
            have haB := (hbB.block _ (Array.getElem?_eq_some_iff.1 (unhide HAA)).1).trans (unhide HAA)
            generalize wr.heap.size = T at *
            have hTB : T < wB.heap.size := (Array.getElem?_eq_some_iff.1 haB).1
            have a1 : wB.cell? ⟨T, 1, none⟩ = some (.int .u64 ta) := by rw [cell_of_row wB _ 1 _ _ _ haB]; rfl
            have a2 : wB.cell? ⟨T, 2, none⟩ = some (.int .u64 to) := by rw [cell_of_row wB _ 2 _ _ _ haB]; rfl
            have a3 : wB.cell? ⟨T, 3, none⟩ = some (.int .i64 ts) := by rw [cell_of_row wB _ 3 _ _ _ haB]; rfl
            have a4 : wB.cell? ⟨T, 4, none⟩ = some (.int .u64 V) := by rw [cell_of_row wB _ 4 _ _ _ haB]; rfl
            have y0 : wB.cell? ⟨w.heap.size + 2, 0, none⟩ = some (.int .i64 P) := by rw [cell_of_row wB _ 0 _ _ _ hboB.x]; rfl
            have y1 : wB.cell? ⟨w.heap.size + 2, 1, none⟩ = some (.int .i64 K) := by rw [cell_of_row wB _ 1 _ _ _ hboB.x]; rfl
            have y2 : wB.cell? ⟨w.heap.size + 2, 2, none⟩ = some (.slice ad n cap) := by rw [cell_of_row wB _ 2 _ _ _ hboB.x]; rfl
            have z0 := frozen_of_row wB (w.heap.size + 2) 0 _ _ hboB.x
            have z1 := frozen_of_row wB (w.heap.size + 2) 1 _ _ hboB.x
            have z2 := frozen_of_row wB (w.heap.size + 2) 2 _ _ hboB.x
            have hSB : w.heap.size + 2 < wB.heap.size := hboB.lt2
            have hsg : w.heap.size ≤ g := hboB.sg
            have HSG := hide hsg
            clear hsg
            have hput := hboB.put (P : Int) ad n cap zs (.cells #[.int .i64 (P : Int), .int .i64 K, .slice ad n cap] 31) hboB.l
            have HPU := hide hput
            clear hbB hboB haB d0 d1 d2 d3 d4 x0 x1 x2 hput HWA HAA HBA
            go_wp2_with fail
            refine (store_no (unhide HPU).1 ta to ts V (unhide B1) (unhide B2) (unhide B3) (unhide hfh)).mono ?_
            rintro e wE ⟨rfl, hwE⟩
            have hboE := both_same (unhide HPU) (unhide HSG) hPK
            rw [hwE] at hboE
            clear hwE HPU HSG a1 a2 a3 a4 y0 y1 y2 z0 z1 z2
            have p0 : wE.cell? ⟨w.heap.size + 2, 0, none⟩ = some (.int .i64 P) := by rw [cell_of_row wE _ 0 _ _ _ hboE.x]; rfl
            have hpg := pages_q hboE.m P rfl
            have HBE := hide hboE; have HPG := hide hpg
            clear hboE hpg
            go_wp2_with fail
            go_quiet ((go_at_call 14; exact Calls.quiet_of_same (unhide HPG _)))
            go_wp2
            go_roundw
            case rel => exact ⟨j + 1, P, _, _, _, _, _, _, by omega, by omega, by go_num, (unhide HBE).later (below_drewN (Below.refl _ _) _)⟩
            case measure => simp [intOf]; omega
        · by_cases hf : fits (P * 4096) ta to ts = true
          · have hfh := hide hf
            clear hf
            go_wp2_with fail
            rw [unhide HWA]
            refine (refLoad_yes (unhide HBA).l (unhide HBA).m.byt K ta to ts (by omega) (unhide B1) (unhide B2) (unhide hfh)).mono ?_
            rintro e wB ⟨rfl, hbB⟩
            have hboB := (unhide HBA).later hbB
            have haB := (hbB.block _ (Array.getElem?_eq_some_iff.1 (unhide HAA)).1).trans (unhide HAA)
            generalize wr.heap.size = T at *
            have hTB : T < wB.heap.size := (Array.getElem?_eq_some_iff.1 haB).1
            have a1 : wB.cell? ⟨T, 1, none⟩ = some (.int .u64 ta) := by rw [cell_of_row wB _ 1 _ _ _ haB]; rfl
            have a2 : wB.cell? ⟨T, 2, none⟩ = some (.int .u64 to) := by rw [cell_of_row wB _ 2 _ _ _ haB]; rfl
            have a3 : wB.cell? ⟨T, 3, none⟩ = some (.int .i64 ts) := by rw [cell_of_row wB _ 3 _ _ _ haB]; rfl
            have a4 : wB.cell? ⟨T, 4, none⟩ = some (.int .u64 V) := by rw [cell_of_row wB _ 4 _ _ _ haB]; rfl
            have y0 : wB.cell? ⟨w.heap.size + 2, 0, none⟩ = some (.int .i64 P) := by rw [cell_of_row wB _ 0 _ _ _ hboB.x]; rfl
            have y1 : wB.cell? ⟨w.heap.size + 2, 1, none⟩ = some (.int .i64 K) := by rw [cell_of_row wB _ 1 _ _ _ hboB.x]; rfl
            have y2 : wB.cell? ⟨w.heap.size + 2, 2, none⟩ = some (.slice ad n cap) := by rw [cell_of_row wB _ 2 _ _ _ hboB.x]; rfl
            have z0 := frozen_of_row wB (w.heap.size + 2) 0 _ _ hboB.x
            have z1 := frozen_of_row wB (w.heap.size + 2) 1 _ _ hboB.x
            have z2 := frozen_of_row wB (w.heap.size + 2) 2 _ _ hboB.x
            have hSB : w.heap.size + 2 < wB.heap.size := hboB.lt2
            have hsg : w.heap.size ≤ g := hboB.sg
            have HSG := hide hsg
            clear hsg
            have hld := load_yes hboB.m ta to ts (unhide B1) (unhide B2) (unhide hfh)
            generalize ldZ zs (ta + to).toNat ts.toNat = VV at *
            have HBB := hide hboB; have HLD := hide hld
            clear hbB hboB haB d0 d1 d2 d3 d4 x0 x1 x2 hld HWA HAA HBA
            go_wp2_with fail
            refine (unhide HLD).mono ?_
            rintro e wE ⟨rfl, hbE⟩
            have hboE := (unhide HBB).later hbE
            clear hbE HBB HLD HSG a1 a2 a3 a4 y0 y1 y2 z0 z1 z2
            have p0 : wE.cell? ⟨w.heap.size + 2, 0, none⟩ = some (.int .i64 P) := by rw [cell_of_row wE _ 0 _ _ _ hboE.x]; rfl
            have hpg := pages_q hboE.m P rfl
            have HBE := hide hboE; have HPG := hide hpg
            clear hboE hpg
            go_wp2_with fail
            go_quiet ((go_at_call 14; exact Calls.quiet_of_same (unhide HPG _)))
            go_wp2
            go_roundw
            case rel => exact ⟨j + 1, P, _, _, _, _, _, _, by omega, by omega, by go_num, (unhide HBE).later (below_drewN (Below.refl _ _) _)⟩
            case measure => simp [intOf]; omega
          · have hf2 : fits (P * 4096) ta to ts = false := by simpa using hf
            have hfh := hide hf2
            clear hf hf2
            go_wp2_with fail
            rw [unhide HWA]
            refine (refLoad_no P cap n ad K ta to ts wA (by omega) (unhide B1) (unhide B2) (unhide hfh)).mono ?_
            rintro e wB ⟨rfl, hbB⟩
            have hboB := (unhide HBA).later hbB
            have haB := (hbB.block _ (Array.getElem?_eq_some_iff.1 (unhide HAA)).1).trans (unhide HAA)
            generalize wr.heap.size = T at *
            have hTB : T < wB.heap.size := (Array.getElem?_eq_some_iff.1 haB).1
            have a1 : wB.cell? ⟨T, 1, none⟩ = some (.int .u64 ta) := by rw [cell_of_row wB _ 1 _ _ _ haB]; rfl
            have a2 : wB.cell? ⟨T, 2, none⟩ = some (.int .u64 to) := by rw [cell_of_row wB _ 2 _ _ _ haB]; rfl
            have a3 : wB.cell? ⟨T, 3, none⟩ = some (.int .i64 ts) := by rw [cell_of_row wB _ 3 _ _ _ haB]; rfl
            have a4 : wB.cell? ⟨T, 4, none⟩ = some (.int .u64 V) := by rw [cell_of_row wB _ 4 _ _ _ haB]; rfl
            have y0 : wB.cell? ⟨w.heap.size + 2, 0, none⟩ = some (.int .i64 P) := by rw [cell_of_row wB _ 0 _ _ _ hboB.x]; rfl
            have y1 : wB.cell? ⟨w.heap.size + 2, 1, none⟩ = some (.int .i64 K) := by rw [cell_of_row wB _ 1 _ _ _ hboB.x]; rfl
            have y2 : wB.cell? ⟨w.heap.size + 2, 2, none⟩ = some (.slice ad n cap) := by rw [cell_of_row wB _ 2 _ _ _ hboB.x]; rfl
            have z0 := frozen_of_row wB (w.heap.size + 2) 0 _ _ hboB.x
            have z1 := frozen_of_row wB (w.heap.size + 2) 1 _ _ hboB.x
            have z2 := frozen_of_row wB (w.heap.size + 2) 2 _ _ hboB.x
            have hSB : w.heap.size + 2 < wB.heap.size := hboB.lt2
            have hsg : w.heap.size ≤ g := hboB.sg
            have HSG := hide hsg
            clear hsg
            have HBB := hide hboB
            clear hbB hboB haB d0 d1 d2 d3 d4 x0 x1 x2 HWA HAA HBA
            go_wp2_with fail
            refine (load_no (unhide HBB).m ta to ts (unhide B1) (unhide B2) (unhide B3) (unhide hfh)).mono ?_
            rintro e wE ⟨rfl, hwE⟩
            have hboE := unhide HBB
            rw [hwE] at hboE
            clear hwE HBB HSG a1 a2 a3 a4 y0 y1 y2 z0 z1 z2
            have p0 : wE.cell? ⟨w.heap.size + 2, 0, none⟩ = some (.int .i64 P) := by rw [cell_of_row wE _ 0 _ _ _ hboE.x]; rfl
            have hpg := pages_q hboE.m P rfl
            have HBE := hide hboE; have HPG := hide hpg
            clear hboE hpg
            go_wp2_with fail
            go_quiet ((go_at_call 14; exact Calls.quiet_of_same (unhide HPG _)))
            go_wp2
            go_roundw
            case rel => exact ⟨j + 1, P, _, _, _, _, _, _, by omega, by omega, by go_num, (unhide HBE).later (below_drewN (Below.refl _ _) _)⟩
            case measure => simp [intOf]; omega
        · by_cases hf : fits (P * 4096) ta to ts = true
          · have hfh := hide hf
            clear hf
            go_wp2_with fail
            rw [unhide HWA]
            refine (refLoad_yes (unhide HBA).l (unhide HBA).m.byt K ta to ts (by omega) (unhide B1) (unhide B2) (unhide hfh)).mono ?_
            rintro e wB ⟨rfl, hbB⟩
            have hboB := (unhide HBA).later hbB
            have haB := (hbB.block _ (Array.getElem?_eq_some_iff.1 (unhide HAA)).1).trans (unhide HAA)
            generalize wr.heap.size = T at *
            have hTB : T < wB.heap.size := (Array.getElem?_eq_some_iff.1 haB).1
            have a1 : wB.cell? ⟨T, 1, none⟩ = some (.int .u64 ta) := by rw [cell_of_row wB _ 1 _ _ _ haB]; rfl
            have a2 : wB.cell? ⟨T, 2, none⟩ = some (.int .u64 to) := by rw [cell_of_row wB _ 2 _ _ _ haB]; rfl
            have a3 : wB.cell? ⟨T, 3, none⟩ = some (.int .i64 ts) := by rw [cell_of_row wB _ 3 _ _ _ haB]; rfl
            have a4 : wB.cell? ⟨T, 4, none⟩ = some (.int .u64 V) := by rw [cell_of_row wB _ 4 _ _ _ haB]; rfl
            have y0 : wB.cell? ⟨w.heap.size + 2, 0, none⟩ = some (.int .i64 P) := by rw [cell_of_row wB _ 0 _ _ _ hboB.x]; rfl
            have y1 : wB.cell? ⟨w.heap.size + 2, 1, none⟩ = some (.int .i64 K) := by rw [cell_of_row wB _ 1 _ _ _ hboB.x]; rfl
            have y2 : wB.cell? ⟨w.heap.size + 2, 2, none⟩ = some (.slice ad n cap) := by rw [cell_of_row wB _ 2 _ _ _ hboB.x]; rfl
            have z0 := frozen_of_row wB (w.heap.size + 2) 0 _ _ hboB.x
            have z1 := frozen_of_row wB (w.heap.size + 2) 1 _ _ hboB.x
            have z2 := frozen_of_row wB (w.heap.size + 2) 2 _ _ hboB.x
            have hSB : w.heap.size + 2 < wB.heap.size := hboB.lt2
            have hsg : w.heap.size ≤ g := hboB.sg
            have HSG := hide hsg
            clear hsg
            have hld := load_yes hboB.m ta to ts (unhide B1) (unhide B2) (unhide hfh)
            generalize ldZ zs (ta + to).toNat ts.toNat = VV at *
            have HBB := hide hboB; have HLD := hide hld
            clear hbB hboB haB d0 d1 d2 d3 d4 x0 x1 x2 hld HWA HAA HBA
            go_wp2_with fail
            refine (unhide HLD).mono ?_
            rintro e wE ⟨rfl, hbE⟩
            have hboE := (unhide HBB).later hbE
            clear hbE HBB HLD HSG a1 a2 a3 a4 y0 y1 y2 z0 z1 z2
            have p0 : wE.cell? ⟨w.heap.size + 2, 0, none⟩ = some (.int .i64 P) := by rw [cell_of_row wE _ 0 _ _ _ hboE.x]; rfl
            have hpg := pages_q hboE.m P rfl
            have HBE := hide hboE; have HPG := hide hpg
            clear hboE hpg
            go_wp2_with fail
            go_quiet ((go_at_call 14; exact Calls.quiet_of_same (unhide HPG _)))
            go_wp2
            go_roundw
            case rel => exact ⟨j + 1, P, _, _, _, _, _, _, by omega, by omega, by go_num, (unhide HBE).later (below_drewN (Below.refl _ _) _)⟩
            case measure => simp [intOf]; omega
          · have hf2 : fits (P * 4096) ta to ts = false := by simpa using hf
            have hfh := hide hf2
            clear hf hf2
            go_wp2_with fail
            rw [unhide HWA]
            refine (refLoad_no P cap n ad K ta to ts wA (by omega) (unhide B1) (unhide B2) (unhide hfh)).mono ?_
            rintro e wB ⟨rfl, hbB⟩
            have hboB := (unhide HBA).later hbB
            have haB := (hbB.block _ (Array.getElem?_eq_some_iff.1 (unhide HAA)).1).trans (unhide HAA)
            generalize wr.heap.size = T at *
            have hTB : T < wB.heap.size := (Array.getElem?_eq_some_iff.1 haB).1
            have a1 : wB.cell? ⟨T, 1, none⟩ = some (.int .u64 ta) := by rw [cell_of_row wB _ 1 _ _ _ haB]; rfl
            have a2 : wB.cell? ⟨T, 2, none⟩ = some (.int .u64 to) := by rw [cell_of_row wB _ 2 _ _ _ haB]; rfl
            have a3 : wB.cell? ⟨T, 3, none⟩ = some (.int .i64 ts) := by rw [cell_of_row wB _ 3 _ _ _ haB]; rfl
            have a4 : wB.cell? ⟨T, 4, none⟩ = some (.int .u64 V) := by rw [cell_of_row wB _ 4 _ _ _ haB]; rfl
            have y0 : wB.cell? ⟨w.heap.size + 2, 0, none⟩ = some (.int .i64 P) := by rw [cell_of_row wB _ 0 _ _ _ hboB.x]; rfl
            have y1 : wB.cell? ⟨w.heap.size + 2, 1, none⟩ = some (.int .i64 K) := by rw [cell_of_row wB _ 1 _ _ _ hboB.x]; rfl
            have y2 : wB.cell? ⟨w.heap.size + 2, 2, none⟩ = some (.slice ad n cap) := by rw [cell_of_row wB _ 2 _ _ _ hboB.x]; rfl
            have z0 := frozen_of_row wB (w.heap.size + 2) 0 _ _ hboB.x
            have z1 := frozen_of_row wB (w.heap.size + 2) 1 _ _ hboB.x
            have z2 := frozen_of_row wB (w.heap.size + 2) 2 _ _ hboB.x
            have hSB : w.heap.size + 2 < wB.heap.size := hboB.lt2
            have hsg : w.heap.size ≤ g := hboB.sg
            have HSG := hide hsg
            clear hsg
            have HBB := hide hboB
            clear hbB hboB haB d0 d1 d2 d3 d4 x0 x1 x2 HWA HAA HBA
            go_wp2_with fail
            refine (load_no (unhide HBB).m ta to ts (unhide B1) (unhide B2) (unhide B3) (unhide hfh)).mono ?_
            rintro e wE ⟨rfl, hwE⟩
            have hboE := unhide HBB
            rw [hwE] at hboE
            clear hwE HBB HSG a1 a2 a3 a4 y0 y1 y2 z0 z1 z2
            have p0 : wE.cell? ⟨w.heap.size + 2, 0, none⟩ = some (.int .i64 P) := by rw [cell_of_row wE _ 0 _ _ _ hboE.x]; rfl
            have hpg := pages_q hboE.m P rfl
            have HBE := hide hboE; have HPG := hide hpg
            clear hboE hpg
            go_wp2_with fail
            go_quiet ((go_at_call 14; exact Calls.quiet_of_same (unhide HPG _)))
            go_wp2
            go_roundw
            case rel => exact ⟨j + 1, P, _, _, _, _, _, _, by omega, by omega, by go_num, (unhide HBE).later (below_drewN (Below.refl _ _) _)⟩
            case measure => simp [intOf]; omega
      · have hn : n = (nz zs 0).length := by
          obtain ⟨a', cap', e, _⟩ := hbo.l.shape
          simp only [Value.slice.injEq] at e
          exact e.2.1
        have hn64 : n ≤ 65536 := by rw [hn]; exact hbo.l.small
        have x2 : wr.cell? ⟨w.heap.size + 2, 2, none⟩ = some (.slice ad n cap) := by rw [cell_of_row wr _ 2 _ _ _ hbo.x]; rfl
        have HBO := hide hbo; have HN := hide hn
        clear hbo hn hjl hj40
        go_wp2_with fail
        clear x2
        go_loopw [22] (fun i wr => ∃ t : Nat, t ≤ n ∧ i = .int .i64 t ∧ Both w wr K P zs g capm ad n cap) (fun i _ => (n - intOf i).toNat)
        case atStart => exact ⟨0, by omega, rfl, unhide HBO⟩
        case round =>
          obtain ⟨t, htn, rfl, hbo⟩ := hrel
          clear HBO
          have x2 : wr.cell? ⟨w.heap.size + 2, 2, none⟩ = some (.slice ad n cap) := by rw [cell_of_row wr _ 2 _ _ _ hbo.x]; rfl
          by_cases hlt : t < n
          · have hL := hbo.l
            obtain ⟨a', cap', e, hc1, hc2, hcs⟩ := hL.shape
            simp only [Value.slice.injEq] at e
            obtain ⟨rfl, hnn, rfl⟩ := e
            obtain ⟨gl, rfl, hgl, _, hcs2⟩ := hcs (by omega)
            obtain ⟨d1, d2⟩ := hcs2 t (by omega)
            have hmem : (nz zs 0)[t]?.getD (0, 0) ∈ nz zs 0 := by
              rw [List.getElem?_eq_getElem (show t < (nz zs 0).length by omega)]; exact List.getElem_mem _
            obtain ⟨idx, hi1, hi2, hi3⟩ := nz_mem zs 0 _ hmem
            rw [Nat.zero_add] at hi2
            rw [hi2] at d1
            rw [hi3] at d2
            rw [hbo.m.len] at hi1
            have hpk := hbo.pk
            have hby := bytes_yes hbo.m idx 1 (by omega) (by omega)
            have hz : ∀ (w' : World) (G : Nat), Bys w' G 1 1 ((zs.drop idx).take 1) → w'.cell? ⟨G, 0, none⟩ = some (.int .u8 (zs[idx]?.getD 0)) := fun w' G h => by
              have := h.2.2.2 0 (by omega)
              rw [this, List.getElem?_take_of_lt (by omega), List.getElem?_drop, Nat.add_zero]
            have hix : (idx : Int) < 65536 := by omega
            have htn2 : (t : Int) < n := by omega
            have HBY := hide hby; have HZ := hide hz; have HBO := hide hbo; have HGL := hide hgl
            clear hby hz hbo hL hcs hcs2 hmem hi1 hi2 hi3 hnn hgl htn hlt
            go_wp2_with fail
            refine (unhide HBY).mono ?_
            rintro e w2 ⟨rfl, hy2, hb2⟩
            have b0 := unhide HZ _ _ hy2
            have hbo2 := (unhide HBO).later hb2
            have e2 : w2.cell? ⟨gl, t * 2 + 1, none⟩ = some (.int .u8 (zs[idx]?.getD 0)) := (hb2.cell (p := ⟨gl, t * 2 + 1, none⟩) (unhide HGL)).trans d2
            have x3 : w2.cell? ⟨w.heap.size + 2, 2, none⟩ = some (.slice (some ⟨gl, 0, none⟩) n cap) := by rw [cell_of_row w2 _ 2 _ _ _ hbo2.x]; rfl
            generalize wr.heap.size = G at *
            generalize zs[idx]?.getD 0 = zz at *
            have HBO2 := hide hbo2
            clear hy2 hb2 hbo2 HBY HZ HBO HGL d1 d2 x2
            go_wp2_with fail
            go_quiet (fail)
            go_wp2
            go_roundw
            case rel => exact ⟨t + 1, by omega, by go_num, (unhide HBO2).later (below_drewN (Below.refl _ _) _)⟩
            case measure => simp [intOf]; omega
          · obtain rfl : t = n := by omega
            have y0 : wr.cell? ⟨w.heap.size + 2, 0, none⟩ = some (.int .i64 P) := by rw [cell_of_row wr _ 0 _ _ _ hbo.x]; rfl
            have y1 : wr.cell? ⟨w.heap.size + 2, 1, none⟩ = some (.int .i64 K) := by rw [cell_of_row wr _ 1 _ _ _ hbo.x]; rfl
            have hs1 := sum_any (hbo.m.keep (w' := wr.drew) rfl rfl)
            have hs2 := refSum_any (w := wr.drew) (hbo.l.below (w' := wr.drew) (Below.refl _ _).drew) P K
            rw [sumL_nz, hbo.m.len] at hs2
            generalize sumZ zs (P * 4096) = SV at *
            have hbb : Below w.heap.size w wr.drew := hbo.b.drew
            have hS1 := hide hs1; have hS2 := hide hs2; have HB := hide hbb
            clear hbo hlt htn hs1 hs2 hbb HN
            go_wp2_with fail
            go_region_with (first | (go_at_call 16; refine (unhide hS1).mono ?_; rintro e w4 ⟨rfl, rfl⟩) | (go_at_call 17; refine (unhide hS2).mono ?_; rintro e w5 ⟨rfl, hb5⟩) | (go_at_call 18; refine (sure_any _).mono ?_; rintro e w6 ⟨rfl, hb6⟩))
            all_goals go_wp2
            all_goals go_ret
            all_goals exact ⟨rfl, Below.on (Below.on (unhide HB) hb5) hb6⟩
    · have hn : n = (nz zs 0).length := by
        obtain ⟨a', cap', e, _⟩ := hbo.l.shape
        simp only [Value.slice.injEq] at e
        exact e.2.1
      have hn64 : n ≤ 65536 := by rw [hn]; exact hbo.l.small
      have x2 : wr.cell? ⟨w.heap.size + 2, 2, none⟩ = some (.slice ad n cap) := by rw [cell_of_row wr _ 2 _ _ _ hbo.x]; rfl
      have HBO := hide hbo; have HN := hide hn
      clear hbo hn hjl hj40
      go_wp2_with fail
      clear x2
      go_loopw [22] (fun i wr => ∃ t : Nat, t ≤ n ∧ i = .int .i64 t ∧ Both w wr K P zs g capm ad n cap) (fun i _ => (n - intOf i).toNat)
      case atStart => exact ⟨0, by omega, rfl, unhide HBO⟩
      case round =>
        obtain ⟨t, htn, rfl, hbo⟩ := hrel
        clear HBO
        have x2 : wr.cell? ⟨w.heap.size + 2, 2, none⟩ = some (.slice ad n cap) := by rw [cell_of_row wr _ 2 _ _ _ hbo.x]; rfl
        by_cases hlt : t < n
        · have hL := hbo.l
          obtain ⟨a', cap', e, hc1, hc2, hcs⟩ := hL.shape
          simp only [Value.slice.injEq] at e
          obtain ⟨rfl, hnn, rfl⟩ := e
          obtain ⟨gl, rfl, hgl, _, hcs2⟩ := hcs (by omega)
          obtain ⟨d1, d2⟩ := hcs2 t (by omega)
          have hmem : (nz zs 0)[t]?.getD (0, 0) ∈ nz zs 0 := by
            rw [List.getElem?_eq_getElem (show t < (nz zs 0).length by omega)]; exact List.getElem_mem _
          obtain ⟨idx, hi1, hi2, hi3⟩ := nz_mem zs 0 _ hmem
          rw [Nat.zero_add] at hi2
          rw [hi2] at d1
          rw [hi3] at d2
          rw [hbo.m.len] at hi1
          have hpk := hbo.pk
          have hby := bytes_yes hbo.m idx 1 (by omega) (by omega)
          have hz : ∀ (w' : World) (G : Nat), Bys w' G 1 1 ((zs.drop idx).take 1) → w'.cell? ⟨G, 0, none⟩ = some (.int .u8 (zs[idx]?.getD 0)) := fun w' G h => by
            have := h.2.2.2 0 (by omega)
            rw [this, List.getElem?_take_of_lt (by omega), List.getElem?_drop, Nat.add_zero]
          have hix : (idx : Int) < 65536 := by omega
          have htn2 : (t : Int) < n := by omega
          have HBY := hide hby; have HZ := hide hz; have HBO := hide hbo; have HGL := hide hgl
          clear hby hz hbo hL hcs hcs2 hmem hi1 hi2 hi3 hnn hgl htn hlt
          go_wp2_with fail
          refine (unhide HBY).mono ?_
          rintro e w2 ⟨rfl, hy2, hb2⟩
          have b0 := unhide HZ _ _ hy2
          have hbo2 := (unhide HBO).later hb2
          have e2 : w2.cell? ⟨gl, t * 2 + 1, none⟩ = some (.int .u8 (zs[idx]?.getD 0)) := (hb2.cell (p := ⟨gl, t * 2 + 1, none⟩) (unhide HGL)).trans d2
          have x3 : w2.cell? ⟨w.heap.size + 2, 2, none⟩ = some (.slice (some ⟨gl, 0, none⟩) n cap) := by rw [cell_of_row w2 _ 2 _ _ _ hbo2.x]; rfl
          generalize wr.heap.size = G at *
          generalize zs[idx]?.getD 0 = zz at *
          have HBO2 := hide hbo2
          clear hy2 hb2 hbo2 HBY HZ HBO HGL d1 d2 x2
          go_wp2_with fail
          go_quiet (fail)
          go_wp2
          go_roundw
          case rel => exact ⟨t + 1, by omega, by go_num, (unhide HBO2).later (below_drewN (Below.refl _ _) _)⟩
          case measure => simp [intOf]; omega
        · obtain rfl : t = n := by omega
          have y0 : wr.cell? ⟨w.heap.size + 2, 0, none⟩ = some (.int .i64 P) := by rw [cell_of_row wr _ 0 _ _ _ hbo.x]; rfl
          have y1 : wr.cell? ⟨w.heap.size + 2, 1, none⟩ = some (.int .i64 K) := by rw [cell_of_row wr _ 1 _ _ _ hbo.x]; rfl
          have hs1 := sum_any (hbo.m.keep (w' := wr.drew) rfl rfl)
          have hs2 := refSum_any (w := wr.drew) (hbo.l.below (w' := wr.drew) (Below.refl _ _).drew) P K
          rw [sumL_nz, hbo.m.len] at hs2
          generalize sumZ zs (P * 4096) = SV at *
          have hbb : Below w.heap.size w wr.drew := hbo.b.drew
          have hS1 := hide hs1; have hS2 := hide hs2; have HB := hide hbb
          clear hbo hlt htn hs1 hs2 hbb HN
          go_wp2_with fail
          go_region_with (first | (go_at_call 16; refine (unhide hS1).mono ?_; rintro e w4 ⟨rfl, rfl⟩) | (go_at_call 17; refine (unhide hS2).mono ?_; rintro e w5 ⟨rfl, hb5⟩) | (go_at_call 18; refine (sure_any _).mono ?_; rintro e w6 ⟨rfl, hb6⟩))
          all_goals go_wp2
          all_goals go_ret
          all_goals exact ⟨rfl, Below.on (Below.on (unhide HB) hb5) hb6⟩
end Go.Proofs.Ytdeblcbdapggnaa
