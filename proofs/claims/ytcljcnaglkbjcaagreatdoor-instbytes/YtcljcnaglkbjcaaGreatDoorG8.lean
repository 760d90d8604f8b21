/- G8: what follows, part by part: each part tells what it holds. -/
import Derived.Test.YtcljcnaglkbjcaaGreatDoorG7
import Derived.Deep.QuietTactic
import Derived.BigQuiet
import Derived.Deep.RegionWith
import Derived.WalkKit
import Derived.ProofKit
import Derived.OpenShut
import Derived.ShutString
import Derived.Deep.Slices
import Derived.Test.YtcljcnaglkbjcaaGreatDoorOpI
import Derived.Test.YtcljcnaglkbjcaaGreatDoorRows
import Derived.Stop.LaidErr
import Derived.LaidHandle
import Derived.Test.YtcljcnaglkbjcaaGreatDoorNum
import Derived.ChangeOld
import Derived.ChangeSame
import Derived.ChangeVars
import Derived.JoinedOf
import Derived.RowKit
import Derived.RowKitTokens
import Derived.LaidLaws
import Derived.Stop.Joined

/- InstBytes: the walk. -/
namespace Go.Proofs.YtcljcnaglkbjcaaGreatDoor
open Go.RowKit Go.Maps Go.Shelf Mm
set_option linter.unusedVariables false

theorem bo_new {w w1 : World} (hm : MemAt w1 (w.heap.size + 1) w.heap.size 4096 4096 1 (List.replicate 4096 0)) (hb : Below w.heap.size w w1) (hs : w1.heap.size = w.heap.size + 2) :
    Bo w (w1.alloc (.cells #[.int .i64 1, .int .i64 1, .slice none 0 0] 51)) (List.replicate 4096 0) w.heap.size 4096 none 0 0 := by
  have ha : Below w1.heap.size w1 (w1.alloc (.cells #[.int .i64 1, .int .i64 1, .slice none 0 0] 51)) := (Below.refl _ _).alloc (Nat.le_refl _) _
  refine ⟨hm.below (Nat.le_refl _) ha, Nat.le_refl _, ?_, ?_, Below.on hb ha⟩
  · rw [nz_zero]
    exact ⟨World.ownsRow_nil _ _ _ _, by simp, by simp⟩
  · rw [← hs]; exact heap_alloc_new _ _
set_option maxHeartbeats 400000 in
theorem new_yes3 (p k : Int) (w : World) (h0 : 0 ≤ p) (h1 : p ≤ k) (h2 : k ≤ 16) :
    Calls Tryz.prog 20 #[.int .i64 p, .int .i64 k] w fun e w' => e = .returned (.tuple #[.pointer (some ⟨w.heap.size + 1, 0, none⟩), .nilIface]) ∧
      MemAt w' (w.heap.size + 1) w.heap.size (p.toNat * 4096) (p.toNat * 4096) k (List.replicate (p.toNat * 4096) 0) ∧ Below w.heap.size w w' ∧ w'.heap.size = w.heap.size + 2 := by
  obtain ⟨q, rfl⟩ := Int.eq_ofNat_of_zero_le h0
  have hq : q ≤ 16 := by omega
  have hmk := fun wx => run_make_row' (P := Tryz.prog) 105 5 (.int .u8 0) 1 Tryz.underlying105 Tryz.info5 rfl .i64 .i64 (q * 4096) (by omega) (by omega) wx
  have e1 : ((q * 4096 : Nat) : Int) = (q : Int) * 4096 := by omega
  rw [e1] at hmk
  have HN := hide (new_memAt w (q * 4096) k (by omega))
  clear e1
  go_enter Tryz.func20, Tryz.ntmps20
  go_wp2
  go_ret2
  exact ⟨rfl, by simpa using unhide HN, ((Below.refl _ _).alloc (Nat.le_refl _) _).alloc (by simp) _, by simp⟩
theorem new_yes2 (w : World) :
    Calls Tryz.prog 20 #[.int .i64 1, .int .i64 1] w fun e w' => e = .returned (.tuple #[.pointer (some ⟨w.heap.size + 1, 0, none⟩), .nilIface]) ∧
      MemAt w' (w.heap.size + 1) w.heap.size 4096 4096 1 (List.replicate 4096 0) ∧ Below w.heap.size w w' ∧ w'.heap.size = w.heap.size + 2 := by
  have h := new_yes3 1 1 w (by omega) (by omega) (by omega)
  simp only [Int.toNat_one, Nat.one_mul] at h
  exact h

set_option maxRecDepth 100000 in
set_option maxHeartbeats 1600000 in
theorem load_nil (w : World) (hTb : Tb w) :
    Calls Tryz.prog 21 #[.pointer none, .int .u8 40, .int .u64 0, .int .u32 0] w fun e w' => e = .returned (.tuple #[.int .u64 0, .int .i64 4, .nilIface]) ∧ Below w.heap.size w w' := by
  have hB := bytes_yes 40 (by omega) w hTb.2.2 hTb.1 (by decide)
  rw [show ab 40 = 4 by rfl, show sfx (nm 40) = false by rfl] at hB
  simp only [errV_0] at hB
  have hP : ∀ W, Calls Tryz.prog 63 #[.pointer none, .int .u64 0, .int .u64 0, .int .i64 4] W fun e w' => e = .returned (.tuple #[.slice none 0 0, .bool false]) ∧ W = w' := by
    intro W
    go_enter Tryz.func63, Tryz.ntmps63
    go_wp2
    go_ret2
    exact ⟨rfl, rfl⟩
  have hL : ∀ W, Calls Tryz.prog 31 #[.pointer none, .int .u64 0, .int .u64 0, .int .i64 4] W fun e w' => e = .returned (.tuple #[.int .u64 0, .bool false]) ∧ W = w' := by
    intro W
    have H := hide (hP W); clear hP hB hTb
    go_enter Tryz.func31, Tryz.ntmps31
    go_wp2_with fail
    refine (unhide H).mono ?_
    rintro e w1 ⟨rfl, rfl⟩
    go_wp2
    go_ret2
    exact ⟨rfl, rfl⟩
  have hl := fun W => low32_any 0 W (by omega) (by omega)
  have HLo := hide hl; have HB := hide hB; have HL := hide hL
  clear hl hB hL hP hTb
  go_enter Tryz.func21, Tryz.ntmps21
  go_wp2_with fail
  refine (unhide HB).mono ?_
  rintro e w1 ⟨rfl, k, rfl⟩
  go_wp2_with fail
  refine (unhide HLo _).mono ?_
  rintro e w1 ⟨rfl, rfl⟩
  go_wp2_with fail
  refine (unhide HL _).mono ?_
  rintro e w1 ⟨rfl, rfl⟩
  go_wp2
  go_ret3
  exact ⟨rfl, Below.drewn w k⟩

set_option maxRecDepth 100000 in
set_option maxHeartbeats 8000000 in
theorem bytes9_any (al : Option Addr) (ll cl : Nat) (A : Nat → Nat × Int × Int × Int) (w : World) (hA : Accs w al ll A) (hG : Gl w) :
    Calls Tryz.prog 5 #[.slice al ll cl] w fun e w' => e = .returned (.bool true) ∧ Below w.heap.size w w' := by
  have H := hide hA; have HG := hide hG; clear hA hG
  go_enter Tryz.func5, Tryz.ntmps5
  go_wp2_with fail
  refine (new_yes2 _).mono ?_
  rintro e w1 ⟨rfl, hm1, hb1, hs1⟩
  have hBo := bo_new hm1 hb1 hs1
  have HBo := hide hBo; have HS1 := hide hs1
  clear hm1 hb1 hBo hs1
  go_wp2_with fail
  rw [unhide HS1]
  have hlen := (unhide H).len
  go_loopw [6] (fun i wr => ∃ (j : Nat) (zs : List Int) (g capm : Nat) (ad : Option Addr) (n cap : Nat), j ≤ ll ∧ j ≤ 40 ∧ i = .int .i64 j ∧ Bo w wr zs g capm ad n cap) (fun i _ => (ll - intOf i).toNat)
  case atStart => exact ⟨0, _, _, _, _, _, _, by omega, by omega, rfl, unhide HBo⟩
  case round =>
    obtain ⟨j, zs, g, capm, ad, n, cap, hjl, hj40, rfl, hbo⟩ := hrel
    clear HBo HS1
    by_cases hl12 : j < ll ∧ j < 40
    · obtain ⟨hl1, hl2⟩ := hl12
      obtain ⟨b, off, rfl, hbw, hcs⟩ := (unhide H).at_ (by omega)
      obtain ⟨c0, c1, c2, c3⟩ := hcs j hl1
      obtain ⟨bd0, bd1, bd2, bd3⟩ := (unhide H).bd j hl1
      generalize A j = act at *
      obtain ⟨q, ta, to, tv⟩ := act
      simp only at c0 c1 c2 c3 bd0 bd1 bd2 bd3
      have hk := fun o => hbo.b.cell (p := ⟨b, o, none⟩) hbw
      have d0 := (hk _).trans c0; have d1 := (hk _).trans c1; have d2 := (hk _).trans c2; have d3 := (hk _).trans c3
      clear hcs c0 c1 c2 c3 hk
      have hj1 : (j : Int) < ll := by omega
      have hj2 : (j : Int) < 40 := by omega
      have lb := load_both q bd0 ta to bd1 bd2 zs hbo.m.byt
      have sb := store_both q bd0 ta to tv bd1 bd2 bd3 zs hbo.m.byt hbo.m.len
      obtain ⟨wA, hwA⟩ : ∃ wA, wr.alloc (.cells #[.int .u8 q, .int .u64 ta, .int .u32 to, .int .u64 tv] 74) = wA := ⟨_, rfl⟩
      have hbA : Below wr.heap.size wr wA := by rw [← hwA]; exact (Below.refl _ _).alloc (Nat.le_refl _) _
      have haA : wA.heap[wr.heap.size]? = some (.cells #[.int .u8 q, .int .u64 ta, .int .u32 to, .int .u64 tv] 74 (0, 0)) := by rw [← hwA]; exact heap_alloc_new _ _
      have HT2 := hide hbo.lt2
      have HSG := hide hbo.sg
      have HWA := hide hwA; have HA1 := hide haA; have HO1 := hide (hbo.later hbA)
      have hbr : b < wr.heap.size := Nat.lt_of_lt_of_le hbw hbo.b.size
      clear hbo hwA haA hbA bd1 bd2 bd3 hbw hl1 hl2 hjl hj40
      rcases lb with ⟨hno, hLo⟩ | ⟨h0, h54, V, T, hLo⟩
      · rcases sb with ⟨_, hSt⟩ | ⟨_, _, zs', T', hSt⟩
        · have HLo := hide hLo; have HSt := hide hSt
          clear hno hLo hSt
          obtain ⟨zs', ez⟩ : ∃ zs', zs' = zs := ⟨_, rfl⟩
          rw [show StoreB q ta to tv zs zs = StoreB q ta to tv zs zs' by rw [ez]] at HSt
          clear ez
          go_wp2_with fail
          rw [unhide HWA]
          refine ((unhide HLo).1 _ _ _ _ (unhide HO1).m ((unhide HG).below (unhide HO1).b).1).mono ?_
          rintro e wB ⟨rfl, hb⟩
          have HO2 := hide ((unhide HO1).later hb); have HA2 := hide ((hb.block _ (Array.getElem?_eq_some_iff.1 (unhide HA1)).1).trans (unhide HA1))
          clear hb HO1 HA1 HWA d0 d1 d2 d3
          have f20 : wB.cell? ⟨wr.heap.size, 0, none⟩ = some (.int .u8 q) := by rw [cell_of_row wB _ 0 _ _ _ (unhide HA2)]; rfl
          have f21 : wB.cell? ⟨wr.heap.size, 1, none⟩ = some (.int .u64 ta) := by rw [cell_of_row wB _ 1 _ _ _ (unhide HA2)]; rfl
          have f22 : wB.cell? ⟨wr.heap.size, 2, none⟩ = some (.int .u32 to) := by rw [cell_of_row wB _ 2 _ _ _ (unhide HA2)]; rfl
          have f23 : wB.cell? ⟨wr.heap.size, 3, none⟩ = some (.int .u64 tv) := by rw [cell_of_row wB _ 3 _ _ _ (unhide HA2)]; rfl
          have l2 : wr.heap.size < wB.heap.size := (Array.getElem?_eq_some_iff.1 (unhide HA2)).1
          obtain ⟨y20, y21, y22⟩ := ebox (unhide HO2).x
          have m2 : w.heap.size + 2 < wB.heap.size := (unhide HO2).lt2
          go_wp2_with fail
          refine ((unhide HLo).2 _ _ _ _ _ (unhide HO2).l).mono ?_
          rintro e wC ⟨rfl, hb⟩
          have HO3 := hide ((unhide HO2).later hb); have HA3 := hide ((hb.block _ (Array.getElem?_eq_some_iff.1 (unhide HA2)).1).trans (unhide HA2))
          clear hb HO2 HA2
          clear f20 f21 f22 f23 l2 y20 y21 y22 m2
          go_wp2_with fail
          refine (num_hit 1 _ ((unhide HG).below (unhide HO3).b).2).mono ?_
          rintro e wN ⟨rfl, hb⟩
          have HO4 := hide ((unhide HO3).later hb); have HA4 := hide ((hb.block _ (Array.getElem?_eq_some_iff.1 (unhide HA3)).1).trans (unhide HA3))
          clear hb HO3 HA3
          have f40 : wN.cell? ⟨wr.heap.size, 0, none⟩ = some (.int .u8 q) := by rw [cell_of_row wN _ 0 _ _ _ (unhide HA4)]; rfl
          have f41 : wN.cell? ⟨wr.heap.size, 1, none⟩ = some (.int .u64 ta) := by rw [cell_of_row wN _ 1 _ _ _ (unhide HA4)]; rfl
          have f42 : wN.cell? ⟨wr.heap.size, 2, none⟩ = some (.int .u32 to) := by rw [cell_of_row wN _ 2 _ _ _ (unhide HA4)]; rfl
          have f43 : wN.cell? ⟨wr.heap.size, 3, none⟩ = some (.int .u64 tv) := by rw [cell_of_row wN _ 3 _ _ _ (unhide HA4)]; rfl
          have l4 : wr.heap.size < wN.heap.size := (Array.getElem?_eq_some_iff.1 (unhide HA4)).1
          obtain ⟨y40, y41, y42⟩ := ebox (unhide HO4).x
          have m4 : w.heap.size + 2 < wN.heap.size := (unhide HO4).lt2
          go_wp2_with fail
          refine ((unhide HSt).2 _ _ _ _ _ (unhide HO4).b.size (unhide HO4).l).mono ?_
          rintro e wD ⟨ad', n', cap', rfl, hl5, hb⟩
          have HO5 := hide ((unhide HO4).later hb); have HA5 := hide ((hb.block _ (Array.getElem?_eq_some_iff.1 (unhide HA4)).1).trans (unhide HA4))
          have HP5 := hide ((unhide HO5).put ad' n' cap' zs' (.cells #[.int .i64 1, .int .i64 1, .slice ad' n' cap'] 51) hl5)
          clear hb hl5 HO4 HA4
          clear f40 f41 f42 f43 l4 y40 y41 y42 m4
          have f50 : wD.cell? ⟨wr.heap.size, 0, none⟩ = some (.int .u8 q) := by rw [cell_of_row wD _ 0 _ _ _ (unhide HA5)]; rfl
          have f51 : wD.cell? ⟨wr.heap.size, 1, none⟩ = some (.int .u64 ta) := by rw [cell_of_row wD _ 1 _ _ _ (unhide HA5)]; rfl
          have f52 : wD.cell? ⟨wr.heap.size, 2, none⟩ = some (.int .u32 to) := by rw [cell_of_row wD _ 2 _ _ _ (unhide HA5)]; rfl
          have f53 : wD.cell? ⟨wr.heap.size, 3, none⟩ = some (.int .u64 tv) := by rw [cell_of_row wD _ 3 _ _ _ (unhide HA5)]; rfl
          have l5 : wr.heap.size < wD.heap.size := (Array.getElem?_eq_some_iff.1 (unhide HA5)).1
          obtain ⟨y50, y51, y52⟩ := ebox (unhide HO5).x
          have m5 : w.heap.size + 2 < wD.heap.size := (unhide HO5).lt2
          have z0 := frozen_of_row wD (w.heap.size + 2) 0 _ _ (unhide HO5).x
          have z1 := frozen_of_row wD (w.heap.size + 2) 1 _ _ (unhide HO5).x
          have z2 := frozen_of_row wD (w.heap.size + 2) 2 _ _ (unhide HO5).x
          have hne : ¬ wr.heap.size = w.heap.size + 2 := by have := unhide HT2; omega
          go_wp2_with fail
          refine ((unhide HSt).1 _ _ _ _ (unhide HP5).1 ((unhide HG).below (unhide HP5).2.2.2).1).mono ?_
          rintro e wE ⟨rfl, hm6, ho6⟩
          have HO6 := hide (bo_mk (unhide HP5) (unhide HSG) hm6 ho6)
          clear hm6 ho6 HP5 z0 z1 z2 hne HO5 HA5
          clear f50 f51 f52 f53 l5 y50 y51 y52 m5
          go_wp2_with fail
          refine (num_hit 1 _ ((unhide HG).below (unhide HO6).b).2).mono ?_
          rintro e wF ⟨rfl, hb⟩
          have HO7 := hide ((unhide HO6).later hb)
          clear hb HO6
          go_wp2
          go_roundw
          case rel => exact ⟨j + 1, _, _, _, _, _, _, by omega, by omega, by go_num, unhide HO7⟩
          case measure => simp [intOf]; omega
        · have HLo := hide hLo; have HSt := hide hSt
          clear hno hLo hSt
          go_wp2_with fail
          rw [unhide HWA]
          refine ((unhide HLo).1 _ _ _ _ (unhide HO1).m ((unhide HG).below (unhide HO1).b).1).mono ?_
          rintro e wB ⟨rfl, hb⟩
          have HO2 := hide ((unhide HO1).later hb); have HA2 := hide ((hb.block _ (Array.getElem?_eq_some_iff.1 (unhide HA1)).1).trans (unhide HA1))
          clear hb HO1 HA1 HWA d0 d1 d2 d3
          have f20 : wB.cell? ⟨wr.heap.size, 0, none⟩ = some (.int .u8 q) := by rw [cell_of_row wB _ 0 _ _ _ (unhide HA2)]; rfl
          have f21 : wB.cell? ⟨wr.heap.size, 1, none⟩ = some (.int .u64 ta) := by rw [cell_of_row wB _ 1 _ _ _ (unhide HA2)]; rfl
          have f22 : wB.cell? ⟨wr.heap.size, 2, none⟩ = some (.int .u32 to) := by rw [cell_of_row wB _ 2 _ _ _ (unhide HA2)]; rfl
          have f23 : wB.cell? ⟨wr.heap.size, 3, none⟩ = some (.int .u64 tv) := by rw [cell_of_row wB _ 3 _ _ _ (unhide HA2)]; rfl
          have l2 : wr.heap.size < wB.heap.size := (Array.getElem?_eq_some_iff.1 (unhide HA2)).1
          obtain ⟨y20, y21, y22⟩ := ebox (unhide HO2).x
          have m2 : w.heap.size + 2 < wB.heap.size := (unhide HO2).lt2
          go_wp2_with fail
          refine ((unhide HLo).2 _ _ _ _ _ (unhide HO2).l).mono ?_
          rintro e wC ⟨rfl, hb⟩
          have HO3 := hide ((unhide HO2).later hb); have HA3 := hide ((hb.block _ (Array.getElem?_eq_some_iff.1 (unhide HA2)).1).trans (unhide HA2))
          clear hb HO2 HA2
          clear f20 f21 f22 f23 l2 y20 y21 y22 m2
          go_wp2_with fail
          refine (num_hit 1 _ ((unhide HG).below (unhide HO3).b).2).mono ?_
          rintro e wN ⟨rfl, hb⟩
          have HO4 := hide ((unhide HO3).later hb); have HA4 := hide ((hb.block _ (Array.getElem?_eq_some_iff.1 (unhide HA3)).1).trans (unhide HA3))
          clear hb HO3 HA3
          have f40 : wN.cell? ⟨wr.heap.size, 0, none⟩ = some (.int .u8 q) := by rw [cell_of_row wN _ 0 _ _ _ (unhide HA4)]; rfl
          have f41 : wN.cell? ⟨wr.heap.size, 1, none⟩ = some (.int .u64 ta) := by rw [cell_of_row wN _ 1 _ _ _ (unhide HA4)]; rfl
          have f42 : wN.cell? ⟨wr.heap.size, 2, none⟩ = some (.int .u32 to) := by rw [cell_of_row wN _ 2 _ _ _ (unhide HA4)]; rfl
          have f43 : wN.cell? ⟨wr.heap.size, 3, none⟩ = some (.int .u64 tv) := by rw [cell_of_row wN _ 3 _ _ _ (unhide HA4)]; rfl
          have l4 : wr.heap.size < wN.heap.size := (Array.getElem?_eq_some_iff.1 (unhide HA4)).1
          obtain ⟨y40, y41, y42⟩ := ebox (unhide HO4).x
          have m4 : w.heap.size + 2 < wN.heap.size := (unhide HO4).lt2
          go_wp2_with fail
          refine ((unhide HSt).2 _ _ _ _ _ (unhide HO4).b.size (unhide HO4).l).mono ?_
          rintro e wD ⟨ad', n', cap', rfl, hl5, hb⟩
          have HO5 := hide ((unhide HO4).later hb); have HA5 := hide ((hb.block _ (Array.getElem?_eq_some_iff.1 (unhide HA4)).1).trans (unhide HA4))
          have HP5 := hide ((unhide HO5).put ad' n' cap' zs' (.cells #[.int .i64 1, .int .i64 1, .slice ad' n' cap'] 51) hl5)
          clear hb hl5 HO4 HA4
          clear f40 f41 f42 f43 l4 y40 y41 y42 m4
          have f50 : wD.cell? ⟨wr.heap.size, 0, none⟩ = some (.int .u8 q) := by rw [cell_of_row wD _ 0 _ _ _ (unhide HA5)]; rfl
          have f51 : wD.cell? ⟨wr.heap.size, 1, none⟩ = some (.int .u64 ta) := by rw [cell_of_row wD _ 1 _ _ _ (unhide HA5)]; rfl
          have f52 : wD.cell? ⟨wr.heap.size, 2, none⟩ = some (.int .u32 to) := by rw [cell_of_row wD _ 2 _ _ _ (unhide HA5)]; rfl
          have f53 : wD.cell? ⟨wr.heap.size, 3, none⟩ = some (.int .u64 tv) := by rw [cell_of_row wD _ 3 _ _ _ (unhide HA5)]; rfl
          have l5 : wr.heap.size < wD.heap.size := (Array.getElem?_eq_some_iff.1 (unhide HA5)).1
          obtain ⟨y50, y51, y52⟩ := ebox (unhide HO5).x
          have m5 : w.heap.size + 2 < wD.heap.size := (unhide HO5).lt2
          have z0 := frozen_of_row wD (w.heap.size + 2) 0 _ _ (unhide HO5).x
          have z1 := frozen_of_row wD (w.heap.size + 2) 1 _ _ (unhide HO5).x
          have z2 := frozen_of_row wD (w.heap.size + 2) 2 _ _ (unhide HO5).x
          have hne : ¬ wr.heap.size = w.heap.size + 2 := by have := unhide HT2; omega
          go_wp2_with fail
          refine ((unhide HSt).1 _ _ _ _ (unhide HP5).1 ((unhide HG).below (unhide HP5).2.2.2).1).mono ?_
          rintro e wE ⟨rfl, hm6, ho6⟩
          have HO6 := hide (bo_mk (unhide HP5) (unhide HSG) hm6 ho6)
          clear hm6 ho6 HP5 z0 z1 z2 hne HO5 HA5
          clear f50 f51 f52 f53 l5 y50 y51 y52 m5
          go_wp2
          go_roundw
          case rel => exact ⟨j + 1, _, _, _, _, _, _, by omega, by omega, by go_num, unhide HO6⟩
          case measure => simp [intOf]; omega
      · rcases sb with ⟨_, hSt⟩ | ⟨_, h54', _⟩
        · have HLo := hide hLo; have HSt := hide hSt
          clear h0 h54 hLo hSt
          obtain ⟨zs', ez⟩ : ∃ zs', zs' = zs := ⟨_, rfl⟩
          rw [show StoreB q ta to tv zs zs = StoreB q ta to tv zs zs' by rw [ez]] at HSt
          clear ez
          go_wp2_with fail
          rw [unhide HWA]
          refine ((unhide HLo).1 _ _ _ _ (unhide HO1).m ((unhide HG).below (unhide HO1).b).1).mono ?_
          rintro e wB ⟨rfl, hb⟩
          have HO2 := hide ((unhide HO1).later hb); have HA2 := hide ((hb.block _ (Array.getElem?_eq_some_iff.1 (unhide HA1)).1).trans (unhide HA1))
          clear hb HO1 HA1 HWA d0 d1 d2 d3
          have f20 : wB.cell? ⟨wr.heap.size, 0, none⟩ = some (.int .u8 q) := by rw [cell_of_row wB _ 0 _ _ _ (unhide HA2)]; rfl
          have f21 : wB.cell? ⟨wr.heap.size, 1, none⟩ = some (.int .u64 ta) := by rw [cell_of_row wB _ 1 _ _ _ (unhide HA2)]; rfl
          have f22 : wB.cell? ⟨wr.heap.size, 2, none⟩ = some (.int .u32 to) := by rw [cell_of_row wB _ 2 _ _ _ (unhide HA2)]; rfl
          have f23 : wB.cell? ⟨wr.heap.size, 3, none⟩ = some (.int .u64 tv) := by rw [cell_of_row wB _ 3 _ _ _ (unhide HA2)]; rfl
          have l2 : wr.heap.size < wB.heap.size := (Array.getElem?_eq_some_iff.1 (unhide HA2)).1
          obtain ⟨y20, y21, y22⟩ := ebox (unhide HO2).x
          have m2 : w.heap.size + 2 < wB.heap.size := (unhide HO2).lt2
          go_wp2_with fail
          refine ((unhide HLo).2 _ _ _ _ _ (unhide HO2).l).mono ?_
          rintro e wC ⟨rfl, hb⟩
          have HO3 := hide ((unhide HO2).later hb); have HA3 := hide ((hb.block _ (Array.getElem?_eq_some_iff.1 (unhide HA2)).1).trans (unhide HA2))
          clear hb HO2 HA2
          clear f20 f21 f22 f23 l2 y20 y21 y22 m2
          have f30 : wC.cell? ⟨wr.heap.size, 0, none⟩ = some (.int .u8 q) := by rw [cell_of_row wC _ 0 _ _ _ (unhide HA3)]; rfl
          have f31 : wC.cell? ⟨wr.heap.size, 1, none⟩ = some (.int .u64 ta) := by rw [cell_of_row wC _ 1 _ _ _ (unhide HA3)]; rfl
          have f32 : wC.cell? ⟨wr.heap.size, 2, none⟩ = some (.int .u32 to) := by rw [cell_of_row wC _ 2 _ _ _ (unhide HA3)]; rfl
          have f33 : wC.cell? ⟨wr.heap.size, 3, none⟩ = some (.int .u64 tv) := by rw [cell_of_row wC _ 3 _ _ _ (unhide HA3)]; rfl
          have l3 : wr.heap.size < wC.heap.size := (Array.getElem?_eq_some_iff.1 (unhide HA3)).1
          obtain ⟨y30, y31, y32⟩ := ebox (unhide HO3).x
          have m3 : w.heap.size + 2 < wC.heap.size := (unhide HO3).lt2
          go_wp2_with fail
          refine ((unhide HSt).2 _ _ _ _ _ (unhide HO3).b.size (unhide HO3).l).mono ?_
          rintro e wD ⟨ad', n', cap', rfl, hl5, hb⟩
          have HO5 := hide ((unhide HO3).later hb); have HA5 := hide ((hb.block _ (Array.getElem?_eq_some_iff.1 (unhide HA3)).1).trans (unhide HA3))
          have HP5 := hide ((unhide HO5).put ad' n' cap' zs' (.cells #[.int .i64 1, .int .i64 1, .slice ad' n' cap'] 51) hl5)
          clear hb hl5 HO3 HA3
          clear f30 f31 f32 f33 l3 y30 y31 y32 m3
          have f50 : wD.cell? ⟨wr.heap.size, 0, none⟩ = some (.int .u8 q) := by rw [cell_of_row wD _ 0 _ _ _ (unhide HA5)]; rfl
          have f51 : wD.cell? ⟨wr.heap.size, 1, none⟩ = some (.int .u64 ta) := by rw [cell_of_row wD _ 1 _ _ _ (unhide HA5)]; rfl
          have f52 : wD.cell? ⟨wr.heap.size, 2, none⟩ = some (.int .u32 to) := by rw [cell_of_row wD _ 2 _ _ _ (unhide HA5)]; rfl
          have f53 : wD.cell? ⟨wr.heap.size, 3, none⟩ = some (.int .u64 tv) := by rw [cell_of_row wD _ 3 _ _ _ (unhide HA5)]; rfl
          have l5 : wr.heap.size < wD.heap.size := (Array.getElem?_eq_some_iff.1 (unhide HA5)).1
          obtain ⟨y50, y51, y52⟩ := ebox (unhide HO5).x
          have m5 : w.heap.size + 2 < wD.heap.size := (unhide HO5).lt2
          have z0 := frozen_of_row wD (w.heap.size + 2) 0 _ _ (unhide HO5).x
          have z1 := frozen_of_row wD (w.heap.size + 2) 1 _ _ (unhide HO5).x
          have z2 := frozen_of_row wD (w.heap.size + 2) 2 _ _ (unhide HO5).x
          have hne : ¬ wr.heap.size = w.heap.size + 2 := by have := unhide HT2; omega
          go_wp2_with fail
          refine ((unhide HSt).1 _ _ _ _ (unhide HP5).1 ((unhide HG).below (unhide HP5).2.2.2).1).mono ?_
          rintro e wE ⟨rfl, hm6, ho6⟩
          have HO6 := hide (bo_mk (unhide HP5) (unhide HSG) hm6 ho6)
          clear hm6 ho6 HP5 z0 z1 z2 hne HO5 HA5
          clear f50 f51 f52 f53 l5 y50 y51 y52 m5
          go_wp2_with fail
          refine (num_hit 1 _ ((unhide HG).below (unhide HO6).b).2).mono ?_
          rintro e wF ⟨rfl, hb⟩
          have HO7 := hide ((unhide HO6).later hb)
          clear hb HO6
          go_wp2
          go_roundw
          case rel => exact ⟨j + 1, _, _, _, _, _, _, by omega, by omega, by go_num, unhide HO7⟩
          case measure => simp [intOf]; omega
        · omega
    · have htest : (decide ((j : Int) < ll) && decide ((j : Int) < 40)) = false := by
        by_cases h1 : j < ll
        · have : ¬ (j : Int) < 40 := by omega
          simp [this]
        · have : ¬ (j : Int) < ll := by omega
          simp [this]
      obtain ⟨y0, y1, y2⟩ := ebox hbo.x
      have HBo := hide hbo
      have hs1 := fun W (hW : Below wr.heap.size wr W) => sum_any (hbo.m.below (Nat.le_refl _) hW)
      have hs2 := fun W (hW : Below wr.heap.size wr W) => refSum_any (hbo.l.below hW) 1 1
      rw [sumL_nz, hbo.m.len] at hs2
      generalize sumZ zs 4096 = SV at *
      have hl2 := hbo.lt2
      have hbb := hbo.b
      have HS1 := hide hs1; have HS2 := hide hs2; have HB := hide hbb
      clear hbo hs1 hs2 hbb
      by_cases h1 : j < ll
      · have h1' : (j : Int) < ll := by omega
        have h2' : ¬ (j : Int) < 40 := by omega
        clear h1 htest hl12 hjl hj40
        go_wp2_with fail
        refine (load_nil _ ((unhide HG).below (unhide HB)).1).mono ?_
        rintro e wN ⟨rfl, hbN⟩
        have hxN := (hbN.block _ hl2).trans (unhide HBo).x
        obtain ⟨v0, v1, v2⟩ := ebox hxN
        have lN := (Array.getElem?_eq_some_iff.1 hxN).1
        have HBN := hide hbN
        have HXN := hide hxN
        clear hbN hxN y0 y1 y2 hl2
        go_wp2_with fail
        go_region_held3 (fun w' => w'.cell? ⟨w.heap.size + 2, 0, none⟩ = some (.int .i64 1) ∧ w'.cell? ⟨w.heap.size + 2, 1, none⟩ = some (.int .i64 1) ∧ w'.cell? ⟨w.heap.size + 2, 2, none⟩ = some (.slice ad n cap))
          (first | go_keep)
          (first
            | (go_at_call 25
               refine (unhide HS1 _ (Below.on (unhide HBN) (drew_below wN))).mono ?_
               rintro e w4 ⟨rfl, rfl⟩)
            | (go_at_call 26
               refine (unhide HS2 _ (Below.on (unhide HBN) (drew_below wN))).mono ?_
               rintro e w5 ⟨rfl, hb5⟩
               have HB5 := hide hb5
               obtain ⟨u0, u1, u2⟩ := ebox ((hb5.block _ lN).trans (unhide HXN))
               clear hb5)
            | (go_at_call 11
               refine (sure_any _ ((unhide HG).below (Below.on (Below.on (Below.on (unhide HB) (unhide HBN)) (drew_below wN)) (unhide HB5)))).mono ?_
               rintro e w6 ⟨rfl, hb6⟩
               have HB6 := hide hb6
               obtain ⟨t0, t1, t2⟩ := ebox ((hb6.block _ (Array.getElem?_eq_some_iff.1 (((unhide HB5).block _ lN).trans (unhide HXN))).1).trans (((unhide HB5).block _ lN).trans (unhide HXN)))
               clear hb6)
            | fail)
        go_wp2
        go_ret
        exact ⟨rfl, Below.on (Below.on (Below.on (Below.on (unhide HB) (unhide HBN)) (drew_below wN)) (unhide HB5)) (unhide HB6)⟩
      · have h1' : ¬ (j : Int) < ll := by omega
        clear h1 htest hl12 hjl hj40
        go_wp2_with fail
        refine (load_nil _ ((unhide HG).below (unhide HB)).1).mono ?_
        rintro e wN ⟨rfl, hbN⟩
        have hxN := (hbN.block _ hl2).trans (unhide HBo).x
        obtain ⟨v0, v1, v2⟩ := ebox hxN
        have lN := (Array.getElem?_eq_some_iff.1 hxN).1
        have HBN := hide hbN
        have HXN := hide hxN
        clear hbN hxN y0 y1 y2 hl2
        go_wp2_with fail
        go_region_held3 (fun w' => w'.cell? ⟨w.heap.size + 2, 0, none⟩ = some (.int .i64 1) ∧ w'.cell? ⟨w.heap.size + 2, 1, none⟩ = some (.int .i64 1) ∧ w'.cell? ⟨w.heap.size + 2, 2, none⟩ = some (.slice ad n cap))
          (first | go_keep)
          (first
            | (go_at_call 25
               refine (unhide HS1 _ (Below.on (unhide HBN) (drew_below wN))).mono ?_
               rintro e w4 ⟨rfl, rfl⟩)
            | (go_at_call 26
               refine (unhide HS2 _ (Below.on (unhide HBN) (drew_below wN))).mono ?_
               rintro e w5 ⟨rfl, hb5⟩
               have HB5 := hide hb5
               obtain ⟨u0, u1, u2⟩ := ebox ((hb5.block _ lN).trans (unhide HXN))
               clear hb5)
            | (go_at_call 11
               refine (sure_any _ ((unhide HG).below (Below.on (Below.on (Below.on (unhide HB) (unhide HBN)) (drew_below wN)) (unhide HB5)))).mono ?_
               rintro e w6 ⟨rfl, hb6⟩
               have HB6 := hide hb6
               obtain ⟨t0, t1, t2⟩ := ebox ((hb6.block _ (Array.getElem?_eq_some_iff.1 (((unhide HB5).block _ lN).trans (unhide HXN))).1).trans (((unhide HB5).block _ lN).trans (unhide HXN)))
               clear hb6)
            | fail)
        go_wp2
        go_ret
        exact ⟨rfl, Below.on (Below.on (Below.on (Below.on (unhide HB) (unhide HBN)) (drew_below wN)) (unhide HB5)) (unhide HB6)⟩
end Go.Proofs.YtcljcnaglkbjcaaGreatDoor

/- InstBytes: the accesses that come in, opened. -/
namespace Go.Proofs.YtcljcnaglkbjcaaGreatDoor
open Go.ChangeShapes Go.WideShapes Go.ChangeAt Go.RowKit
set_option linter.unusedVariables false

theorem add_lit (b off j : Nat) : (⟨b, off, none⟩ : Addr).add j = ⟨b, off + j, none⟩ := by
  by_cases h : j = 0 <;> simp [Addr.add, h]
theorem one_cell {cs : List Value} {k n : Nat} {x : Value} (hl : cs.length = n) (h : (cs.drop k).take 1 = [x]) : cs[k]? = some x := by
  have h1 : ((cs.drop k).take 1)[0]? = some x := by rw [h]; rfl
  rw [List.getElem?_take_of_lt (by omega), List.getElem?_drop] at h1
  simpa using h1

/-- one access, of its four cells -/
theorem open_acc {H : Type} {enc : TypeId × Value → H} {w : World} {base : Nat} {spare : Nat → Bool} {held : Bool} {fuel : Nat} {cs : List Value} {x : DataW H × List MemPlace}
    (h : DataW.trod enc Tryz.prog w base spare held fuel 74 cs = some x) :
    ∃ (q : Nat) (ta to tv : Int), cs.length = 4 ∧ cs[0]? = some (.int .u8 q) ∧ cs[1]? = some (.int .u64 ta) ∧ cs[2]? = some (.int .u32 to) ∧ cs[3]? = some (.int .u64 tv) ∧
      q < 256 ∧ U64 ta ∧ (0 ≤ to ∧ to < 4294967296) ∧ U64 tv := by
  obtain ⟨xs, n, _, _, hl, hlen, hf⟩ := DataW.trod_struct Tryz.underlying74 h
  have hl5 : cs.length = 4 := hl.trans (by kernel_rfl)
  have hxl : xs.length = 4 := hlen
  have g0 := hf 0 _ rfl
  have g1 := hf 1 _ rfl
  have g2 := hf 2 _ rfl
  have g3 := hf 3 _ rfl
  rw [List.getElem?_eq_getElem (by omega)] at g0 g1 g2 g3
  obtain ⟨q, e0, _, w0⟩ := DataW.trod_int Tryz.underlying5 g0
  obtain ⟨ta, e1, _, w1⟩ := DataW.trod_int Tryz.underlying72 g1
  obtain ⟨to, e2, _, w2⟩ := DataW.trod_int Tryz.underlying62 g2
  obtain ⟨tv, e3, _, w3⟩ := DataW.trod_int Tryz.underlying72 g3
  have c8 : Tryz.prog.cellsOf 5 = 1 := by kernel_rfl
  have c64 : Tryz.prog.cellsOf 72 = 1 := by kernel_rfl
  have c32 : Tryz.prog.cellsOf 62 = 1 := by kernel_rfl
  have f0 : (cs.drop 0).take (Tryz.prog.cellsOf 5) = [.int .u8 q] := e0
  have f1 : (cs.drop 1).take (Tryz.prog.cellsOf 72) = [.int .u64 ta] := e1
  have f2 : (cs.drop 2).take (Tryz.prog.cellsOf 62) = [.int .u32 to] := e2
  have f3 : (cs.drop 3).take (Tryz.prog.cellsOf 72) = [.int .u64 tv] := e3
  rw [c8] at f0
  rw [c64] at f1 f3
  rw [c32] at f2
  have b0 := bounds_u8 w0; have b1 := bounds_u64 w1; have b2 := bounds_u32 w2; have b3 := bounds_u64 w3
  obtain ⟨q', rfl⟩ := Int.eq_ofNat_of_zero_le b0.1
  exact ⟨q', ta, to, tv, hl5, one_cell hl5 f0, one_cell hl5 f1, one_cell hl5 f2, one_cell hl5 f3, by omega, ⟨b1.1, by omega⟩, ⟨b2.1, by omega⟩, ⟨b3.1, by omega⟩⟩

theorem open_accs {H : Type} {enc : TypeId × Value → H} {w : World} {al : Option Addr} {ll cl : Nat} {d : DataW H} {p : List MemPlace}
    (h : DataW.Trod enc Tryz.prog w 0 (fun _ => true) true 68 (.slice al ll cl) d p) : ∃ A, Accs w al ll A := by
  obtain ⟨fuel, hf⟩ := h
  rcases Go.Deep.open_slice Tryz.underlying68 hf with ⟨hcs, _⟩ | ⟨a, len, cap, m, n, D, Pl, hcs, _, hlc, hcm, hm, _, hx⟩
  · simp [Value.cells] at hcs
    obtain ⟨rfl, rfl, rfl⟩ := hcs
    exact ⟨fun _ => (0, 0, 0, 0), ⟨by omega, fun i hi => by omega, by omega⟩⟩
  · simp [Value.cells] at hcs
    obtain ⟨rfl, rfl, rfl⟩ := hcs
    have c4 : Tryz.prog.cellsOf 74 = 4 := by kernel_rfl
    rw [c4] at hx
    simp only [if_true] at hm
    subst hm
    unfold maxLen at hcm
    obtain ⟨A, hA⟩ := Go.Deep.choose_lt (α := Nat × Int × Int × Int) (n := ll) (p := fun i x =>
        (w.cell? ((a.add (i * 4)).add 0) = some (.int .u8 x.1) ∧ w.cell? ((a.add (i * 4)).add 1) = some (.int .u64 x.2.1) ∧ w.cell? ((a.add (i * 4)).add 2) = some (.int .u32 x.2.2.1) ∧ w.cell? ((a.add (i * 4)).add 3) = some (.int .u64 x.2.2.2)) ∧
        x.1 < 256 ∧ U64 x.2.1 ∧ (0 ≤ x.2.2.1 ∧ x.2.2.1 < 4294967296) ∧ U64 x.2.2.2) (fun i hi => by
      obtain ⟨cs', h1, h2⟩ := hx i (by omega)
      obtain ⟨_, _, hc⟩ := World.cells?_some h1
      obtain ⟨q, ta, to, tv, hl, e0, e1, e2, e3, u0, u1, u2, u3⟩ := open_acc h2
      exact ⟨(q, ta, to, tv), ⟨(hc 0 (by omega)).trans e0, (hc 1 (by omega)).trans e1, (hc 2 (by omega)).trans e2, (hc 3 (by omega)).trans e3⟩, u0, u1, u2, u3⟩)
    refine ⟨A, ⟨fun h0 => ?_, fun i hi => (hA i hi).2, by omega⟩⟩
    obtain ⟨b, off, spot⟩ := a
    have hs : spot = none := by
      have := (hA 0 h0).1.1
      cases spot with
      | none => rfl
      | some s => simp [World.cell?, Addr.add] at this; split at this <;> simp_all
    subst hs
    have hb := World.block_lt_of_cell? w _ (hA 0 h0).1.1
    refine ⟨b, off, rfl, by simpa [add_lit] using hb, fun i hi => ?_⟩
    have := (hA i hi).1
    simpa [add_lit] using this
end Go.Proofs.YtcljcnaglkbjcaaGreatDoor

/- From the rows' condition on ops' tables to what the walks ask of them. -/
namespace Go.Proofs.YtcljcnaglkbjcaaGreatDoor
open Go.RowKit
set_option linter.unusedVariables false

theorem tc_of_head {P : Program} {W : World} {name : String} {d : DataW Unit} {rest : List (String × DataW Unit)} {g : Nat} {t : TypeId}
    (hg : P.globalNamed name = some g) (hty : (P.globals[g]?).map (·.type) = some t) (h : laidMet P ((name, d) :: rest) W) {vs : List Value}
    (hc : ∀ fuel (xs : List Value) p, DataW.trod (fun _ => ()) P W 0 (fun _ => true) false fuel t xs = some (d, p) → xs = vs) : TC W g vs := by
  obtain ⟨ps, ⟨g', t', cs', fuel, p, q, hg', ht', hvar, hd, _, _⟩, _⟩ := h
  obtain rfl := Option.some.inj (hg.symm.trans hg')
  obtain rfl := Option.some.inj (hty.symm.trans ht')
  have e := hc _ _ _ hd
  simp only [World.var?, hg, Option.bind_some] at hvar
  split at hvar
  · rename_i cs t fr hh
    obtain rfl := Option.some.inj hvar
    subst e
    exact ⟨(Array.getElem?_eq_some_iff.1 hh).1, t, fr, hh⟩
  · cases hvar

theorem flat_one {α : Type} (f : α → Value) : ∀ l : List α, (l.flatMap fun s => [f s]) = l.map f
  | [] => rfl
  | a :: l => by rw [List.flatMap_cons, flat_one f l]; rfl
theorem ts_of_tc {W : World} {g : Nat} {l : List (List UInt8)} (h : TC W g (l.flatMap fun s => [Value.string (str s)])) : TS W g l := by
  obtain ⟨_, t, fr, hr⟩ := h
  intro j s hj
  rw [cell_of_row W g j _ _ _ hr, flat_one]
  simp [hj]

theorem fam_of_trod {W : World} (fuel : Nat) (xs : List Value) (x : Fam) (p : List MemPlace)
    (h : DataW.trod (fun _ => ()) Tryz.prog W 0 (fun _ => true) false fuel 272 xs = some (.agg [.lit (.int .u8 x.f), .lit (.int .u8 x.l), .lit (.int .i64 x.o), .lit (.int .u8 x.x), .lit (.int .u8 x.y), .lit (.int .u8 x.g)], p)) : xs = fmC x := by
  obtain ⟨fs, hfs⟩ : ∃ fs, Tryz.prog.underlying 272 = some (.struct fs) := ⟨_, Tryz.underlying272⟩
  have hty : (Tryz.prog.underlying 272).map (fun d => match d with | .struct fs => fs.toList.map (fun f => (f.type, f.offset)) | _ => []) = some [(5, 0), (5, 1), (3, 2), (123, 3), (123, 4), (123, 5)] := by kernel_rfl
  rw [hfs] at hty
  simp only [Option.map_some, Option.some.injEq] at hty
  obtain ⟨ys, k, rfl, hx, hlen, hyl, hall⟩ := DataW.trod_struct hfs h
  rw [show Tryz.prog.cellsOf 272 = 6 by kernel_rfl] at hlen
  have hm : ys.map (·.1) = [DataW.lit (.int .u8 x.f), .lit (.int .u8 x.l), .lit (.int .i64 x.o), .lit (.int .u8 x.x), .lit (.int .u8 x.y), .lit (.int .u8 x.g)] := by
    have := congrArg Prod.fst hx
    simpa using this.symm
  have key : ∀ (i : Nat) (t : TypeId) (kd : IntKind) (z : Int), (fs.toList.map (fun f => (f.type, f.offset)))[i]? = some (t, i) → Tryz.prog.underlying t = some (.int kd) → Tryz.prog.cellsOf t = 1 → (ys.map (·.1))[i]? = some (DataW.lit (.int kd z)) → xs[i]? = some (.int kd z) := by
    intro i t kd z e1 e2 e3 e4
    simp only [List.getElem?_map, Option.map_eq_some_iff] at e1 e4
    obtain ⟨f, hf, hft⟩ := e1
    obtain ⟨y, hy, hy1⟩ := e4
    have h1 := hall i f (by simpa using hf)
    have ht : f.type = t := congrArg Prod.fst hft
    have ho : f.offset = i := congrArg Prod.snd hft
    rw [ht, ho, e3, hy] at h1
    obtain ⟨y1, y2⟩ := y
    simp only at hy1
    subst hy1
    have := int_of_trod e2 _ _ _ _ h1
    have := congrArg (·[0]?) this
    simpa [List.getElem?_take, List.getElem?_drop] using this
  have u8 : Tryz.prog.underlying 5 = some (.int .u8) := by kernel_rfl
  have ui : Tryz.prog.underlying 3 = some (.int .i64) := by kernel_rfl
  have uk : Tryz.prog.underlying 123 = some (.int .u8) := by kernel_rfl
  have s8 : Tryz.prog.cellsOf 5 = 1 := by kernel_rfl
  have si : Tryz.prog.cellsOf 3 = 1 := by kernel_rfl
  have sk : Tryz.prog.cellsOf 123 = 1 := by kernel_rfl
  rw [hty, hm] at key
  have k0 := key 0 _ _ _ rfl u8 s8 rfl
  have k1 := key 1 _ _ _ rfl u8 s8 rfl
  have k2 := key 2 _ _ _ rfl ui si rfl
  have k3 := key 3 _ _ _ rfl uk sk rfl
  have k4 := key 4 _ _ _ rfl uk sk rfl
  have k5 := key 5 _ _ _ rfl uk sk rfl
  clear key hall hx h hm hty hfs
  match xs, hlen with
  | [a, b, c, d, e, f], _ =>
    simp at k0 k1 k2 k3 k4 k5
    subst k0 k1 k2 k3 k4 k5
    rfl

theorem names_laid {W : World} {rest : List (String × DataW Unit)} (h : laidMet Tryz.prog (("mandrel/ops.names", Rows.laid_mandrel_ops_names) :: rest) W) : TS W 2 nms := by
  have h' : laidMet Tryz.prog (("mandrel/ops.names", .agg (nms.map fun s => .lit (.string s))) :: rest) W := h
  exact ts_of_tc (tc_of_head (t := 268) (by kernel_rfl) (by kernel_rfl) h' fun fuel xs p hp => cells_of_arr (n := 67) (fun s => .lit (.string s)) (fun s => [Value.string (str s)]) (str_of_trod (e := 9) (by kernel_rfl)) (by kernel_rfl) (m := 1) (by kernel_rfl) (by kernel_rfl) hp)
theorem tests_laid {W : World} {rest : List (String × DataW Unit)} (h : laidMet Tryz.prog (("mandrel/ops.testNames", Rows.laid_mandrel_ops_testNames) :: rest) W) : TS W 3 tns := by
  have h' : laidMet Tryz.prog (("mandrel/ops.testNames", .agg (tns.map fun s => .lit (.string s))) :: rest) W := h
  exact ts_of_tc (tc_of_head (t := 269) (by kernel_rfl) (by kernel_rfl) h' fun fuel xs p hp => cells_of_arr (n := 22) (fun s => .lit (.string s)) (fun s => [Value.string (str s)]) (str_of_trod (e := 9) (by kernel_rfl)) (by kernel_rfl) (m := 1) (by kernel_rfl) (by kernel_rfl) hp)
theorem reckons_laid {W : World} {rest : List (String × DataW Unit)} (h : laidMet Tryz.prog (("mandrel/ops.reckonNames", Rows.laid_mandrel_ops_reckonNames) :: rest) W) : TS W 4 rns := by
  have h' : laidMet Tryz.prog (("mandrel/ops.reckonNames", .agg (rns.map fun s => .lit (.string s))) :: rest) W := h
  exact ts_of_tc (tc_of_head (t := 270) (by kernel_rfl) (by kernel_rfl) h' fun fuel xs p hp => cells_of_arr (n := 36) (fun s => .lit (.string s)) (fun s => [Value.string (str s)]) (str_of_trod (e := 9) (by kernel_rfl)) (by kernel_rfl) (m := 1) (by kernel_rfl) (by kernel_rfl) hp)
theorem families_laid {W : World} {rest : List (String × DataW Unit)} (h : laidMet Tryz.prog (("mandrel/ops.families", Rows.laid_mandrel_ops_families) :: rest) W) : TC W 5 fmV := by
  have h' : laidMet Tryz.prog (("mandrel/ops.families", .agg (fms.map fun x => .agg [.lit (.int .u8 x.f), .lit (.int .u8 x.l), .lit (.int .i64 x.o), .lit (.int .u8 x.x), .lit (.int .u8 x.y), .lit (.int .u8 x.g)])) :: rest) W := h
  exact tc_of_head (t := 293) (by kernel_rfl) (by kernel_rfl) h' fun fuel xs p hp => cells_of_arr (n := 32) (e := 272) (m := 6) (fun x : Fam => .agg [.lit (.int .u8 x.f), .lit (.int .u8 x.l), .lit (.int .i64 x.o), .lit (.int .u8 x.x), .lit (.int .u8 x.y), .lit (.int .u8 x.g)]) fmC
    fam_of_trod (by kernel_rfl) (by kernel_rfl) (by kernel_rfl) hp
theorem access_laid {W : World} {rest : List (String × DataW Unit)} (h : laidMet Tryz.prog (("mandrel/ops.accessBytes", Rows.laid_mandrel_ops_accessBytes) :: rest) W) : TC W 1 abV := by
  have h' : laidMet Tryz.prog (("mandrel/ops.accessBytes", .agg (abs'.map fun z => .lit (.int .u8 z))) :: rest) W := h
  exact tc_of_head (t := 207) (by kernel_rfl) (by kernel_rfl) h' fun fuel xs p hp => (cells_of_arr (n := 63) (fun z : Int => .lit (.int .u8 z)) (fun z => [Value.int .u8 z]) (int_of_trod (e := 5) (by kernel_rfl)) (by kernel_rfl) (m := 1) (by kernel_rfl) (by kernel_rfl) hp).trans (flat_one _ _)
end Go.Proofs.YtcljcnaglkbjcaaGreatDoor

/- From the rows' condition on errors.errorType (beside other variables) to the variable's cell. After the guide's worked toy of errors.As. -/
namespace Go.Proofs.YtcljcnaglkbjcaaGreatDoor
open Go.ChangeShapes Go.WideShapes Go.RowKit

theorem hownKnob : ownKnob Tryz.prog.godebug = none := by kernel_rfl
theorem het : Tryz.prog.globalNamed "errors.errorType" = some 0 := by kernel_rfl
theorem honeRow : ((List.range 363).filter fun t => Tryz.prog.rowNamed t [101, 114, 114, 111, 114]) = [36] := by kernel_rfl
theorem hsize : Tryz.prog.types.size = 363 := by kernel_rfl

theorem handle_of_met {W : World} (h : handlesMet Tryz.prog [("errors.errorType", Rows.laid_errors_errorType)] W) : ErrT W := by
  obtain ⟨name, u, ty, e1, e2, e3, e4, e5⟩ := h _ (List.mem_singleton.2 rfl)
  have en : name = [101, 114, 114, 111, 114] := (Option.some.inj e1).symm
  subst en
  obtain rfl : 255 = u := Option.some.inj (Eq.trans (by kernel_rfl) e2)
  have hm : ty ∈ (List.range 363).filter fun t => Tryz.prog.rowNamed t [101, 114, 114, 111, 114] := List.mem_filter.2 ⟨List.mem_range.2 (by rw [← hsize]; exact e3), e4⟩
  rw [honeRow] at hm
  obtain rfl := List.mem_singleton.1 hm
  have hh : typeHandle Tryz.prog 36 = .pointer (some ⟨6, 36, none⟩) := by kernel_rfl
  rw [hh] at e5
  have := World.var?_cell het e5 0
  unfold ErrT
  simpa using this
end Go.Proofs.YtcljcnaglkbjcaaGreatDoor
