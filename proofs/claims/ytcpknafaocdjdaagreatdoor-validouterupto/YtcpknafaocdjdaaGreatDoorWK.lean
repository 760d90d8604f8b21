/- WK: what follows, part by part: each part tells what it holds. -/
import Derived.Test.YtcpknafaocdjdaaGreatDoorWJ
import Derived.Test.YtcpknafaocdjdaaGreatDoorWG
import Derived.Deep.RegionHeld3
import Derived.Deep.DeepCutAuto
import Derived.Maps.OwnOps

/- valid: sign, way by way (5): call_indirect. By mksg6.py. -/
namespace Go.Proofs.YtcpknafaocdjdaaGreatDoor
open Go.RowKit Go.Shelf
namespace Vw
set_option linter.unusedVariables false
set_option linter.unusedSimpArgs false
open Ex (Ins Lies Lab)
open Gm (Mod Typ Byts ModL WfM)
def ciO (ok : Bool) (ps : List Int) (rr : Int) (tl : Nat) : Option Typ := if ok && decide (0 < tl) then some ⟨ps ++ [127], rr⟩ else none
/-- an item of the types, or none -/
def ItT (w : World) (fv : Value) (N : Nat) (n : Int) (ok : Bool) (ps : List Int) (rr : Int) : Prop := ∃ pa pc, Lies (fun b => b < N) ps.length (Byts w ps) (.slice pa ps.length pc) ∧ ∀ W, Below w.heap.size w W →
  Calls Tryz.prog 61 #[fv, .int .i64 n] W fun e w' => e = .returned (.tuple #[.agg #[.slice pa ps.length pc, .int .u8 rr], .bool ok]) ∧ Below W.heap.size W w'
theorem itT_yes {w : World} {N : Nat} {M : Mod} {m : M8} (hM : MdL w N M m) {n : Int} {t : Typ} (hk : at? M.types n = some t) : ItT w m.v0 N n true t.ps t.re := by
  have hlt : 0 ≤ n ∧ n < M.types.length := by
    unfold at? at hk; split at hk
    · cases hk
    · have := (List.getElem?_eq_some_iff.1 hk).1; omega
  obtain ⟨j, rfl⟩ : ∃ j : Nat, n = j := ⟨n.toNat, by omega⟩
  have hj : j < M.types.length := by omega
  rw [at_yes hj] at hk
  cases hk
  obtain ⟨b, o, cp, hv, _, hb, _, cs, _, ⟨vp, rfl, hp⟩, hcs⟩ := hM.l.l0.at hj
  have hp2 := hp
  obtain ⟨pa, pc, rfl, -⟩ := hp
  rw [hv]
  refine ⟨pa, pc, hp2, fun W hW => ?_⟩
  have hc : ∀ k u, _ → W.cell? ⟨b, o + j * 2 + k, none⟩ = some u := fun k u hu => (hW.cell (p := ⟨b, o + j * 2 + k, none⟩) hb).trans (hcs k u hu)
  exact it_T_yes b o M.types.length cp j pa _ pc _ W (Nat.lt_of_lt_of_le hb hW.size) (by omega) (hc 0 _ rfl) (hc 1 _ rfl)
theorem itT_no {w : World} {N : Nat} {M : Mod} {m : M8} (hM : MdL w N M m) {n : Int} (hk : at? M.types n = none) : ItT w m.v0 N n false [] 0 := by
  have hlt : n < 0 ∨ (M.types.length : Int) ≤ n := by
    unfold at? at hk; split at hk
    · left; assumption
    · have := List.getElem?_eq_none_iff.1 hk; omega
  obtain ⟨a, c, hv⟩ := hM.l.l0.sl
  rw [hv]
  exact ⟨none, 0, ⟨none, 0, rfl, Nat.le_refl _, fun _ => rfl, fun h => absurd h (by simp)⟩, fun W hW => it_T_no a M.types.length c n W hlt⟩
theorem there2 {w : World} {B : Nat} {t : TypeId} {x0 x1 : Value} (h : w.heap[B]? = some (.cells #[x0, x1] t (0, 0))) : w.there B 0 2 := by
  intro j hj
  refine ⟨?_, frozen_of_row w _ _ _ _ h⟩
  rw [cell_of_row w B _ _ _ _ h, Nat.zero_add]
  match j, hj with
  | 0, _ => rfl
  | 1, _ => rfl
theorem setL2 (x0 x1 u0 u1 : Value) : setL #[x0, x1] 0 [u0, u1] = #[u0, u1] := by simp [setL]
theorem two_al (w : World) (c1 c2 : Array Value) (t1 t2 : TypeId) : ∃ WX, (w.alloc (.cells c1 t1)).alloc (.cells c2 t2) = WX ∧ Below w.heap.size w WX ∧ w.heap.size + 1 < WX.heap.size ∧ WX.heap[w.heap.size]? = some (.cells c1 t1 (0, 0)) ∧ WX.heap[w.heap.size + 1]? = some (.cells c2 t2 (0, 0)) := by
  have q1 := one_al w (.cells c1 t1)
  have q2 := one_al (w.alloc (.cells c1 t1)) (.cells c2 t2)
  have z1 : (w.alloc (.cells c1 t1)).heap.size = w.heap.size + 1 := by simp
  have r1 := heap_alloc_new w (.cells c1 t1)
  have r2 := heap_alloc_new (w.alloc (.cells c1 t1)) (.cells c2 t2)
  rw [z1] at r2
  exact ⟨_, rfl, Below.on0 q1 q2 q1.size, by simp, (q2.block _ (by omega)).trans r1, r2⟩
set_option maxRecDepth 100000 in
set_option maxHeartbeats 3200000 in
theorem sg_ci0 {w : World} {N : Nat} {m : M8} {vl va vt : Value} {lo : List Int} {s : St} (h : Wk w N m vl lo va vt s) (hl : s.la.length ≤ 1099511627776) (n al of re : Int) (vb ve vx : Value) {ga ta : Option Addr} {gl gc tl tc pl : Nat} {rr : Int} (hv0 : m.v0 = .slice ga gl gc) (hv2 : m.v2 = .slice ta tl tc) (ok : Bool) (ps : List Int) (Hpl : Hid (ps.length = pl)) (hps : ps.length ≤ 1048576) (hI : ItT w m.v0 N n ok ps rr) :
    Calls Tryz.prog 121 #[.pointer (some ⟨N, 0, none⟩), .agg #[.int .u8 17, .int .i64 n, .int .u32 al, .int .u32 of, .int .u8 re, vb, ve, vx]] w fun e w' => SgP N (ciO ok ps rr tl) e w' ∧ Below w.heap.size w w' := by
  have hlt := h.lt
  obtain ⟨W0, hW0, b1, b2, b3, b4⟩ := Gm.start2m (w := w) (ms := #[.int .u8 17, .int .i64 n, .int .u32 al, .int .u32 of, .int .u8 re, vb, ve, vx]) (ss := #[.slice none 0 0, .int .u8 0]) (t := 63) (t2 := 96)
  obtain ⟨c0, c1, c2, c3, c4, c5, c6, c7⟩ := Ex.cel8 b1
  have h0 := h.below b4
  rw [hv0] at hI
  obtain ⟨pa, pc, hLi, hI⟩ := hI
  have hLi0 := Gm.Byts.moved (g' := fun _ => True) (Gm.Mv.below b4 (fun _ _ _ => trivial)) hLi
  have HLi := hide hLi0
  rw [unhide Hpl] at hI
  have hI0 := fun W (hW : Below W0.heap.size W0 W) => hI W (Below.on0 b4 hW b4.size)
  have x0 := h0.box.mods.1
  have x2 := h0.box.mods.2.2.1
  rw [hv0] at x0
  rw [hv2] at x2
  have lN : N < W0.heap.size := by omega
  have lW : w.heap.size < W0.heap.size := by omega
  have hgt : True := trivial
  have HI := hide hI0; have HW := hide hW0; have HB := hide b4; have HR := hide b2
  clear h h0 hI hI0 hl hW0 b1 b2 b4 hv0 hv2 c2 c3 c4 c5 c6 c7 hLi hLi0
  go_enter Tryz.func121, Tryz.ntmps121
  go_upto_region 19 with fail
  rw [unhide HW]
  clear HW
  go_cut [12, 13] (fun va vb wx => ∃ B, va = .pointer (some ⟨B, 0, none⟩) ∧ vb = .bool ok ∧ Below W0.heap.size W0 wx ∧ W0.heap.size ≤ B ∧ wx.heap[B]? = some (.cells #[.slice pa pl pc, .int .u8 rr] 96 (0, 0)))
  case first =>
    have hS0 : W0.drew.cell? ⟨N, 0, none⟩ = some (.slice ga gl gc) ∧ W0.drew.cell? ⟨w.heap.size, 1, none⟩ = some (.int .i64 n) := ⟨x0, c1⟩
    refine wp_region_held_drew (S := fun w' => w'.cell? ⟨N, 0, none⟩ = some (.slice ga gl gc) ∧ w'.cell? ⟨w.heap.size, 1, none⟩ = some (.int .i64 n)) (by kernel_rfl) hS0 (fun _ => ?_)
    refine wpAnyH_take (i := 0) (oi := _) (v := ?v0_1) rfl (by kernel_rfl) (by kernel_rfl) (by kernel_rfl) (fun _ _ _ h => h) (Or.inl ⟨by kernel_rfl, ?y0_1⟩) hS0 ?_
    case y0_1 => intro wx hSw; obtain ⟨e1, e2⟩ := hSw; go_simp; first | done | rfl | simp [hgt]
    simp only [List.getElem_toArray, List.getElem_cons_succ, List.getElem_cons_zero, Act.put, List.setIfInBounds_toArray, List.set_cons_zero, List.set_cons_succ]
    refine wpAnyH_take (i := 1) (oi := _) (v := ?v1_2) rfl (by kernel_rfl) (by kernel_rfl) (by kernel_rfl) (fun _ _ _ h => h) (Or.inl ⟨by kernel_rfl, ?y1_2⟩) hS0 ?_
    case y1_2 => intro wx hSw; obtain ⟨e1, e2⟩ := hSw; go_simp; first | done | rfl | simp [hgt]
    simp only [List.getElem_toArray, List.getElem_cons_succ, List.getElem_cons_zero, Act.put, List.setIfInBounds_toArray, List.set_cons_zero, List.set_cons_succ]
    refine wpAnyH_take (i := 2) (oi := _) (v := ?v2_3) rfl (by kernel_rfl) (by kernel_rfl) (by kernel_rfl) (fun _ _ _ h => h) (Or.inl ⟨by kernel_rfl, ?y2_3⟩) hS0 ?_
    case y2_3 => intro wx hSw; obtain ⟨e1, e2⟩ := hSw; go_simp; first | done | rfl | simp [hgt]
    simp only [List.getElem_toArray, List.getElem_cons_succ, List.getElem_cons_zero, Act.put, List.setIfInBounds_toArray, List.set_cons_zero, List.set_cons_succ]
    refine wpAnyH_take (i := 3) (oi := _) (v := ?v3_4) rfl (by kernel_rfl) (by kernel_rfl) (by kernel_rfl) (fun _ _ _ h => h) (Or.inl ⟨by kernel_rfl, ?y3_4⟩) hS0 ?_
    case y3_4 => intro wx hSw; obtain ⟨e1, e2⟩ := hSw; go_simp; first | done | rfl | simp [hgt]
    simp only [List.getElem_toArray, List.getElem_cons_succ, List.getElem_cons_zero, Act.put, List.setIfInBounds_toArray, List.set_cons_zero, List.set_cons_succ]
    refine wpAnyH_take (i := 4) (oi := _) (v := ?v4_5) rfl (by kernel_rfl) (by kernel_rfl) (by kernel_rfl) (fun _ _ _ h => h) (Or.inl ⟨by kernel_rfl, ?y4_5⟩) hS0 ?_
    case y4_5 => intro wx hSw; obtain ⟨e1, e2⟩ := hSw; go_simp; first | done | rfl | simp [hgt]
    simp only [List.getElem_toArray, List.getElem_cons_succ, List.getElem_cons_zero, Act.put, List.setIfInBounds_toArray, List.set_cons_zero, List.set_cons_succ]
    refine wpAnyH_take (i := 5) (oi := _) (v := ?v5_6) rfl (by kernel_rfl) (by kernel_rfl) (by kernel_rfl) (fun _ _ _ h => h) (Or.inl ⟨by kernel_rfl, ?y5_6⟩) hS0 ?_
    case y5_6 => intro wx hSw; obtain ⟨e1, e2⟩ := hSw; go_simp; first | done | rfl | simp [hgt]
    simp only [List.getElem_toArray, List.getElem_cons_succ, List.getElem_cons_zero, Act.put, List.setIfInBounds_toArray, List.set_cons_zero, List.set_cons_succ]
    refine wpAnyH_take (i := 6) (oi := _) (v := ?v6_7) rfl (by kernel_rfl) (by kernel_rfl) (by kernel_rfl) (fun _ _ _ h => h) (Or.inl ⟨by kernel_rfl, ?y6_7⟩) hS0 ?_
    case y6_7 => intro wx hSw; obtain ⟨e1, e2⟩ := hSw; go_simp; first | done | rfl | simp [hgt]
    simp only [List.getElem_toArray, List.getElem_cons_succ, List.getElem_cons_zero, Act.put, List.setIfInBounds_toArray, List.set_cons_zero, List.set_cons_succ]
    refine wpAnyH_ready (rs := [7, 11]) (by kernel_rfl) (by simp) ?_
    refine AllReadyH.cons rfl (fun K hK => ?_) (AllReadyH.cons rfl (fun K hK => ?_) AllReadyH.nil)
    · skip
      go_simp
      go_at_call 61
      refine (unhide HI _ (drew_b W0)).mono ?_
      rintro e w4 ⟨rfl, hb4⟩
      have hB4 := Below.on (drew_b W0) hb4
      have hS4 : w4.cell? ⟨N, 0, none⟩ = some (.slice ga gl gc) ∧ w4.cell? ⟨w.heap.size, 1, none⟩ = some (.int .i64 n) := ⟨(hB4.cell (p := ⟨N, 0, none⟩) lN).trans x0, (hB4.cell (p := ⟨w.heap.size, 1, none⟩) lW).trans c1⟩
      have hsz := hB4.size
      clear hb4
      go_wp2_with fail
      refine hK.out _ _ hS4 (fun _ => ?_)
      clear hK
      refine wpAnyH_take (i := 8) (oi := _) (v := ?v8_8) rfl (by kernel_rfl) (by kernel_rfl) (by kernel_rfl) (fun _ _ _ h => h) (Or.inl ⟨by kernel_rfl, ?y8_8⟩) hS4 ?_
      case y8_8 => intro wx hSw; obtain ⟨e1, e2⟩ := hSw; go_simp; first | done | rfl | simp [hgt]
      simp only [List.getElem_toArray, List.getElem_cons_succ, List.getElem_cons_zero, Act.put, List.setIfInBounds_toArray, List.set_cons_zero, List.set_cons_succ]
      refine wpAnyH_take (i := 9) (oi := _) (v := ?v9_9) rfl (by kernel_rfl) (by kernel_rfl) (by kernel_rfl) (fun _ _ _ h => h) (Or.inl ⟨by kernel_rfl, ?y9_9⟩) hS4 ?_
      case y9_9 => intro wx hSw; obtain ⟨e1, e2⟩ := hSw; go_simp; first | done | rfl | simp [hgt]
      simp only [List.getElem_toArray, List.getElem_cons_succ, List.getElem_cons_zero, Act.put, List.setIfInBounds_toArray, List.set_cons_zero, List.set_cons_succ]
      refine wpAnyH_take (i := 10) (oi := _) (v := ?v10_10) rfl (by kernel_rfl) (by kernel_rfl) (by kernel_rfl) (fun _ _ _ h => h) (Or.inl ⟨by kernel_rfl, ?y10_10⟩) hS4 ?_
      case y10_10 => intro wx hSw; obtain ⟨e1, e2⟩ := hSw; go_simp; first | done | rfl | simp [hgt]
      simp only [List.getElem_toArray, List.getElem_cons_succ, List.getElem_cons_zero, Act.put, List.setIfInBounds_toArray, List.set_cons_zero, List.set_cons_succ]
      refine wpAnyH_ready (rs := [11]) (by kernel_rfl) (by simp) ?_
      refine AllReadyH.cons rfl (fun K hK => ?_) AllReadyH.nil
      obtain ⟨W5, hW5⟩ : ∃ W, (w4.alloc (.cells #[.slice none 0 0, .int .u8 0] 96)) = W := ⟨_, rfl⟩
      have hrW5 : W5.heap[w4.heap.size]? = some (.cells #[.slice none 0 0, .int .u8 0] 96 (0, 0)) := by rw [← hW5]; exact heap_alloc_new w4 (.cells #[.slice none 0 0, .int .u8 0] 96)
      have hbW5 : Below w4.heap.size w4 W5 := by rw [← hW5]; exact one_al _ _
      have hBW5 : Below W0.heap.size W0 W5 := Below.on0 hB4 hbW5 hB4.size
      have hzW5 : w4.heap.size < W5.heap.size := by rw [← hW5]; simp
      have hSW5 : W5.cell? ⟨N, 0, none⟩ = some (.slice ga gl gc) ∧ W5.cell? ⟨w.heap.size, 1, none⟩ = some (.int .i64 n) := ⟨(hBW5.cell (p := ⟨N, 0, none⟩) lN).trans x0, (hBW5.cell (p := ⟨w.heap.size, 1, none⟩) lW).trans c1⟩
      have EW5 := hide hW5; have PW5 := hide hrW5; have QW5 := hide hbW5; have RW5 := hide hBW5; have SW5 := hide hSW5
      clear hW5 hrW5 hbW5 hBW5 hSW5
      go_simp
      have hrW5 := unhide PW5; have hbW5 := unhide QW5; have hBW5 := unhide RW5; have hSW5 := unhide SW5
      rw [show (w4.alloc (.cells #[.slice none 0 0, .int .u8 0] 96)) = W5 from unhide EW5]
      refine hK.out _ _ hSW5 (fun _ => ?_)
      clear hK EW5
      have hfin : (W5.setCells w4.heap.size 0 [.slice pa pl pc, .int .u8 rr]).heap[w4.heap.size]? = some (.cells #[.slice pa pl pc, .int .u8 rr] 96 (0, 0)) := by rw [setC_same w4.heap.size _ _ 0 W5 _ hrW5, setL2]
      have hbel := setC_bel w4.heap.size (by omega) [.slice pa pl pc, .int .u8 rr] 0 W5 hBW5
      have hS6 := (⟨(World.cell?_of_block (a := ⟨N, 0, none⟩) (setC_other w4.heap.size N (by omega) [.slice pa pl pc, .int .u8 rr] 0 W5)).trans hSW5.1, (World.cell?_of_block (a := ⟨w.heap.size, 1, none⟩) (setC_other w4.heap.size w.heap.size (by omega) [.slice pa pl pc, .int .u8 rr] 0 W5)).trans hSW5.2⟩ : _ ∧ _)
      refine wpAnyH_ready (rs := [12]) (by kernel_rfl) (by simp) ?_
      refine AllReadyH.cons rfl (fun K hK => ?_) AllReadyH.nil
      rw [if_pos (show Region.wanted _ _ = true from rfl)]
      refine wp_store_mid 96 (.tmp 12) (.tmp 98) rfl w4.heap.size 0 #[.slice pa pl pc, .int .u8 rr] rfl rfl (there2 hrW5) (by kernel_rfl) one2 ?_
      simp only [Act.put]
      refine hK.out _ _ hS6 (fun _ => ?_)
      clear hK
      refine wpAnyH_take (i := 13) (oi := _) (v := ?v13_11) rfl (by kernel_rfl) (by kernel_rfl) (by kernel_rfl) (fun _ _ _ h => h) (Or.inl ⟨by kernel_rfl, ?y13_11⟩) hS6 ?_
      case y13_11 => intro wx hSw; obtain ⟨e1, e2⟩ := hSw; go_simp; first | done | rfl | simp [hgt]
      simp only [List.getElem_toArray, List.getElem_cons_succ, List.getElem_cons_zero, Act.put, List.setIfInBounds_toArray, List.set_cons_zero, List.set_cons_succ]
      refine wpAnyH_done (by kernel_rfl) ?_ _
      have HFin := hide hfin; have HBel := hide hbel
      clear hfin hbel hS6
      go_wp2_with fail
      go_meet
      exact ⟨w4.heap.size, rfl, rfl, unhide HBel, by omega, unhide HFin⟩
    · skip
      obtain ⟨W5, hW5⟩ : ∃ W, (W0.alloc (.cells #[.slice none 0 0, .int .u8 0] 96)).drew = W := ⟨_, rfl⟩
      have hrW5 : W5.heap[W0.heap.size]? = some (.cells #[.slice none 0 0, .int .u8 0] 96 (0, 0)) := by rw [← hW5]; exact heap_alloc_new W0 (.cells #[.slice none 0 0, .int .u8 0] 96)
      have hbW5 : Below W0.heap.size W0 W5 := by rw [← hW5]; exact Gm.ad_below9 _ _
      have hBW5 : Below W0.heap.size W0 W5 := hbW5
      have hzW5 : W0.heap.size < W5.heap.size := by rw [← hW5]; simp
      have hSW5 : W5.cell? ⟨N, 0, none⟩ = some (.slice ga gl gc) ∧ W5.cell? ⟨w.heap.size, 1, none⟩ = some (.int .i64 n) := ⟨(hBW5.cell (p := ⟨N, 0, none⟩) lN).trans x0, (hBW5.cell (p := ⟨w.heap.size, 1, none⟩) lW).trans c1⟩
      have EW5 := hide hW5; have PW5 := hide hrW5; have QW5 := hide hbW5; have RW5 := hide hBW5; have SW5 := hide hSW5
      clear hW5 hrW5 hbW5 hBW5 hSW5
      go_simp
      have hrW5 := unhide PW5; have hbW5 := unhide QW5; have hBW5 := unhide RW5; have hSW5 := unhide SW5
      rw [show (W0.alloc (.cells #[.slice none 0 0, .int .u8 0] 96)).drew = W5 from unhide EW5]
      refine hK.out _ _ hSW5 (fun _ => ?_)
      clear hK EW5
      refine wpAnyH_ready (rs := [7]) (by kernel_rfl) (by simp) ?_
      refine AllReadyH.cons rfl (fun K hK => ?_) AllReadyH.nil
      go_simp
      go_at_call 61
      refine (unhide HI _ hBW5).mono ?_
      rintro e w4 ⟨rfl, hb4⟩
      have hB4 := Below.on0 hBW5 hb4 hBW5.size
      have hS4 : w4.cell? ⟨N, 0, none⟩ = some (.slice ga gl gc) ∧ w4.cell? ⟨w.heap.size, 1, none⟩ = some (.int .i64 n) := ⟨(hB4.cell (p := ⟨N, 0, none⟩) lN).trans x0, (hB4.cell (p := ⟨w.heap.size, 1, none⟩) lW).trans c1⟩
      have hr6 := (hb4.block _ (Array.getElem?_eq_some_iff.1 hrW5).1).trans hrW5
      clear hb4
      go_wp2_with fail
      refine hK.out _ _ hS4 (fun _ => ?_)
      clear hK
      refine wpAnyH_take (i := 8) (oi := _) (v := ?v8_12) rfl (by kernel_rfl) (by kernel_rfl) (by kernel_rfl) (fun _ _ _ h => h) (Or.inl ⟨by kernel_rfl, ?y8_12⟩) hS4 ?_
      case y8_12 => intro wx hSw; obtain ⟨e1, e2⟩ := hSw; go_simp; first | done | rfl | simp [hgt]
      simp only [List.getElem_toArray, List.getElem_cons_succ, List.getElem_cons_zero, Act.put, List.setIfInBounds_toArray, List.set_cons_zero, List.set_cons_succ]
      refine wpAnyH_take (i := 9) (oi := _) (v := ?v9_13) rfl (by kernel_rfl) (by kernel_rfl) (by kernel_rfl) (fun _ _ _ h => h) (Or.inl ⟨by kernel_rfl, ?y9_13⟩) hS4 ?_
      case y9_13 => intro wx hSw; obtain ⟨e1, e2⟩ := hSw; go_simp; first | done | rfl | simp [hgt]
      simp only [List.getElem_toArray, List.getElem_cons_succ, List.getElem_cons_zero, Act.put, List.setIfInBounds_toArray, List.set_cons_zero, List.set_cons_succ]
      refine wpAnyH_take (i := 10) (oi := _) (v := ?v10_14) rfl (by kernel_rfl) (by kernel_rfl) (by kernel_rfl) (fun _ _ _ h => h) (Or.inl ⟨by kernel_rfl, ?y10_14⟩) hS4 ?_
      case y10_14 => intro wx hSw; obtain ⟨e1, e2⟩ := hSw; go_simp; first | done | rfl | simp [hgt]
      simp only [List.getElem_toArray, List.getElem_cons_succ, List.getElem_cons_zero, Act.put, List.setIfInBounds_toArray, List.set_cons_zero, List.set_cons_succ]
      have hfin : (w4.setCells W0.heap.size 0 [.slice pa pl pc, .int .u8 rr]).heap[W0.heap.size]? = some (.cells #[.slice pa pl pc, .int .u8 rr] 96 (0, 0)) := by rw [setC_same W0.heap.size _ _ 0 w4 _ hr6, setL2]
      have hbel := setC_bel W0.heap.size (by omega) [.slice pa pl pc, .int .u8 rr] 0 w4 hB4
      have hS6 := (⟨(World.cell?_of_block (a := ⟨N, 0, none⟩) (setC_other W0.heap.size N (by omega) [.slice pa pl pc, .int .u8 rr] 0 w4)).trans hS4.1, (World.cell?_of_block (a := ⟨w.heap.size, 1, none⟩) (setC_other W0.heap.size w.heap.size (by omega) [.slice pa pl pc, .int .u8 rr] 0 w4)).trans hS4.2⟩ : _ ∧ _)
      refine wpAnyH_ready (rs := [12]) (by kernel_rfl) (by simp) ?_
      refine AllReadyH.cons rfl (fun K hK => ?_) AllReadyH.nil
      rw [if_pos (show Region.wanted _ _ = true from rfl)]
      refine wp_store_mid 96 (.tmp 12) (.tmp 98) rfl W0.heap.size 0 #[.slice pa pl pc, .int .u8 rr] rfl rfl (there2 hr6) (by kernel_rfl) one2 ?_
      simp only [Act.put]
      refine hK.out _ _ hS6 (fun _ => ?_)
      clear hK
      refine wpAnyH_take (i := 13) (oi := _) (v := ?v13_15) rfl (by kernel_rfl) (by kernel_rfl) (by kernel_rfl) (fun _ _ _ h => h) (Or.inl ⟨by kernel_rfl, ?y13_15⟩) hS6 ?_
      case y13_15 => intro wx hSw; obtain ⟨e1, e2⟩ := hSw; go_simp; first | done | rfl | simp [hgt]
      simp only [List.getElem_toArray, List.getElem_cons_succ, List.getElem_cons_zero, Act.put, List.setIfInBounds_toArray, List.set_cons_zero, List.set_cons_succ]
      refine wpAnyH_done (by kernel_rfl) ?_ _
      have HFin := hide hfin; have HBel := hide hbel
      clear hfin hbel hS6
      go_wp2_with fail
      go_meet
      exact ⟨W0.heap.size, rfl, rfl, unhide HBel, by omega, unhide HFin⟩
  case rest =>
    obtain ⟨B, rfl, rfl, hbx, hge, hrow⟩ := hcut
    have kB : B < wc.heap.size := (Array.getElem?_eq_some_iff.1 hrow).1
    obtain ⟨k0, k1⟩ := Gm.cel2 hrow
    obtain ⟨W2, hW2, hb2, hz2, hrA, hrG⟩ := two_al wc #[.int .u8 127] #[.slice pa pl pc, .slice (some ⟨wc.heap.size, 0, none⟩) 1 1] 60 64
    have g0 : W2.cell? ⟨wc.heap.size + 1, 0, none⟩ = some (.slice pa ps.length pc) := by rw [cell_of_row W2 _ 0 _ _ _ hrG, unhide Hpl]; rfl
    have g1 : W2.cell? ⟨wc.heap.size + 1, 1, none⟩ = some (.slice (some ⟨wc.heap.size, 0, none⟩) ([127] : List Int).length 1) := by rw [cell_of_row W2 _ 1 _ _ _ hrG]; rfl
    have hB2 : Below W0.heap.size W0 W2 := Below.on0 hbx hb2 hbx.size
    have hL1 := Gm.Byts.moved (g' := fun _ => True) (Gm.Mv.below hB2 (fun _ _ _ => trivial)) (unhide HLi)
    have hL2 : Lies (fun _ => True) ([127] : List Int).length (Byts W2 [127]) (.slice (some ⟨wc.heap.size, 0, none⟩) ([127] : List Int).length 1) := ⟨_, 1, rfl, Nat.le_refl _, nofun, fun _ => ⟨wc.heap.size, 0, rfl, trivial, fun j hj => by
      obtain rfl : j = 0 := by simpa using hj
      rw [cell_of_row W2 _ _ _ _ _ hrA]; rfl⟩⟩
    have hcc := concat_any (w := W2) (B := wc.heap.size + 1) (g := fun _ => True) g0 g1 hL1 hL2 (by omega) (by simp)
    have hrB := (hb2.block B kB).trans hrow
    have HCc := hide hcc; have HW2 := hide hW2; have HB2 := hide hB2; have HrB := hide hrB; have Hb2 := hide hb2
    clear hcc hW2 hB2 hrB hb2 hrA hrG g0 g1 hL1 hL2 HI HLi
    go_wp2_with fail
    rw [unhide HW2]
    refine (unhide HCc).mono ?_
    rintro e w4 ⟨⟨vv, rfl, hown⟩, hb4⟩
    obtain ⟨va', vc', rfl, -⟩ := slice_of hown
    have hlies := (own_lies hown).2
    obtain ⟨LL, hLL⟩ : ∃ LL, (ps ++ [127]).length = LL := ⟨_, rfl⟩
    rw [hLL]
    have hr4 := (hb4.block B (by have := (unhide Hb2).size; omega)).trans (unhide HrB)
    have hB4 := Below.on0 (unhide HB2) hb4 (unhide HB2).size
    obtain ⟨r0, r1⟩ := Gm.cel2 hr4
    have lB : B < w4.heap.size := (Array.getElem?_eq_some_iff.1 hr4).1
    have fzB : ∀ j, w4.frozen? ⟨B, j, none⟩ = false := fun j => frozen_of_row w4 _ j _ _ hr4
    have hzz : wc.heap.size < W2.heap.size := by omega
    have hge' : W0.heap.size ≤ B := hge
    have hX0 : (w4.setCell ⟨B, 0, none⟩ (.slice va' LL vc')).heap[B]? = some (.cells #[.slice va' LL vc', .int .u8 rr] 96 (0, 0)) := (heap_setCell_same w4 B 0 _ _ _ hr4).trans rfl
    have hX1 : ∀ k, k ≠ B → (w4.setCell ⟨B, 0, none⟩ (.slice va' LL vc')).heap[k]? = w4.heap[k]? := fun k hk => heap_setCell_other w4 ⟨B, 0, none⟩ k _ hk
    have hXb : Below W0.heap.size W0 (w4.setCell ⟨B, 0, none⟩ (.slice va' LL vc')) := hB4.setCell (p := ⟨B, 0, none⟩) hge _
    have HX0 := hide hX0; have HX1 := hide hX1; have HXb := hide hXb; have HLies := hide hlies; have HLL := hide hLL
    clear hb4 hr4 hB4 hown hX0 hX1 hXb hlies hLL HCc HW2 HB2 HrB Hb2 k0 k1 hrow hbx
    go_upto_region 21 with fail
    generalize hXX : w4.setCell ⟨B, 0, none⟩ (.slice va' LL vc') = X at *
    clear hXX
    have xe0 : X.cell? ⟨B, 0, none⟩ = some (.slice va' LL vc') := by rw [cell_of_row X _ 0 _ _ _ (unhide HX0)]; rfl
    have xe1 : X.cell? ⟨B, 1, none⟩ = some (.int .u8 rr) := by rw [cell_of_row X _ 1 _ _ _ (unhide HX0)]; rfl
    have xe2 : X.cell? ⟨N, 2, none⟩ = some (.slice ta tl tc) := ((unhide HXb).cell (p := ⟨N, 2, none⟩) lN).trans x2
    have lBX : B < X.heap.size := (Array.getElem?_eq_some_iff.1 (unhide HX0)).1
    have lNX : N < X.heap.size := Nat.lt_of_lt_of_le lN (unhide HXb).size
    have hRX : X.drew.heap[w.heap.size + 1]? = some (.cells #[.slice none 0 0, .int .u8 0] 96 (0, 0)) := ((unhide HXb).block (w.heap.size + 1) b3).trans (unhide HR)
    have hBX : Below w.heap.size w X.drew := Below.on (Below.on0 (unhide HB) (unhide HXb) (unhide HB).size) (drew_b X)
    obtain ⟨Y, hY⟩ : ∃ Y, X.drew.setCells (w.heap.size + 1) 0 [.slice va' LL vc', .int .u8 rr] = Y := ⟨_, rfl⟩
    have hrY : Y.heap[w.heap.size + 1]? = some (.cells #[.slice va' LL vc', .int .u8 rr] 96 (0, 0)) := by rw [← hY, setC_same (w.heap.size + 1) _ _ 0 X.drew _ hRX, setL2]
    have hYo : ∀ k, k ≠ w.heap.size + 1 → Y.heap[k]? = X.heap[k]? := fun k hk => by rw [← hY]; exact setC_other (w.heap.size + 1) k hk _ 0 X.drew
    have hYb : Below w.heap.size w Y := by rw [← hY]; exact setC_bel (w.heap.size + 1) (by omega) _ 0 X.drew hBX
    obtain ⟨q0, q1⟩ := Gm.cel2 hrY
    have hSY : Y.cell? ⟨B, 0, none⟩ = some (.slice va' LL vc') ∧ Y.cell? ⟨B, 1, none⟩ = some (.int .u8 rr) ∧ Y.cell? ⟨N, 2, none⟩ = some (.slice ta tl tc) :=
      ⟨(World.cell?_of_block (a := ⟨B, 0, none⟩) (hYo B (by omega))).trans xe0, (World.cell?_of_block (a := ⟨B, 1, none⟩) (hYo B (by omega))).trans xe1, (World.cell?_of_block (a := ⟨N, 2, none⟩) (hYo N (by omega))).trans xe2⟩
    have hTP : TP N Y ⟨ps ++ [127], rr⟩ (.agg #[.slice va' LL vc', .int .u8 rr]) := by
      rw [← unhide HLL]
      exact ⟨va', vc', rfl, Ex.Lies.move (unhide HLies) fun hl0 b o hg hp => ⟨by omega, fun j hj => (World.cell?_of_block (a := ⟨b, o + j, none⟩) ((hYo b (by omega)).trans (unhide HX1 b (by omega)))).trans (hp j hj)⟩⟩
    have HRd := hide hRX; have EY := hide hY; have HSY := hide hSY; have HTP := hide hTP; have HQ2 := hide hYb
    clear hRX hY hSY hTP hYb hYo hrY hBX HX0 HX1 HXb HLies HLL HB HR hgt
    cases ok with
    | false =>
      have hgt : True := trivial
      have hS0 : X.drew.cell? ⟨B, 0, none⟩ = some (.slice va' LL vc') ∧ X.drew.cell? ⟨B, 1, none⟩ = some (.int .u8 rr) ∧ X.drew.cell? ⟨N, 2, none⟩ = some (.slice ta tl tc) := ⟨xe0, xe1, xe2⟩
      refine wp_region_held_drew (S := fun w' => w'.cell? ⟨B, 0, none⟩ = some (.slice va' LL vc') ∧ w'.cell? ⟨B, 1, none⟩ = some (.int .u8 rr) ∧ w'.cell? ⟨N, 2, none⟩ = some (.slice ta tl tc)) (by kernel_rfl) hS0 (fun _ => ?_)
      refine wpAnyH_take (i := 0) (oi := _) (v := ?v0_16) rfl (by kernel_rfl) (by kernel_rfl) (by kernel_rfl) (fun _ _ _ h => h) (Or.inl ⟨by kernel_rfl, ?y0_16⟩) hS0 ?_
      case y0_16 => intro wx hSw; obtain ⟨e1, e2, e3⟩ := hSw; go_simp; first | done | rfl | simp [hgt]
      simp only [List.getElem_toArray, List.getElem_cons_succ, List.getElem_cons_zero, Act.put, List.setIfInBounds_toArray, List.set_cons_zero, List.set_cons_succ]
      refine wpAnyH_take (i := 1) (oi := _) (v := ?v1_17) rfl (by kernel_rfl) (by kernel_rfl) (by kernel_rfl) (fun _ _ _ h => h) (Or.inl ⟨by kernel_rfl, ?y1_17⟩) hS0 ?_
      case y1_17 => intro wx hSw; obtain ⟨e1, e2, e3⟩ := hSw; go_simp; first | done | rfl | simp [hgt]
      simp only [List.getElem_toArray, List.getElem_cons_succ, List.getElem_cons_zero, Act.put, List.setIfInBounds_toArray, List.set_cons_zero, List.set_cons_succ]
      refine wpAnyH_take (i := 2) (oi := _) (v := ?v2_18) rfl (by kernel_rfl) (by kernel_rfl) (by kernel_rfl) (fun _ _ _ h => h) (Or.inl ⟨by kernel_rfl, ?y2_18⟩) hS0 ?_
      case y2_18 => intro wx hSw; obtain ⟨e1, e2, e3⟩ := hSw; go_simp; first | done | rfl | simp [hgt]
      simp only [List.getElem_toArray, List.getElem_cons_succ, List.getElem_cons_zero, Act.put, List.setIfInBounds_toArray, List.set_cons_zero, List.set_cons_succ]
      refine wpAnyH_take (i := 3) (oi := _) (v := undef) rfl (by kernel_rfl) (by kernel_rfl) (by kernel_rfl) (fun _ _ _ h => h) (Or.inr ⟨by kernel_rfl, rfl⟩) hS0 ?_
      simp only [List.getElem_toArray, List.getElem_cons_succ, List.getElem_cons_zero, Act.put, List.setIfInBounds_toArray, List.set_cons_zero, List.set_cons_succ]
      refine wpAnyH_take (i := 4) (oi := _) (v := undef) rfl (by kernel_rfl) (by kernel_rfl) (by kernel_rfl) (fun _ _ _ h => h) (Or.inr ⟨by kernel_rfl, rfl⟩) hS0 ?_
      simp only [List.getElem_toArray, List.getElem_cons_succ, List.getElem_cons_zero, Act.put, List.setIfInBounds_toArray, List.set_cons_zero, List.set_cons_succ]
      refine wpAnyH_take (i := 5) (oi := _) (v := undef) rfl (by kernel_rfl) (by kernel_rfl) (by kernel_rfl) (fun _ _ _ h => h) (Or.inr ⟨by kernel_rfl, rfl⟩) hS0 ?_
      simp only [List.getElem_toArray, List.getElem_cons_succ, List.getElem_cons_zero, Act.put, List.setIfInBounds_toArray, List.set_cons_zero, List.set_cons_succ]
      refine wpAnyH_take (i := 6) (oi := _) (v := undef) rfl (by kernel_rfl) (by kernel_rfl) (by kernel_rfl) (fun _ _ _ h => h) (Or.inr ⟨by kernel_rfl, rfl⟩) hS0 ?_
      simp only [List.getElem_toArray, List.getElem_cons_succ, List.getElem_cons_zero, Act.put, List.setIfInBounds_toArray, List.set_cons_zero, List.set_cons_succ]
      refine wpAnyH_take (i := 7) (oi := _) (v := undef) rfl (by kernel_rfl) (by kernel_rfl) (by kernel_rfl) (fun _ _ _ h => h) (Or.inr ⟨by kernel_rfl, rfl⟩) hS0 ?_
      simp only [List.getElem_toArray, List.getElem_cons_succ, List.getElem_cons_zero, Act.put, List.setIfInBounds_toArray, List.set_cons_zero, List.set_cons_succ]
      refine wpAnyH_take (i := 8) (oi := _) (v := undef) rfl (by kernel_rfl) (by kernel_rfl) (by kernel_rfl) (fun _ _ _ h => h) (Or.inr ⟨by kernel_rfl, rfl⟩) hS0 ?_
      simp only [List.getElem_toArray, List.getElem_cons_succ, List.getElem_cons_zero, Act.put, List.setIfInBounds_toArray, List.set_cons_zero, List.set_cons_succ]
      refine wpAnyH_take (i := 9) (oi := _) (v := undef) rfl (by kernel_rfl) (by kernel_rfl) (by kernel_rfl) (fun _ _ _ h => h) (Or.inr ⟨by kernel_rfl, rfl⟩) hS0 ?_
      simp only [List.getElem_toArray, List.getElem_cons_succ, List.getElem_cons_zero, Act.put, List.setIfInBounds_toArray, List.set_cons_zero, List.set_cons_succ]
      refine wpAnyH_take (i := 10) (oi := _) (v := ?v10_19) rfl (by kernel_rfl) (by kernel_rfl) (by kernel_rfl) (fun _ _ _ h => h) (Or.inl ⟨by kernel_rfl, ?y10_19⟩) hS0 ?_
      case y10_19 => intro wx hSw; obtain ⟨e1, e2, e3⟩ := hSw; go_simp; first | done | rfl | simp [hgt]
      simp only [List.getElem_toArray, List.getElem_cons_succ, List.getElem_cons_zero, Act.put, List.setIfInBounds_toArray, List.set_cons_zero, List.set_cons_succ]
      refine wpAnyH_ready (rs := [11]) (by kernel_rfl) (by simp) ?_
      refine AllReadyH.cons rfl (fun K hK => ?_) AllReadyH.nil
      rw [if_pos (show Region.wanted _ _ = true from rfl)]
      refine wp_store_mid 96 (.tmp 4) (.tmp 106) rfl (w.heap.size + 1) 0 #[.slice va' LL vc', .int .u8 rr] rfl rfl (there2 (unhide HRd)) (by kernel_rfl) one2 ?_
      simp only [Act.put]
      rw [show X.drew.setCells (w.heap.size + 1) 0 (#[.slice va' LL vc', .int .u8 rr] : Array Value).toList = Y from unhide EY]
      refine hK.out _ _ (unhide HSY) (fun _ => ?_)
      clear hK
      refine wpAnyH_take (i := 12) (oi := _) (v := ?v12_20) rfl (by kernel_rfl) (by kernel_rfl) (by kernel_rfl) (fun _ _ _ h => h) (Or.inl ⟨by kernel_rfl, ?y12_20⟩) (unhide HSY) ?_
      case y12_20 => intro wx hSw; obtain ⟨e1, e2, e3⟩ := hSw; go_simp; first | done | rfl | simp [hgt]
      simp only [List.getElem_toArray, List.getElem_cons_succ, List.getElem_cons_zero, Act.put, List.setIfInBounds_toArray, List.set_cons_zero, List.set_cons_succ]
      refine wpAnyH_done (by kernel_rfl) ?_ _
      go_wp2
      have q2 := unhide HQ2
      have hci : ciO false ps rr tl = none := rfl
      rw [hci]
      refine bodyPost_ret (v := .tuple #[.agg #[.slice va' LL vc', .int .u8 rr], .bool false]) (by simp [results, Tryz.results121, go_sem, q0, q1]) rfl ⟨SgP.no, q2⟩
    | true =>
      by_cases htl : 0 < tl
      · have hgt : (0 : Int) < tl := by omega
        have hS0 : X.drew.cell? ⟨B, 0, none⟩ = some (.slice va' LL vc') ∧ X.drew.cell? ⟨B, 1, none⟩ = some (.int .u8 rr) ∧ X.drew.cell? ⟨N, 2, none⟩ = some (.slice ta tl tc) := ⟨xe0, xe1, xe2⟩
        refine wp_region_held_drew (S := fun w' => w'.cell? ⟨B, 0, none⟩ = some (.slice va' LL vc') ∧ w'.cell? ⟨B, 1, none⟩ = some (.int .u8 rr) ∧ w'.cell? ⟨N, 2, none⟩ = some (.slice ta tl tc)) (by kernel_rfl) hS0 (fun _ => ?_)
        refine wpAnyH_take (i := 0) (oi := _) (v := ?v0_21) rfl (by kernel_rfl) (by kernel_rfl) (by kernel_rfl) (fun _ _ _ h => h) (Or.inl ⟨by kernel_rfl, ?y0_21⟩) hS0 ?_
        case y0_21 => intro wx hSw; obtain ⟨e1, e2, e3⟩ := hSw; go_simp; first | done | rfl | simp [hgt]
        simp only [List.getElem_toArray, List.getElem_cons_succ, List.getElem_cons_zero, Act.put, List.setIfInBounds_toArray, List.set_cons_zero, List.set_cons_succ]
        refine wpAnyH_take (i := 1) (oi := _) (v := ?v1_22) rfl (by kernel_rfl) (by kernel_rfl) (by kernel_rfl) (fun _ _ _ h => h) (Or.inl ⟨by kernel_rfl, ?y1_22⟩) hS0 ?_
        case y1_22 => intro wx hSw; obtain ⟨e1, e2, e3⟩ := hSw; go_simp; first | done | rfl | simp [hgt]
        simp only [List.getElem_toArray, List.getElem_cons_succ, List.getElem_cons_zero, Act.put, List.setIfInBounds_toArray, List.set_cons_zero, List.set_cons_succ]
        refine wpAnyH_take (i := 2) (oi := _) (v := ?v2_23) rfl (by kernel_rfl) (by kernel_rfl) (by kernel_rfl) (fun _ _ _ h => h) (Or.inl ⟨by kernel_rfl, ?y2_23⟩) hS0 ?_
        case y2_23 => intro wx hSw; obtain ⟨e1, e2, e3⟩ := hSw; go_simp; first | done | rfl | simp [hgt]
        simp only [List.getElem_toArray, List.getElem_cons_succ, List.getElem_cons_zero, Act.put, List.setIfInBounds_toArray, List.set_cons_zero, List.set_cons_succ]
        refine wpAnyH_take (i := 3) (oi := _) (v := ?v3_24) rfl (by kernel_rfl) (by kernel_rfl) (by kernel_rfl) (fun _ _ _ h => h) (Or.inl ⟨by kernel_rfl, ?y3_24⟩) hS0 ?_
        case y3_24 => intro wx hSw; obtain ⟨e1, e2, e3⟩ := hSw; go_simp; first | done | rfl | simp [hgt]
        simp only [List.getElem_toArray, List.getElem_cons_succ, List.getElem_cons_zero, Act.put, List.setIfInBounds_toArray, List.set_cons_zero, List.set_cons_succ]
        refine wpAnyH_take (i := 4) (oi := _) (v := ?v4_25) rfl (by kernel_rfl) (by kernel_rfl) (by kernel_rfl) (fun _ _ _ h => h) (Or.inl ⟨by kernel_rfl, ?y4_25⟩) hS0 ?_
        case y4_25 => intro wx hSw; obtain ⟨e1, e2, e3⟩ := hSw; go_simp; first | done | rfl | simp [hgt]
        simp only [List.getElem_toArray, List.getElem_cons_succ, List.getElem_cons_zero, Act.put, List.setIfInBounds_toArray, List.set_cons_zero, List.set_cons_succ]
        refine wpAnyH_take (i := 5) (oi := _) (v := ?v5_26) rfl (by kernel_rfl) (by kernel_rfl) (by kernel_rfl) (fun _ _ _ h => h) (Or.inl ⟨by kernel_rfl, ?y5_26⟩) hS0 ?_
        case y5_26 => intro wx hSw; obtain ⟨e1, e2, e3⟩ := hSw; go_simp; first | done | rfl | simp [hgt]
        simp only [List.getElem_toArray, List.getElem_cons_succ, List.getElem_cons_zero, Act.put, List.setIfInBounds_toArray, List.set_cons_zero, List.set_cons_succ]
        refine wpAnyH_take (i := 6) (oi := _) (v := ?v6_27) rfl (by kernel_rfl) (by kernel_rfl) (by kernel_rfl) (fun _ _ _ h => h) (Or.inl ⟨by kernel_rfl, ?y6_27⟩) hS0 ?_
        case y6_27 => intro wx hSw; obtain ⟨e1, e2, e3⟩ := hSw; go_simp; first | done | rfl | simp [hgt]
        simp only [List.getElem_toArray, List.getElem_cons_succ, List.getElem_cons_zero, Act.put, List.setIfInBounds_toArray, List.set_cons_zero, List.set_cons_succ]
        refine wpAnyH_take (i := 7) (oi := _) (v := ?v7_28) rfl (by kernel_rfl) (by kernel_rfl) (by kernel_rfl) (fun _ _ _ h => h) (Or.inl ⟨by kernel_rfl, ?y7_28⟩) hS0 ?_
        case y7_28 => intro wx hSw; obtain ⟨e1, e2, e3⟩ := hSw; go_simp; first | done | rfl | simp [hgt]
        simp only [List.getElem_toArray, List.getElem_cons_succ, List.getElem_cons_zero, Act.put, List.setIfInBounds_toArray, List.set_cons_zero, List.set_cons_succ]
        refine wpAnyH_take (i := 8) (oi := _) (v := ?v8_29) rfl (by kernel_rfl) (by kernel_rfl) (by kernel_rfl) (fun _ _ _ h => h) (Or.inl ⟨by kernel_rfl, ?y8_29⟩) hS0 ?_
        case y8_29 => intro wx hSw; obtain ⟨e1, e2, e3⟩ := hSw; go_simp; first | done | rfl | simp [hgt]
        simp only [List.getElem_toArray, List.getElem_cons_succ, List.getElem_cons_zero, Act.put, List.setIfInBounds_toArray, List.set_cons_zero, List.set_cons_succ]
        refine wpAnyH_take (i := 9) (oi := _) (v := (.bool true)) rfl (by kernel_rfl) (by kernel_rfl) (by kernel_rfl) (fun _ _ _ h => h) (Or.inl ⟨by kernel_rfl, ?y9_30⟩) hS0 ?_
        case y9_30 => intro wx hSw; obtain ⟨e1, e2, e3⟩ := hSw; go_simp; first | done | rfl | simp [hgt]
        simp only [List.getElem_toArray, List.getElem_cons_succ, List.getElem_cons_zero, Act.put, List.setIfInBounds_toArray, List.set_cons_zero, List.set_cons_succ]
        refine wpAnyH_take (i := 10) (oi := _) (v := ?v10_31) rfl (by kernel_rfl) (by kernel_rfl) (by kernel_rfl) (fun _ _ _ h => h) (Or.inl ⟨by kernel_rfl, ?y10_31⟩) hS0 ?_
        case y10_31 => intro wx hSw; obtain ⟨e1, e2, e3⟩ := hSw; go_simp; first | done | rfl | simp [hgt]
        simp only [List.getElem_toArray, List.getElem_cons_succ, List.getElem_cons_zero, Act.put, List.setIfInBounds_toArray, List.set_cons_zero, List.set_cons_succ]
        refine wpAnyH_ready (rs := [11]) (by kernel_rfl) (by simp) ?_
        refine AllReadyH.cons rfl (fun K hK => ?_) AllReadyH.nil
        rw [if_pos (show Region.wanted _ _ = true from rfl)]
        refine wp_store_mid 96 (.tmp 4) (.tmp 106) rfl (w.heap.size + 1) 0 #[.slice va' LL vc', .int .u8 rr] rfl rfl (there2 (unhide HRd)) (by kernel_rfl) one2 ?_
        simp only [Act.put]
        rw [show X.drew.setCells (w.heap.size + 1) 0 (#[.slice va' LL vc', .int .u8 rr] : Array Value).toList = Y from unhide EY]
        refine hK.out _ _ (unhide HSY) (fun _ => ?_)
        clear hK
        refine wpAnyH_take (i := 12) (oi := _) (v := ?v12_32) rfl (by kernel_rfl) (by kernel_rfl) (by kernel_rfl) (fun _ _ _ h => h) (Or.inl ⟨by kernel_rfl, ?y12_32⟩) (unhide HSY) ?_
        case y12_32 => intro wx hSw; obtain ⟨e1, e2, e3⟩ := hSw; go_simp; first | done | rfl | simp [hgt]
        simp only [List.getElem_toArray, List.getElem_cons_succ, List.getElem_cons_zero, Act.put, List.setIfInBounds_toArray, List.set_cons_zero, List.set_cons_succ]
        refine wpAnyH_done (by kernel_rfl) ?_ _
        go_wp2
        have q2 := unhide HQ2
        have hci : ciO true ps rr tl = some ⟨ps ++ [127], rr⟩ := by unfold ciO; simp; omega
        rw [hci]
        refine bodyPost_ret (v := .tuple #[.agg #[.slice va' LL vc', .int .u8 rr], .bool true]) (by simp [results, Tryz.results121, go_sem, q0, q1]) rfl ⟨SgP.yes (unhide HTP), q2⟩
      · have hgt : ¬ (0 : Int) < tl := by omega
        have hS0 : X.drew.cell? ⟨B, 0, none⟩ = some (.slice va' LL vc') ∧ X.drew.cell? ⟨B, 1, none⟩ = some (.int .u8 rr) ∧ X.drew.cell? ⟨N, 2, none⟩ = some (.slice ta tl tc) := ⟨xe0, xe1, xe2⟩
        refine wp_region_held_drew (S := fun w' => w'.cell? ⟨B, 0, none⟩ = some (.slice va' LL vc') ∧ w'.cell? ⟨B, 1, none⟩ = some (.int .u8 rr) ∧ w'.cell? ⟨N, 2, none⟩ = some (.slice ta tl tc)) (by kernel_rfl) hS0 (fun _ => ?_)
        refine wpAnyH_take (i := 0) (oi := _) (v := ?v0_33) rfl (by kernel_rfl) (by kernel_rfl) (by kernel_rfl) (fun _ _ _ h => h) (Or.inl ⟨by kernel_rfl, ?y0_33⟩) hS0 ?_
        case y0_33 => intro wx hSw; obtain ⟨e1, e2, e3⟩ := hSw; go_simp; first | done | rfl | simp [hgt]
        simp only [List.getElem_toArray, List.getElem_cons_succ, List.getElem_cons_zero, Act.put, List.setIfInBounds_toArray, List.set_cons_zero, List.set_cons_succ]
        refine wpAnyH_take (i := 1) (oi := _) (v := ?v1_34) rfl (by kernel_rfl) (by kernel_rfl) (by kernel_rfl) (fun _ _ _ h => h) (Or.inl ⟨by kernel_rfl, ?y1_34⟩) hS0 ?_
        case y1_34 => intro wx hSw; obtain ⟨e1, e2, e3⟩ := hSw; go_simp; first | done | rfl | simp [hgt]
        simp only [List.getElem_toArray, List.getElem_cons_succ, List.getElem_cons_zero, Act.put, List.setIfInBounds_toArray, List.set_cons_zero, List.set_cons_succ]
        refine wpAnyH_take (i := 2) (oi := _) (v := ?v2_35) rfl (by kernel_rfl) (by kernel_rfl) (by kernel_rfl) (fun _ _ _ h => h) (Or.inl ⟨by kernel_rfl, ?y2_35⟩) hS0 ?_
        case y2_35 => intro wx hSw; obtain ⟨e1, e2, e3⟩ := hSw; go_simp; first | done | rfl | simp [hgt]
        simp only [List.getElem_toArray, List.getElem_cons_succ, List.getElem_cons_zero, Act.put, List.setIfInBounds_toArray, List.set_cons_zero, List.set_cons_succ]
        refine wpAnyH_take (i := 3) (oi := _) (v := ?v3_36) rfl (by kernel_rfl) (by kernel_rfl) (by kernel_rfl) (fun _ _ _ h => h) (Or.inl ⟨by kernel_rfl, ?y3_36⟩) hS0 ?_
        case y3_36 => intro wx hSw; obtain ⟨e1, e2, e3⟩ := hSw; go_simp; first | done | rfl | simp [hgt]
        simp only [List.getElem_toArray, List.getElem_cons_succ, List.getElem_cons_zero, Act.put, List.setIfInBounds_toArray, List.set_cons_zero, List.set_cons_succ]
        refine wpAnyH_take (i := 4) (oi := _) (v := ?v4_37) rfl (by kernel_rfl) (by kernel_rfl) (by kernel_rfl) (fun _ _ _ h => h) (Or.inl ⟨by kernel_rfl, ?y4_37⟩) hS0 ?_
        case y4_37 => intro wx hSw; obtain ⟨e1, e2, e3⟩ := hSw; go_simp; first | done | rfl | simp [hgt]
        simp only [List.getElem_toArray, List.getElem_cons_succ, List.getElem_cons_zero, Act.put, List.setIfInBounds_toArray, List.set_cons_zero, List.set_cons_succ]
        refine wpAnyH_take (i := 5) (oi := _) (v := ?v5_38) rfl (by kernel_rfl) (by kernel_rfl) (by kernel_rfl) (fun _ _ _ h => h) (Or.inl ⟨by kernel_rfl, ?y5_38⟩) hS0 ?_
        case y5_38 => intro wx hSw; obtain ⟨e1, e2, e3⟩ := hSw; go_simp; first | done | rfl | simp [hgt]
        simp only [List.getElem_toArray, List.getElem_cons_succ, List.getElem_cons_zero, Act.put, List.setIfInBounds_toArray, List.set_cons_zero, List.set_cons_succ]
        refine wpAnyH_take (i := 6) (oi := _) (v := ?v6_39) rfl (by kernel_rfl) (by kernel_rfl) (by kernel_rfl) (fun _ _ _ h => h) (Or.inl ⟨by kernel_rfl, ?y6_39⟩) hS0 ?_
        case y6_39 => intro wx hSw; obtain ⟨e1, e2, e3⟩ := hSw; go_simp; first | done | rfl | simp [hgt]
        simp only [List.getElem_toArray, List.getElem_cons_succ, List.getElem_cons_zero, Act.put, List.setIfInBounds_toArray, List.set_cons_zero, List.set_cons_succ]
        refine wpAnyH_take (i := 7) (oi := _) (v := ?v7_40) rfl (by kernel_rfl) (by kernel_rfl) (by kernel_rfl) (fun _ _ _ h => h) (Or.inl ⟨by kernel_rfl, ?y7_40⟩) hS0 ?_
        case y7_40 => intro wx hSw; obtain ⟨e1, e2, e3⟩ := hSw; go_simp; first | done | rfl | simp [hgt]
        simp only [List.getElem_toArray, List.getElem_cons_succ, List.getElem_cons_zero, Act.put, List.setIfInBounds_toArray, List.set_cons_zero, List.set_cons_succ]
        refine wpAnyH_take (i := 8) (oi := _) (v := ?v8_41) rfl (by kernel_rfl) (by kernel_rfl) (by kernel_rfl) (fun _ _ _ h => h) (Or.inl ⟨by kernel_rfl, ?y8_41⟩) hS0 ?_
        case y8_41 => intro wx hSw; obtain ⟨e1, e2, e3⟩ := hSw; go_simp; first | done | rfl | simp [hgt]
        simp only [List.getElem_toArray, List.getElem_cons_succ, List.getElem_cons_zero, Act.put, List.setIfInBounds_toArray, List.set_cons_zero, List.set_cons_succ]
        refine wpAnyH_take (i := 9) (oi := _) (v := (.bool false)) rfl (by kernel_rfl) (by kernel_rfl) (by kernel_rfl) (fun _ _ _ h => h) (Or.inl ⟨by kernel_rfl, ?y9_42⟩) hS0 ?_
        case y9_42 => intro wx hSw; obtain ⟨e1, e2, e3⟩ := hSw; go_simp; first | done | rfl | simp [hgt]
        simp only [List.getElem_toArray, List.getElem_cons_succ, List.getElem_cons_zero, Act.put, List.setIfInBounds_toArray, List.set_cons_zero, List.set_cons_succ]
        refine wpAnyH_take (i := 10) (oi := _) (v := ?v10_43) rfl (by kernel_rfl) (by kernel_rfl) (by kernel_rfl) (fun _ _ _ h => h) (Or.inl ⟨by kernel_rfl, ?y10_43⟩) hS0 ?_
        case y10_43 => intro wx hSw; obtain ⟨e1, e2, e3⟩ := hSw; go_simp; first | done | rfl | simp [hgt]
        simp only [List.getElem_toArray, List.getElem_cons_succ, List.getElem_cons_zero, Act.put, List.setIfInBounds_toArray, List.set_cons_zero, List.set_cons_succ]
        refine wpAnyH_ready (rs := [11]) (by kernel_rfl) (by simp) ?_
        refine AllReadyH.cons rfl (fun K hK => ?_) AllReadyH.nil
        rw [if_pos (show Region.wanted _ _ = true from rfl)]
        refine wp_store_mid 96 (.tmp 4) (.tmp 106) rfl (w.heap.size + 1) 0 #[.slice va' LL vc', .int .u8 rr] rfl rfl (there2 (unhide HRd)) (by kernel_rfl) one2 ?_
        simp only [Act.put]
        rw [show X.drew.setCells (w.heap.size + 1) 0 (#[.slice va' LL vc', .int .u8 rr] : Array Value).toList = Y from unhide EY]
        refine hK.out _ _ (unhide HSY) (fun _ => ?_)
        clear hK
        refine wpAnyH_take (i := 12) (oi := _) (v := ?v12_44) rfl (by kernel_rfl) (by kernel_rfl) (by kernel_rfl) (fun _ _ _ h => h) (Or.inl ⟨by kernel_rfl, ?y12_44⟩) (unhide HSY) ?_
        case y12_44 => intro wx hSw; obtain ⟨e1, e2, e3⟩ := hSw; go_simp; first | done | rfl | simp [hgt]
        simp only [List.getElem_toArray, List.getElem_cons_succ, List.getElem_cons_zero, Act.put, List.setIfInBounds_toArray, List.set_cons_zero, List.set_cons_succ]
        refine wpAnyH_done (by kernel_rfl) ?_ _
        go_wp2
        have q2 := unhide HQ2
        have hci : ciO true ps rr tl = none := by unfold ciO; simp; omega
        rw [hci]
        refine bodyPost_ret (v := .tuple #[.agg #[.slice va' LL vc', .int .u8 rr], .bool false]) (by simp [results, Tryz.results121, go_sem, q0, q1]) rfl ⟨SgP.no, q2⟩

theorem ciOk : CiOk := by
  intro w N m vl va vt lo s h hl n al of re vb ve vx M hM hty
  obtain ⟨ga, gc, hv0⟩ := hM.l.l0.sl
  obtain ⟨ta, tc, hv2⟩ := hM.l.l2.sl
  have he : ∀ ok ps rr, ciO ok ps rr M.tables.length = (if 0 < M.tables.length then (if ok then some ⟨ps ++ [127], rr⟩ else none) else none) := fun ok ps rr => by
    unfold ciO
    by_cases h0 : 0 < M.tables.length
    · rw [if_pos h0, decide_eq_true h0, Bool.and_true]
    · rw [if_neg h0, decide_eq_false h0, Bool.and_false]; rfl
  cases hk : at? M.types n with
  | none =>
    have := sg_ci0 h hl n al of re vb ve vx hv0 hv2 false [] (hide rfl) (by simp) (itT_no hM hk)
    rw [he] at this
    exact this
  | some t =>
    have htm : t ∈ M.types := by
      unfold at? at hk; split at hk
      · cases hk
      · exact List.mem_of_getElem? hk
    have := sg_ci0 h hl n al of re vb ve vx hv0 hv2 true t.ps (hide rfl) (hty t htm) (itT_yes hM hk)
    rw [he] at this
    exact this
end Vw
end Go.Proofs.YtcpknafaocdjdaaGreatDoor

/- valid: Check of modules of types and functions alone. By mkck.py. -/
namespace Go.Proofs.YtcpknafaocdjdaaGreatDoor
open Go.RowKit Go.Shelf
namespace Vw
set_option linter.unusedVariables false
set_option linter.unusedSimpArgs false
open Ex (Ins Lies Lab cnt)
open Gm (Mod Typ Fnc Byts ModL WfM LL TypC FncC)
variable {a0 a1 : Option Addr} {n0 k0 n1 k1 : Nat}

set_option maxRecDepth 100000 in
set_option maxHeartbeats 1000000 in
theorem lim_nil {a0 a1 : Option Addr} {n0 k0 n1 k1 : Nat} (w : World) :
    Calls Tryz.prog 23 #[.agg #[.slice a0 n0 k0, .slice a1 n1 k1, .slice none 0 0, .slice none 0 0, .slice none 0 0, .slice none 0 0, .slice none 0 0, .slice none 0 0]] w fun e w' => e = .returned (.bool true) ∧ Below w.heap.size w w' := by
  have hB0 := one_al w (.cells #[.slice a0 n0 k0, .slice a1 n1 k1, .slice none 0 0, .slice none 0 0, .slice none 0 0, .slice none 0 0, .slice none 0 0, .slice none 0 0] 41)
  have hr0 := heap_alloc_new w (.cells #[.slice a0 n0 k0, .slice a1 n1 k1, .slice none 0 0, .slice none 0 0, .slice none 0 0, .slice none 0 0, .slice none 0 0, .slice none 0 0] 41)
  have HB0 := hide hB0; have HR0 := hide hr0
  clear hB0 hr0
  go_enter Tryz.func23, Tryz.ntmps23
  go_wp2_with fail
  generalize w.alloc (.cells #[.slice a0 n0 k0, .slice a1 n1 k1, .slice none 0 0, .slice none 0 0, .slice none 0 0, .slice none 0 0, .slice none 0 0, .slice none 0 0] 41) = w0 at *
  refine (all0_L _ _ _ _ _).mono ?_
  rintro e w1 ⟨rfl, hb1⟩
  have hr1 := (hb1.block _ (Array.getElem?_eq_some_iff.1 (unhide HR0)).1).trans (unhide HR0)
  have hlt1 := (Array.getElem?_eq_some_iff.1 hr1).1
  obtain ⟨p10, p11, p12, p13, p14, p15, p16, p17⟩ := mbox hr1
  have HB1 := hide (Below.on0 (unhide HB0) hb1 (unhide HB0).size); have HR1 := hide hr1
  clear hb1 hr1
  go_wp2_with fail
  refine (all0_L _ _ _ _ _).mono ?_
  rintro e w2 ⟨rfl, hb2⟩
  have hr2 := (hb2.block _ (Array.getElem?_eq_some_iff.1 (unhide HR1)).1).trans (unhide HR1)
  have hlt2 := (Array.getElem?_eq_some_iff.1 hr2).1
  obtain ⟨p20, p21, p22, p23, p24, p25, p26, p27⟩ := mbox hr2
  have HB2 := hide (Below.on0 (unhide HB1) hb2 (unhide HB1).size); have HR2 := hide hr2
  clear hb2 hr2
  go_wp2
  go_ret
  exact ⟨rfl, unhide HB2⟩

set_option maxRecDepth 100000 in
set_option maxHeartbeats 1000000 in
theorem exp_nil {a0 a1 : Option Addr} {n0 k0 n1 k1 : Nat} (w : World) :
    Calls Tryz.prog 50 #[.agg #[.slice a0 n0 k0, .slice a1 n1 k1, .slice none 0 0, .slice none 0 0, .slice none 0 0, .slice none 0 0, .slice none 0 0, .slice none 0 0]] w fun e w' => e = .returned (.bool true) ∧ Below w.heap.size w w' := by
  have hmm := @run_makeMap Tryz.prog
  obtain ⟨wA, eA⟩ : ∃ wA, (w.alloc (.cells #[.slice a0 n0 k0, .slice a1 n1 k1, .slice none 0 0, .slice none 0 0, .slice none 0 0, .slice none 0 0, .slice none 0 0, .slice none 0 0] 41)).alloc (.map #[] 0) = wA := ⟨_, rfl⟩
  have hA : Below w.heap.size w wA := by rw [← eA]; exact ((Below.refl _ _).alloc (Nat.le_refl _) _).alloc (by simp) _
  have HA := hide hA; have EA := hide eA
  clear hA eA
  go_enter Tryz.func50, Tryz.ntmps50
  go_wp2_with (simp only [hmm])
  refine wp_loop_rounds 1 ?_
  rw [rounds_succ]
  go_wp2
  go_ret
  exact ⟨rfl, by first | exact unhide HA | (rw [unhide EA]; exact unhide HA)⟩

set_option maxRecDepth 100000 in
set_option maxHeartbeats 1000000 in
theorem partc1 {a0 a1 : Option Addr} {n0 k0 n1 k1 : Nat} {w W : World} {g : Nat → Prop} {ts : List Typ} (Bx : Nat) (hL : LL TypC 2 w g ts (.slice a0 n0 k0)) (hW : Below w.heap.size w W) (hr : W.heap[Bx]? = some (.cells #[.slice a0 n0 k0, .slice a1 n1 k1, .slice none 0 0, .slice none 0 0, .slice none 0 0, .slice none 0 0, .slice none 0 0, .slice none 0 0] 41 (0, 0))) {ty : Nat} (hty : ty < ts.length) (h32 : ty < 4294967296) {la ba : Option Addr} {fl lc bl bc : Nat} :
    Calls Tryz.prog 45 (#[.agg #[.int .u32 (ty : Int), .slice la fl lc, .slice ba bl bc]] ++ #[.pointer (some ⟨Bx, 0, none⟩)]) W fun e w' => e = .returned (.bool true) ∧ Below W.heap.size W w' := by
  obtain ⟨b, o, cp, hv, -, hb, -, cs, -, ⟨vp, rfl, hp⟩, hcs⟩ := hL.at hty
  obtain ⟨pa, pc, rfl, -⟩ := hp
  cases hv
  have hA := one_al W (.cells #[.int .u32 (ty : Int), .slice la fl lc, .slice ba bl bc] 66)
  have hc0 := (hA.cell (p := ⟨b, o + ty * 2 + 0, none⟩) (Nat.lt_of_lt_of_le hb hW.size)).trans ((hW.cell (p := ⟨b, o + ty * 2 + 0, none⟩) hb).trans (hcs 0 _ rfl))
  have hc1 := (hA.cell (p := ⟨b, o + ty * 2 + 1, none⟩) (Nat.lt_of_lt_of_le hb hW.size)).trans ((hW.cell (p := ⟨b, o + ty * 2 + 1, none⟩) hb).trans (hcs 1 _ rfl))
  have hth := there_T_yes b o ts.length k0 ty pa _ pc _ _ (Nat.lt_of_lt_of_le hb (Nat.le_trans hW.size hA.size)) (by omega) (by omega) hc0 hc1
  have HTh := hide hth; have HA := hide hA
  have hlt := (Array.getElem?_eq_some_iff.1 hr).1
  obtain ⟨p0, p1, p2, p3, p4, p5, p6, p7⟩ := mbox hr
  have hne : ¬ Bx = W.heap.size := by omega
  clear hth hA hc0 hc1 hcs hr
  go_enter Tryz.func45, Tryz.ntmps45
  go_wp2_with fail
  refine (unhide HTh).mono ?_
  rintro e w1 ⟨rfl, hb1⟩
  have HB := hide (Below.on0 (unhide HA) hb1 (unhide HA).size)
  clear hb1
  go_wp2
  go_ret
  exact ⟨rfl, unhide HB⟩

set_option maxRecDepth 100000 in
set_option maxHeartbeats 2000000 in
theorem parts_nil {a0 a1 : Option Addr} {n0 k0 n1 k1 : Nat} {w : World} {g : Nat → Prop} {ts : List Typ} {fs : List Fnc} (hL : LL TypC 2 w g ts (.slice a0 n0 k0)) (hF : LL FncC 3 w g fs (.slice a1 n1 k1)) (hn : fs.length < 1099511627776) (hty : ∀ x ∈ fs, ∃ ty : Nat, x.ty = ty ∧ ty < ts.length ∧ ty < 4294967296) :
    Calls Tryz.prog 25 #[.agg #[.slice a0 n0 k0, .slice a1 n1 k1, .slice none 0 0, .slice none 0 0, .slice none 0 0, .slice none 0 0, .slice none 0 0, .slice none 0 0]] w fun e w' => e = .returned (.bool true) ∧ Below w.heap.size w w' := by
  have hB0 := one_al w (.cells #[.slice a0 n0 k0, .slice a1 n1 k1, .slice none 0 0, .slice none 0 0, .slice none 0 0, .slice none 0 0, .slice none 0 0, .slice none 0 0] 41)
  have hr0 := heap_alloc_new w (.cells #[.slice a0 n0 k0, .slice a1 n1 k1, .slice none 0 0, .slice none 0 0, .slice none 0 0, .slice none 0 0, .slice none 0 0, .slice none 0 0] 41)
  have hF0 := hF.moved (g' := g) (Gm.Mv.below hB0 (fun k _ q => q)) hB0.size (fun _ _ q => FncC.moved (Gm.Mv.below hB0 (fun k _ q => q)) q)
  have hL0 := hL.moved (g' := g) (Gm.Mv.below hB0 (fun k _ q => q)) hB0.size (fun _ _ q => TypC.moved (Gm.Mv.below hB0 (fun k _ q => q)) q)
  have hall := allL_F hF0 hn 45 #[.pointer (some ⟨w.heap.size, 0, none⟩)] (enters_of Tryz.func45 (by kernel_rfl) rfl) (fun _ => true) (fun x hx c0 c1 c2 hI W hW => by
    obtain ⟨v, v', e, hv, hb⟩ := hI
    injection e with e1 e2; injection e2 with e2 e3; injection e3 with e3 e4
    subst e1 e2 e3
    obtain ⟨la, lc, rfl, -⟩ := hv
    obtain ⟨ba, bc, rfl, -⟩ := hb
    obtain ⟨ty, h1, h2, h3⟩ := hty x hx
    rw [h1]
    exact partc1 w.heap.size hL0 hW ((hW.block _ (Array.getElem?_eq_some_iff.1 hr0).1).trans hr0) h2 h3)
  rw [show (fs.all fun _ => true) = true by simp] at hall
  have HAll := hide hall; have HB0 := hide hB0; have HR0 := hide hr0
  have HEx := hide (fun W => exp_nil (a0 := a0) (a1 := a1) (n0 := n0) (k0 := k0) (n1 := n1) (k1 := k1) W)
  clear hall hB0 hr0 hF0 hL0 hF hL hty
  go_enter Tryz.func25, Tryz.ntmps25
  go_wp2_with fail
  generalize w.alloc (.cells #[.slice a0 n0 k0, .slice a1 n1 k1, .slice none 0 0, .slice none 0 0, .slice none 0 0, .slice none 0 0, .slice none 0 0, .slice none 0 0] 41) = w0 at *
  refine (unhide HAll).mono ?_
  rintro e w1 ⟨rfl, hb1⟩
  have hr1 := (hb1.block _ (Array.getElem?_eq_some_iff.1 (unhide HR0)).1).trans (unhide HR0)
  have hlt1 := (Array.getElem?_eq_some_iff.1 hr1).1
  obtain ⟨p10, p11, p12, p13, p14, p15, p16, p17⟩ := mbox hr1
  have HB1 := hide (Below.on0 (unhide HB0) hb1 (unhide HB0).size); have HR1 := hide hr1
  clear hb1 hr1
  go_wp2_with fail
  refine (all0_L _ _ _ _ _).mono ?_
  rintro e w2 ⟨rfl, hb2⟩
  have hr2 := (hb2.block _ (Array.getElem?_eq_some_iff.1 (unhide HR1)).1).trans (unhide HR1)
  have hlt2 := (Array.getElem?_eq_some_iff.1 hr2).1
  obtain ⟨p20, p21, p22, p23, p24, p25, p26, p27⟩ := mbox hr2
  have HB2 := hide (Below.on0 (unhide HB1) hb2 (unhide HB1).size); have HR2 := hide hr2
  clear hb2 hr2
  clear p10 p11 p12 p13 p14 p15 p16 p17 hlt1
  go_wp2_with fail
  refine (all0_L _ _ _ _ _).mono ?_
  rintro e w3 ⟨rfl, hb3⟩
  have hr3 := (hb3.block _ (Array.getElem?_eq_some_iff.1 (unhide HR2)).1).trans (unhide HR2)
  have hlt3 := (Array.getElem?_eq_some_iff.1 hr3).1
  obtain ⟨p30, p31, p32, p33, p34, p35, p36, p37⟩ := mbox hr3
  have HB3 := hide (Below.on0 (unhide HB2) hb3 (unhide HB2).size); have HR3 := hide hr3
  clear hb3 hr3
  clear p20 p21 p22 p23 p24 p25 p26 p27 hlt2
  go_wp2_with fail
  refine (all0_G _ _ _ _ _).mono ?_
  rintro e w4 ⟨rfl, hb4⟩
  have hr4 := (hb4.block _ (Array.getElem?_eq_some_iff.1 (unhide HR3)).1).trans (unhide HR3)
  have hlt4 := (Array.getElem?_eq_some_iff.1 hr4).1
  obtain ⟨p40, p41, p42, p43, p44, p45, p46, p47⟩ := mbox hr4
  have HB4 := hide (Below.on0 (unhide HB3) hb4 (unhide HB3).size); have HR4 := hide hr4
  clear hb4 hr4
  clear p30 p31 p32 p33 p34 p35 p36 p37 hlt3
  go_wp2_with fail
  refine (unhide HEx _).mono ?_
  rintro e w5 ⟨rfl, hb5⟩
  have hr5 := (hb5.block _ (Array.getElem?_eq_some_iff.1 (unhide HR4)).1).trans (unhide HR4)
  have hlt5 := (Array.getElem?_eq_some_iff.1 hr5).1
  obtain ⟨p50, p51, p52, p53, p54, p55, p56, p57⟩ := mbox hr5
  have HB5 := hide (Below.on0 (unhide HB4) hb5 (unhide HB4).size); have HR5 := hide hr5
  clear hb5 hr5
  clear p40 p41 p42 p43 p44 p45 p46 p47 hlt4
  go_wp2_with fail
  refine (all0_E _ _ _ _ _).mono ?_
  rintro e w6 ⟨rfl, hb6⟩
  have hr6 := (hb6.block _ (Array.getElem?_eq_some_iff.1 (unhide HR5)).1).trans (unhide HR5)
  have hlt6 := (Array.getElem?_eq_some_iff.1 hr6).1
  obtain ⟨p60, p61, p62, p63, p64, p65, p66, p67⟩ := mbox hr6
  have HB6 := hide (Below.on0 (unhide HB5) hb6 (unhide HB5).size); have HR6 := hide hr6
  clear hb6 hr6
  clear p50 p51 p52 p53 p54 p55 p56 p57 hlt5
  go_wp2_with fail
  refine (all0_D _ _ _ _ _).mono ?_
  rintro e w7 ⟨rfl, hb7⟩
  have HBz := hide (Below.on0 (unhide HB6) hb7 (unhide HB6).size)
  clear hb7
  go_wp2
  go_ret
  exact ⟨rfl, unhide HBz⟩
end Vw
end Go.Proofs.YtcpknafaocdjdaaGreatDoor

/- valid: Check of modules of types and functions alone, whole. By mkcl.py. -/
namespace Go.Proofs.YtcpknafaocdjdaaGreatDoor
open Go.RowKit Go.Shelf
namespace Vw
set_option linter.unusedVariables false
set_option linter.unusedSimpArgs false
open Ex (Ins Lies Lab cnt)
open Gm (Mod Typ Fnc Byts ModL WfM LL TypC FncC)
def CkP (M : Mod) (e : Ending) : Prop := ∃ at_ er : Int, e = .returned (.tuple #[.int .i64 at_, errV er]) ∧ ((er = 0 ∧ at_ = -1 ∧ ∀ j, j < M.funcs.length → (over M j).isSome = true) ∨ (er = 7 ∧ ∃ k : Nat, k < M.funcs.length ∧ at_ = k ∧ over M k = none ∧ ∀ j, j < k → (over M j).isSome = true))
theorem ty_of {M : Mod} {k : Nat} (hk : k < M.funcs.length) (hty : ∀ x ∈ M.funcs, ∃ ty : Nat, x.ty = ty ∧ ty < M.types.length ∧ ty < 4294967296) : ∃ t, M.types[(M.funcs[k]).ty.toNat]? = some t := by
  obtain ⟨ty, h1, h2, -⟩ := hty _ (List.getElem_mem hk)
  rw [h1, Int.toNat_natCast]
  exact ⟨_, List.getElem?_eq_getElem h2⟩

set_option maxRecDepth 100000 in
set_option maxHeartbeats 4000000 in
theorem check_nil {a0 a1 : Option Addr} {n0 k0 n1 k1 : Nat} {w : World} {M : Mod} (h : ModL w (fun b => b < w.heap.size) M (.slice a0 n0 k0) (.slice a1 n1 k1) (.slice none 0 0) (.slice none 0 0) (.slice none 0 0) (.slice none 0 0) (.slice none 0 0) (.slice none 0 0)) (hwf : WfM M) (hT : Tb w) (hz : SzV M) (hk : kinds M = true) (hty : ∀ x ∈ M.funcs, ∃ ty : Nat, x.ty = ty ∧ ty < M.types.length ∧ ty < 4294967296) :
    Calls Tryz.prog 12 #[.agg #[.slice a0 n0 k0, .slice a1 n1 k1, .slice none 0 0, .slice none 0 0, .slice none 0 0, .slice none 0 0, .slice none 0 0, .slice none 0 0]] w fun e w' => CkP M e ∧ Below w.heap.size w w' := by
  have hmv := fun U (hU : Below w.heap.size w U) => h.moved (g' := fun b => b < U.heap.size) (Gm.Mv.below hU (fun k hk _ => Nat.lt_of_lt_of_le hk hU.size)) hU.size
  have hn1 : n1 = M.funcs.length := by
    obtain ⟨a, c, e⟩ := h.l1.sl
    cases e; rfl
  have hki := fun U (hU : Below w.heap.size w U) => kindsRight_any (hmv U hU) hz.l
  rw [hk] at hki
  have hpa := fun U (hU : Below w.heap.size w U) => parts_nil (hmv U hU).l0 (hmv U hU).l1 hz.l.fn hty
  have hgo := fun (k : Nat) (hkl : k < M.funcs.length) U (hU : Below w.heap.size w U) => (let ⟨t, ht⟩ := ty_of hkl hty; goOver_any ciOk (hmv U hU) hwf (hT.below hU) hz hkl ht)
  have hfn := hz.l.fn
  have HKi := hide hki; have HPa := hide hpa; have HGo := hide hgo; have HLi := hide (fun W => lim_nil (a0 := a0) (a1 := a1) (n0 := n0) (k0 := k0) (n1 := n1) (k1 := k1) W)
  clear hki hpa hgo hmv h hwf hT hz hk hty
  have hB0 := one_al w (.cells #[.slice a0 n0 k0, .slice a1 n1 k1, .slice none 0 0, .slice none 0 0, .slice none 0 0, .slice none 0 0, .slice none 0 0, .slice none 0 0] 41)
  have hr0 := heap_alloc_new w (.cells #[.slice a0 n0 k0, .slice a1 n1 k1, .slice none 0 0, .slice none 0 0, .slice none 0 0, .slice none 0 0, .slice none 0 0, .slice none 0 0] 41)
  have HB0 := hide hB0; have HR0 := hide hr0
  clear hB0 hr0
  rw [← hn1] at hfn
  have HN := hide hn1.symm
  clear hn1
  have hbox : ∀ U, Below w.heap.size w U → True := fun _ _ => trivial
  clear hbox
  go_enter Tryz.func12, Tryz.ntmps12
  go_wp2_with fail
  generalize w.alloc (.cells #[.slice a0 n0 k0, .slice a1 n1 k1, .slice none 0 0, .slice none 0 0, .slice none 0 0, .slice none 0 0, .slice none 0 0, .slice none 0 0] 41) = w0 at *
  refine (unhide HLi _).mono ?_
  rintro e w1 ⟨rfl, hb1⟩
  have hr1 := (hb1.block _ (Array.getElem?_eq_some_iff.1 (unhide HR0)).1).trans (unhide HR0)
  have hlt1 := (Array.getElem?_eq_some_iff.1 hr1).1
  obtain ⟨p0, p1, p2, p3, p4, p5, p6, p7⟩ := mbox hr1
  have HB1 := hide (Below.on0 (unhide HB0) hb1 (unhide HB0).size); have HR1 := hide hr1
  clear hb1 hr1
  go_wp2_with fail
  refine (unhide HKi _ (unhide HB1)).mono ?_
  rintro e w2 ⟨rfl, hb2⟩
  have hr2 := (hb2.block _ hlt1).trans (unhide HR1)
  have hlt2 := (Array.getElem?_eq_some_iff.1 hr2).1
  clear p0 p1 p2 p3 p4 p5 p6 p7 hlt1
  obtain ⟨p0, p1, p2, p3, p4, p5, p6, p7⟩ := mbox hr2
  have HB2 := hide (Below.on0 (unhide HB1) hb2 (unhide HB1).size); have HR2 := hide hr2
  clear hb2 hr2
  go_wp2_with fail
  refine (unhide HPa _ (unhide HB2)).mono ?_
  rintro e w3 ⟨rfl, hb3⟩
  have hr3 := (hb3.block _ hlt2).trans (unhide HR2)
  have hlt3 := (Array.getElem?_eq_some_iff.1 hr3).1
  clear p0 p1 p2 p3 p4 p5 p6 p7 hlt2
  obtain ⟨p0, p1, p2, p3, p4, p5, p6, p7⟩ := mbox hr3
  have HB3 := hide (Below.on0 (unhide HB2) hb3 (unhide HB2).size); have HR3 := hide hr3
  clear hb3 hr3
  go_wp2_with fail
  go_loopw [23] (fun v wr => ∃ k : Nat, k ≤ n1 ∧ v = .int .i64 k ∧ (∀ j, j < k → (over M j).isSome = true) ∧ Below w3.heap.size w3 wr) (fun v _ => ((n1 : Int) - intOf v).toNat)
  case atStart => exact ⟨0, Nat.zero_le _, rfl, fun j hj => absurd hj (by omega), Below.refl _ _⟩
  case round =>
    obtain ⟨k, hkn, rfl, hall, hbr⟩ := hrel
    have hbw : Below w.heap.size w wr := (unhide HB3).trans (hbr.mono (unhide HB3).size)
    have hrr := (hbr.block _ hlt3).trans (unhide HR3)
    have hltr := (Array.getElem?_eq_some_iff.1 hrr).1
    clear p0 p1 p2 p3 p4 p5 p6 p7
    obtain ⟨p0, p1, p2, p3, p4, p5, p6, p7⟩ := mbox hrr
    have HAl := hide hall; have HBr := hide hbr; have HBw := hide hbw
    clear hall hbr hbw hrr
    by_cases hlt : k < n1
    · have hcall := unhide HGo k (by rw [unhide HN]; exact hlt) wr (unhide HBw)
      have hlti : (k : Int) < n1 := by omega
      have HCall := hide hcall; have HLt := hide hlt
      clear hcall hkn hlt
      go_wp2_with fail
      refine (unhide HCall).mono ?_
      rintro e w5 ⟨⟨u, rfl, -⟩, hb5⟩
      have HB5 := hide ((unhide HBw).trans (hb5.mono (unhide HBw).size)); have HB5r := hide ((unhide HBr).trans (hb5.mono (unhide HBr).size))
      clear hb5 HCall
      cases ho : over M k with
      | none =>
        have HO := hide ho
        clear ho
        go_wp2
        go_ret2
        exact ⟨⟨(k : Int), 7, by rw [errV_7]; rfl, Or.inr ⟨rfl, k, by rw [unhide HN]; exact unhide HLt, rfl, unhide HO, unhide HAl⟩⟩, unhide HB5⟩
      | some q =>
        have HO := hide ho
        clear ho
        go_wp2
        go_roundw
        case rel => exact ⟨k + 1, unhide HLt, by go_num, fun j hj => by
          rcases Nat.lt_or_ge j k with h | h
          · exact unhide HAl j h
          · obtain rfl : j = k := by omega
            rw [unhide HO]; rfl, unhide HB5r⟩
        case measure => have := unhide HLt; simp [intOf]; omega
    · obtain rfl : n1 = k := by omega
      have hlti : ¬ ((n1 : Int) < n1) := by omega
      clear hkn hlt
      go_wp2
      go_ret2
      exact ⟨⟨-1, 0, by rw [errV_0]; rfl, Or.inl ⟨rfl, rfl, by rw [unhide HN]; exact unhide HAl⟩⟩, unhide HBw⟩
end Vw
end Go.Proofs.YtcpknafaocdjdaaGreatDoor

/- valid: what is asked of going over a body by ValidDead, ValidLabels, ValidIdle (plain mathematics). -/
namespace Go.Proofs.YtcpknafaocdjdaaGreatDoor
open Go.RowKit
namespace Vw
set_option linter.unusedVariables false
set_option linter.unusedSimpArgs false
open Ex (Ins)
open Gm (Mod Typ Fnc)
/-- an instruction of a number, and N -/
def in0 (op n : Int) : Ins := ⟨op, n, 0, 0, 0, [], [], []⟩
/-- the module of a body -/
def scn (ps : List Int) (re : Int) (body : List Ins) : Mod :=
  { types := [⟨ps, re⟩, ⟨[127], 126⟩, ⟨[], 0⟩], funcs := [⟨0, [127, 126], body⟩, ⟨1, [], [in0 66 0]⟩, ⟨2, [], []⟩], tables := [⟨4, false, 0⟩], mems := [⟨1, false, 0⟩], globs := [⟨127, true, in0 65 0⟩, ⟨126, false, in0 66 0⟩], exps := [], elems := [], datas := [] }
def s00 : St := ⟨[], [], 0, false, false, 0⟩
theorem over_scn (ps : List Int) (re : Int) (body : List Ins) : over (scn ps re body) 0 = (blk (fun s => ins (scn ps re body) (ps ++ [127, 126]) body s) re re s00).map fun s => s.most := rfl
theorem fam65 : (fam 65).map (fun x => (x.o, pk x.x x.y 2, x.g)) = some (1, [], 127) := by kernel_rfl
theorem fam66 : (fam 66).map (fun x => (x.o, pk x.x x.y 2, x.g)) = some (2, [], 126) := by kernel_rfl
theorem sig65 (M : Mod) (lo la : List Int) (n : Int) (h : -2147483648 ≤ n ∧ n ≤ 2147483647) : sig M lo la (in0 65 n) = some ⟨[], 127⟩ := by
  have h1 := fam65
  unfold sig in0; simp only [Int.reduceEq, if_false, or_self]
  unfold plain
  cases hf : fam 65 with
  | none => rw [hf] at h1; cases h1
  | some x =>
    rw [hf] at h1
    simp only [Option.map_some, Option.some.injEq, Prod.mk.injEq] at h1
    simp only [hf]
    rw [if_neg (by decide), if_pos h1.1, if_pos h, h1.2.1, h1.2.2]
theorem sig66 (M : Mod) (lo la : List Int) (n : Int) : sig M lo la (in0 66 n) = some ⟨[], 126⟩ := by
  have h1 := fam66
  unfold sig in0; simp only [Int.reduceEq, if_false, or_self]
  unfold plain
  cases hf : fam 66 with
  | none => rw [hf] at h1; cases h1
  | some x =>
    rw [hf] at h1
    simp only [Option.map_some, Option.some.injEq, Prod.mk.injEq] at h1
    simp only [hf]
    rw [if_neg (by decide), h1.1, if_neg (by decide), if_neg (by decide), if_neg (by decide), h1.2.1, h1.2.2]
theorem nb (op n : Int) (h : op ≠ 26 ∧ op ≠ 27 ∧ op ≠ 2 ∧ op ≠ 3 ∧ op ≠ 4) : (in0 op n).op ≠ 26 ∧ (in0 op n).op ≠ 27 ∧ (in0 op n).op ≠ 2 ∧ (in0 op n).op ≠ 3 ∧ (in0 op n).op ≠ 4 := h
theorem ins1_flat {M : Mod} {lo : List Int} {i : Ins} {s : St} (h : i.op ≠ 26 ∧ i.op ≠ 27 ∧ i.op ≠ 2 ∧ i.op ≠ 3 ∧ i.op ≠ 4) : ins1 M lo i s = flat M lo i s := by
  unfold ins1; rw [if_neg h.1, if_neg h.2.1, if_neg h.2.2.1, if_neg h.2.2.2.1, if_neg h.2.2.2.2]
theorem flat_lay {M : Mod} {lo : List Int} {i : Ins} {s : St} {k : Int} (h : sig M lo s.la i = some ⟨[], k⟩) (hg : goes i.op = false) : flat M lo i s = some (ly s k) := by
  unfold flat; rw [h, Option.bind_some]
  unfold app; simp only [List.reverse_nil, tks, Option.map_some, hg]; rfl
theorem in65 {M : Mod} {lo : List Int} (n : Int) (s : St) (h : -2147483648 ≤ n ∧ n ≤ 2147483647) : ins1 M lo (in0 65 n) s = some (ly s 127) := by
  rw [ins1_flat (nb 65 n (by decide)), flat_lay (sig65 _ _ _ n h) rfl]
theorem in66 {M : Mod} {lo : List Int} (n : Int) (s : St) : ins1 M lo (in0 66 n) s = some (ly s 126) := by
  rw [ins1_flat (nb 66 n (by decide)), flat_lay (sig66 _ _ _ n) rfl]
theorem in1 {M : Mod} {lo : List Int} (s : St) : ins1 M lo (in0 1 0) s = some s := by
  rw [ins1_flat (by decide), flat_lay (k := 0) (by unfold sig in0; simp) (by decide), ly_0]
theorem in26 {M : Mod} {lo : List Int} (s : St) : ins1 M lo (in0 26 0) s = drp s := by unfold ins1 in0; rw [if_pos rfl]
theorem in00 {M : Mod} {lo : List Int} (s : St) : ins1 M lo (in0 0 0) s = some { s with beh := true, st := s.st.take s.ben } := by
  rw [ins1_flat (by decide)]
  unfold flat; rw [show sig M lo s.la (in0 0 0) = some ⟨[], 0⟩ from by unfold sig in0; simp, Option.bind_some]
  unfold app; simp only [List.reverse_nil, tks, Option.map_some, ly_0]; rfl

/-- consts and drops -/
def cdI (b : Bool) : Ins := if b then in0 65 1 else in0 26 0
def cdN : Nat → List Bool → Nat
  | n, [] => n
  | n, true :: r => cdN (n + 1) r
  | n, false :: r => cdN (n - 1) r
theorem dead_ins (M : Mod) (lo : List Int) : ∀ (l : List Bool) (n : Nat) (s : St), s.beh = true → s.st = List.replicate n 127 → s.ben = 0 → ∃ s', ins M lo (l.map cdI) s = some s' ∧ s'.st = List.replicate (cdN n l) 127 ∧ s'.beh = true ∧ s'.ben = 0
  | [], n, s, hb, hs, h0 => ⟨s, ins_nil _ _ _, hs, hb, h0⟩
  | true :: r, n, s, hb, hs, h0 => by
    obtain ⟨s', h1, h2, h3, h4⟩ := dead_ins M lo r (n + 1) (ly s 127) (by rw [ly_dead (by decide) (Or.inl hb)]; exact hb) (by rw [ly_dead (by decide) (Or.inl hb)]; simp only [hs]; rw [List.replicate_succ']) (by rw [ly_dead (by decide) (Or.inl hb)]; exact h0)
    refine ⟨s', ?_, h2, h3, h4⟩
    rw [List.map_cons, ins_cons, show cdI true = in0 65 1 from rfl, in65 1 s (by decide), Option.bind_some]; exact h1
  | false :: r, n, s, hb, hs, h0 => by
    have hd : ∃ s1, drp s = some s1 ∧ s1.st = List.replicate (n - 1) 127 ∧ s1.beh = true ∧ s1.ben = 0 := by
      unfold drp tkA
      by_cases hn : n = 0
      · subst hn
        simp only [hs, h0, List.length_replicate, Nat.le_refl, if_true, hb]
        exact ⟨s, rfl, hs, hb, h0⟩
      · have : ¬ s.st.length ≤ s.ben := by rw [hs, h0, List.length_replicate]; omega
        simp only [if_neg this, if_true]
        refine ⟨_, rfl, ?_, hb, h0⟩
        simp only [hs, List.dropLast_replicate]
    obtain ⟨s1, e1, e2, e3, e4⟩ := hd
    obtain ⟨s', h1, h2, h3, h4⟩ := dead_ins M lo r (n - 1) s1 e3 e2 e4
    refine ⟨s', ?_, h2, h3, h4⟩
    rw [List.map_cons, ins_cons, show cdI false = in0 26 0 from rfl, in26, e1, Option.bind_some]; exact h1
theorem dead_over (l : List Bool) (re : Int) (hre : re = 127 ∨ re = 126) : (over (scn [] re (in0 0 0 :: l.map cdI)) 0).isSome = decide (cdN 0 l = 0 ∨ (cdN 0 l = 1 ∧ re = 127)) := by
  rw [over_scn]
  obtain ⟨s', h1, h2, h3, h4⟩ := dead_ins (scn [] re (in0 0 0 :: l.map cdI)) ([] ++ [127, 126]) l 0 { opn s00 re with beh := true, st := (opn s00 re).st.take (opn s00 re).ben } rfl rfl rfl
  have hr0 : ¬ re = 0 := by omega
  unfold blk
  simp only [ins_cons, in00, Option.bind_some, h1]
  unfold cls tk
  rw [if_neg hr0]
  unfold tkA
  rw [h2, h4, List.length_replicate, h3]
  by_cases c0 : cdN 0 l = 0
  · simp only [c0, Nat.le_refl, if_true, or_true, and_self, Option.bind_some, h2, h4, List.length_replicate, Nat.lt_irrefl, if_false, Option.map_some, Option.isSome_some]
    simp
  · have c1 : ¬ cdN 0 l ≤ 0 := by omega
    have hlast : (List.replicate (cdN 0 l) (127 : Int)).getLastD 0 = 127 := by
      obtain ⟨k, hk⟩ : ∃ k, cdN 0 l = k + 1 := ⟨cdN 0 l - 1, by omega⟩
      rw [hk, List.replicate_succ']; simp
    simp only [if_neg c1, hlast]
    rcases hre with rfl | rfl
    · simp only [true_or, and_self, if_true, Option.bind_some, List.length_dropLast, List.length_replicate, h4]
      by_cases c2 : cdN 0 l = 1
      · simp [c2]
      · have : 0 < cdN 0 l - 1 := by omega
        simp [this, c0, c2]
    · simp [c0]

/-- blocks one in another, to a list -/
def nst (op : Nat → Int) (base : List Ins) : Nat → List Ins
  | 0 => base
  | k + 1 => [⟨op k, 0, 0, 0, 0, nst op base k, [], []⟩]
def Good (M : Mod) (lo : List Int) (l : List Ins) (tg : Int) (j : Nat) : Prop :=
  ∀ (d : Nat) (s : St), s.la = List.replicate d 0 → s.st = [] → s.ben = 0 → s.beh = false →
    (0 ≤ tg ∧ tg < (d + j : Nat) → ∃ s', ins M lo l s = some s' ∧ s'.st = [] ∧ s'.ben = 0) ∧ (¬ (0 ≤ tg ∧ tg < (d + j : Nat)) → ins M lo l s = none)
theorem blk_good {M : Mod} {lo : List Int} {l : List Ins} {tg : Int} {j : Nat} (h : Good M lo l tg j) {d : Nat} {s : St} (h1 : s.la = List.replicate d 0) (h2 : s.st = []) (h3 : s.ben = 0) (h4 : s.beh = false) :
    (0 ≤ tg ∧ tg < (d + (j + 1) : Nat) → ∃ s', blk (fun s => ins M lo l s) 0 0 s = some s' ∧ s'.st = [] ∧ s'.ben = 0) ∧ (¬ (0 ≤ tg ∧ tg < (d + (j + 1) : Nat)) → blk (fun s => ins M lo l s) 0 0 s = none) := by
  have q := h (d + 1) (opn s 0) (by unfold opn; simp only [h1]; rw [List.replicate_succ']) h2 (by unfold opn; simp only [h2]; rfl) rfl
  unfold blk
  simp only
  constructor
  · intro ht
    obtain ⟨s', e1, e2, e3⟩ := q.1 (by omega)
    rw [e1, Option.bind_some]
    unfold cls tk
    simp only [if_true, Option.bind_some, e2, e3, List.length_nil, Nat.lt_irrefl, if_false]
    exact ⟨_, rfl, rfl, h3⟩
  · intro ht
    rw [q.2 (by omega)]; rfl
theorem nst_good {M : Mod} {lo : List Int} {op : Nat → Int} {base : List Ins} {tg : Int} (hop : ∀ k, op k = 2 ∨ op k = 3) (h0 : Good M lo base tg 0) : ∀ j, Good M lo (nst op base j) tg j
  | 0 => h0
  | j + 1 => by
    intro d s h1 h2 h3 h4
    have q := blk_good (nst_good hop h0 j) h1 h2 h3 h4
    have e : ins M lo (nst op base (j + 1)) s = blk (fun s => ins M lo (nst op base j) s) 0 0 s := by
      rw [nst, ins_cons]
      have : ins1 M lo ⟨op j, 0, 0, 0, 0, nst op base j, [], []⟩ s = blk (fun s => ins M lo (nst op base j) s) 0 0 s := by
        unfold ins1
        rcases hop j with h | h <;> simp only [h, Int.reduceEq, if_false, if_true, show isR 0 = true from rfl] <;>
          (cases blk (fun s => ins M lo (nst op base j) s) 0 0 s with
            | none => rfl
            | some s1 => rw [Option.map_some, ly_0])
      rw [this]
      cases blk (fun s => ins M lo (nst op base j) s) 0 0 s with
      | none => rfl
      | some s1 => rw [Option.bind_some, ins_nil]
    rw [e]; exact q
theorem lbl_rep (d : Nat) (n : Int) : lbl (List.replicate d 0) n = if 0 ≤ n ∧ n < (d : Int) then some 0 else none := by
  unfold lbl
  by_cases h : n < 0
  · rw [if_pos h, if_neg (by omega)]
  · rw [if_neg h, List.length_replicate]
    by_cases h2 : n < (d : Int)
    · rw [if_pos h2, if_pos ⟨by omega, h2⟩]
      congr 1
      simp only [List.getD_eq_getElem?_getD, List.getElem?_replicate]
      rw [if_pos (by omega)]; rfl
    · rw [if_neg h2, if_neg (by omega)]
theorem good_br (M : Mod) (lo : List Int) (tg : Int) : Good M lo [in0 12 tg] tg 0 := by
  intro d s h1 h2 h3 h4
  rw [ins_cons, ins1_flat (nb 12 tg (by decide))]
  unfold flat
  rw [show sig M lo s.la (in0 12 tg) = (lbl s.la tg).map fun k => ⟨[k], 0⟩ from by unfold sig in0; simp, h1, lbl_rep]
  constructor
  · intro ht
    rw [if_pos (by omega), Option.map_some, Option.bind_some]
    unfold app
    simp only [List.reverse_cons, List.reverse_nil, List.nil_append, tks, tk, if_true, Option.bind_some, Option.map_some, ly_0, show goes (in0 12 tg).op = true from rfl, ins_nil]
    exact ⟨_, rfl, by simp [h2], h3⟩
  · intro ht
    rw [if_neg (by omega)]; rfl
/-- a value of I32 on the stack, taken -/
theorem tk_ly {s : St} {k : Int} (hk : k ≠ 0) (hk1 : k ≠ 1) (hb : s.ben ≤ s.st.length) : ∃ m, tk (ly s k) k = some { s with most := m } := by
  have e : ly s k = { s with st := s.st ++ [k], most := if s.beh || s.wit then s.most else max s.most (s.st.length + 1) } := by unfold ly; rw [if_neg hk]
  refine ⟨if s.beh || s.wit then s.most else max s.most (s.st.length + 1), ?_⟩
  rw [e]
  unfold tk tkA
  rw [if_neg hk]
  have : ¬ (s.st ++ [k]).length ≤ s.ben := by simp; omega
  simp only [if_neg this]
  simp
theorem good_if (M : Mod) (lo : List Int) (tg : Int) : Good M lo [in0 65 0, in0 13 tg] tg 0 := by
  intro d s h1 h2 h3 h4
  obtain ⟨m, hm⟩ := tk_ly (s := s) (k := 127) (by decide) (by decide) (by omega)
  have hla : (ly s 127).la = s.la := (ly_len s 127).2.2
  rw [ins_cons, in65 0 s (by decide), Option.bind_some, ins_cons, ins1_flat (nb 13 tg (by decide))]
  unfold flat
  rw [show sig M lo (ly s 127).la (in0 13 tg) = (lbl (ly s 127).la tg).map fun k => ⟨[k, 127], k⟩ from by unfold sig in0; simp, hla, h1, lbl_rep]
  constructor
  · intro ht
    rw [if_pos (by omega), Option.map_some, Option.bind_some]
    unfold app
    have ht2 : ∀ (x : St), tk x 0 = some x := fun x => by unfold tk; rw [if_pos rfl]
    simp only [List.reverse_cons, List.reverse_nil, List.nil_append, List.cons_append, tks, hm, ht2, Option.bind_some, Option.map_some, ly_0, show goes (in0 13 tg).op = false from rfl, ins_nil]
    exact ⟨_, rfl, h2, h3⟩
  · intro ht
    rw [if_neg (by omega)]; rfl
theorem good_tab (M : Mod) (lo : List Int) (tg : Int) : Good M lo [in0 65 0, ⟨14, 0, 0, 0, 0, [], [], [0, tg, 0]⟩] tg 0 := by
  intro d s h1 h2 h3 h4
  obtain ⟨m, hm⟩ := tk_ly (s := s) (k := 127) (by decide) (by decide) (by omega)
  have hla : (ly s 127).la = s.la := (ly_len s 127).2.2
  rw [ins_cons, in65 0 s (by decide), Option.bind_some, ins_cons, ins1_flat (show (14 : Int) ≠ 26 ∧ (14 : Int) ≠ 27 ∧ (14 : Int) ≠ 2 ∧ (14 : Int) ≠ 3 ∧ (14 : Int) ≠ 4 by decide)]
  unfold flat
  rw [show sig M lo (ly s 127).la ⟨14, 0, 0, 0, 0, [], [], [0, tg, 0]⟩ = (comm (ly s 127).la [0, tg, 0]).map fun k => ⟨[k, 127], 0⟩ from by unfold sig; simp, hla, h1]
  have hc : comm (List.replicate d 0) [0, tg, 0] = if 0 ≤ tg ∧ tg < (d : Int) then some 0 else none := by
    unfold comm
    rw [if_neg (by simp)]
    simp only [List.getLastD_cons, List.getLastD_nil, lbl_rep]
    by_cases hd : (0 : Int) < d
    · simp only [Int.le_refl, hd, and_self, if_true, Option.bind_some, List.all_cons, List.all_nil, decide_true, Bool.true_and, Bool.and_true]
      by_cases ht : 0 ≤ tg ∧ tg < (d : Int)
      · rw [if_pos ht]; simp
      · rw [if_neg ht]; simp
    · rw [if_neg (by omega), if_neg (by omega)]; rfl
  rw [hc]
  constructor
  · intro ht
    rw [if_pos (by omega), Option.map_some, Option.bind_some]
    unfold app
    have ht2 : ∀ (x : St), tk x 0 = some x := fun x => by unfold tk; rw [if_pos rfl]
    simp only [List.reverse_cons, List.reverse_nil, List.nil_append, List.cons_append, tks, hm, ht2, Option.bind_some, Option.map_some, ly_0, show goes 14 = true from rfl, ins_nil, if_true]
    exact ⟨_, rfl, by simp [h2], h3⟩
  · intro ht
    rw [if_neg (by omega)]; rfl
theorem labels_over {op : Nat → Int} {base : List Ins} {tg : Int} (hop : ∀ k, op k = 2 ∨ op k = 3) (j : Nat) (h0 : Good (scn [] 0 (nst op base j)) [127, 126] base tg 0) : (over (scn [] 0 (nst op base j)) 0).isSome = decide (0 ≤ tg ∧ tg ≤ (j : Int)) := by
  rw [over_scn]
  have q := blk_good (nst_good hop h0 j) (d := 0) (s := s00) rfl rfl rfl rfl
  rw [List.nil_append]
  by_cases ht : 0 ≤ tg ∧ tg ≤ (j : Int)
  · obtain ⟨s', e, -⟩ := q.1 (by omega)
    rw [e]; simp [ht]
  · rw [q.2 (by omega)]; simp [ht]
end Vw
end Go.Proofs.YtcpknafaocdjdaaGreatDoor

/- mandrellaw08.sure: its module. By mksu.py. -/
namespace Go.Proofs.YtcpknafaocdjdaaGreatDoor
open Go.RowKit Go.Shelf
namespace Vw
set_option linter.unusedVariables false
set_option linter.unusedSimpArgs false
open Ex (Ins Lies Lab cnt)
open Gm (Mod Typ Fnc Byts ModL WfM LL TypC FncC)
def Ms : Mod := { types := [⟨[], 0⟩], funcs := [⟨0, [], [in0 0 0, in0 26 0]⟩, ⟨0, [], [in0 26 0]⟩], tables := [], mems := [], globs := [], exps := [], elems := [], datas := [] }
theorem Ms_over0 : over Ms 0 = some 0 := by
  show (blk (fun s => ins Ms ([] ++ []) [in0 0 0, in0 26 0] s) 0 0 ⟨[], [], 0, false, false, 0⟩).map (fun s => s.most) = some 0
  unfold blk
  simp only [ins_cons, ins_nil, in00, in26, Option.bind_some]
  simp [drp, tkA, cls, tk, opn]
theorem Ms_over1 : over Ms 1 = none := by
  show (blk (fun s => ins Ms ([] ++ []) [in0 26 0] s) 0 0 ⟨[], [], 0, false, false, 0⟩).map (fun s => s.most) = none
  unfold blk
  simp only [ins_cons, ins_nil, in26]
  simp [drp, tkA, cls, tk, opn]
theorem in0_wf (op n : Int) (h : 0 ≤ op ∧ op ≤ 255) (hn : -9223372036854775808 ≤ n ∧ n < 9223372036854775808) : Ex.WfI (in0 op n) :=
  ⟨⟨h, hn, (show (0 : Int) ≤ 0 ∧ (0 : Int) < 4294967296 by decide), (show (0 : Int) ≤ 0 ∧ (0 : Int) < 4294967296 by decide), (show (0 : Int) ≤ 0 ∧ (0 : Int) ≤ 255 by decide), by simp [in0]⟩, Ex.Wf_nil, Ex.Wf_nil⟩
theorem in0_sz (op n : Int) : Ex.SzI 1048576 (in0 op n) := ⟨Nat.zero_le _, Nat.zero_le _, Nat.zero_le _, Ex.Sz_nil _, Ex.Sz_nil _⟩
theorem Ms_b0 : Ex.Wf [in0 0 0, in0 26 0] ∧ Ex.Sz 1048576 [in0 0 0, in0 26 0] := ⟨(Ex.Wf_cons _ _).2 ⟨in0_wf 0 0 (by decide) (by decide), (Ex.Wf_cons _ _).2 ⟨in0_wf 26 0 (by decide) (by decide), Ex.Wf_nil⟩⟩, (Ex.Sz_cons _ _ _).2 ⟨in0_sz 0 0, (Ex.Sz_cons _ _ _).2 ⟨in0_sz 26 0, Ex.Sz_nil _⟩⟩⟩
theorem Ms_b1 : Ex.Wf [in0 26 0] ∧ Ex.Sz 1048576 [in0 26 0] := ⟨(Ex.Wf_cons _ _).2 ⟨in0_wf 26 0 (by decide) (by decide), Ex.Wf_nil⟩, (Ex.Sz_cons _ _ _).2 ⟨in0_sz 26 0, Ex.Sz_nil _⟩⟩
theorem Ms_sz : SzV Ms := by
  refine ⟨⟨by decide, by decide, by decide, ?_, ?_⟩, by decide, ?_, ?_, ?_⟩
  · intro x hx; simp [Ms] at hx; subst hx; decide
  · intro x hx; simp [Ms] at hx; rcases hx with rfl | rfl <;> decide
  · intro x hx; simp [Ms] at hx; subst hx; decide
  · intro x hx; simp [Ms] at hx; rcases hx with rfl | rfl <;> decide
  · intro x hx; simp [Ms] at hx; rcases hx with rfl | rfl
    · exact ⟨Ms_b0.1, Ms_b0.2, by rw [Ex.cnt_cons, Ex.cnt_cons]; simp [in0, Ex.cnt_nil]⟩
    · exact ⟨Ms_b1.1, Ms_b1.2, by rw [Ex.cnt_cons]; simp [in0, Ex.cnt_nil]⟩
theorem Ms_wf : WfM Ms := by
  refine ⟨?_, ?_, ?_, ?_, ?_, ?_, ?_, ?_⟩ <;> intro x hx <;> simp [Ms] at hx
  · subst hx; exact ⟨by simp, by decide⟩
  · rcases hx with rfl | rfl
    · exact ⟨by decide, by simp, Ms_b0.1⟩
    · exact ⟨by decide, by simp, Ms_b1.1⟩
theorem Ms_ty : ∀ x ∈ Ms.funcs, ∃ ty : Nat, x.ty = ty ∧ ty < Ms.types.length ∧ ty < 4294967296 := by
  intro x hx; simp [Ms] at hx; rcases hx with rfl | rfl <;> exact ⟨0, rfl, by decide, by decide⟩
theorem nil_lies (g : Nat → Prop) (P : Nat → Nat → Prop) : Lies g 0 P (.slice none 0 0) := ⟨none, 0, rfl, Nat.le_refl _, fun _ => rfl, fun h => absurd h (by simp)⟩
theorem in0_at {w : World} {g : Nat → Prop} {b o : Nat} {op : Int} (h : ∀ j u, [.int .u8 op, .int .i64 0, .int .u32 0, .int .u32 0, .int .u8 0, .slice none 0 0, .slice none 0 0, .slice none 0 0][j]? = some u → w.cell? ⟨b, o + j, none⟩ = some u) : Ex.ItemAt w g (in0 op 0) b o :=
  ⟨_, _, _, ⟨h 0 _ rfl, h 1 _ rfl, h 2 _ rfl, h 3 _ rfl, h 4 _ rfl, h 5 _ rfl, h 6 _ rfl, h 7 _ rfl⟩, nil_lies _ _, nil_lies _ _, nil_lies _ _⟩
theorem Ms_lies {W : World} {H : Nat} (r0 : W.heap[H]? = some (.cells #[.slice none 0 0, .int .u8 0] 96 (0, 0))) (r1 : W.heap[H + 1]? = some (.cells #[.int .u8 0, .int .i64 0, .int .u32 0, .int .u32 0, .int .u8 0, .slice none 0 0, .slice none 0 0, .slice none 0 0, .int .u8 26, .int .i64 0, .int .u32 0, .int .u32 0, .int .u8 0, .slice none 0 0, .slice none 0 0, .slice none 0 0] 63 (0, 0))) (r2 : W.heap[H + 2]? = some (.cells #[.int .u8 26, .int .i64 0, .int .u32 0, .int .u32 0, .int .u8 0, .slice none 0 0, .slice none 0 0, .slice none 0 0] 63 (0, 0))) (r3 : W.heap[H + 3]? = some (.cells #[.int .u32 0, .slice none 0 0, .slice (some ⟨H + 1, 0, none⟩) 2 2, .int .u32 0, .slice none 0 0, .slice (some ⟨H + 2, 0, none⟩) 1 1] 66 (0, 0))) :
    ModL W (fun b => b < W.heap.size) Ms (.slice (some ⟨H, 0, none⟩) 1 1) (.slice (some ⟨H + 3, 0, none⟩) 2 2) (.slice none 0 0) (.slice none 0 0) (.slice none 0 0) (.slice none 0 0) (.slice none 0 0) (.slice none 0 0) := by
  have l0 := (Array.getElem?_eq_some_iff.1 r0).1; have l1 := (Array.getElem?_eq_some_iff.1 r1).1; have l2 := (Array.getElem?_eq_some_iff.1 r2).1; have l3 := (Array.getElem?_eq_some_iff.1 r3).1
  refine ⟨⟨_, 1, rfl, Nat.le_refl _, nofun, fun _ => ⟨H, 0, rfl, l0, l0, fun i hi => ?_⟩⟩, ⟨_, 2, rfl, Nat.le_refl _, nofun, fun _ => ⟨H + 3, 0, rfl, l3, l3, fun i hi => ?_⟩⟩, Gm.LL_nil _ _ _ _, Gm.LL_nil _ _ _ _, Gm.LL_nil _ _ _ _, Gm.LL_nil _ _ _ _, Gm.LL_nil _ _ _ _, Gm.LL_nil _ _ _ _⟩
  · match i, hi with
    | 0, _ =>
      refine ⟨[.slice none 0 0, .int .u8 0], rfl, ⟨_, rfl, nil_lies _ _⟩, fun j u hu => ?_⟩
      rw [cell_of_row W _ _ _ _ _ r0]
      match j, hu with
      | 0, hu => exact hu
      | 1, hu => exact hu
  · match i, hi with
    | 0, _ =>
      refine ⟨[.int .u32 0, .slice none 0 0, .slice (some ⟨H + 1, 0, none⟩) 2 2], rfl, ⟨_, _, rfl, nil_lies _ _, ⟨_, 2, rfl, Nat.le_refl _, nofun, fun _ => ⟨H + 1, 0, rfl, l1, (Ex.Items_cons _ _ _ _ _ _).2 ⟨in0_at fun j u hu => ?_, (Ex.Items_cons _ _ _ _ _ _).2 ⟨in0_at fun j u hu => ?_, Ex.Items_nil _ _ _ _⟩⟩⟩⟩⟩, fun j u hu => ?_⟩
      · rw [cell_of_row W _ _ _ _ _ r1]
        match j, hu with
        | 0, hu => exact hu
        | 1, hu => exact hu
        | 2, hu => exact hu
        | 3, hu => exact hu
        | 4, hu => exact hu
        | 5, hu => exact hu
        | 6, hu => exact hu
        | 7, hu => exact hu
      · rw [cell_of_row W _ _ _ _ _ r1]
        match j, hu with
        | 0, hu => exact hu
        | 1, hu => exact hu
        | 2, hu => exact hu
        | 3, hu => exact hu
        | 4, hu => exact hu
        | 5, hu => exact hu
        | 6, hu => exact hu
        | 7, hu => exact hu
      · rw [cell_of_row W _ _ _ _ _ r3]
        match j, hu with
        | 0, hu => exact hu
        | 1, hu => exact hu
        | 2, hu => exact hu
    | 1, _ =>
      refine ⟨[.int .u32 0, .slice none 0 0, .slice (some ⟨H + 2, 0, none⟩) 1 1], rfl, ⟨_, _, rfl, nil_lies _ _, ⟨_, 1, rfl, Nat.le_refl _, nofun, fun _ => ⟨H + 2, 0, rfl, l2, (Ex.Items_cons _ _ _ _ _ _).2 ⟨in0_at fun j u hu => ?_, Ex.Items_nil _ _ _ _⟩⟩⟩⟩, fun j u hu => ?_⟩
      · rw [cell_of_row W _ _ _ _ _ r2]
        match j, hu with
        | 0, hu => exact hu
        | 1, hu => exact hu
        | 2, hu => exact hu
        | 3, hu => exact hu
        | 4, hu => exact hu
        | 5, hu => exact hu
        | 6, hu => exact hu
        | 7, hu => exact hu
      · rw [cell_of_row W _ _ _ _ _ r3]
        match j, hu with
        | 0, hu => exact hu
        | 1, hu => exact hu
        | 2, hu => exact hu
end Vw
end Go.Proofs.YtcpknafaocdjdaaGreatDoor
