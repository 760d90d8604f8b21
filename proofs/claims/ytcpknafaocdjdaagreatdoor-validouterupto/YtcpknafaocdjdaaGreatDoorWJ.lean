/- WJ: what follows, part by part: each part tells what it holds. -/
import Derived.Test.YtcpknafaocdjdaaGreatDoorWH
import Derived.Test.YtcpknafaocdjdaaGreatDoorWD
import Derived.Test.YtcpknafaocdjdaaGreatDoorWI
import Derived.Deep.RegionHeld3
import Derived.Deep.DeepCutAuto

/- valid: what goOver leans on. -/
namespace Go.Proofs.YtcpknafaocdjdaaGreatDoor
open Go.RowKit Go.Shelf
namespace Vw
set_option linter.unusedVariables false
set_option linter.unusedSimpArgs false
open Ex (Ins Lies Lab cnt)
open Gm (Mod Typ Fnc Byts ModL WfM)
theorem setC_other (N k : Nat) (hk : k ≠ N) : ∀ (vs : List Value) (o : Nat) (w : World), (w.setCells N o vs).heap[k]? = w.heap[k]?
  | [], o, w => rfl
  | v :: vs, o, w => (setC_other N k hk vs (o + 1) (w.setCell ⟨N, o, none⟩ v)).trans (heap_setCell_other w ⟨N, o, none⟩ k v hk)
def setL (c : Array Value) : Nat → List Value → Array Value
  | _, [] => c
  | o, v :: vs => setL (c.setIfInBounds o v) (o + 1) vs
theorem setC_same (N : Nat) (t : TypeId) : ∀ (vs : List Value) (o : Nat) (w : World) (c : Array Value), w.heap[N]? = some (.cells c t (0, 0)) → (w.setCells N o vs).heap[N]? = some (.cells (setL c o vs) t (0, 0))
  | [], o, w, c, h => h
  | v :: vs, o, w, c, h => setC_same N t vs (o + 1) (w.setCell ⟨N, o, none⟩ v) (c.setIfInBounds o v) (heap_setCell_same w N o c t v h)
theorem setC_bel {B : Nat} {a : World} (N : Nat) (hN : B ≤ N) : ∀ (vs : List Value) (o : Nat) (w : World), Below B a w → Below B a (w.setCells N o vs)
  | [], o, w, h => h
  | v :: vs, o, w, h => setC_bel N hN vs (o + 1) (w.setCell ⟨N, o, none⟩ v) (h.setCell (p := ⟨N, o, none⟩) hN v)
def Z15 : Array Value := #[.slice none 0 0, .slice none 0 0, .slice none 0 0, .slice none 0 0, .slice none 0 0, .slice none 0 0, .slice none 0 0, .slice none 0 0, .slice none 0 0, .slice none 0 0, .slice none 0 0, .int .i64 0, .bool false, .bool false, .int .i64 0]
def R15 (m : M8) (v : Value) : List Value := [m.v0, m.v1, m.v2, m.v3, m.v4, m.v5, m.v6, m.v7, v, .slice none 0 0, .slice none 0 0, .int .i64 0, .bool false, .bool false, .int .i64 0]
theorem setL15 (m : M8) (v : Value) : setL Z15 0 (R15 m v) = (R15 m v).toArray := by simp [setL, Z15, R15]
/-- what the walk begins with -/
structure Bg (WX : World) (m : M8) (lo : List Int) (N : Nat) (v : Value) (wx : World) : Prop where
  row : wx.heap[N]? = some (.cells (R15 m v).toArray 138 (0, 0))
  lo : Lies (fun b => b < wx.heap.size ∧ b ≠ N) lo.length (Byts wx lo) v
  be : Below WX.heap.size WX wx
  hn : WX.heap.size ≤ N
theorem Bg.of {WX w' : World} {m : M8} {lo : List Int} {N : Nat} {v : Value} (hr : w'.heap[N]? = some (.cells Z15 138 (0, 0))) (hL : Lies (fun b => b < w'.heap.size ∧ b ≠ N) lo.length (Byts w' lo) v) (hb : Below WX.heap.size WX w') (hn : WX.heap.size ≤ N) : Bg WX m lo N v (w'.setCells N 0 (R15 m v)) :=
  ⟨by rw [setC_same N _ (R15 m v) 0 w' Z15 hr, setL15], Ex.Lies.move hL (fun _ b o hg hp => ⟨⟨by
      have h0 : ∃ x, w'.heap[b]? = some x := ⟨_, Array.getElem?_eq_getElem hg.1⟩
      obtain ⟨x, hx⟩ := h0
      have := (setC_other N b hg.2 (R15 m v) 0 w').trans hx
      exact (Array.getElem?_eq_some_iff.1 this).1, hg.2⟩, fun j hj => (World.cell?_of_block (a := ⟨b, o + j, none⟩) (setC_other N b hg.2 (R15 m v) 0 w')).trans (hp j hj)⟩), setC_bel N hn _ 0 w' hb, hn⟩
theorem Bg.wk {WX wx : World} {m : M8} {lo : List Int} {N : Nat} {v : Value} (h : Bg WX m lo N v wx) : Wk wx N m v lo (.slice none 0 0) (.slice none 0 0) ⟨[], [], 0, false, false, 0⟩ :=
  ⟨h.row, World.ownsRow_nil _ _ _ _, World.ownsRow_nil _ _ _ _, (fun k e _ => by cases e), Ex.Lies.move h.lo (fun _ b o hg hp => ⟨⟨hg.1, hg.2, nofun, nofun⟩, hp⟩), Nat.le_refl _⟩
def GoP (o : Option Nat) (e : Ending) : Prop := ∃ u, e = .returned (.tuple #[u, .bool o.isSome]) ∧ ∀ n, o = some n → u = .int .i64 (n : Int)
structure SzV (M : Mod) : Prop where
  l : SzL M
  me : M.mems.length ≤ 1048576
  ps : ∀ x ∈ M.types, x.ps.length ≤ 1048576
  ls : ∀ x ∈ M.funcs, x.ls.length ≤ 1048576
  bo : ∀ x ∈ M.funcs, Ex.Wf x.body ∧ Ex.Sz 1048576 x.body ∧ cnt x.body + 2 < 1099511627776
end Vw
end Go.Proofs.YtcpknafaocdjdaaGreatDoor

/- valid: goOver. By mkgo.py. -/
namespace Go.Proofs.YtcpknafaocdjdaaGreatDoor
open Go.RowKit Go.Shelf
namespace Vw
set_option linter.unusedVariables false
set_option linter.unusedSimpArgs false
open Ex (Ins Lies Lab cnt)
open Gm (Mod Typ Fnc Byts ModL WfM)
theorem there15 {w : World} {B : Nat} {t : TypeId} (h : w.heap[B]? = some (.cells Z15 t (0, 0))) : w.there B 0 15 := by
  intro j hj
  refine ⟨?_, frozen_of_row w _ _ _ _ h⟩
  rw [cell_of_row w B _ _ _ _ h, Nat.zero_add]
  match j, hj with
  | 0, _ => rfl
  | 1, _ => rfl
  | 2, _ => rfl
  | 3, _ => rfl
  | 4, _ => rfl
  | 5, _ => rfl
  | 6, _ => rfl
  | 7, _ => rfl
  | 8, _ => rfl
  | 9, _ => rfl
  | 10, _ => rfl
  | 11, _ => rfl
  | 12, _ => rfl
  | 13, _ => rfl
  | 14, _ => rfl
/-- a region by its number -/
def regAt (k : Nat) : Code → Option Code
  | .loop c => regAt k c
  | .seq a b => regAt k a <|> regAt k b
  | .block _ c => regAt k c
  | .scope c => regAt k c
  | .cond _ a b => regAt k a <|> regAt k b
  | .region n o d => if n = k then some (.region n o d) else none
  | _ => none
noncomputable def gcode : Code := ((Tryz.f26.body).bind (regAt 3)).getD .skip
theorem one15 {a0 : Option Addr} {n0 k0 : Nat} {a1 : Option Addr} {n1 k1 : Nat} {a2 : Option Addr} {n2 k2 : Nat} {a3 : Option Addr} {n3 k3 : Nat} {a4 : Option Addr} {n4 k4 : Nat} {a5 : Option Addr} {n5 k5 : Nat} {a6 : Option Addr} {n6 k6 : Nat} {a7 : Option Addr} {n7 k7 : Nat} {va' : Option Addr} {LL vc' : Nat} : (#[.slice a0 n0 k0, .slice a1 n1 k1, .slice a2 n2 k2, .slice a3 n3 k3, .slice a4 n4 k4, .slice a5 n5 k5, .slice a6 n6 k6, .slice a7 n7 k7, .slice va' LL vc', .slice none 0 0, .slice none 0 0, .int .i64 0, .bool false, .bool false, .int .i64 0] : Array Value).all (·.oneCell') = true :=
  all_oneCell_toArray (cs := [.slice a0 n0 k0, .slice a1 n1 k1, .slice a2 n2 k2, .slice a3 n3 k3, .slice a4 n4 k4, .slice a5 n5 k5, .slice a6 n6 k6, .slice a7 n7 k7, .slice va' LL vc', .slice none 0 0, .slice none 0 0, .int .i64 0, .bool false, .bool false, .int .i64 0]) (by
    intro v hv
    simp only [List.mem_cons, List.not_mem_nil, or_false] at hv
    rcases hv with rfl | rfl | rfl | rfl | rfl | rfl | rfl | rfl | rfl | rfl | rfl | rfl | rfl | rfl | rfl <;> rfl)

set_option maxRecDepth 100000 in
set_option maxHeartbeats 6400000 in
/-- the walk's box is laid -/
theorem go_begin {w WX : World} {a0 : Option Addr} {n0 k0 : Nat} {a1 : Option Addr} {n1 k1 : Nat} {a2 : Option Addr} {n2 k2 : Nat} {a3 : Option Addr} {n3 k3 : Nat} {a4 : Option Addr} {n4 k4 : Nat} {a5 : Option Addr} {n5 k5 : Nat} {a6 : Option Addr} {n6 k6 : Nat} {a7 : Option Addr} {n7 k7 : Nat} {ty fl lc bl bc pl pc : Nat} {la ba pa : Option Addr} {re : Int} {ps fls : List Int}
    (HBx : Hid (Below w.heap.size w WX)) (hWz : w.heap.size + 3 ≤ WX.heap.size) (HS : Hid (∀ w', Below WX.heap.size WX w' → w'.cell? ⟨w.heap.size, 0, none⟩ = some (.slice a0 n0 k0) ∧ w'.cell? ⟨w.heap.size, 1, none⟩ = some (.slice a1 n1 k1) ∧ w'.cell? ⟨w.heap.size, 2, none⟩ = some (.slice a2 n2 k2) ∧ w'.cell? ⟨w.heap.size, 3, none⟩ = some (.slice a3 n3 k3) ∧ w'.cell? ⟨w.heap.size, 4, none⟩ = some (.slice a4 n4 k4) ∧ w'.cell? ⟨w.heap.size, 5, none⟩ = some (.slice a5 n5 k5) ∧ w'.cell? ⟨w.heap.size, 6, none⟩ = some (.slice a6 n6 k6) ∧ w'.cell? ⟨w.heap.size, 7, none⟩ = some (.slice a7 n7 k7) ∧ w'.cell? ⟨w.heap.size + 2, 0, none⟩ = some (.slice pa pl pc) ∧ w'.cell? ⟨w.heap.size + 1, 1, none⟩ = some (.slice la fl lc)))
    (Hpl : Hid (ps.length = pl)) (Hfl : Hid (fls.length = fl)) (HPs : Hid (Lies (fun b => b < w.heap.size) ps.length (Byts w ps) (.slice pa ps.length pc))) (HLs : Hid (Lies (fun b => b < w.heap.size) fls.length (Byts w fls) (.slice la fls.length lc))) (hpl1 : ps.length ≤ 1048577) (hfl1 : fls.length ≤ 1048577)
    {Q0 : Exit → Act → World → Prop} {z0 z1 z3 z4 z5 z8 z9 z10 z11 z12 z13 z14 z15 z16 z17 z18 z19 z20 z21 z22 z23 z24 z25 z26 z27 z28 z29 z30 z31 z32 z33 z34 z35 z36 z37 z38 : Value}
    (hpan : ∀ c (a : Act) (w : World) (d : Nat) (v : Value), Q0 (.panic c) (a.put (some d) v) w → Q0 (.panic c) a w) (hnorm : ∀ (v21 v22 v23 v24 v25 v26 v27 v28 : Value) (N : Nat) (v : Value) (wx : World), Bg WX ⟨.slice a0 n0 k0, .slice a1 n1 k1, .slice a2 n2 k2, .slice a3 n3 k3, .slice a4 n4 k4, .slice a5 n5 k5, .slice a6 n6 k6, .slice a7 n7 k7⟩ (ps ++ fls) N v wx → Q0 .normal ⟨#[z0, z1, .pointer (some ⟨w.heap.size, 0, none⟩), z3, z4, z5, .pointer (some ⟨w.heap.size + 1, 0, none⟩), .pointer (some ⟨w.heap.size + 2, 0, none⟩), .pointer (some ⟨N, 0, none⟩), z9, z10, z11, z12, z13, z14, z15, z16, z17, z18, z19, z20, v21, v22, v23, v24, v25, v26, v27, v28, z29, z30, z31, z32, z33, z34, z35, z36, z37, z38], []⟩ wx) :
    Code.wp Tryz.prog gcode Q0 ⟨#[z0, z1, .pointer (some ⟨w.heap.size, 0, none⟩), z3, z4, z5, .pointer (some ⟨w.heap.size + 1, 0, none⟩), .pointer (some ⟨w.heap.size + 2, 0, none⟩), z8, z9, z10, z11, z12, z13, z14, z15, z16, z17, z18, z19, z20, z21, z22, z23, z24, z25, z26, z27, z28, z29, z30, z31, z32, z33, z34, z35, z36, z37, z38], []⟩ WX := by
  have HN := hide hnorm
  clear hnorm
  conv => arg 2; whnf
  have hS0 := unhide HS WX.drew (drew_b WX)
  refine wp_region_held_drew (S := fun w' => w'.cell? ⟨w.heap.size, 0, none⟩ = some (.slice a0 n0 k0) ∧ w'.cell? ⟨w.heap.size, 1, none⟩ = some (.slice a1 n1 k1) ∧ w'.cell? ⟨w.heap.size, 2, none⟩ = some (.slice a2 n2 k2) ∧ w'.cell? ⟨w.heap.size, 3, none⟩ = some (.slice a3 n3 k3) ∧ w'.cell? ⟨w.heap.size, 4, none⟩ = some (.slice a4 n4 k4) ∧ w'.cell? ⟨w.heap.size, 5, none⟩ = some (.slice a5 n5 k5) ∧ w'.cell? ⟨w.heap.size, 6, none⟩ = some (.slice a6 n6 k6) ∧ w'.cell? ⟨w.heap.size, 7, none⟩ = some (.slice a7 n7 k7) ∧ w'.cell? ⟨w.heap.size + 2, 0, none⟩ = some (.slice pa pl pc) ∧ w'.cell? ⟨w.heap.size + 1, 1, none⟩ = some (.slice la fl lc)) (by kernel_rfl) hS0 (fun _ => ?_)
  refine wpAnyH_take (i := 0) (oi := _) (v := ?v0_1) rfl (by kernel_rfl) (by kernel_rfl) (by kernel_rfl) (fun c a w h => hpan c a w _ _ h) (Or.inl ⟨by kernel_rfl, ?y0_1⟩) hS0 ?_
  case y0_1 => intro wx hSw; obtain ⟨s0, s1, s2, s3, s4, s5, s6, s7, s8, s9⟩ := hSw; go_simp; first | done | rfl
  simp only [List.getElem_toArray, List.getElem_cons_succ, List.getElem_cons_zero, Act.put, List.setIfInBounds_toArray, List.set_cons_zero, List.set_cons_succ]
  refine wpAnyH_take (i := 1) (oi := _) (v := ?v1_2) rfl (by kernel_rfl) (by kernel_rfl) (by kernel_rfl) (fun c a w h => hpan c a w _ _ h) (Or.inl ⟨by kernel_rfl, ?y1_2⟩) hS0 ?_
  case y1_2 => intro wx hSw; obtain ⟨s0, s1, s2, s3, s4, s5, s6, s7, s8, s9⟩ := hSw; go_simp; first | done | rfl
  simp only [List.getElem_toArray, List.getElem_cons_succ, List.getElem_cons_zero, Act.put, List.setIfInBounds_toArray, List.set_cons_zero, List.set_cons_succ]
  refine wpAnyH_take (i := 2) (oi := _) (v := ?v2_3) rfl (by kernel_rfl) (by kernel_rfl) (by kernel_rfl) (fun c a w h => hpan c a w _ _ h) (Or.inl ⟨by kernel_rfl, ?y2_3⟩) hS0 ?_
  case y2_3 => intro wx hSw; obtain ⟨s0, s1, s2, s3, s4, s5, s6, s7, s8, s9⟩ := hSw; go_simp; first | done | rfl
  simp only [List.getElem_toArray, List.getElem_cons_succ, List.getElem_cons_zero, Act.put, List.setIfInBounds_toArray, List.set_cons_zero, List.set_cons_succ]
  refine wpAnyH_take (i := 3) (oi := _) (v := ?v3_4) rfl (by kernel_rfl) (by kernel_rfl) (by kernel_rfl) (fun c a w h => hpan c a w _ _ h) (Or.inl ⟨by kernel_rfl, ?y3_4⟩) hS0 ?_
  case y3_4 => intro wx hSw; obtain ⟨s0, s1, s2, s3, s4, s5, s6, s7, s8, s9⟩ := hSw; go_simp; first | done | rfl
  simp only [List.getElem_toArray, List.getElem_cons_succ, List.getElem_cons_zero, Act.put, List.setIfInBounds_toArray, List.set_cons_zero, List.set_cons_succ]
  refine wpAnyH_take (i := 4) (oi := _) (v := ?v4_5) rfl (by kernel_rfl) (by kernel_rfl) (by kernel_rfl) (fun c a w h => hpan c a w _ _ h) (Or.inl ⟨by kernel_rfl, ?y4_5⟩) hS0 ?_
  case y4_5 => intro wx hSw; obtain ⟨s0, s1, s2, s3, s4, s5, s6, s7, s8, s9⟩ := hSw; go_simp; first | done | rfl
  simp only [List.getElem_toArray, List.getElem_cons_succ, List.getElem_cons_zero, Act.put, List.setIfInBounds_toArray, List.set_cons_zero, List.set_cons_succ]
  refine wpAnyH_ready (rs := [5, 8]) (by kernel_rfl) (by simp) ?_
  refine AllReadyH.cons rfl (fun K hK => ?_) (AllReadyH.cons rfl (fun K hK => ?_) AllReadyH.nil)
  · skip
    obtain ⟨Y1, hY1⟩ : ∃ W, (WX.alloc (.cells #[.slice pa pl pc, .slice la fl lc] 64)).drew = W := ⟨_, rfl⟩
    have hrY1 : Y1.heap[WX.heap.size]? = some (.cells #[.slice pa pl pc, .slice la fl lc] 64 (0, 0)) := by rw [← hY1]; exact heap_alloc_new WX (.cells #[.slice pa pl pc, .slice la fl lc] 64)
    have hbY1 : Below WX.heap.size WX Y1 := by rw [← hY1]; exact Gm.ad_below9 _ _
    have hBY1 : Below WX.heap.size WX Y1 := hbY1
    have hSY1 := unhide HS Y1 hBY1
    have hzY1 : WX.heap.size < Y1.heap.size := by rw [← hY1]; simp
    have EY1 := hide hY1; have PY1 := hide hrY1; have QY1 := hide hbY1; have RY1 := hide hBY1; have SY1 := hide hSY1
    clear hY1 hrY1 hbY1 hBY1 hSY1
    go_simp
    have hrY1 := unhide PY1; have hbY1 := unhide QY1; have hBY1 := unhide RY1; have hSY1 := unhide SY1
    rw [show (WX.alloc (.cells #[.slice pa pl pc, .slice la fl lc] 64) ).drew = Y1 from unhide EY1]
    refine hK.out _ _ hSY1 (fun _ => ?_)
    clear hK EY1
    refine wpAnyH_ready (rs := [6, 8]) (by kernel_rfl) (by simp) ?_
    refine AllReadyH.cons rfl (fun K hK => ?_) (AllReadyH.cons rfl (fun K hK => ?_) AllReadyH.nil)
    · skip
      have KB0 : Y1.cell? ⟨WX.heap.size, 0, none⟩ = some (.slice pa ps.length pc) := by rw [unhide Hpl]; rw [cell_of_row Y1 _ 0 _ _ _ hrY1]; rfl
      have KB1 : Y1.cell? ⟨WX.heap.size, 1, none⟩ = some (.slice la fls.length lc) := by rw [unhide Hfl]; rw [cell_of_row Y1 _ 1 _ _ _ hrY1]; rfl
      have hcc := concat_any (w := Y1) (B := WX.heap.size) (g := fun b => b < w.heap.size) KB0 KB1 (Gm.Byts.moved (Gm.Mv.below (Below.on0 (unhide HBx) hBY1 (unhide HBx).size) (fun _ _ q => q)) (unhide HPs)) (Gm.Byts.moved (Gm.Mv.below (Below.on0 (unhide HBx) hBY1 (unhide HBx).size) (fun _ _ q => q)) (unhide HLs)) hpl1 hfl1
      go_simp
      go_at_call 57
      refine hcc.mono ?_
      rintro e w4 ⟨⟨vv, rfl, hown⟩, hb4⟩
      obtain ⟨va', vc', rfl, -⟩ := slice_of hown
      have hB4 := Below.on0 hBY1 hb4 hBY1.size
      have hS4 := unhide HS w4 hB4
      have hlies := (own_lies hown).2
      have hsz4 := hb4.size
      obtain ⟨LL, hLL⟩ : ∃ LL, (ps ++ fls).length = LL := ⟨_, rfl⟩
      rw [hLL]
      have HB4 := hide hB4; have HS4 := hide hS4; have HLi := hide hlies; have Hb4 := hide hb4; have HLL := hide hLL
      clear hcc hB4 hS4 hlies hb4 hown KB0 KB1 hLL
      go_wp2_with fail
      refine hK.out _ _ (unhide HS4) (fun _ => ?_)
      clear hK
      refine wpAnyH_take (i := 7) (oi := _) (v := ?v7_6) rfl (by kernel_rfl) (by kernel_rfl) (by kernel_rfl) (fun c a w h => hpan c a w _ _ h) (Or.inl ⟨by kernel_rfl, ?y7_6⟩) (unhide HS4) ?_
      case y7_6 => intro wx hSw; obtain ⟨s0, s1, s2, s3, s4, s5, s6, s7, s8, s9⟩ := hSw; go_simp; first | done | rfl
      simp only [List.getElem_toArray, List.getElem_cons_succ, List.getElem_cons_zero, Act.put, List.setIfInBounds_toArray, List.set_cons_zero, List.set_cons_succ]
      refine wpAnyH_ready (rs := [8]) (by kernel_rfl) (by simp) ?_
      refine AllReadyH.cons rfl (fun K hK => ?_) AllReadyH.nil
      obtain ⟨Y3, hY3⟩ : ∃ W, (w4.alloc (.cells Z15 138)) = W := ⟨_, rfl⟩
      have hrY3 : Y3.heap[w4.heap.size]? = some (.cells Z15 138 (0, 0)) := by rw [← hY3]; exact heap_alloc_new w4 (.cells Z15 138)
      have hbY3 : Below w4.heap.size w4 Y3 := by rw [← hY3]; exact one_al _ _
      have hBY3 : Below WX.heap.size WX Y3 := Below.on0 (unhide HB4) hbY3 (unhide HB4).size
      have hSY3 := unhide HS Y3 hBY3
      have hzY3 : w4.heap.size < Y3.heap.size := by rw [← hY3]; simp
      have EY3 := hide hY3; have PY3 := hide hrY3; have QY3 := hide hbY3; have RY3 := hide hBY3; have SY3 := hide hSY3
      clear hY3 hrY3 hbY3 hBY3 hSY3
      go_simp
      have hrY3 := unhide PY3; have hbY3 := unhide QY3; have hBY3 := unhide RY3; have hSY3 := unhide SY3
      rw [show (w4.alloc (.cells #[.slice none 0 0, .slice none 0 0, .slice none 0 0, .slice none 0 0, .slice none 0 0, .slice none 0 0, .slice none 0 0, .slice none 0 0, .slice none 0 0, .slice none 0 0, .slice none 0 0, .int .i64 0, .bool false, .bool false, .int .i64 0] 138) ) = Y3 from unhide EY3]
      refine hK.out _ _ hSY3 (fun _ => ?_)
      clear hK EY3
      have hB4 := unhide HB4; have hlies := unhide HLi; have hb4 := unhide Hb4; have hLL := unhide HLL
      have hlies := Ex.Lies.move hlies (fun hl0 b o hg hp => (⟨⟨hg, World.block_lt_of_cell? w4 _ (hp 0 hl0)⟩, fun j hj => (hbY3.cell (p := ⟨b, o + j, none⟩) (World.block_lt_of_cell? w4 _ (hp j hj))).trans (hp j hj)⟩ : (Y1.heap.size ≤ b ∧ b < w4.heap.size) ∧ Byts Y3 (ps ++ fls) b o))
      refine wpAnyH_ready (rs := [9]) (by kernel_rfl) (by simp) ?_
      refine AllReadyH.cons rfl (fun K hK => ?_) AllReadyH.nil
      rw [if_pos (show Region.wanted _ _ = true from rfl)]
      refine wp_store_mid 138 (.tmp 8) (.tmp 28) rfl w4.heap.size 0 #[.slice a0 n0 k0, .slice a1 n1 k1, .slice a2 n2 k2, .slice a3 n3 k3, .slice a4 n4 k4, .slice a5 n5 k5, .slice a6 n6 k6, .slice a7 n7 k7, .slice va' LL vc', .slice none 0 0, .slice none 0 0, .int .i64 0, .bool false, .bool false, .int .i64 0] rfl rfl (there15 hrY3) (by kernel_rfl) one15 ?_
      simp only [Act.put]
      refine hK.out _ _ (unhide HS _ (setC_bel w4.heap.size (by omega) _ 0 Y3 hBY3)) (fun _ => ?_)
      clear hK
      refine wpAnyH_done (by kernel_rfl) ?_ _
      subst hLL
      have hBg : Bg WX ⟨.slice a0 n0 k0, .slice a1 n1 k1, .slice a2 n2 k2, .slice a3 n3 k3, .slice a4 n4 k4, .slice a5 n5 k5, .slice a6 n6 k6, .slice a7 n7 k7⟩ (ps ++ fls) w4.heap.size (.slice va' (ps ++ fls).length vc') (Y3.setCells w4.heap.size 0 (R15 ⟨.slice a0 n0 k0, .slice a1 n1 k1, .slice a2 n2 k2, .slice a3 n3 k3, .slice a4 n4 k4, .slice a5 n5 k5, .slice a6 n6 k6, .slice a7 n7 k7⟩ (.slice va' (ps ++ fls).length vc'))) := Bg.of hrY3 (Ex.Lies.move hlies fun hl0 b o hg hp => ⟨⟨World.block_lt_of_cell? Y3 _ (hp 0 hl0), by have hq := hg.2; omega⟩, hp⟩) hBY3 (by omega)
      have HBg := hide hBg
      clear hBg
      exact (unhide HN) _ _ _ _ _ _ _ _ w4.heap.size _ _ (unhide HBg)
    · skip
      obtain ⟨Y2, hY2⟩ : ∃ W, (Y1.alloc (.cells Z15 138)) = W := ⟨_, rfl⟩
      have hrY2 : Y2.heap[Y1.heap.size]? = some (.cells Z15 138 (0, 0)) := by rw [← hY2]; exact heap_alloc_new Y1 (.cells Z15 138)
      have hbY2 : Below Y1.heap.size Y1 Y2 := by rw [← hY2]; exact one_al _ _
      have hBY2 : Below WX.heap.size WX Y2 := Below.on0 hBY1 hbY2 hBY1.size
      have hSY2 := unhide HS Y2 hBY2
      have hzY2 : Y1.heap.size < Y2.heap.size := by rw [← hY2]; simp
      have EY2 := hide hY2; have PY2 := hide hrY2; have QY2 := hide hbY2; have RY2 := hide hBY2; have SY2 := hide hSY2
      clear hY2 hrY2 hbY2 hBY2 hSY2
      go_simp
      have hrY2 := unhide PY2; have hbY2 := unhide QY2; have hBY2 := unhide RY2; have hSY2 := unhide SY2
      rw [show (Y1.alloc (.cells #[.slice none 0 0, .slice none 0 0, .slice none 0 0, .slice none 0 0, .slice none 0 0, .slice none 0 0, .slice none 0 0, .slice none 0 0, .slice none 0 0, .slice none 0 0, .slice none 0 0, .int .i64 0, .bool false, .bool false, .int .i64 0] 138) ) = Y2 from unhide EY2]
      refine hK.out _ _ hSY2 (fun _ => ?_)
      clear hK EY2
      refine wpAnyH_ready (rs := [6]) (by kernel_rfl) (by simp) ?_
      refine AllReadyH.cons rfl (fun K hK => ?_) AllReadyH.nil
      have hrG := (hbY2.block _ (Array.getElem?_eq_some_iff.1 hrY1).1).trans hrY1
      have KB0 : Y2.cell? ⟨WX.heap.size, 0, none⟩ = some (.slice pa ps.length pc) := by rw [unhide Hpl]; rw [cell_of_row Y2 _ 0 _ _ _ hrG]; rfl
      have KB1 : Y2.cell? ⟨WX.heap.size, 1, none⟩ = some (.slice la fls.length lc) := by rw [unhide Hfl]; rw [cell_of_row Y2 _ 1 _ _ _ hrG]; rfl
      have hcc := concat_any (w := Y2) (B := WX.heap.size) (g := fun b => b < w.heap.size) KB0 KB1 (Gm.Byts.moved (Gm.Mv.below (Below.on0 (unhide HBx) hBY2 (unhide HBx).size) (fun _ _ q => q)) (unhide HPs)) (Gm.Byts.moved (Gm.Mv.below (Below.on0 (unhide HBx) hBY2 (unhide HBx).size) (fun _ _ q => q)) (unhide HLs)) hpl1 hfl1
      go_simp
      go_at_call 57
      refine hcc.mono ?_
      rintro e w4 ⟨⟨vv, rfl, hown⟩, hb4⟩
      obtain ⟨va', vc', rfl, -⟩ := slice_of hown
      have hB4 := Below.on0 hBY2 hb4 hBY2.size
      have hS4 := unhide HS w4 hB4
      have hlies := (own_lies hown).2
      have hsz4 := hb4.size
      obtain ⟨LL, hLL⟩ : ∃ LL, (ps ++ fls).length = LL := ⟨_, rfl⟩
      rw [hLL]
      have HB4 := hide hB4; have HS4 := hide hS4; have HLi := hide hlies; have Hb4 := hide hb4; have HLL := hide hLL
      clear hcc hB4 hS4 hlies hb4 hown KB0 KB1 hLL
      go_wp2_with fail
      refine hK.out _ _ (unhide HS4) (fun _ => ?_)
      clear hK
      refine wpAnyH_take (i := 7) (oi := _) (v := ?v7_7) rfl (by kernel_rfl) (by kernel_rfl) (by kernel_rfl) (fun c a w h => hpan c a w _ _ h) (Or.inl ⟨by kernel_rfl, ?y7_7⟩) (unhide HS4) ?_
      case y7_7 => intro wx hSw; obtain ⟨s0, s1, s2, s3, s4, s5, s6, s7, s8, s9⟩ := hSw; go_simp; first | done | rfl
      simp only [List.getElem_toArray, List.getElem_cons_succ, List.getElem_cons_zero, Act.put, List.setIfInBounds_toArray, List.set_cons_zero, List.set_cons_succ]
      have hB4 := unhide HB4; have hlies := unhide HLi; have hb4 := unhide Hb4; have hLL := unhide HLL
      have hrN := (hb4.block _ (Array.getElem?_eq_some_iff.1 hrY2).1).trans hrY2
      refine wpAnyH_ready (rs := [9]) (by kernel_rfl) (by simp) ?_
      refine AllReadyH.cons rfl (fun K hK => ?_) AllReadyH.nil
      rw [if_pos (show Region.wanted _ _ = true from rfl)]
      refine wp_store_mid 138 (.tmp 8) (.tmp 28) rfl Y1.heap.size 0 #[.slice a0 n0 k0, .slice a1 n1 k1, .slice a2 n2 k2, .slice a3 n3 k3, .slice a4 n4 k4, .slice a5 n5 k5, .slice a6 n6 k6, .slice a7 n7 k7, .slice va' LL vc', .slice none 0 0, .slice none 0 0, .int .i64 0, .bool false, .bool false, .int .i64 0] rfl rfl (there15 hrN) (by kernel_rfl) one15 ?_
      simp only [Act.put]
      refine hK.out _ _ (unhide HS _ (setC_bel Y1.heap.size (by omega) _ 0 w4 hB4)) (fun _ => ?_)
      clear hK
      refine wpAnyH_done (by kernel_rfl) ?_ _
      subst hLL
      have hBg : Bg WX ⟨.slice a0 n0 k0, .slice a1 n1 k1, .slice a2 n2 k2, .slice a3 n3 k3, .slice a4 n4 k4, .slice a5 n5 k5, .slice a6 n6 k6, .slice a7 n7 k7⟩ (ps ++ fls) Y1.heap.size (.slice va' (ps ++ fls).length vc') (w4.setCells Y1.heap.size 0 (R15 ⟨.slice a0 n0 k0, .slice a1 n1 k1, .slice a2 n2 k2, .slice a3 n3 k3, .slice a4 n4 k4, .slice a5 n5 k5, .slice a6 n6 k6, .slice a7 n7 k7⟩ (.slice va' (ps ++ fls).length vc'))) := Bg.of hrN (Ex.Lies.move hlies fun hl0 b o hg hp => ⟨⟨World.block_lt_of_cell? w4 _ (hp 0 hl0), by have hq := hg; omega⟩, hp⟩) hB4 (by omega)
      have HBg := hide hBg
      clear hBg
      exact (unhide HN) _ _ _ _ _ _ _ _ Y1.heap.size _ _ (unhide HBg)
  · skip
    obtain ⟨Y1, hY1⟩ : ∃ W, (WX.alloc (.cells Z15 138)).drew = W := ⟨_, rfl⟩
    have hrY1 : Y1.heap[WX.heap.size]? = some (.cells Z15 138 (0, 0)) := by rw [← hY1]; exact heap_alloc_new WX (.cells Z15 138)
    have hbY1 : Below WX.heap.size WX Y1 := by rw [← hY1]; exact Gm.ad_below9 _ _
    have hBY1 : Below WX.heap.size WX Y1 := hbY1
    have hSY1 := unhide HS Y1 hBY1
    have hzY1 : WX.heap.size < Y1.heap.size := by rw [← hY1]; simp
    have EY1 := hide hY1; have PY1 := hide hrY1; have QY1 := hide hbY1; have RY1 := hide hBY1; have SY1 := hide hSY1
    clear hY1 hrY1 hbY1 hBY1 hSY1
    go_simp
    have hrY1 := unhide PY1; have hbY1 := unhide QY1; have hBY1 := unhide RY1; have hSY1 := unhide SY1
    rw [show (WX.alloc (.cells #[.slice none 0 0, .slice none 0 0, .slice none 0 0, .slice none 0 0, .slice none 0 0, .slice none 0 0, .slice none 0 0, .slice none 0 0, .slice none 0 0, .slice none 0 0, .slice none 0 0, .int .i64 0, .bool false, .bool false, .int .i64 0] 138) ).drew = Y1 from unhide EY1]
    refine hK.out _ _ hSY1 (fun _ => ?_)
    clear hK EY1
    refine wpAnyH_ready (rs := [5]) (by kernel_rfl) (by simp) ?_
    refine AllReadyH.cons rfl (fun K hK => ?_) AllReadyH.nil
    obtain ⟨Y2, hY2⟩ : ∃ W, (Y1.alloc (.cells #[.slice pa pl pc, .slice la fl lc] 64)) = W := ⟨_, rfl⟩
    have hrY2 : Y2.heap[Y1.heap.size]? = some (.cells #[.slice pa pl pc, .slice la fl lc] 64 (0, 0)) := by rw [← hY2]; exact heap_alloc_new Y1 (.cells #[.slice pa pl pc, .slice la fl lc] 64)
    have hbY2 : Below Y1.heap.size Y1 Y2 := by rw [← hY2]; exact one_al _ _
    have hBY2 : Below WX.heap.size WX Y2 := Below.on0 hBY1 hbY2 hBY1.size
    have hSY2 := unhide HS Y2 hBY2
    have hzY2 : Y1.heap.size < Y2.heap.size := by rw [← hY2]; simp
    have EY2 := hide hY2; have PY2 := hide hrY2; have QY2 := hide hbY2; have RY2 := hide hBY2; have SY2 := hide hSY2
    clear hY2 hrY2 hbY2 hBY2 hSY2
    go_simp
    have hrY2 := unhide PY2; have hbY2 := unhide QY2; have hBY2 := unhide RY2; have hSY2 := unhide SY2
    rw [show (Y1.alloc (.cells #[.slice pa pl pc, .slice la fl lc] 64) ) = Y2 from unhide EY2]
    refine hK.out _ _ hSY2 (fun _ => ?_)
    clear hK EY2
    refine wpAnyH_ready (rs := [6]) (by kernel_rfl) (by simp) ?_
    refine AllReadyH.cons rfl (fun K hK => ?_) AllReadyH.nil
    have KB0 : Y2.cell? ⟨Y1.heap.size, 0, none⟩ = some (.slice pa ps.length pc) := by rw [unhide Hpl]; rw [cell_of_row Y2 _ 0 _ _ _ hrY2]; rfl
    have KB1 : Y2.cell? ⟨Y1.heap.size, 1, none⟩ = some (.slice la fls.length lc) := by rw [unhide Hfl]; rw [cell_of_row Y2 _ 1 _ _ _ hrY2]; rfl
    have hcc := concat_any (w := Y2) (B := Y1.heap.size) (g := fun b => b < w.heap.size) KB0 KB1 (Gm.Byts.moved (Gm.Mv.below (Below.on0 (unhide HBx) hBY2 (unhide HBx).size) (fun _ _ q => q)) (unhide HPs)) (Gm.Byts.moved (Gm.Mv.below (Below.on0 (unhide HBx) hBY2 (unhide HBx).size) (fun _ _ q => q)) (unhide HLs)) hpl1 hfl1
    go_simp
    go_at_call 57
    refine hcc.mono ?_
    rintro e w4 ⟨⟨vv, rfl, hown⟩, hb4⟩
    obtain ⟨va', vc', rfl, -⟩ := slice_of hown
    have hB4 := Below.on0 hBY2 hb4 hBY2.size
    have hS4 := unhide HS w4 hB4
    have hlies := (own_lies hown).2
    have hsz4 := hb4.size
    obtain ⟨LL, hLL⟩ : ∃ LL, (ps ++ fls).length = LL := ⟨_, rfl⟩
    rw [hLL]
    have HB4 := hide hB4; have HS4 := hide hS4; have HLi := hide hlies; have Hb4 := hide hb4; have HLL := hide hLL
    clear hcc hB4 hS4 hlies hb4 hown KB0 KB1 hLL
    go_wp2_with fail
    refine hK.out _ _ (unhide HS4) (fun _ => ?_)
    clear hK
    refine wpAnyH_take (i := 7) (oi := _) (v := ?v7_8) rfl (by kernel_rfl) (by kernel_rfl) (by kernel_rfl) (fun c a w h => hpan c a w _ _ h) (Or.inl ⟨by kernel_rfl, ?y7_8⟩) (unhide HS4) ?_
    case y7_8 => intro wx hSw; obtain ⟨s0, s1, s2, s3, s4, s5, s6, s7, s8, s9⟩ := hSw; go_simp; first | done | rfl
    simp only [List.getElem_toArray, List.getElem_cons_succ, List.getElem_cons_zero, Act.put, List.setIfInBounds_toArray, List.set_cons_zero, List.set_cons_succ]
    have hB4 := unhide HB4; have hlies := unhide HLi; have hb4 := unhide Hb4; have hLL := unhide HLL
    have hrN := (hb4.block _ (by have := (Array.getElem?_eq_some_iff.1 hrY1).1; omega)).trans ((hbY2.block _ (Array.getElem?_eq_some_iff.1 hrY1).1).trans hrY1)
    refine wpAnyH_ready (rs := [9]) (by kernel_rfl) (by simp) ?_
    refine AllReadyH.cons rfl (fun K hK => ?_) AllReadyH.nil
    rw [if_pos (show Region.wanted _ _ = true from rfl)]
    refine wp_store_mid 138 (.tmp 8) (.tmp 28) rfl WX.heap.size 0 #[.slice a0 n0 k0, .slice a1 n1 k1, .slice a2 n2 k2, .slice a3 n3 k3, .slice a4 n4 k4, .slice a5 n5 k5, .slice a6 n6 k6, .slice a7 n7 k7, .slice va' LL vc', .slice none 0 0, .slice none 0 0, .int .i64 0, .bool false, .bool false, .int .i64 0] rfl rfl (there15 hrN) (by kernel_rfl) one15 ?_
    simp only [Act.put]
    refine hK.out _ _ (unhide HS _ (setC_bel WX.heap.size (by omega) _ 0 w4 hB4)) (fun _ => ?_)
    clear hK
    refine wpAnyH_done (by kernel_rfl) ?_ _
    subst hLL
    have hBg : Bg WX ⟨.slice a0 n0 k0, .slice a1 n1 k1, .slice a2 n2 k2, .slice a3 n3 k3, .slice a4 n4 k4, .slice a5 n5 k5, .slice a6 n6 k6, .slice a7 n7 k7⟩ (ps ++ fls) WX.heap.size (.slice va' (ps ++ fls).length vc') (w4.setCells WX.heap.size 0 (R15 ⟨.slice a0 n0 k0, .slice a1 n1 k1, .slice a2 n2 k2, .slice a3 n3 k3, .slice a4 n4 k4, .slice a5 n5 k5, .slice a6 n6 k6, .slice a7 n7 k7⟩ (.slice va' (ps ++ fls).length vc'))) := Bg.of hrN (Ex.Lies.move hlies fun hl0 b o hg hp => ⟨⟨World.block_lt_of_cell? w4 _ (hp 0 hl0), by have hq := hg; omega⟩, hp⟩) hB4 (by omega)
    have HBg := hide hBg
    clear hBg
    exact (unhide HN) _ _ _ _ _ _ _ _ WX.heap.size _ _ (unhide HBg)
end Vw
end Go.Proofs.YtcpknafaocdjdaaGreatDoor

/- valid: goOver, whole. By mkgo2.py. -/
namespace Go.Proofs.YtcpknafaocdjdaaGreatDoor
open Go.RowKit Go.Shelf
namespace Vw
set_option linter.unusedVariables false
set_option linter.unusedSimpArgs false
open Ex (Ins Lies Lab cnt)
open Gm (Mod Typ Fnc Byts ModL WfM)
theorem three_al (w : World) (c1 c2 c3 : Array Value) (t1 t2 t3 : TypeId) : ∃ WX, ((w.alloc (.cells c1 t1)).alloc (.cells c2 t2)).alloc (.cells c3 t3) = WX ∧ Below w.heap.size w WX ∧ WX.heap.size = w.heap.size + 3 ∧ WX.heap[w.heap.size]? = some (.cells c1 t1 (0, 0)) ∧ WX.heap[w.heap.size + 1]? = some (.cells c2 t2 (0, 0)) ∧ WX.heap[w.heap.size + 2]? = some (.cells c3 t3 (0, 0)) := by
  have q1 := one_al w (.cells c1 t1)
  have q2 := one_al (w.alloc (.cells c1 t1)) (.cells c2 t2)
  have q3 := one_al ((w.alloc (.cells c1 t1)).alloc (.cells c2 t2)) (.cells c3 t3)
  have z1 : (w.alloc (.cells c1 t1)).heap.size = w.heap.size + 1 := by simp
  have z2 : ((w.alloc (.cells c1 t1)).alloc (.cells c2 t2)).heap.size = w.heap.size + 2 := by simp
  have r1 := heap_alloc_new w (.cells c1 t1)
  have r2 := heap_alloc_new (w.alloc (.cells c1 t1)) (.cells c2 t2)
  have r3 := heap_alloc_new ((w.alloc (.cells c1 t1)).alloc (.cells c2 t2)) (.cells c3 t3)
  rw [z1] at r2
  rw [z2] at r3
  refine ⟨_, rfl, Below.on0 (Below.on0 q1 q2 q1.size) q3 (Below.on0 q1 q2 q1.size).size, by simp, (q3.block _ (by omega)).trans ((q2.block _ (by omega)).trans r1), (q3.block _ (by omega)).trans r2, r3⟩

set_option maxRecDepth 100000 in
set_option maxHeartbeats 6400000 in
theorem goOver_any {w : World} {M : Mod} {v0 v1 v2 v3 v4 v5 v6 v7 : Value} (hci : CiOk) (h : ModL w (fun b => b < w.heap.size) M v0 v1 v2 v3 v4 v5 v6 v7) (hwf : WfM M) (hT : Tb w) (hz : SzV M) {f : Nat} (hf : f < M.funcs.length) {t : Typ} (ht : M.types[(M.funcs[f]).ty.toNat]? = some t) :
    Calls Tryz.prog 26 #[.agg #[v0, v1, v2, v3, v4, v5, v6, v7], .int .i64 (f : Int)] w fun e w' => GoP (over M f) e ∧ Below w.heap.size w w' := by
  have hfw := hwf.2.1 _ (List.getElem_mem hf)
  obtain ⟨ty, hty⟩ : ∃ k : Nat, (M.funcs[f]).ty = k := ⟨(M.funcs[f]).ty.toNat, by have := hfw.1; omega⟩
  have htl : ty < M.types.length := by rw [hty] at ht; exact (List.getElem?_eq_some_iff.1 ht).1
  have hte : M.types[ty] = t := by rw [hty] at ht; exact (List.getElem?_eq_some_iff.1 ht).2
  have htm : t ∈ M.types := List.mem_of_getElem? ht
  have hfm := List.getElem_mem hf
  have hov : over M f = (blk (fun s => ins M (t.ps ++ (M.funcs[f]).ls) (M.funcs[f]).body s) t.re t.re ⟨[], [], 0, false, false, 0⟩).map fun s => s.most := by
    unfold over; rw [List.getElem?_eq_getElem hf]; simp only; rw [ht]
  obtain ⟨fb, fo, k1, hv1, hfc, hfb, -, fcs, -, ⟨vls, vbo, rfl, hls, hbo⟩, hfcs⟩ := h.l1.at hf
  obtain ⟨tb, tO, k0, hv0, htc, htb, -, tcs, -, ⟨vps, rfl, hps⟩, htcs⟩ := h.l0.at htl
  rw [hte] at hps htcs
  rw [hty] at hfcs
  have HMod := hide h
  obtain ⟨a2, k2, hv2⟩ := h.l2.sl
  obtain ⟨a3, k3, hv3⟩ := h.l3.sl
  obtain ⟨a4, k4, hv4⟩ := h.l4.sl
  obtain ⟨a5, k5, hv5⟩ := h.l5.sl
  obtain ⟨a6, k6, hv6⟩ := h.l6.sl
  obtain ⟨a7, k7, hv7⟩ := h.l7.sl
  subst hv0 hv1 hv2 hv3 hv4 hv5 hv6 hv7
  have HLs := hide hls; have HPs := hide hps; have HBo := hide hbo
  obtain ⟨la, lc, rfl, -⟩ := hls
  obtain ⟨ba, bc, rfl, -⟩ := hbo
  obtain ⟨pa, pc, rfl, -⟩ := hps
  have f0 := hfcs 0 _ rfl; have f1 := hfcs 1 _ rfl; have f2 := hfcs 2 _ rfl
  have t0 := htcs 0 _ rfl; have t1 := htcs 1 _ rfl
  simp only [Nat.add_zero] at f0 t0
  have hfl : (f : Int) < (M.funcs.length : Int) := by omega
  have htl2 : (ty : Int) < (M.types.length : Int) := by omega
  have hszb := hz.bo _ hfm
  have hszl := hz.ls _ hfm
  have hszp := hz.ps _ htm
  obtain ⟨WX, hWX, hBX, hWz, hrM, hrF, hrT⟩ := three_al w #[.slice (some ⟨tb, tO, none⟩) M.types.length k0, .slice (some ⟨fb, fo, none⟩) M.funcs.length k1, .slice a2 M.tables.length k2, .slice a3 M.mems.length k3, .slice a4 M.globs.length k4, .slice a5 M.exps.length k5, .slice a6 M.elems.length k6, .slice a7 M.datas.length k7] #[.int .u32 (ty : Int), .slice la (M.funcs[f]).ls.length lc, .slice ba (M.funcs[f]).body.length bc] #[.slice pa t.ps.length pc, .int .u8 t.re] 41 66 96
  have HBX := hide hBX; have HrM := hide hrM; have HrF := hide hrF; have HrT := hide hrT; have HWX := hide hWX
  obtain ⟨m0, m1, m2, m3, m4, m5, m6, m7⟩ := mbox hrM
  have HF : ∀ W, Below WX.heap.size WX W → W.heap[w.heap.size + 1]? = some (.cells #[.int .u32 (ty : Int), .slice la (M.funcs[f]).ls.length lc, .slice ba (M.funcs[f]).body.length bc] 66 (0, 0)) := fun W hW => (hW.block _ (by omega)).trans hrF
  have HTT : ∀ W, Below WX.heap.size WX W → W.heap[w.heap.size + 2]? = some (.cells #[.slice pa t.ps.length pc, .int .u8 t.re] 96 (0, 0)) := fun W hW => (hW.block _ (by omega)).trans hrT
  have hSS : ∀ w', Below WX.heap.size WX w' → w'.cell? ⟨w.heap.size, 0, none⟩ = some (.slice (some ⟨tb, tO, none⟩) M.types.length k0) ∧ w'.cell? ⟨w.heap.size, 1, none⟩ = some (.slice (some ⟨fb, fo, none⟩) M.funcs.length k1) ∧ w'.cell? ⟨w.heap.size, 2, none⟩ = some (.slice a2 M.tables.length k2) ∧ w'.cell? ⟨w.heap.size, 3, none⟩ = some (.slice a3 M.mems.length k3) ∧ w'.cell? ⟨w.heap.size, 4, none⟩ = some (.slice a4 M.globs.length k4) ∧ w'.cell? ⟨w.heap.size, 5, none⟩ = some (.slice a5 M.exps.length k5) ∧ w'.cell? ⟨w.heap.size, 6, none⟩ = some (.slice a6 M.elems.length k6) ∧ w'.cell? ⟨w.heap.size, 7, none⟩ = some (.slice a7 M.datas.length k7) ∧ w'.cell? ⟨w.heap.size + 2, 0, none⟩ = some (.slice pa t.ps.length pc) ∧ w'.cell? ⟨w.heap.size + 1, 1, none⟩ = some (.slice la (M.funcs[f]).ls.length lc) := by
    intro W hW
    obtain ⟨p0, p1, p2, p3, p4, p5, p6, p7⟩ := mbox ((hW.block w.heap.size (by omega)).trans hrM)
    exact ⟨p0, p1, p2, p3, p4, p5, p6, p7, by rw [cell_of_row W _ 0 _ _ _ (HTT W hW)]; rfl, by rw [cell_of_row W _ 1 _ _ _ (HF W hW)]; rfl⟩
  have HSS := hide hSS; have HFF := hide HF; have HTTT := hide HTT
  have hTW := fun W (hW : Below w.heap.size w W) => hT.below hW
  have HTb := hide hTW; have HOv := hide hov; have HWf := hide hwf; have HSz := hide hz; have HSb := hide hszb
  clear hSS HF HTT hTW hov hwf hz hszb hrM hrF hrT hBX h hT m0 m1 m2 m3 m4 m5 m6 m7 hfw hfm htm ht hte hfcs htcs hty hWX
  go_enter Tryz.func26, Tryz.ntmps26
  go_upto_region 3 with fail
  rw [unhide HWX]
  refine go_begin (ty := 0) (bl := 0) (bc := 0) (ba := none) (re := 0) HBX (Nat.le_of_eq hWz.symm) HSS (hide rfl) (hide rfl) HPs HLs (by omega) (by omega) ?hpan (fun x21 x22 x23 x24 x25 x26 x27 x28 N vl wx hbg => ?_)
  case hpan => intro c a w d v h; first | exact h | (unfold Exit.then at *; first | exact h | simpa using h) | (simp only [Exit.then] at h ⊢; exact h)
  dsimp only
  have hbw : Below w.heap.size w wx := Below.on0 (unhide HBX) hbg.be (unhide HBX).size
  have hNw : N < wx.heap.size := hbg.wk.lt
  have hNg : w.heap.size ≤ N := by have := hbg.hn; omega
  have hf2 := unhide HFF wx hbg.be
  have ht2 := unhide HTTT wx hbg.be
  have c2 : wx.cell? ⟨w.heap.size + 1, 2, none⟩ = some (.slice ba (M.funcs[f]).body.length bc) := by rw [cell_of_row wx _ 2 _ _ _ hf2]; rfl
  have d1 : wx.cell? ⟨w.heap.size + 2, 1, none⟩ = some (.int .u8 t.re) := by rw [cell_of_row wx _ 1 _ _ _ ht2]; rfl
  have lf : w.heap.size + 1 < wx.heap.size := (Array.getElem?_eq_some_iff.1 hf2).1
  have lt2 : w.heap.size + 2 < wx.heap.size := (Array.getElem?_eq_some_iff.1 ht2).1
  have hmd : ∀ W, Below N wx W → MdL W N M ⟨.slice (some ⟨tb, tO, none⟩) M.types.length k0, .slice (some ⟨fb, fo, none⟩) M.funcs.length k1, .slice a2 M.tables.length k2, .slice a3 M.mems.length k3, .slice a4 M.globs.length k4, .slice a5 M.exps.length k5, .slice a6 M.elems.length k6, .slice a7 M.datas.length k7⟩ := fun W hW =>
    have hb : Below w.heap.size w W := hbw.trans (hW.mono hNg)
    ⟨(unhide HMod).moved (Gm.Mv.below hb (fun k hk _ => Nat.lt_of_lt_of_le hk hNg)) hb.size, unhide HWf⟩
  have hins := instr_any (vl := vl) (lo := t.ps ++ (M.funcs[f]).ls) hci hNw hmd (fun W hW => unhide HTb W (hbw.trans (hW.mono hNg))) (unhide HSz).me (unhide HSz).ps (M.funcs[f]).body (unhide HSb).1 (unhide HSb).2.1
  have hcode : Ex.Code wx (fun b => b < N) (M.funcs[f]).body (.slice ba (M.funcs[f]).body.length bc) := Ex.Code.move (fun k hk _ hg => ⟨Nat.lt_of_lt_of_le hg hNg, hbw.block k hk⟩) (unhide HBo)
  have hcall := list_any (w0 := wx) (M := M) (Below.refl _ _) hbg.wk (by have := (unhide HSb).2.2; simp; omega) (by have := (unhide HSb).2.2; simp; omega) hcode (fun i hi => ⟨hins i hi, (k1_all M _ _ i hi).keeps⟩) hNw t.re t.re
  have HCall := hide hcall; have HBw := hide hbw; have HRow := hide hbg.row
  clear hcall hcode hins hmd hbg hf2 ht2 hbw
  go_wp2_with fail
  refine (unhide HCall).mono ?_
  rintro e w5 ⟨rfl, hx5, hf5⟩
  obtain ⟨c', hr5, hs5⟩ := hf5.sz _ _ (unhide HRow)
  have hs15 : c'.size = 15 := hs5.trans rfl
  have hB5 : Below w.heap.size w w5 := (unhide HBw).trans (hf5.lo.mono hNg)
  have l5 : N < w5.heap.size := (Array.getElem?_eq_some_iff.1 hr5).1
  obtain ⟨u, hu⟩ : ∃ u, w5.cell? ⟨N, 14, none⟩ = some u := ⟨c'[14]'(by omega), by rw [cell_of_row w5 _ 14 _ _ _ hr5]; exact Array.getElem?_eq_getElem (by omega)⟩
  have hres : GoP (over M f) (.returned (.tuple #[u, .bool (blk (fun s => ins M (t.ps ++ (M.funcs[f]).ls) (M.funcs[f]).body s) t.re t.re ⟨[], [], 0, false, false, 0⟩).isSome])) := by
    rw [unhide HOv]
    refine ⟨u, by simp, fun n hn => ?_⟩
    cases ho : blk (fun s => ins M (t.ps ++ (M.funcs[f]).ls) (M.funcs[f]).body s) t.re t.re ⟨[], [], 0, false, false, 0⟩ with
    | none => rw [ho] at hn; cases hn
    | some s' =>
      rw [ho] at hn; cases hn
      obtain ⟨va5, vt5, hw5⟩ := hx5 s' ho
      have := hw5.box.cells.2.2.2.2.2.2
      rw [hu] at this; cases this; rfl
  have HRes := hide hres; have HB5 := hide hB5
  generalize (blk (fun s => ins M (t.ps ++ (M.funcs[f]).ls) (M.funcs[f]).body s) t.re t.re ⟨[], [], 0, false, false, 0⟩).isSome = bb at *
  clear hres hB5 hx5 hf5 hr5 hs5 hs15 HCall HRow HBw c2 d1
  go_wp2
  go_ret2
  exact ⟨unhide HRes, unhide HB5⟩
end Vw
end Go.Proofs.YtcpknafaocdjdaaGreatDoor

/- valid: Height, Body. By mkhe.py. -/
namespace Go.Proofs.YtcpknafaocdjdaaGreatDoor
open Go.RowKit Go.Shelf
namespace Vw
set_option linter.unusedVariables false
set_option linter.unusedSimpArgs false
open Ex (Ins Lies Lab cnt)
open Gm (Mod Typ Fnc Byts ModL WfM)
def hgE (M : Mod) (f : Int) : Int := if (Gm.ty? M f).isSome && kinds M then (if (over M f.toNat).isSome then 0 else 7) else 1
def hgN (M : Mod) (f : Int) : Int := if (Gm.ty? M f).isSome && kinds M then (((over M f.toNat).getD 0 : Nat) : Int) else 0
theorem errV_7 : errV 7 = .iface 102 (.int .i64 7) := by simp [errV]
theorem ty_some {M : Mod} {f : Int} {t : Typ} (h : Gm.ty? M f = some t) : ∃ (j : Nat) (hj : j < M.funcs.length), f = j ∧ M.types[(M.funcs[j]).ty.toNat]? = some t := by
  unfold Gm.ty? at h; split at h
  · cases h
  · cases hq : M.funcs[f.toNat]? with
    | none => rw [hq] at h; cases h
    | some fn =>
      obtain ⟨hj, he⟩ := List.getElem?_eq_some_iff.1 hq
      rw [hq, Option.bind_some] at h
      exact ⟨f.toNat, hj, by omega, by rw [he]; exact h⟩

set_option maxRecDepth 100000 in
set_option maxHeartbeats 6400000 in
theorem height_any {w : World} {M : Mod} {v0 v1 v2 v3 v4 v5 v6 v7 : Value} (hci : CiOk) (h : ModL w (fun b => b < w.heap.size) M v0 v1 v2 v3 v4 v5 v6 v7) (hwf : WfM M) (hT : Tb w) (hz : SzV M) (f : Int) :
    Calls Tryz.prog 15 #[.agg #[v0, v1, v2, v3, v4, v5, v6, v7], .int .i64 f] w fun e w' => e = .returned (.tuple #[.int .i64 (hgN M f), errV (hgE M f)]) ∧ Below w.heap.size w w' := by
  have hmv := fun U (hU : Below w.heap.size w U) => h.moved (g' := fun b => b < U.heap.size) (Gm.Mv.below hU (fun k hk _ => Nat.lt_of_lt_of_le hk hU.size)) hU.size
  have hty := fun U (hU : Below w.heap.size w U) => Gm.vtypeOf_any (hmv U hU) hwf f
  have hki := fun U (hU : Below w.heap.size w U) => kindsRight_any (hmv U hU) hz.l
  have hgo := fun U (hU : Below w.heap.size w U) (t : Typ) (ht : Gm.ty? M f = some t) => (show ∃ j : Nat, f = j ∧ Calls Tryz.prog 26 #[.agg #[v0, v1, v2, v3, v4, v5, v6, v7], .int .i64 (j : Int)] U fun e w' => GoP (over M j) e ∧ Below U.heap.size U w' from
    let ⟨j, hj, he, h2⟩ := ty_some ht; ⟨j, he, goOver_any hci (hmv U hU) hwf (hT.below hU) hz hj h2⟩)
  have hN : hgN M f = if (Gm.ty? M f).isSome && kinds M then (((over M f.toNat).getD 0 : Nat) : Int) else 0 := rfl
  have hE : hgE M f = if (Gm.ty? M f).isSome && kinds M then (if (over M f.toNat).isSome then 0 else 7) else 1 := rfl
  obtain ⟨a0, k0, hv0⟩ := h.l0.sl
  obtain ⟨a1, k1, hv1⟩ := h.l1.sl
  obtain ⟨a2, k2, hv2⟩ := h.l2.sl
  obtain ⟨a3, k3, hv3⟩ := h.l3.sl
  obtain ⟨a4, k4, hv4⟩ := h.l4.sl
  obtain ⟨a5, k5, hv5⟩ := h.l5.sl
  obtain ⟨a6, k6, hv6⟩ := h.l6.sl
  obtain ⟨a7, k7, hv7⟩ := h.l7.sl
  subst hv0 hv1 hv2 hv3 hv4 hv5 hv6 hv7
  obtain ⟨W0, hW0⟩ : ∃ W0, w.alloc (.cells #[.slice a0 M.types.length k0, .slice a1 M.funcs.length k1, .slice a2 M.tables.length k2, .slice a3 M.mems.length k3, .slice a4 M.globs.length k4, .slice a5 M.exps.length k5, .slice a6 M.elems.length k6, .slice a7 M.datas.length k7] 41) = W0 := ⟨_, rfl⟩
  have hB0 : Below w.heap.size w W0 := by rw [← hW0]; exact one_al _ _
  have hr0 : W0.heap[w.heap.size]? = some (.cells #[.slice a0 M.types.length k0, .slice a1 M.funcs.length k1, .slice a2 M.tables.length k2, .slice a3 M.mems.length k3, .slice a4 M.globs.length k4, .slice a5 M.exps.length k5, .slice a6 M.elems.length k6, .slice a7 M.datas.length k7] 41 (0, 0)) := by rw [← hW0]; exact heap_alloc_new _ _
  have hl0 : w.heap.size < W0.heap.size := (Array.getElem?_eq_some_iff.1 hr0).1
  have HTy := hide hty; have HKi := hide hki; have HGo := hide hgo; have HB0 := hide hB0; have HR0 := hide hr0; have HW0 := hide hW0; have HNn := hide hN; have HEe := hide hE
  clear hmv hty hki hgo hB0 hr0 hW0 h hwf hT hz hN hE
  cases ht : Gm.ty? M f with
  | none =>
    have e1 : hgN M f = 0 := by rw [unhide HNn, ht]; rfl
    have e2 : hgE M f = 1 := by rw [unhide HEe, ht]; rfl
    have hc := unhide HTy W0 (unhide HB0)
    rw [ht] at hc
    rw [e1, e2, errV_1]
    have HC := hide hc
    clear e1 e2 hc HTy HKi HGo HNn HEe ht
    go_enter Tryz.func15, Tryz.ntmps15
    go_wp2_with fail
    rw [unhide HW0]
    refine Calls.mono (unhide HC) ?_
    rintro e w1 ⟨rfl, hb1⟩
    have HB1 := hide (Below.on0 (unhide HB0) hb1 (unhide HB0).size)
    clear hb1 HW0 HC
    go_wp2
    go_ret2
    exact ⟨rfl, (unhide HB1).alloc (unhide HB1).size _⟩
  | some t =>
    have hc := unhide HTy W0 (unhide HB0)
    rw [ht] at hc
    have HC := hide hc; have HT := hide ht
    clear hc ht HTy
    cases hk : kinds M with
    | false =>
      have e1 : hgN M f = 0 := by rw [unhide HNn, hk, Bool.and_false]; rfl
      have e2 : hgE M f = 1 := by rw [unhide HEe, hk, Bool.and_false]; rfl
      rw [e1, e2, errV_1]
      rw [hk] at HKi
      clear e1 e2 hk HNn HEe HGo HT
      go_enter Tryz.func15, Tryz.ntmps15
      go_wp2_with fail
      rw [unhide HW0]
      refine Calls.mono (unhide HC) ?_
      rintro e w1 ⟨pa, pc, rfl, -, hb1⟩
      obtain ⟨W2, hW2⟩ : ∃ W2, w1.alloc (.cells #[.slice pa t.ps.length pc, .int .u8 t.re] 96) = W2 := ⟨_, rfl⟩
      have hb2 : Below w1.heap.size w1 W2 := by rw [← hW2]; exact one_al _ _
      have hB2 : Below w.heap.size w W2 := Below.on0 (Below.on0 (unhide HB0) hb1 (unhide HB0).size) hb2 (Below.on0 (unhide HB0) hb1 (unhide HB0).size).size
      have hr2 := (hb2.block w.heap.size (by have := hb1.size; omega)).trans ((hb1.block w.heap.size hl0).trans (unhide HR0))
      obtain ⟨p0, p1, p2, p3, p4, p5, p6, p7⟩ := mbox hr2
      have l2 : w.heap.size < W2.heap.size := (Array.getElem?_eq_some_iff.1 hr2).1
      have HW2 := hide hW2; have HB2 := hide hB2
      clear hb1 hb2 hB2 hr2 hW2 HW0 HC
      go_upto_region 2 with fail
      rw [unhide HW2]
      clear HW2
      go_wp2_with fail
      refine (unhide HKi W2 (unhide HB2)).mono ?_
      rintro e w3 ⟨rfl, hb3⟩
      have HB3 := hide (Below.on0 (unhide HB2) hb3 (unhide HB2).size)
      clear hb3 p0 p1 p2 p3 p4 p5 p6 p7
      go_wp2
      go_ret2
      exact ⟨rfl, unhide HB3⟩
    | true =>
      rw [hk] at HKi
      have e1 : hgN M f = ((over M f.toNat).getD 0 : Nat) := by rw [unhide HNn, hk, unhide HT]; rfl
      have e2 : hgE M f = if (over M f.toNat).isSome then 0 else 7 := by rw [unhide HEe, hk, unhide HT]; rfl
      clear hk HNn HEe
      obtain ⟨j, hfj, -⟩ := unhide HGo W0 (unhide HB0) t (unhide HT)
      subst hfj
      have hgo2 := fun U (hU : Below w.heap.size w U) => (let ⟨j', e, c⟩ := unhide HGo U hU t (unhide HT); (show j' = j by omega) ▸ c)
      rw [Int.toNat_natCast] at e1 e2
      have HGo2 := hide hgo2
      clear hgo2 HGo
      cases ho : over M j with
      | none =>
        rw [ho] at e1 e2 HGo2
        rw [e1, e2]
        have e3 : errV (if (none : Option Nat).isSome = true then 0 else 7) = .iface 102 (.int .i64 7) := errV_7
        rw [e3]
        have e4 : (((none : Option Nat).getD 0 : Nat) : Int) = 0 := rfl
        rw [e4]
        clear e1 e2 e3 e4 ho
        go_enter Tryz.func15, Tryz.ntmps15
        go_wp2_with fail
        rw [unhide HW0]
        refine Calls.mono (unhide HC) ?_
        rintro e w1 ⟨pa, pc, rfl, -, hb1⟩
        obtain ⟨W2, hW2⟩ : ∃ W2, w1.alloc (.cells #[.slice pa t.ps.length pc, .int .u8 t.re] 96) = W2 := ⟨_, rfl⟩
        have hb2 : Below w1.heap.size w1 W2 := by rw [← hW2]; exact one_al _ _
        have hB2 : Below w.heap.size w W2 := Below.on0 (Below.on0 (unhide HB0) hb1 (unhide HB0).size) hb2 (Below.on0 (unhide HB0) hb1 (unhide HB0).size).size
        have hr2 := (hb2.block w.heap.size (by have := hb1.size; omega)).trans ((hb1.block w.heap.size hl0).trans (unhide HR0))
        obtain ⟨p0, p1, p2, p3, p4, p5, p6, p7⟩ := mbox hr2
        have l2 : w.heap.size < W2.heap.size := (Array.getElem?_eq_some_iff.1 hr2).1
        have HW2 := hide hW2; have HB2 := hide hB2; have HR2 := hide hr2
        clear hb1 hb2 hB2 hr2 hW2 HW0 HC
        go_upto_region 2 with fail
        rw [unhide HW2]
        clear HW2
        go_wp2_with fail
        refine (unhide HKi W2 (unhide HB2)).mono ?_
        rintro e w3 ⟨rfl, hb3⟩
        have HB3 := hide (Below.on0 (unhide HB2) hb3 (unhide HB2).size)
        have hr3 := (hb3.block w.heap.size l2).trans (unhide HR2)
        clear hb3 p0 p1 p2 p3 p4 p5 p6 p7
        obtain ⟨p0, p1, p2, p3, p4, p5, p6, p7⟩ := mbox hr3
        have l3 : w.heap.size < w3.heap.size := (Array.getElem?_eq_some_iff.1 hr3).1
        clear hr3
        go_wp2_with fail
        refine (unhide HGo2 w3 (unhide HB3)).mono ?_
        rintro e w4 ⟨⟨u, rfl, -⟩, hb4⟩
        have HB4 := hide (Below.on0 (unhide HB3) hb4 (unhide HB3).size)
        clear hb4 p0 p1 p2 p3 p4 p5 p6 p7
        go_wp2
        go_ret2
        exact ⟨rfl, unhide HB4⟩
      | some n =>
        rw [ho] at e1 e2 HGo2
        rw [e1, e2]
        have e3 : errV (if (some n).isSome = true then 0 else 7) = .nilIface := errV_0
        rw [e3]
        have e4 : (((some n).getD 0 : Nat) : Int) = n := rfl
        rw [e4]
        clear e1 e2 e3 e4 ho
        go_enter Tryz.func15, Tryz.ntmps15
        go_wp2_with fail
        rw [unhide HW0]
        refine Calls.mono (unhide HC) ?_
        rintro e w1 ⟨pa, pc, rfl, -, hb1⟩
        obtain ⟨W2, hW2⟩ : ∃ W2, w1.alloc (.cells #[.slice pa t.ps.length pc, .int .u8 t.re] 96) = W2 := ⟨_, rfl⟩
        have hb2 : Below w1.heap.size w1 W2 := by rw [← hW2]; exact one_al _ _
        have hB2 : Below w.heap.size w W2 := Below.on0 (Below.on0 (unhide HB0) hb1 (unhide HB0).size) hb2 (Below.on0 (unhide HB0) hb1 (unhide HB0).size).size
        have hr2 := (hb2.block w.heap.size (by have := hb1.size; omega)).trans ((hb1.block w.heap.size hl0).trans (unhide HR0))
        obtain ⟨p0, p1, p2, p3, p4, p5, p6, p7⟩ := mbox hr2
        have l2 : w.heap.size < W2.heap.size := (Array.getElem?_eq_some_iff.1 hr2).1
        have HW2 := hide hW2; have HB2 := hide hB2; have HR2 := hide hr2
        clear hb1 hb2 hB2 hr2 hW2 HW0 HC
        go_upto_region 2 with fail
        rw [unhide HW2]
        clear HW2
        go_wp2_with fail
        refine (unhide HKi W2 (unhide HB2)).mono ?_
        rintro e w3 ⟨rfl, hb3⟩
        have HB3 := hide (Below.on0 (unhide HB2) hb3 (unhide HB2).size)
        have hr3 := (hb3.block w.heap.size l2).trans (unhide HR2)
        clear hb3 p0 p1 p2 p3 p4 p5 p6 p7
        obtain ⟨p0, p1, p2, p3, p4, p5, p6, p7⟩ := mbox hr3
        have l3 : w.heap.size < w3.heap.size := (Array.getElem?_eq_some_iff.1 hr3).1
        clear hr3
        go_wp2_with fail
        refine (unhide HGo2 w3 (unhide HB3)).mono ?_
        rintro e w4 ⟨⟨u, rfl, hu⟩, hb4⟩
        obtain rfl := hu n rfl
        have HB4 := hide (Below.on0 (unhide HB3) hb4 (unhide HB3).size)
        clear hb4 p0 p1 p2 p3 p4 p5 p6 p7 hu
        go_wp2
        go_ret2
        exact ⟨rfl, unhide HB4⟩

set_option maxRecDepth 100000 in
theorem body_any {w : World} {M : Mod} {v0 v1 v2 v3 v4 v5 v6 v7 : Value} (hci : CiOk) (h : ModL w (fun b => b < w.heap.size) M v0 v1 v2 v3 v4 v5 v6 v7) (hwf : WfM M) (hT : Tb w) (hz : SzV M) (f : Int) :
    Calls Tryz.prog 14 #[.agg #[v0, v1, v2, v3, v4, v5, v6, v7], .int .i64 f] w fun e w' => e = .returned (errV (hgE M f)) ∧ Below w.heap.size w w' := by
  have hmv := fun U (hU : Below w.heap.size w U) => h.moved (g' := fun b => b < U.heap.size) (Gm.Mv.below hU (fun k hk _ => Nat.lt_of_lt_of_le hk hU.size)) hU.size
  have hhe := fun U (hU : Below w.heap.size w U) => height_any hci (hmv U hU) hwf (hT.below hU) hz f
  obtain ⟨a0, k0, hv0⟩ := h.l0.sl
  obtain ⟨a1, k1, hv1⟩ := h.l1.sl
  obtain ⟨a2, k2, hv2⟩ := h.l2.sl
  obtain ⟨a3, k3, hv3⟩ := h.l3.sl
  obtain ⟨a4, k4, hv4⟩ := h.l4.sl
  obtain ⟨a5, k5, hv5⟩ := h.l5.sl
  obtain ⟨a6, k6, hv6⟩ := h.l6.sl
  obtain ⟨a7, k7, hv7⟩ := h.l7.sl
  subst hv0 hv1 hv2 hv3 hv4 hv5 hv6 hv7
  have hB0 := one_al w (.cells #[.slice a0 M.types.length k0, .slice a1 M.funcs.length k1, .slice a2 M.tables.length k2, .slice a3 M.mems.length k3, .slice a4 M.globs.length k4, .slice a5 M.exps.length k5, .slice a6 M.elems.length k6, .slice a7 M.datas.length k7] 41)
  have HHe := hide hhe; have HB0 := hide hB0
  clear hmv hhe hB0 h hwf hT hz
  generalize errV (hgE M f) = ev at *
  generalize hgN M f = nv at *
  go_enter Tryz.func14, Tryz.ntmps14
  go_wp2_with fail
  refine (unhide HHe _ (unhide HB0)).mono ?_
  rintro e w1 ⟨rfl, hb1⟩
  have HB1 := hide (Below.on0 (unhide HB0) hb1 (unhide HB0).size)
  clear hb1
  go_wp2
  go_ret
  exact ⟨rfl, unhide HB1⟩
end Vw
end Go.Proofs.YtcpknafaocdjdaaGreatDoor
