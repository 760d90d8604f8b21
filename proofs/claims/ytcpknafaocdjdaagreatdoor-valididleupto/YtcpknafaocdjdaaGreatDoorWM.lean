/- WM: what follows, part by part: each part tells what it holds. -/
import Derived.Test.YtcpknafaocdjdaaGreatDoorWK
import Derived.Test.YtcpknafaocdjdaaGreatDoorGmM
import Derived.Test.YtcpknafaocdjdaaGreatDoorWL
import Derived.Test.YtcpknafaocdjdaaGreatDoorWD
import Derived.Test.YtcpknafaocdjdaaGreatDoorRows
import Derived.Stop.LaidErr
import Derived.LaidHandle
import Derived.ProofKit
import Derived.OpenShut
import Derived.ShutString
import Derived.ChangeOld
import Derived.ChangeSame
import Derived.ChangeVars
import Derived.JoinedOf
import Derived.RowKit
import Derived.RowKitTokens
import Derived.LaidLaws
import Derived.Stop.Joined

/- mandrellaw08.scene. By mksc.py. -/
namespace Go.Proofs.YtcpknafaocdjdaaGreatDoor
open Go.RowKit Go.Shelf
namespace Vw
set_option linter.unusedVariables false
set_option linter.unusedSimpArgs false
open Ex (Ins Lies Lab cnt)
open Gm (Mod Typ Fnc Byts ModL WfM LL TypC FncC)
/-- one after another -/
def als (w : World) : List (Array Value × TypeId) → World
  | [] => w
  | x :: r => als (w.alloc (.cells x.1 x.2)) r
theorem als_below : ∀ (l : List (Array Value × TypeId)) (w : World), Below w.heap.size w (als w l)
  | [], w => Below.refl _ _
  | x :: r, w => Below.on (one_al w _) (als_below r _)
theorem als_row : ∀ (l : List (Array Value × TypeId)) (w : World) (i : Nat) (c : Array Value) (t : TypeId), l[i]? = some (c, t) → (als w l).heap[w.heap.size + i]? = some (.cells c t (0, 0))
  | x :: r, w, 0, c, t, h => by
    simp only [List.getElem?_cons_zero, Option.some.injEq] at h
    subst h
    exact ((als_below r (w.alloc (.cells c t))).block _ (by simp)).trans (heap_alloc_new w (.cells c t))
  | x :: r, w, i + 1, c, t, h => by
    have := als_row r (w.alloc (.cells x.1 x.2)) i c t h
    rw [show (w.alloc (.cells x.1 x.2)).heap.size = w.heap.size + 1 by simp, Nat.add_assoc, Nat.add_comm 1 i] at this
    exact this
theorem byts1 {W : World} {b : Nat} {t : TypeId} {z : Int} {g : Nat → Prop} (h : W.heap[b]? = some (.cells #[.int .u8 z] t (0, 0))) (hg : g b) : Lies g [z].length (Byts W [z]) (.slice (some ⟨b, 0, none⟩) 1 1) :=
  ⟨_, 1, rfl, Nat.le_refl _, nofun, fun _ => ⟨b, 0, rfl, hg, fun j hj => by
    obtain rfl : j = 0 := by simpa using hj
    rw [cell_of_row W _ _ _ _ _ h]; rfl⟩⟩
theorem byts2 {W : World} {b : Nat} {t : TypeId} {z y : Int} {g : Nat → Prop} (h : W.heap[b]? = some (.cells #[.int .u8 z, .int .u8 y] t (0, 0))) (hg : g b) : Lies g [z, y].length (Byts W [z, y]) (.slice (some ⟨b, 0, none⟩) 2 2) :=
  ⟨_, 2, rfl, Nat.le_refl _, nofun, fun _ => ⟨b, 0, rfl, hg, fun j hj => by
    rw [cell_of_row W _ _ _ _ _ h]
    match j, hj with
    | 0, _ => rfl
    | 1, _ => rfl⟩⟩
theorem in0_C {W : World} {g : Nat → Prop} (op : Int) : Gm.InsC W g (in0 op 0) [.int .u8 op, .int .i64 0, .int .u32 0, .int .u32 0, .int .u8 0, .slice none 0 0, .slice none 0 0, .slice none 0 0] := ⟨_, _, _, rfl, nil_lies _ _, nil_lies _ _, nil_lies _ _⟩

theorem scn_lies {w WX : World} {pa ba : Option Addr} {pc bc : Nat} {ps : List Int} {re : Int} {body : List Ins} (hP : Lies (fun b => b < w.heap.size) ps.length (Byts w ps) (.slice pa ps.length pc)) (hC : Ex.Code w (fun b => b < w.heap.size) body (.slice ba body.length bc))
    (hB : Below w.heap.size w WX) (hr : ∀ i c t, ([(#[.slice (some ⟨w.heap.size + 4, 0, none⟩) 3 3, .slice (some ⟨w.heap.size + 7, 0, none⟩) 3 3, .slice (some ⟨w.heap.size + 8, 0, none⟩) 1 1, .slice (some ⟨w.heap.size + 9, 0, none⟩) 1 1, .slice (some ⟨w.heap.size + 10, 0, none⟩) 2 2, .slice none 0 0, .slice none 0 0, .slice none 0 0], 30), (#[.int .u8 65, .int .i64 0, .int .u32 0, .int .u32 0, .int .u8 0, .slice none 0 0, .slice none 0 0, .slice none 0 0], 69), (#[.int .u8 66, .int .i64 0, .int .u32 0, .int .u32 0, .int .u8 0, .slice none 0 0, .slice none 0 0, .slice none 0 0], 69), (#[.int .u8 127], 5), (#[.slice pa ps.length pc, .int .u8 re, .slice (some ⟨w.heap.size + 3, 0, none⟩) 1 1, .int .u8 126, .slice none 0 0, .int .u8 0], 84), (#[.int .u8 127, .int .u8 126], 5), (#[.int .u8 66, .int .i64 0, .int .u32 0, .int .u32 0, .int .u8 0, .slice none 0 0, .slice none 0 0, .slice none 0 0], 69), (#[.int .u32 0, .slice (some ⟨w.heap.size + 5, 0, none⟩) 2 2, .slice ba body.length bc, .int .u32 1, .slice none 0 0, .slice (some ⟨w.heap.size + 6, 0, none⟩) 1 1, .int .u32 2, .slice none 0 0, .slice none 0 0], 86), (#[.int .u32 4, .bool false, .int .u32 0], 99), (#[.int .u32 1, .bool false, .int .u32 0], 99), (#[.int .u8 127, .bool true, .int .u8 65, .int .i64 0, .int .u32 0, .int .u32 0, .int .u8 0, .slice none 0 0, .slice none 0 0, .slice none 0 0, .int .u8 126, .bool false, .int .u8 66, .int .i64 0, .int .u32 0, .int .u32 0, .int .u8 0, .slice none 0 0, .slice none 0 0, .slice none 0 0], 94)] : List (Array Value × TypeId))[i]? = some (c, t) → WX.heap[w.heap.size + i]? = some (.cells c t (0, 0))) :
    ModL WX (fun b => b < WX.heap.size) (scn ps re body) (.slice (some ⟨w.heap.size + 4, 0, none⟩) 3 3) (.slice (some ⟨w.heap.size + 7, 0, none⟩) 3 3) (.slice (some ⟨w.heap.size + 8, 0, none⟩) 1 1) (.slice (some ⟨w.heap.size + 9, 0, none⟩) 1 1) (.slice (some ⟨w.heap.size + 10, 0, none⟩) 2 2) (.slice none 0 0) (.slice none 0 0) (.slice none 0 0) := by
  have r3 := hr 3 _ _ rfl; have r4 := hr 4 _ _ rfl; have r5 := hr 5 _ _ rfl; have r6 := hr 6 _ _ rfl; have r7 := hr 7 _ _ rfl; have r8 := hr 8 _ _ rfl; have r9 := hr 9 _ _ rfl; have r10 := hr 10 _ _ rfl
  have l3 := (Array.getElem?_eq_some_iff.1 r3).1; have l4 := (Array.getElem?_eq_some_iff.1 r4).1; have l5 := (Array.getElem?_eq_some_iff.1 r5).1; have l6 := (Array.getElem?_eq_some_iff.1 r6).1; have l7 := (Array.getElem?_eq_some_iff.1 r7).1; have l8 := (Array.getElem?_eq_some_iff.1 r8).1; have l9 := (Array.getElem?_eq_some_iff.1 r9).1; have l10 := (Array.getElem?_eq_some_iff.1 r10).1
  have hP' := Gm.Byts.moved (g' := fun b => b < WX.heap.size) (Gm.Mv.below hB (fun k hk _ => Nat.lt_of_lt_of_le hk hB.size)) hP
  have hC' := Ex.Code.move (g' := fun b => b < WX.heap.size) (Gm.Mv.below hB (fun k hk _ => Nat.lt_of_lt_of_le hk hB.size)).moves hC
  clear hr
  refine ⟨⟨_, 3, rfl, Nat.le_refl _, nofun, fun _ => ⟨_, 0, rfl, l4, l4, fun i hi => ?_⟩⟩, ⟨_, 3, rfl, Nat.le_refl _, nofun, fun _ => ⟨_, 0, rfl, l7, l7, fun i hi => ?_⟩⟩, ⟨_, 1, rfl, Nat.le_refl _, nofun, fun _ => ⟨_, 0, rfl, l8, l8, fun i hi => ?_⟩⟩, ⟨_, 1, rfl, Nat.le_refl _, nofun, fun _ => ⟨_, 0, rfl, l9, l9, fun i hi => ?_⟩⟩, ⟨_, 2, rfl, Nat.le_refl _, nofun, fun _ => ⟨_, 0, rfl, l10, l10, fun i hi => ?_⟩⟩, Gm.LL_nil _ _ _ _, Gm.LL_nil _ _ _ _, Gm.LL_nil _ _ _ _⟩
  · match i, hi with
    | 0, _ =>
      exact ⟨[.slice pa ps.length pc, .int .u8 re], rfl, ⟨_, rfl, hP'⟩, fun j u hu => by
          rw [cell_of_row WX _ _ _ _ _ r4]
          match j, hu with
          | 0, hu => exact hu
          | 1, hu => exact hu
⟩
    | 1, _ =>
      exact ⟨[.slice (some ⟨w.heap.size + 3, 0, none⟩) 1 1, .int .u8 126], rfl, ⟨_, rfl, byts1 r3 l3⟩, fun j u hu => by
          rw [cell_of_row WX _ _ _ _ _ r4]
          match j, hu with
          | 0, hu => exact hu
          | 1, hu => exact hu
⟩
    | 2, _ =>
      exact ⟨[.slice none 0 0, .int .u8 0], rfl, ⟨_, rfl, nil_lies _ _⟩, fun j u hu => by
          rw [cell_of_row WX _ _ _ _ _ r4]
          match j, hu with
          | 0, hu => exact hu
          | 1, hu => exact hu
⟩
  · match i, hi with
    | 0, _ =>
      exact ⟨[.int .u32 0, .slice (some ⟨w.heap.size + 5, 0, none⟩) 2 2, .slice ba body.length bc], rfl, ⟨_, _, rfl, byts2 r5 l5, hC'⟩, fun j u hu => by
          rw [cell_of_row WX _ _ _ _ _ r7]
          match j, hu with
          | 0, hu => exact hu
          | 1, hu => exact hu
          | 2, hu => exact hu
⟩
    | 1, _ =>
      exact ⟨[.int .u32 1, .slice none 0 0, .slice (some ⟨w.heap.size + 6, 0, none⟩) 1 1], rfl, ⟨_, _, rfl, nil_lies _ _, ⟨_, 1, rfl, Nat.le_refl _, nofun, fun _ => ⟨_, 0, rfl, l6, (Ex.Items_cons _ _ _ _ _ _).2 ⟨in0_at (fun j u hu => by
          rw [cell_of_row WX _ _ _ _ _ r6]
          match j, hu with
          | 0, hu => exact hu
          | 1, hu => exact hu
          | 2, hu => exact hu
          | 3, hu => exact hu
          | 4, hu => exact hu
          | 5, hu => exact hu
          | 6, hu => exact hu
          | 7, hu => exact hu
), Ex.Items_nil _ _ _ _⟩⟩⟩⟩, fun j u hu => by
          rw [cell_of_row WX _ _ _ _ _ r7]
          match j, hu with
          | 0, hu => exact hu
          | 1, hu => exact hu
          | 2, hu => exact hu
⟩
    | 2, _ =>
      exact ⟨[.int .u32 2, .slice none 0 0, .slice none 0 0], rfl, ⟨_, _, rfl, nil_lies _ _, Ex.Code_nil _ _⟩, fun j u hu => by
          rw [cell_of_row WX _ _ _ _ _ r7]
          match j, hu with
          | 0, hu => exact hu
          | 1, hu => exact hu
          | 2, hu => exact hu
⟩
  · match i, hi with
    | 0, _ =>
      exact ⟨[.int .u32 4, .bool false, .int .u32 0], rfl, rfl, fun j u hu => by
          rw [cell_of_row WX _ _ _ _ _ r8]
          match j, hu with
          | 0, hu => exact hu
          | 1, hu => exact hu
          | 2, hu => exact hu
⟩
  · match i, hi with
    | 0, _ =>
      exact ⟨[.int .u32 1, .bool false, .int .u32 0], rfl, rfl, fun j u hu => by
          rw [cell_of_row WX _ _ _ _ _ r9]
          match j, hu with
          | 0, hu => exact hu
          | 1, hu => exact hu
          | 2, hu => exact hu
⟩
  · match i, hi with
    | 0, _ =>
      exact ⟨[.int .u8 127, .bool true, .int .u8 65, .int .i64 0, .int .u32 0, .int .u32 0, .int .u8 0, .slice none 0 0, .slice none 0 0, .slice none 0 0], rfl, ⟨_, rfl, in0_C 65⟩, fun j u hu => by
          rw [cell_of_row WX _ _ _ _ _ r10]
          match j, hu with
          | 0, hu => exact hu
          | 1, hu => exact hu
          | 2, hu => exact hu
          | 3, hu => exact hu
          | 4, hu => exact hu
          | 5, hu => exact hu
          | 6, hu => exact hu
          | 7, hu => exact hu
          | 8, hu => exact hu
          | 9, hu => exact hu
⟩
    | 1, _ =>
      exact ⟨[.int .u8 126, .bool false, .int .u8 66, .int .i64 0, .int .u32 0, .int .u32 0, .int .u8 0, .slice none 0 0, .slice none 0 0, .slice none 0 0], rfl, ⟨_, rfl, in0_C 66⟩, fun j u hu => by
          rw [cell_of_row WX _ _ _ _ _ r10]
          match j, hu with
          | 0, hu => exact hu
          | 1, hu => exact hu
          | 2, hu => exact hu
          | 3, hu => exact hu
          | 4, hu => exact hu
          | 5, hu => exact hu
          | 6, hu => exact hu
          | 7, hu => exact hu
          | 8, hu => exact hu
          | 9, hu => exact hu
⟩

set_option maxRecDepth 100000 in
set_option maxHeartbeats 4000000 in
theorem scene_any {w : World} {pa ba : Option Addr} {pc bc : Nat} {ps : List Int} (re : Int) {body : List Ins} (hP : Lies (fun b => b < w.heap.size) ps.length (Byts w ps) (.slice pa ps.length pc)) (hC : Ex.Code w (fun b => b < w.heap.size) body (.slice ba body.length bc)) :
    Calls Tryz.prog 18 #[.slice pa ps.length pc, .int .u8 re, .slice ba body.length bc] w fun e w' => (∃ v0 v1 v2 v3 v4 v5 v6 v7, e = .returned (.agg #[v0, v1, v2, v3, v4, v5, v6, v7]) ∧ ModL w' (fun b => b < w'.heap.size) (scn ps re body) v0 v1 v2 v3 v4 v5 v6 v7) ∧ Below w.heap.size w w' := by
  obtain ⟨WX, hWX⟩ : ∃ WX, als w [(#[.slice (some ⟨w.heap.size + 4, 0, none⟩) 3 3, .slice (some ⟨w.heap.size + 7, 0, none⟩) 3 3, .slice (some ⟨w.heap.size + 8, 0, none⟩) 1 1, .slice (some ⟨w.heap.size + 9, 0, none⟩) 1 1, .slice (some ⟨w.heap.size + 10, 0, none⟩) 2 2, .slice none 0 0, .slice none 0 0, .slice none 0 0], 30), (#[.int .u8 65, .int .i64 0, .int .u32 0, .int .u32 0, .int .u8 0, .slice none 0 0, .slice none 0 0, .slice none 0 0], 69), (#[.int .u8 66, .int .i64 0, .int .u32 0, .int .u32 0, .int .u8 0, .slice none 0 0, .slice none 0 0, .slice none 0 0], 69), (#[.int .u8 127], 5), (#[.slice pa ps.length pc, .int .u8 re, .slice (some ⟨w.heap.size + 3, 0, none⟩) 1 1, .int .u8 126, .slice none 0 0, .int .u8 0], 84), (#[.int .u8 127, .int .u8 126], 5), (#[.int .u8 66, .int .i64 0, .int .u32 0, .int .u32 0, .int .u8 0, .slice none 0 0, .slice none 0 0, .slice none 0 0], 69), (#[.int .u32 0, .slice (some ⟨w.heap.size + 5, 0, none⟩) 2 2, .slice ba body.length bc, .int .u32 1, .slice none 0 0, .slice (some ⟨w.heap.size + 6, 0, none⟩) 1 1, .int .u32 2, .slice none 0 0, .slice none 0 0], 86), (#[.int .u32 4, .bool false, .int .u32 0], 99), (#[.int .u32 1, .bool false, .int .u32 0], 99), (#[.int .u8 127, .bool true, .int .u8 65, .int .i64 0, .int .u32 0, .int .u32 0, .int .u8 0, .slice none 0 0, .slice none 0 0, .slice none 0 0, .int .u8 126, .bool false, .int .u8 66, .int .i64 0, .int .u32 0, .int .u32 0, .int .u8 0, .slice none 0 0, .slice none 0 0, .slice none 0 0], 94)] = WX := ⟨_, rfl⟩
  have hB : Below w.heap.size w WX := by rw [← hWX]; exact als_below _ _
  have hrow := fun i c t (h : ([(#[.slice (some ⟨w.heap.size + 4, 0, none⟩) 3 3, .slice (some ⟨w.heap.size + 7, 0, none⟩) 3 3, .slice (some ⟨w.heap.size + 8, 0, none⟩) 1 1, .slice (some ⟨w.heap.size + 9, 0, none⟩) 1 1, .slice (some ⟨w.heap.size + 10, 0, none⟩) 2 2, .slice none 0 0, .slice none 0 0, .slice none 0 0], 30), (#[.int .u8 65, .int .i64 0, .int .u32 0, .int .u32 0, .int .u8 0, .slice none 0 0, .slice none 0 0, .slice none 0 0], 69), (#[.int .u8 66, .int .i64 0, .int .u32 0, .int .u32 0, .int .u8 0, .slice none 0 0, .slice none 0 0, .slice none 0 0], 69), (#[.int .u8 127], 5), (#[.slice pa ps.length pc, .int .u8 re, .slice (some ⟨w.heap.size + 3, 0, none⟩) 1 1, .int .u8 126, .slice none 0 0, .int .u8 0], 84), (#[.int .u8 127, .int .u8 126], 5), (#[.int .u8 66, .int .i64 0, .int .u32 0, .int .u32 0, .int .u8 0, .slice none 0 0, .slice none 0 0, .slice none 0 0], 69), (#[.int .u32 0, .slice (some ⟨w.heap.size + 5, 0, none⟩) 2 2, .slice ba body.length bc, .int .u32 1, .slice none 0 0, .slice (some ⟨w.heap.size + 6, 0, none⟩) 1 1, .int .u32 2, .slice none 0 0, .slice none 0 0], 86), (#[.int .u32 4, .bool false, .int .u32 0], 99), (#[.int .u32 1, .bool false, .int .u32 0], 99), (#[.int .u8 127, .bool true, .int .u8 65, .int .i64 0, .int .u32 0, .int .u32 0, .int .u8 0, .slice none 0 0, .slice none 0 0, .slice none 0 0, .int .u8 126, .bool false, .int .u8 66, .int .i64 0, .int .u32 0, .int .u32 0, .int .u8 0, .slice none 0 0, .slice none 0 0, .slice none 0 0], 94)] : List (Array Value × TypeId))[i]? = some (c, t)) => (show WX.heap[w.heap.size + i]? = some (.cells c t (0, 0)) by rw [← hWX]; exact als_row _ _ _ _ _ h)
  have hM := scn_lies hP hC hB hrow
  have hr0 := hrow 0 _ _ rfl
  rw [Nat.add_zero] at hr0
  obtain ⟨p0, p1, p2, p3, p4, p5, p6, p7⟩ := mbox hr0
  have HM := hide hM; have HB := hide hB; have HW := hide hWX
  clear hM hB hWX hrow hr0 hP hC
  generalize hpl : ps.length = pl at *
  generalize hbl : body.length = bl at *
  clear hpl hbl
  go_enter Tryz.func18, Tryz.ntmps18
  go_wp2
  have hw := unhide HW
  simp only [als] at hw
  simp only [Nat.add_assoc, Nat.reduceAdd] at hw ⊢
  rw [hw]
  refine bodyPost_ret (v := .agg #[.slice (some ⟨w.heap.size + 4, 0, none⟩) 3 3, .slice (some ⟨w.heap.size + 7, 0, none⟩) 3 3, .slice (some ⟨w.heap.size + 8, 0, none⟩) 1 1, .slice (some ⟨w.heap.size + 9, 0, none⟩) 1 1, .slice (some ⟨w.heap.size + 10, 0, none⟩) 2 2, .slice none 0 0, .slice none 0 0, .slice none 0 0]) (by simp [results, Tryz.results18, go_sem, p0, p1, p2, p3, p4, p5, p6, p7]) rfl ⟨⟨_, _, _, _, _, _, _, _, rfl, unhide HM⟩, unhide HB⟩
end Vw
end Go.Proofs.YtcpknafaocdjdaaGreatDoor

/- ValidDead: its body as a row of its own; the module's sizes. -/
namespace Go.Proofs.YtcpknafaocdjdaaGreatDoor
open Go.RowKit Go.Shelf
namespace Vw
set_option linter.unusedVariables false
set_option linter.unusedSimpArgs false
open Ex (Ins Lies Lab cnt)
open Gm (Mod Typ Fnc Byts ModL WfM LL TypC FncC SzM)
def celI (i : Ins) : List Value := [.int .u8 i.op, .int .i64 i.n, .int .u32 0, .int .u32 0, .int .u8 0, .slice none 0 0, .slice none 0 0, .slice none 0 0]
def celL (m : List Ins) : List Value := m.flatMap celI
theorem celL_snoc (m : List Ins) (i : Ins) : celL (m ++ [i]) = celL m ++ celI i := by unfold celL; simp
theorem infoR5 : (Tryz.prog.info? 69).map (fun i => (i.zero, i.size, i.bytes)) = some (some (.agg #[.int .u8 0, .int .i64 0, .int .u32 0, .int .u32 0, .int .u8 0, .slice none 0 0, .slice none 0 0, .slice none 0 0]), 8, 104) := by kernel_rfl
/-- an item without anything within -/
def Pl (i : Ins) : Prop := i = in0 i.op i.n
theorem items_of {w : World} {g : Nat → Prop} {b : Nat} : ∀ (m : List Ins) (o : Nat), (∀ i ∈ m, Pl i) → (∀ j u, (celL m)[j]? = some u → w.cell? ⟨b, o + j, none⟩ = some u) → Ex.Items w g m b o
  | [], o, _, _ => Ex.Items_nil _ _ _ _
  | i :: r, o, hp, h => by
    refine (Ex.Items_cons _ _ _ _ _ _).2 ⟨?_, items_of r (o + 8) (fun x hx => hp x (by simp [hx])) (fun j u hu => ?_)⟩
    · have hi := hp i (by simp)
      have hc : ∀ j u, (celI i)[j]? = some u → w.cell? ⟨b, o + j, none⟩ = some u := fun j u hu => h j u (by
        have hj := (List.getElem?_eq_some_iff.1 hu).1
        unfold celL; rw [List.flatMap_cons, List.getElem?_append_left hj]; exact hu)
      rw [hi]
      refine ⟨_, _, _, ⟨hc 0 _ rfl, hc 1 _ rfl, hc 2 _ rfl, hc 3 _ rfl, hc 4 _ rfl, hc 5 _ rfl, hc 6 _ rfl, hc 7 _ rfl⟩, nil_lies _ _, nil_lies _ _, nil_lies _ _⟩
    · rw [Nat.add_assoc]
      refine h (8 + j) u ?_
      unfold celL at hu ⊢
      rw [List.flatMap_cons, List.getElem?_append_right (by simp [celI])]
      simpa [celI] using hu
theorem code_of {w : World} {B g cap : Nat} {m : List Ins} (hp : ∀ i ∈ m, Pl i) (hl : 0 < m.length) (h : w.ownsRow B 69 8 (.slice (some ⟨g, 0, none⟩) m.length cap) m.length (celL m)) : Ex.Code w (fun b => b < w.heap.size) m (.slice (some ⟨g, 0, none⟩) m.length cap) := by
  have hc := Ex.row_cells h
  rcases h.2 with ⟨e, _⟩ | ⟨g', cap', cur, e, _, hr, hcap, _⟩
  · cases e
  · cases e
    exact ⟨_, cap, rfl, hcap, nofun, fun _ => ⟨g, 0, rfl, (Array.getElem?_eq_some_iff.1 hr).1, items_of m 0 hp (fun j u hu => by rw [Nat.zero_add]; exact hc j u hu)⟩⟩
theorem cdN_snoc (b : Bool) : ∀ (l : List Bool) (n : Nat), cdN n (l ++ [b]) = if b then cdN n l + 1 else cdN n l - 1
  | [], n => by cases b <;> rfl
  | true :: r, n => by rw [List.cons_append, cdN, cdN, cdN_snoc b r]
  | false :: r, n => by rw [List.cons_append, cdN, cdN, cdN_snoc b r]
theorem cdN_le : ∀ (l : List Bool) (n : Nat), cdN n l ≤ n + l.length
  | [], n => by simp [cdN]
  | true :: r, n => by have := cdN_le r (n + 1); rw [cdN]; simp; omega
  | false :: r, n => by have := cdN_le r (n - 1); rw [cdN]; simp; omega
def dbody (l : List Bool) : List Ins := in0 0 0 :: l.map cdI
theorem dbody_snoc (l : List Bool) (b : Bool) : dbody (l ++ [b]) = dbody l ++ [cdI b] := by unfold dbody; simp
theorem dbody_len (l : List Bool) : (dbody l).length = l.length + 1 := by unfold dbody; simp
theorem dbody_pl (l : List Bool) : ∀ i ∈ dbody l, Pl i := by
  intro i hi
  unfold dbody at hi
  rcases List.mem_cons.1 hi with rfl | hi
  · rfl
  · obtain ⟨b, _, rfl⟩ := List.mem_map.1 hi
    cases b <;> rfl
theorem dbody_wf : ∀ (l : List Bool), Ex.Wf (l.map cdI) ∧ Ex.Sz 1048576 (l.map cdI) ∧ cnt (l.map cdI) = l.length
  | [] => ⟨Ex.Wf_nil, Ex.Sz_nil _, Ex.cnt_nil⟩
  | b :: r => by
    obtain ⟨h1, h2, h3⟩ := dbody_wf r
    have hb : Ex.WfI (cdI b) ∧ Ex.SzI 1048576 (cdI b) ∧ cnt (cdI b).body = 0 ∧ cnt (cdI b).els = 0 := by
      cases b
      · exact ⟨in0_wf 26 0 (by decide) (by decide), in0_sz _ _, Ex.cnt_nil, Ex.cnt_nil⟩
      · exact ⟨in0_wf 65 1 (by decide) (by decide), in0_sz _ _, Ex.cnt_nil, Ex.cnt_nil⟩
    refine ⟨(Ex.Wf_cons _ _).2 ⟨hb.1, h1⟩, (Ex.Sz_cons _ _ _).2 ⟨hb.2.1, h2⟩, ?_⟩
    rw [List.map_cons, Ex.cnt_cons, h3, hb.2.2.1, hb.2.2.2, List.length_cons]; omega
theorem dbody_all (l : List Bool) : Ex.Wf (dbody l) ∧ Ex.Sz 1048576 (dbody l) ∧ cnt (dbody l) = l.length + 1 := by
  obtain ⟨h1, h2, h3⟩ := dbody_wf l
  refine ⟨(Ex.Wf_cons _ _).2 ⟨in0_wf 0 0 (by decide) (by decide), h1⟩, (Ex.Sz_cons _ _ _).2 ⟨in0_sz _ _, h2⟩, ?_⟩
  unfold dbody
  rw [Ex.cnt_cons, h3, show (in0 0 0).body = [] from rfl, show (in0 0 0).els = [] from rfl, Ex.cnt_nil]; omega
theorem scn_wf {ps : List Int} {re : Int} {body : List Ins} (h1 : ∀ z ∈ ps, 0 ≤ z ∧ z ≤ 255) (h2 : 0 ≤ re ∧ re ≤ 255) (h3 : Ex.Wf body) : WfM (scn ps re body) := by
  refine ⟨?_, ?_, ?_, ?_, ?_, ?_, ?_, ?_⟩ <;> intro x hx <;> simp [scn] at hx
  · rcases hx with rfl | rfl | rfl
    · exact ⟨h1, h2⟩
    · exact ⟨by simp, by decide⟩
    · exact ⟨by simp, by decide⟩
  · rcases hx with rfl | rfl | rfl
    · exact ⟨(show (0 : Int) ≤ 0 ∧ (0 : Int) ≤ 4294967295 by decide), by simp, h3⟩
    · exact ⟨by decide, by simp, (Ex.Wf_cons _ _).2 ⟨in0_wf 66 0 (by decide) (by decide), Ex.Wf_nil⟩⟩
    · exact ⟨by decide, by simp, Ex.Wf_nil⟩
  · subst hx; exact ⟨by decide, trivial, by decide⟩
  · subst hx; exact ⟨by decide, trivial, by decide⟩
  · rcases hx with rfl | rfl
    · exact ⟨by decide, trivial, in0_wf 65 0 (by decide) (by decide)⟩
    · exact ⟨by decide, trivial, in0_wf 66 0 (by decide) (by decide)⟩
theorem scn_szv {ps : List Int} {re : Int} {body : List Ins} (h1 : ps.length ≤ 1048576) (h3 : Ex.Wf body) (h4 : Ex.Sz 1048576 body) (h5 : cnt body + 2 < 1099511627776) : SzV (scn ps re body) := by
  have h66 : Ex.Wf [in0 66 0] ∧ Ex.Sz 1048576 [in0 66 0] ∧ cnt [in0 66 0] + 2 < 1099511627776 := ⟨(Ex.Wf_cons _ _).2 ⟨in0_wf 66 0 (by decide) (by decide), Ex.Wf_nil⟩, (Ex.Sz_cons _ _ _).2 ⟨in0_sz _ _, Ex.Sz_nil _⟩, by rw [Ex.cnt_cons]; simp [in0, Ex.cnt_nil]⟩
  have h0 : Ex.Wf ([] : List Ins) ∧ Ex.Sz 1048576 ([] : List Ins) ∧ cnt [] + 2 < 1099511627776 := ⟨Ex.Wf_nil, Ex.Sz_nil _, by rw [Ex.cnt_nil]; decide⟩
  refine ⟨⟨by simp [scn], by simp [scn], by simp [scn], ?_, ?_⟩, by simp [scn], ?_, ?_, ?_⟩ <;> intro x hx <;> simp [scn] at hx
  · rcases hx with rfl | rfl | rfl
    · simp only; omega
    · simp
    · simp
  · rcases hx with rfl | rfl | rfl <;> simp
  · rcases hx with rfl | rfl | rfl
    · exact h1
    · simp
    · simp
  · rcases hx with rfl | rfl | rfl <;> simp
  · rcases hx with rfl | rfl | rfl
    · exact ⟨h3, h4, h5⟩
    · exact h66
    · exact h0
theorem scn_szm {ps : List Int} {re : Int} {body : List Ins} (h1 : ∀ z ∈ ps, 0 ≤ z ∧ z ≤ 255) (hp : ps.length ≤ 1048576) (h4 : Ex.Sz 1048576 body) (h5 : body.length ≤ 1048576) : SzM (scn ps re body) := by
  have h66 : Ex.Sz 1048576 [in0 66 0] := (Ex.Sz_cons _ _ _).2 ⟨in0_sz _ _, Ex.Sz_nil _⟩
  refine ⟨by simp [scn], by simp [scn], by simp [scn], by simp [scn], by simp [scn], by simp [scn], by simp [scn], by simp [scn], ?_, ?_, fun _ _ => trivial, fun _ _ => trivial, ?_, fun _ _ => trivial, ?_, ?_⟩ <;> intro x hx <;> simp [scn] at hx
  · rcases hx with rfl | rfl | rfl
    · exact ⟨h1, hp⟩
    · exact ⟨by simp, by simp⟩
    · exact ⟨by simp, by simp⟩
  · rcases hx with rfl | rfl | rfl
    · exact ⟨by simp, by simp, h5, h4⟩
    · exact ⟨by simp, by simp, by simp, h66⟩
    · exact ⟨by simp, by simp, by simp, Ex.Sz_nil _⟩
  · rcases hx with rfl | rfl <;> exact in0_sz _ _
end Vw
end Go.Proofs.YtcpknafaocdjdaaGreatDoor

/- From the rows' condition on ops' tables to what the walks ask of them. -/
namespace Go.Proofs.YtcpknafaocdjdaaGreatDoor
open Go.RowKit
set_option linter.unusedVariables false

theorem tc_of_head {P : Program} {W : World} {name : String} {d : DataW Unit} {rest : List (String × DataW Unit)} {g : Nat} {t : TypeId}
    (hg : P.globalNamed name = some g) (hty : (P.globals[g]?).map (·.type) = some t) (h : laidMet P ((name, d) :: rest) W) {vs : List Value}
    (hc : ∀ fuel (xs : List Value) p, DataW.trod (fun _ => ()) P W 0 (fun _ => true) false fuel t xs = some (d, p) → xs = vs) : TC W g vs := by
  obtain ⟨ps, ⟨g', t', cs', fuel, p, q, hg', ht', hvar, hd, _, _⟩, _⟩ := h
  obtain rfl := Option.some.inj (hg.symm.trans hg')
  obtain rfl := Option.some.inj (hty.symm.trans ht')
  have e := hc _ _ _ hd
  simp only [World.var?, hg, Option.bind_some] at hvar
  split at hvar
  · rename_i cs t fr hh
    obtain rfl := Option.some.inj hvar
    subst e
    exact ⟨(Array.getElem?_eq_some_iff.1 hh).1, t, fr, hh⟩
  · cases hvar

theorem flat_one {α : Type} (f : α → Value) : ∀ l : List α, (l.flatMap fun s => [f s]) = l.map f
  | [] => rfl
  | a :: l => by rw [List.flatMap_cons, flat_one f l]; rfl
theorem ts_of_tc {W : World} {g : Nat} {l : List (List UInt8)} (h : TC W g (l.flatMap fun s => [Value.string (str s)])) : TS W g l := by
  obtain ⟨_, t, fr, hr⟩ := h
  intro j s hj
  rw [cell_of_row W g j _ _ _ hr, flat_one]
  simp [hj]

theorem fam_of_trod {W : World} (fuel : Nat) (xs : List Value) (x : Fam) (p : List MemPlace)
    (h : DataW.trod (fun _ => ()) Tryz.prog W 0 (fun _ => true) false fuel 201 xs = some (.agg [.lit (.int .u8 x.f), .lit (.int .u8 x.l), .lit (.int .i64 x.o), .lit (.int .u8 x.x), .lit (.int .u8 x.y), .lit (.int .u8 x.g)], p)) : xs = fmC x := by
  obtain ⟨fs, hfs⟩ : ∃ fs, Tryz.prog.underlying 201 = some (.struct fs) := ⟨_, Tryz.underlying201⟩
  have hty : (Tryz.prog.underlying 201).map (fun d => match d with | .struct fs => fs.toList.map (fun f => (f.type, f.offset)) | _ => []) = some [(5, 0), (5, 1), (3, 2), (60, 3), (60, 4), (60, 5)] := by kernel_rfl
  rw [hfs] at hty
  simp only [Option.map_some, Option.some.injEq] at hty
  obtain ⟨ys, k, rfl, hx, hlen, hyl, hall⟩ := DataW.trod_struct hfs h
  rw [show Tryz.prog.cellsOf 201 = 6 by kernel_rfl] at hlen
  have hm : ys.map (·.1) = [DataW.lit (.int .u8 x.f), .lit (.int .u8 x.l), .lit (.int .i64 x.o), .lit (.int .u8 x.x), .lit (.int .u8 x.y), .lit (.int .u8 x.g)] := by
    have := congrArg Prod.fst hx
    simpa using this.symm
  have key : ∀ (i : Nat) (t : TypeId) (kd : IntKind) (z : Int), (fs.toList.map (fun f => (f.type, f.offset)))[i]? = some (t, i) → Tryz.prog.underlying t = some (.int kd) → Tryz.prog.cellsOf t = 1 → (ys.map (·.1))[i]? = some (DataW.lit (.int kd z)) → xs[i]? = some (.int kd z) := by
    intro i t kd z e1 e2 e3 e4
    simp only [List.getElem?_map, Option.map_eq_some_iff] at e1 e4
    obtain ⟨f, hf, hft⟩ := e1
    obtain ⟨y, hy, hy1⟩ := e4
    have h1 := hall i f (by simpa using hf)
    have ht : f.type = t := congrArg Prod.fst hft
    have ho : f.offset = i := congrArg Prod.snd hft
    rw [ht, ho, e3, hy] at h1
    obtain ⟨y1, y2⟩ := y
    simp only at hy1
    subst hy1
    have := int_of_trod e2 _ _ _ _ h1
    have := congrArg (·[0]?) this
    simpa [List.getElem?_take, List.getElem?_drop] using this
  have u8 : Tryz.prog.underlying 5 = some (.int .u8) := by kernel_rfl
  have ui : Tryz.prog.underlying 3 = some (.int .i64) := by kernel_rfl
  have uk : Tryz.prog.underlying 60 = some (.int .u8) := by kernel_rfl
  have s8 : Tryz.prog.cellsOf 5 = 1 := by kernel_rfl
  have si : Tryz.prog.cellsOf 3 = 1 := by kernel_rfl
  have sk : Tryz.prog.cellsOf 60 = 1 := by kernel_rfl
  rw [hty, hm] at key
  have k0 := key 0 _ _ _ rfl u8 s8 rfl
  have k1 := key 1 _ _ _ rfl u8 s8 rfl
  have k2 := key 2 _ _ _ rfl ui si rfl
  have k3 := key 3 _ _ _ rfl uk sk rfl
  have k4 := key 4 _ _ _ rfl uk sk rfl
  have k5 := key 5 _ _ _ rfl uk sk rfl
  clear key hall hx h hm hty hfs
  match xs, hlen with
  | [a, b, c, d, e, f], _ =>
    simp at k0 k1 k2 k3 k4 k5
    subst k0 k1 k2 k3 k4 k5
    rfl

theorem names_laid {W : World} {rest : List (String × DataW Unit)} (h : laidMet Tryz.prog (("mandrel/ops.names", Rows.laid_mandrel_ops_names) :: rest) W) : TS W 3 nms := by
  have h' : laidMet Tryz.prog (("mandrel/ops.names", .agg (nms.map fun s => .lit (.string s))) :: rest) W := h
  exact ts_of_tc (tc_of_head (t := 249) (by kernel_rfl) (by kernel_rfl) h' fun fuel xs p hp => cells_of_arr (n := 67) (fun s => .lit (.string s)) (fun s => [Value.string (str s)]) (str_of_trod (e := 9) (by kernel_rfl)) (by kernel_rfl) (m := 1) (by kernel_rfl) (by kernel_rfl) hp)
theorem tests_laid {W : World} {rest : List (String × DataW Unit)} (h : laidMet Tryz.prog (("mandrel/ops.testNames", Rows.laid_mandrel_ops_testNames) :: rest) W) : TS W 4 tns := by
  have h' : laidMet Tryz.prog (("mandrel/ops.testNames", .agg (tns.map fun s => .lit (.string s))) :: rest) W := h
  exact ts_of_tc (tc_of_head (t := 250) (by kernel_rfl) (by kernel_rfl) h' fun fuel xs p hp => cells_of_arr (n := 22) (fun s => .lit (.string s)) (fun s => [Value.string (str s)]) (str_of_trod (e := 9) (by kernel_rfl)) (by kernel_rfl) (m := 1) (by kernel_rfl) (by kernel_rfl) hp)
theorem reckons_laid {W : World} {rest : List (String × DataW Unit)} (h : laidMet Tryz.prog (("mandrel/ops.reckonNames", Rows.laid_mandrel_ops_reckonNames) :: rest) W) : TS W 5 rns := by
  have h' : laidMet Tryz.prog (("mandrel/ops.reckonNames", .agg (rns.map fun s => .lit (.string s))) :: rest) W := h
  exact ts_of_tc (tc_of_head (t := 251) (by kernel_rfl) (by kernel_rfl) h' fun fuel xs p hp => cells_of_arr (n := 36) (fun s => .lit (.string s)) (fun s => [Value.string (str s)]) (str_of_trod (e := 9) (by kernel_rfl)) (by kernel_rfl) (m := 1) (by kernel_rfl) (by kernel_rfl) hp)
theorem families_laid {W : World} {rest : List (String × DataW Unit)} (h : laidMet Tryz.prog (("mandrel/ops.families", Rows.laid_mandrel_ops_families) :: rest) W) : TC W 1 fmV := by
  have h' : laidMet Tryz.prog (("mandrel/ops.families", .agg (fms.map fun x => .agg [.lit (.int .u8 x.f), .lit (.int .u8 x.l), .lit (.int .i64 x.o), .lit (.int .u8 x.x), .lit (.int .u8 x.y), .lit (.int .u8 x.g)])) :: rest) W := h
  exact tc_of_head (t := 218) (by kernel_rfl) (by kernel_rfl) h' fun fuel xs p hp => cells_of_arr (n := 32) (e := 201) (m := 6) (fun x : Fam => .agg [.lit (.int .u8 x.f), .lit (.int .u8 x.l), .lit (.int .i64 x.o), .lit (.int .u8 x.x), .lit (.int .u8 x.y), .lit (.int .u8 x.g)]) fmC
    fam_of_trod (by kernel_rfl) (by kernel_rfl) (by kernel_rfl) hp
theorem access_laid {W : World} {rest : List (String × DataW Unit)} (h : laidMet Tryz.prog (("mandrel/ops.accessBytes", Rows.laid_mandrel_ops_accessBytes) :: rest) W) : TC W 2 abV := by
  have h' : laidMet Tryz.prog (("mandrel/ops.accessBytes", .agg (abs'.map fun z => .lit (.int .u8 z))) :: rest) W := h
  exact tc_of_head (t := 245) (by kernel_rfl) (by kernel_rfl) h' fun fuel xs p hp => (cells_of_arr (n := 63) (fun z : Int => .lit (.int .u8 z)) (fun z => [Value.int .u8 z]) (int_of_trod (e := 5) (by kernel_rfl)) (by kernel_rfl) (m := 1) (by kernel_rfl) (by kernel_rfl) hp).trans (flat_one _ _)
end Go.Proofs.YtcpknafaocdjdaaGreatDoor

/- From the rows' condition on errors.errorType (beside other variables) to the variable's cell. After the guide's worked toy of errors.As. -/
namespace Go.Proofs.YtcpknafaocdjdaaGreatDoor
open Go.ChangeShapes Go.WideShapes Go.RowKit

theorem hownKnob : ownKnob Tryz.prog.godebug = none := by kernel_rfl
theorem het : Tryz.prog.globalNamed "errors.errorType" = some 0 := by kernel_rfl
theorem honeRow : ((List.range 281).filter fun t => Tryz.prog.rowNamed t [101, 114, 114, 111, 114]) = [44] := by kernel_rfl
theorem hsize : Tryz.prog.types.size = 281 := by kernel_rfl

theorem handle_of_met {W : World} (h : handlesMet Tryz.prog [("errors.errorType", Rows.laid_errors_errorType)] W) : ErrT W := by
  obtain ⟨name, u, ty, e1, e2, e3, e4, e5⟩ := h _ (List.mem_singleton.2 rfl)
  have en : name = [101, 114, 114, 111, 114] := (Option.some.inj e1).symm
  subst en
  obtain rfl : 182 = u := Option.some.inj (Eq.trans (by kernel_rfl) e2)
  have hm : ty ∈ (List.range 281).filter fun t => Tryz.prog.rowNamed t [101, 114, 114, 111, 114] := List.mem_filter.2 ⟨List.mem_range.2 (by rw [← hsize]; exact e3), e4⟩
  rw [honeRow] at hm
  obtain rfl := List.mem_singleton.1 hm
  have hh : typeHandle Tryz.prog 44 = .pointer (some ⟨6, 44, none⟩) := by kernel_rfl
  rw [hh] at e5
  have := World.var?_cell het e5 0
  unfold ErrT
  simpa using this
end Go.Proofs.YtcpknafaocdjdaaGreatDoor
