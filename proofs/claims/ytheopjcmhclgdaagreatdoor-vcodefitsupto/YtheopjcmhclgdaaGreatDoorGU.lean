/- GU: what follows, part by part: each part tells what it holds. -/
import Derived.Test.YtheopjcmhclgdaaGreatDoorBase
import Derived.LaidEql
import Derived.Stop.Asserts
import Derived.RowKitTokens
import Derived.Test.YtheopjcmhclgdaaGreatDoorGT
import Derived.Test.YtheopjcmhclgdaaGreatDoorVcP
import Derived.Test.YtheopjcmhclgdaaGreatDoorVcR
import Derived.Deep.RegionHeld3
import Derived.Test.YtheopjcmhclgdaaGreatDoorRows
import Derived.OpenShut
import Derived.ShutString
import Derived.ProofKit
import Derived.Lib.SmallJoins
import Derived.Deep.DeepHandedRow
import Derived.Test.YtheopjcmhclgdaaGreatDoorOpI
import Derived.Test.YtheopjcmhclgdaaGreatDoorHP
import Derived.Lib.LaidTab
import Derived.Stop.LaidErr
import Derived.LaidHandle
import Derived.ChangeOld
import Derived.ChangeSame
import Derived.ChangeVars
import Derived.JoinedOf
import Derived.RowKit
import Derived.LaidLaws
import Derived.Stop.Joined
import Derived.Test.YtheopjcmhclgdaaGreatDoorTie
import Derived.Test.YtheopjcmhclgdaaGreatDoorCards
import Derived.WalkKit
import Derived.Below
import Derived.ChangeMaps5
import Derived.Test.YtheopjcmhclgdaaGreatDoorGR

/- errors.As at the target *api.Errno, and the statements' own num: an error's number. After the guide's worked toy of errors.As. -/
namespace Go.Proofs.YtheopjcmhclgdaaGreatDoor
open Go.RowKit Go.Extern.Stop Go.Stop Go.Extern
set_option linter.unusedVariables false

/-- what the package variable errors.errorType holds -/
def ErrT (w : World) : Prop := w.cell? ⟨0, 0, none⟩ = some (.iface 151 (.agg #[.pointer (some ⟨8, 39, none⟩)]))

theorem as_nil (t : Value) (w : World) :
    Calls Tryz.prog 17 #[.nilIface, t] w fun e w' => e = .returned (.bool false) ∧ w' = w := by
  go_enter Tryz.func17, Tryz.ntmps17
  go_wp2
  go_ret
  exact ⟨rfl, rfl⟩

theorem asValueOfP (t : Addr) (w : World) : (ReflectliteValue.unpack (.iface 92 (.pointer (some t)))).run Tryz.prog w
    = .ok (.agg #[.pointer (some ⟨8, 92, none⟩), .pointer (some ⟨w.heap.size, 0, none⟩), .int .u64 150]) (w.alloc (.cells #[.pointer (some t)] 92)) := by kernel_rfl
theorem asTypeP (a : Addr) (w : World) : (ReflectliteValue.methodAny (ReflectliteValue.valueError "reflectlite.Value.Type" 0) (fun t _ _ _ => ReflectliteType.toType t) #[.agg #[.pointer (some ⟨8, 92, none⟩), .pointer (some a), .int .u64 150]]).run Tryz.prog w
    = .ok (.iface 151 (.agg #[.pointer (some ⟨8, 92, none⟩)])) w := by kernel_rfl
theorem asMethodKind (h : Value) (w : World) : (Go.method 341 151 (.agg #[h]) "Kind").run Tryz.prog w = .ok (104, h) w := by kernel_rfl
theorem asKindP (w : World) : ((ReflectliteType.abiMethod fun t => (fun a : Nat => Value.int IntKind.u8 (a : Int)) <$> Rtype.kind t) #[.pointer (some ⟨8, 92, none⟩)]).run Tryz.prog w = .ok (.int .u8 22) w := by kernel_rfl
theorem asKindE (w : World) : ((ReflectliteType.abiMethod fun t => (fun a : Nat => Value.int IntKind.u8 (a : Int)) <$> Rtype.kind t) #[.pointer (some ⟨8, 90, none⟩)]).run Tryz.prog w = .ok (.int .u8 2) w := by kernel_rfl

theorem asPartsP (a : Addr) (w : World) : (ReflectliteValue.parts (.agg #[.pointer (some ⟨8, 92, none⟩), .pointer (some a), .int .u64 150])).run Tryz.prog w = .ok (some (92, a, 150)) w := by kernel_rfl
theorem asIsNilP (a p : Addr) (W : World) (ha : W.cell? a = some (.pointer (some p))) :
    (ReflectliteValue.method (ReflectliteValue.valueError "reflectlite.Value.IsNil" 0) ReflectliteValue.isNil #[.agg #[.pointer (some ⟨8, 92, none⟩), .pointer (some a), .int .u64 150]]).run Tryz.prog W = .ok (.bool false) W := by
  show Sem.run Tryz.prog (ReflectliteValue.parts (.agg #[.pointer (some ⟨8, 92, none⟩), .pointer (some a), .int .u64 150]) >>= fun q => _) W = _
  simp only [Sem.run_bind, asPartsP, Result.andThen]
  simp [ReflectliteValue.isNil, loadVar, isAgg, underlying, Tryz.underlying92, ha, Result.andThen]

theorem asMethodElem (h : Value) (w : World) : (Go.method 341 151 (.agg #[h]) "Elem").run Tryz.prog w = .ok (114, .agg #[h]) w := by kernel_rfl
theorem asMethodImplements (h : Value) (w : World) : (Go.method 341 151 (.agg #[h]) "Implements").run Tryz.prog w = .ok (115, .agg #[h]) w := by kernel_rfl
theorem asMethodAssignableTo (h : Value) (w : World) : (Go.method 341 151 (.agg #[h]) "AssignableTo").run Tryz.prog w = .ok (112, .agg #[h]) w := by kernel_rfl
theorem asElemP (w : World) : (ReflectliteType.method ReflectliteType.elem #[.agg #[.pointer (some ⟨8, 92, none⟩)]]).run Tryz.prog w = .ok (.iface 151 (.agg #[.pointer (some ⟨8, 90, none⟩)])) w := by kernel_rfl
theorem asImplementsE (w : World) : (ReflectliteType.relation "Implements" ReflectliteType.implements_ #[.agg #[.pointer (some ⟨8, 90, none⟩)], .iface 151 (.agg #[.pointer (some ⟨8, 39, none⟩)])]).run Tryz.prog w = .ok (.bool true) w := by kernel_rfl
theorem asTypeOfE (v : Value) (w : World) : (ReflectliteType.typeOf #[.iface 90 v]).run Tryz.prog w = .ok (.iface 151 (.agg #[.pointer (some ⟨8, 90, none⟩)])) w := by kernel_rfl
theorem asAssignableE (w : World) : (ReflectliteType.relation "AssignableTo" ReflectliteType.assignableTo #[.agg #[.pointer (some ⟨8, 90, none⟩)], .iface 151 (.agg #[.pointer (some ⟨8, 90, none⟩)])]).run Tryz.prog w = .ok (.bool true) w := by kernel_rfl
theorem asValueOfE (k : Int) (w : World) : (ReflectliteValue.unpack (.iface 90 (.int .i64 k))).run Tryz.prog w
    = .ok (.agg #[.pointer (some ⟨8, 90, none⟩), .pointer (some ⟨w.heap.size, 0, none⟩), .int .u64 130]) (w.alloc (.cells #[.int .i64 k] 90)) := by kernel_rfl

theorem asElemOfP (w : World) : (Rtype.elem? 92).run Tryz.prog w = .ok (some 90) w := by kernel_rfl
theorem asMkE (p : Addr) (w : World) : (ReflectliteValue.mk 90 p ReflectliteValue.flagAddr).run Tryz.prog w = .ok (.agg #[.pointer (some ⟨8, 90, none⟩), .pointer (some p), .int .u64 386]) w := by kernel_rfl
theorem asElemVP (a p : Addr) (W : World) (ha : W.cell? a = some (.pointer (some p))) :
    (ReflectliteValue.method (ReflectliteValue.valueError "reflectlite.Value.Elem" 0) ReflectliteValue.elem #[.agg #[.pointer (some ⟨8, 92, none⟩), .pointer (some a), .int .u64 150]]).run Tryz.prog W
      = .ok (.agg #[.pointer (some ⟨8, 90, none⟩), .pointer (some p), .int .u64 386]) W := by
  show Sem.run Tryz.prog (ReflectliteValue.parts (.agg #[.pointer (some ⟨8, 92, none⟩), .pointer (some a), .int .u64 150]) >>= fun q => _) W = _
  simp only [Sem.run_bind, asPartsP, Result.andThen]
  simp [ReflectliteValue.elem, loadVar, isAgg, underlying, Tryz.underlying92, ha, Result.andThen, asElemOfP, asMkE]
theorem asPartsEa (a : Addr) (w : World) : (ReflectliteValue.parts (.agg #[.pointer (some ⟨8, 90, none⟩), .pointer (some a), .int .u64 386])).run Tryz.prog w = .ok (some (90, a, 386)) w := by kernel_rfl
theorem asPartsE (a : Addr) (w : World) : (ReflectliteValue.parts (.agg #[.pointer (some ⟨8, 90, none⟩), .pointer (some a), .int .u64 130])).run Tryz.prog w = .ok (some (90, a, 130)) w := by kernel_rfl
theorem asDirectE (w : World) : (Rtype.directlyAssignable 90 90).run Tryz.prog w = .ok true w := by kernel_rfl
theorem asSetE (ta b : Addr) (k : Int) (old : Value) (W : World) (hb : W.cell? b = some (.int .i64 k)) (ht : W.cell? ta = some old) (hf : W.frozen? ta = false) :
    (ReflectliteValue.set #[.agg #[.pointer (some ⟨8, 90, none⟩), .pointer (some ta), .int .u64 386], .agg #[.pointer (some ⟨8, 90, none⟩), .pointer (some b), .int .u64 130]]).run Tryz.prog W
      = .ok (.tuple #[]) (W.setCell ta (.int .i64 k)) := by
  show Sem.run Tryz.prog (ReflectliteValue.parts (.agg #[.pointer (some ⟨8, 90, none⟩), .pointer (some ta), .int .u64 386]) >>= fun p => ReflectliteValue.parts (.agg #[.pointer (some ⟨8, 90, none⟩), .pointer (some b), .int .u64 130]) >>= fun q => _) W = _
  simp only [Sem.run_bind, asPartsEa, asPartsE, Result.andThen]
  simp [ReflectliteValue.flagAddr, loadVar, isAgg, underlying, Tryz.underlying90, hb, Result.andThen, asDirectE, storeVar, Value.cells, storeCells, Addr.add]
  rw [run_store Tryz.prog W ta _ _ (by rfl)]
  simp [ht, hf]

set_option maxHeartbeats 4000000 in
theorem as_hit (k : Int) (t : Addr) (old : Value) (w : World) (hg : w.cell? ⟨0, 0, none⟩ = some (.iface 151 (.agg #[.pointer (some ⟨8, 39, none⟩)]))) (ht0 : w.cell? t = some old) (hf0 : w.frozen? t = false) :
    Calls Tryz.prog 17 #[.iface 90 (.int .i64 k), .iface 92 (.pointer (some t))] w fun ev w' => ev = .returned (.bool true) ∧ w' = ((((w.alloc (.cells #[.pointer (some t)] 92)).alloc (.cells #[.pointer (some ⟨8, 92, none⟩), .pointer (some ⟨w.heap.size, 0, none⟩), .int .u64 150] 129)).alloc (.cells #[.pointer (some ⟨8, 92, none⟩), .pointer (some ⟨w.heap.size, 0, none⟩), .int .u64 150] 129)).alloc (.cells #[.int .i64 k] 90)).setCell t (.int .i64 k) := by
  have x24 := @run_callFunc_extern Tryz.prog 33 _ (fun args => ReflectliteValue.unpack (args.getD 0 (.tuple #[]))) Tryz.func33 (by kernel_rfl) (by kernel_rfl) (by kernel_rfl) (by kernel_rfl)
  have x25 := @run_callFunc_extern Tryz.prog 34 _ (ReflectliteValue.methodAny (ReflectliteValue.valueError "reflectlite.Value.Type" 0) (fun t _ _ _ => ReflectliteType.toType t)) Tryz.func34 (by kernel_rfl) (by kernel_rfl) (by kernel_rfl) (by kernel_rfl)
  have x26 := @run_callFunc_extern Tryz.prog 35 _ (ReflectliteValue.method (ReflectliteValue.valueError "reflectlite.Value.IsNil" 0) ReflectliteValue.isNil) Tryz.func35 (by kernel_rfl) (by kernel_rfl) (by kernel_rfl) (by kernel_rfl)
  have x46 := @run_callFunc_extern Tryz.prog 104 _ (ReflectliteType.abiMethod fun t => do pure (.int .u8 (← Rtype.kind t))) Tryz.func104 (by kernel_rfl) (by kernel_rfl) (by kernel_rfl) (by kernel_rfl)
  have x56 := @run_callFunc_extern Tryz.prog 114 _ (ReflectliteType.method ReflectliteType.elem) Tryz.func114 (by kernel_rfl) (by kernel_rfl) (by kernel_rfl) (by kernel_rfl)
  have x57 := @run_callFunc_extern Tryz.prog 115 _ (ReflectliteType.relation "Implements" ReflectliteType.implements_) Tryz.func115 (by kernel_rfl) (by kernel_rfl) (by kernel_rfl) (by kernel_rfl)
  have x29 := @run_callFunc_extern Tryz.prog 54 _ ReflectliteType.typeOf Tryz.func54 (by kernel_rfl) (by kernel_rfl) (by kernel_rfl) (by kernel_rfl)
  have x54 := @run_callFunc_extern Tryz.prog 112 _ (ReflectliteType.relation "AssignableTo" ReflectliteType.assignableTo) Tryz.func112 (by kernel_rfl) (by kernel_rfl) (by kernel_rfl) (by kernel_rfl)
  have x30 := @run_callFunc_extern Tryz.prog 55 _ (ReflectliteValue.method (ReflectliteValue.valueError "reflectlite.Value.Elem" 0) ReflectliteValue.elem) Tryz.func55 (by kernel_rfl) (by kernel_rfl) (by kernel_rfl) (by kernel_rfl)
  have x31 := @run_callFunc_extern Tryz.prog 56 _ ReflectliteValue.set Tryz.func56 (by kernel_rfl) (by kernel_rfl) (by kernel_rfl) (by kernel_rfl)
  have y0 := asTypeOfE
  have y1 := asMethodAssignableTo
  have y2 := asAssignableE
  have y3 := asValueOfE
  have y4 := asValueOfP
  have y5 := asTypeP
  have y6 := asMethodKind
  have y7 := asMethodElem
  have y8 := asMethodImplements
  have y9 := asKindP
  have y10 := asKindE
  have y11 := asElemP
  have y12 := asImplementsE
  have n8 := asIsNilP ⟨w.heap.size, 0, none⟩ t ((w.alloc (.cells #[.pointer (some t)] 92)).alloc (.cells #[.pointer (some ⟨8, 92, none⟩), .pointer (some ⟨w.heap.size, 0, none⟩), .int .u64 150] 129)) (by simp)
  have hlt : 0 < w.heap.size := block_lt_of_cell hg
  have hg2 : ((w.alloc (.cells #[.pointer (some t)] 92)).alloc (.cells #[.pointer (some ⟨8, 92, none⟩), .pointer (some ⟨w.heap.size, 0, none⟩), .int .u64 150] 129)).cell? ⟨0, 0, none⟩ = some (.iface 151 (.agg #[.pointer (some ⟨8, 39, none⟩)])) := by
    rw [World.cell?_alloc_lt _ _ ⟨0, 0, none⟩ (by simp <;> omega), World.cell?_alloc_lt _ _ ⟨0, 0, none⟩ hlt]; exact hg
  have htl : t.block < w.heap.size := block_lt_of_cell ht0
  have el := asElemVP ⟨w.heap.size, 0, none⟩ t (((w.alloc (.cells #[.pointer (some t)] 92)).alloc (.cells #[.pointer (some ⟨8, 92, none⟩), .pointer (some ⟨w.heap.size, 0, none⟩), .int .u64 150] 129)).alloc (.cells #[.pointer (some ⟨8, 92, none⟩), .pointer (some ⟨w.heap.size, 0, none⟩), .int .u64 150] 129)) (by rw [World.cell?_alloc_lt _ _ ⟨w.heap.size, 0, none⟩ (by simp; omega)]; simp)
  have st := asSetE t ⟨w.heap.size + 1 + 1 + 1, 0, none⟩ k old ((((w.alloc (.cells #[.pointer (some t)] 92)).alloc (.cells #[.pointer (some ⟨8, 92, none⟩), .pointer (some ⟨w.heap.size, 0, none⟩), .int .u64 150] 129)).alloc (.cells #[.pointer (some ⟨8, 92, none⟩), .pointer (some ⟨w.heap.size, 0, none⟩), .int .u64 150] 129)).alloc (.cells #[.int .i64 k] 90))
    (by rw [World.cell?_alloc_at _ _ _ _ (by simp)]; rfl)
    (by rw [World.cell?_alloc_lt _ _ t (by simp; omega), World.cell?_alloc_lt _ _ t (by simp; omega), World.cell?_alloc_lt _ _ t (by simp; omega), World.cell?_alloc_lt _ _ t htl]; exact ht0)
    (by rw [World.frozen?_alloc_old _ _ t (by simp; omega), World.frozen?_alloc_old _ _ t (by simp; omega), World.frozen?_alloc_old _ _ t (by simp; omega), World.frozen?_alloc_old _ _ t (Nat.ne_of_lt htl)]; exact hf0)
  go_enter Tryz.func17, Tryz.ntmps17
  go_wp2
  refine wp_loop_rounds 1 ?_
  rw [rounds_succ]
  go_wp2
  go_ret
  exact ⟨rfl, rfl⟩
end Go.Proofs.YtheopjcmhclgdaaGreatDoor

/- the statements' own function that tells an error's number, by errors.As. -/
namespace Go.Proofs.YtheopjcmhclgdaaGreatDoor
open Go.RowKit
set_option linter.unusedVariables false

theorem ErrT.lt {w : World} (h : ErrT w) : 0 < w.heap.size := block_lt_of_cell h
theorem ErrT.below {w w' : World} (h : ErrT w) {B : Nat} (hB : w.heap.size ≤ B) (hb : Below B w w') : ErrT w' :=
  (hb.cell (p := ⟨0, 0, none⟩) (by have := h.lt; simp; omega)).trans h

theorem as_use (k : Int) (t : Addr) (old : Value) (w : World) (hg : w.cell? ⟨0, 0, none⟩ = some (.iface 151 (.agg #[.pointer (some ⟨8, 39, none⟩)]))) (ht0 : w.cell? t = some old) (hf0 : w.frozen? t = false) :
    Calls Tryz.prog 17 #[.iface 90 (.int .i64 k), .iface 92 (.pointer (some t))] w fun ev w' => ev = .returned (.bool true) ∧ w'.cell? t = some (.int .i64 k) ∧ ∀ B, B ≤ t.block → Below B w w' := by
  refine (as_hit k t old w hg ht0 hf0).mono ?_
  rintro e w' ⟨he, hw⟩
  have htl : t.block < w.heap.size := block_lt_of_cell ht0
  refine ⟨he, ?_, fun B hB => ?_⟩
  · rw [hw]
    refine World.cell?_setCell_same _ _ _ (u := old) ?_
    rw [World.cell?_alloc_lt _ _ t (by simp; omega), World.cell?_alloc_lt _ _ t (by simp; omega), World.cell?_alloc_lt _ _ t (by simp; omega), World.cell?_alloc_lt _ _ t htl]; exact ht0
  · rw [hw]
    refine Below.setCell ?_ hB _
    exact ((((Below.refl B w).alloc (by omega) _).alloc (by simp; omega) _).alloc (by simp; omega) _).alloc (by simp; omega) _

set_option maxHeartbeats 400000 in
theorem num_nil (w : World) : Calls Tryz.prog 7 #[.nilIface] w fun e w' => e = .returned (.int .i64 0) ∧ Below w.heap.size w w' := by
  go_enter Tryz.func7, Tryz.ntmps7
  go_wp2
  go_ret
  exact ⟨rfl, (Below.refl _ _).alloc (Nat.le_refl _) _⟩

set_option maxHeartbeats 400000 in
theorem num_hit (k : Int) (w : World) (hg : ErrT w) : Calls Tryz.prog 7 #[.iface 90 (.int .i64 k)] w fun e w' => e = .returned (.int .i64 k) ∧ Below w.heap.size w w' := by
  have hlt := hg.lt
  have hg1 : (w.alloc (.cells #[.int .i64 0] 90)).cell? ⟨0, 0, none⟩ = some (.iface 151 (.agg #[.pointer (some ⟨8, 39, none⟩)])) := by
    rw [World.cell?_alloc_lt _ _ ⟨0, 0, none⟩ hlt]; exact hg
  have HG := hide hg1; clear hg1 hg
  go_enter Tryz.func7, Tryz.ntmps7
  go_wp2_with fail
  refine (as_use k ⟨w.heap.size, 0, none⟩ (.int .i64 0) _ (unhide HG) (by simp) (by simp)).mono ?_
  rintro e w1 ⟨rfl, hc, hb⟩
  have hb1 := ((Below.refl w.heap.size w).alloc (Nat.le_refl _) _).trans (hb w.heap.size (Nat.le_refl _))
  have HB := hide hb1; clear hb hb1 HG
  go_wp2
  go_ret
  exact ⟨rfl, unhide HB⟩
theorem num_any (k : Int) (w : World) (hg : ErrT w) : Calls Tryz.prog 7 #[errV k] w fun e w' => e = .returned (.int .i64 k) ∧ Below w.heap.size w w' := by
  by_cases h : k = 0
  · subst h; rw [errV_0]; exact num_nil w
  · have : errV k = .iface 90 (.int .i64 k) := by simp [errV, h]
    rw [this]; exact num_hit k w hg
end Go.Proofs.YtheopjcmhclgdaaGreatDoor

/- VcodeFits: its walk. By mkvfh.py. -/
namespace Go.Proofs.YtheopjcmhclgdaaGreatDoor
open Go.RowKit
namespace Vc
set_option linter.unusedVariables false
set_option linter.unusedSimpArgs false
open Gm (Mod Typ Fnc Glo Byts ModL WfM SzM TypC TyYes TyNo TyB ty?)
theorem siz_tot9 (l : List Bl) : siz l ≤ tot l := by
  induction l with
  | nil => simp [siz, tot]
  | cons b l ih =>
    have h := len_totI b.ins
    unfold siz tot at *
    simp only [List.map_cons, List.sum_cons] at *
    omega
theorem bls_shape3 {w : World} {g : Nat → Prop} {l : List Bl} {v : Value} (h : Bls w g l v) : ∃ a cp, v = .slice a l.length cp := by obtain ⟨a, cp, e, _⟩ := h; exact ⟨a, cp, e⟩

set_option maxRecDepth 100000 in
set_option maxHeartbeats 6400000 in
theorem vfits_walk {M : Mod} {v0 v1 v2 v3 v4 v5 v6 v7 : Value} {w : World} (hM0 : ModL w (fun _ => True) M v0 v1 v2 v3 v4 v5 v6 v7) (hwf : WfM M) (hs : SzM M) (f : Int) (c : Co) (hc0 : WfC0 c) (v : Value) (hv : Bls w (fun k => k < w.heap.size) c.bl v) (hT : Fms w) (hN : Nms w) (hP : P10 w) (hEr : ErrT w) :
    Calls Tryz.prog 3 #[.agg #[v0, v1, v2, v3, v4, v5, v6, v7], .int .i64 f, .agg #[.int .i64 c.pa, .int .i64 c.re, .bool c.rs, v]] w fun e w' => e = .returned (.bool true) ∧ Below w.heap.size w w' := by
  have hM : ModL w (fun b => b < w.heap.size) M v0 v1 v2 v3 v4 v5 v6 v7 := hM0.moved (fun k hk _ => ⟨hk, rfl⟩) (Nat.le_refl _)
  have hmv : ∀ W, Below w.heap.size w W → ModL W (fun b => b < w.heap.size) M v0 v1 v2 v3 v4 v5 v6 v7 := fun W hW => hM.moved (Gm.Mv.below hW (fun _ _ q => q)) hW.size
  have hcv : ∀ W, Below w.heap.size w W → Bls W (fun k => k < w.heap.size) c.bl v := fun W h => hv.moved (fun k _ hk => ⟨hk, h.block k hk⟩) h.size
  have hbig := fun W (h : Below w.heap.size w W) => Gm.big_any M _ _ _ _ _ _ _ _ _ W (hmv W h) hs
  have hheavy := fun W (h : Below w.heap.size w W) => heavy_any c.pa c.re c.rs c.bl hc0.bl (fun k => k < w.heap.size) v W (hcv W h) hc0.len
  have hsure := fun W (h : Below w.heap.size w W) => sure_any W (TC.below hT h) (hN.below h) (hP.below h)
  have hgm := fun W (h : Below w.heap.size w W) => Gm.giveModule_any M (fun b => b < w.heap.size) v0 v1 v2 v3 v4 v5 v6 v7 W (fun k hk => Nat.lt_of_lt_of_le hk h.size) (hmv W h) hs
  have hgc := fun (hc : WfC c) W (h : Below w.heap.size w W) => give_any c hc (fun k => k < w.heap.size) v W (hcv W h) (fun k hk => Nat.lt_of_lt_of_le hk h.size)
  have hfit := fun (hc : WfC c) (hz : siz c.bl ≤ 1099511627776) W (h : Below w.heap.size w W) g gc u0 u1 u2 u3 u4 u5 u6 u7 vc (h1 : ModL W g M u0 u1 u2 u3 u4 u5 u6 u7) (hg : ∀ k, g k → k < W.heap.size) (h2 : Bls W gc c.bl vc) => fits_any h1 hwf hs hg (TC.below hT h) f c hc vc h2 hz
  have hrf := fun (hc : WfC c) (hz : siz c.bl ≤ 1099511627776) W (h : Below w.heap.size w W) => rfits_any (hmv W h) hwf hs f c hc v (hcv W h) hz
  have hnum := fun k W (h : Below w.heap.size w W) => num_any k W (hEr.below (Nat.le_refl _) h)
  obtain ⟨ca, cc, rfl⟩ := bls_shape3 hv
  obtain ⟨a0, k0, rfl⟩ := hM.l0.sl; obtain ⟨a1, k1, rfl⟩ := hM.l1.sl; obtain ⟨a2, k2, rfl⟩ := hM.l2.sl; obtain ⟨a3, k3, rfl⟩ := hM.l3.sl; obtain ⟨a4, k4, rfl⟩ := hM.l4.sl; obtain ⟨a5, k5, rfl⟩ := hM.l5.sl; obtain ⟨a6, k6, rfl⟩ := hM.l6.sl; obtain ⟨a7, k7, rfl⟩ := hM.l7.sl
  obtain ⟨W0, hW0, b1, b2, b3, b4⟩ := start3 (w := w) (c1 := #[.slice a0 M.types.length k0, .slice a1 M.funcs.length k1, .slice a2 M.tables.length k2, .slice a3 M.mems.length k3, .slice a4 M.globs.length k4, .slice a5 M.exps.length k5, .slice a6 M.elems.length k6, .slice a7 M.datas.length k7]) (c2 := #[.int .i64 c.pa, .int .i64 c.re, .bool c.rs, .slice ca c.bl.length cc]) (t := 30) (t2 := 33)
  have HBig := hide (hbig W0 b4); have HHe := hide hheavy; have HSu := hide hsure; have HGm := hide hgm; have HGc0 := hide hgc; have HFi0 := hide hfit; have HRf0 := hide hrf; have HNu := hide hnum; have HC0 := hide hc0; have HW := hide hW0; have HB0 := hide b4
  have hcell : ∀ wx, Below W0.heap.size W0 wx → ((wx.cell? ⟨w.heap.size, 0, none⟩ = some (.slice a0 M.types.length k0) ∧ wx.cell? ⟨w.heap.size, 1, none⟩ = some (.slice a1 M.funcs.length k1) ∧ wx.cell? ⟨w.heap.size, 2, none⟩ = some (.slice a2 M.tables.length k2) ∧ wx.cell? ⟨w.heap.size, 3, none⟩ = some (.slice a3 M.mems.length k3) ∧ wx.cell? ⟨w.heap.size, 4, none⟩ = some (.slice a4 M.globs.length k4) ∧ wx.cell? ⟨w.heap.size, 5, none⟩ = some (.slice a5 M.exps.length k5) ∧ wx.cell? ⟨w.heap.size, 6, none⟩ = some (.slice a6 M.elems.length k6) ∧ wx.cell? ⟨w.heap.size, 7, none⟩ = some (.slice a7 M.datas.length k7)) ∧ (wx.cell? ⟨w.heap.size + 1, 0, none⟩ = some (.int .i64 c.pa) ∧ wx.cell? ⟨w.heap.size + 1, 1, none⟩ = some (.int .i64 c.re) ∧ wx.cell? ⟨w.heap.size + 1, 2, none⟩ = some (.bool c.rs) ∧ wx.cell? ⟨w.heap.size + 1, 3, none⟩ = some (.slice ca c.bl.length cc))) := fun wx hb => by
    have r1 := (hb.block _ (by omega)).trans b1
    have r2 := (hb.block _ b3).trans b2
    refine ⟨mbox8 r1, ?_, ?_, ?_, ?_⟩ <;> (rw [cell_of_row wx _ _ _ _ _ r2]; rfl)
  have HCe := hide hcell
  clear hM0 hM hmv hcv hbig hheavy hsure hgm hgc hfit hrf hnum hcell hW0 b1 b2 b3 b4 hv hT hN hP hEr hwf hs hc0
  have HLm := hide (show ∀ W g, ModL W g M (.slice a0 M.types.length k0) (.slice a1 M.funcs.length k1) (.slice a2 M.tables.length k2) (.slice a3 M.mems.length k3) (.slice a4 M.globs.length k4) (.slice a5 M.exps.length k5) (.slice a6 M.elems.length k6) (.slice a7 M.datas.length k7) → True from fun _ _ _ => trivial)
  clear HLm
  obtain ⟨E, hE⟩ : ∃ E, fitN M f c = E := ⟨_, rfl⟩
  rw [hE] at HFi0 HRf0
  clear hE
  have hshape : ∀ W g u0 u1 u2 u3 u4 u5 u6 u7, ModL W g M u0 u1 u2 u3 u4 u5 u6 u7 → (∃ a c, u0 = .slice a M.types.length c) ∧ (∃ a c, u1 = .slice a M.funcs.length c) ∧ (∃ a c, u2 = .slice a M.tables.length c) ∧ (∃ a c, u3 = .slice a M.mems.length c) ∧ (∃ a c, u4 = .slice a M.globs.length c) ∧ (∃ a c, u5 = .slice a M.exps.length c) ∧ (∃ a c, u6 = .slice a M.elems.length c) ∧ (∃ a c, u7 = .slice a M.datas.length c) := fun W g _ _ _ _ _ _ _ _ h => ⟨h.l0.sl, h.l1.sl, h.l2.sl, h.l3.sl, h.l4.sl, h.l5.sl, h.l6.sl, h.l7.sl⟩
  have HSh := hide hshape
  clear hshape
  obtain ⟨pa, re, rs, bl⟩ := c
  simp only at *
  generalize M.types.length = n0 at *; generalize M.funcs.length = n1 at *; generalize M.tables.length = n2 at *; generalize M.mems.length = n3 at *; generalize M.globs.length = n4 at *; generalize M.exps.length = n5 at *; generalize M.elems.length = n6 at *; generalize M.datas.length = n7 at *
  generalize hbn : bl.length = bn at *
  have HBn := hide hbn; clear hbn
  obtain ⟨⟨p0, p1, p2, p3, p4, p5, p6, p7⟩, q0, q1, q2, q3⟩ := unhide HCe W0 (Below.refl _ _)
  go_enter Tryz.func3, Tryz.ntmps3
  go_upto_region 1 with fail
  rw [unhide HW]
  go_wp2_with fail
  refine (unhide HBig).mono ?_
  rintro e w1 ⟨⟨bb, rfl⟩, hb1⟩
  clear p0 p1 p2 p3 p4 p5 p6 p7 q0 q1 q2 q3
  have HB1 := hide (Gm.Below.on0 (unhide HB0) hb1 (unhide HB0).size); have HC1 := hide hb1
  obtain ⟨⟨p0, p1, p2, p3, p4, p5, p6, p7⟩, q0, q1, q2, q3⟩ := unhide HCe w1 hb1
  clear hb1
  cases bb with
  | true =>
    go_wp2_with fail
    refine (unhide HSu w1 (unhide HB1)).mono ?_
    rintro e w3 ⟨rfl, hb3⟩
    have HB3 := hide (Gm.Below.on0 (unhide HB1) hb3 (unhide HB1).size)
    clear hb3 p0 p1 p2 p3 p4 p5 p6 p7 q0 q1 q2 q3
    go_wp2
    go_ret
    exact ⟨rfl, unhide HB3⟩
  | false =>
  go_wp2_with fail
  refine (unhide HHe w1 (unhide HB1)).mono ?_
  rintro e w2 ⟨⟨hb, rfl, hhv⟩, hb2⟩
  have hb12 := (unhide HC1).trans (hb2.mono (unhide HC1).size)
  clear p0 p1 p2 p3 p4 p5 p6 p7 q0 q1 q2 q3
  have HB2 := hide (Gm.Below.on0 (unhide HB0) hb12 (unhide HB0).size); have HC2 := hide hb12; have HHv := hide hhv
  obtain ⟨⟨p0, p1, p2, p3, p4, p5, p6, p7⟩, q0, q1, q2, q3⟩ := unhide HCe w2 hb12
  clear hb2 hb12 hhv
  cases hb with
  | true =>
    go_wp2_with fail
    refine (unhide HSu w2 (unhide HB2)).mono ?_
    rintro e w3 ⟨rfl, hb3⟩
    have HB3 := hide (Gm.Below.on0 (unhide HB2) hb3 (unhide HB2).size)
    clear hb3 p0 p1 p2 p3 p4 p5 p6 p7 q0 q1 q2 q3
    go_wp2
    go_ret
    exact ⟨rfl, unhide HB3⟩
  | false =>
  have hh := unhide HHv rfl
  have HC := hide ((unhide HC0).up hh.1 hh.2)
  have hsz := siz_tot9 bl
  have hz : siz bl ≤ 1099511627776 := by have := hh.2; omega
  have HGc := hide (unhide HGc0 (unhide HC)); have HFi := hide (unhide HFi0 (unhide HC) hz); have HRf := hide (unhide HRf0 (unhide HC) hz)
  clear hh hsz hz HGc0 HFi0 HRf0 HC0 HHv HC
  go_upto_region 3 with fail
  have HWb := hide (show Below w.heap.size w w2.drew from (unhide HB2).trans ((Below.refl w2.heap.size w2).drew.mono (unhide HB2).size)); have HWc := hide (show Below W0.heap.size W0 w2.drew from (unhide HC2).trans ((Below.refl w2.heap.size w2).drew.mono (unhide HC2).size))
  have hk := unhide HCe _ (unhide HWc)
  clear p0 p1 p2 p3 p4 p5 p6 p7 q0 q1 q2 q3
  have hEE : (E == E) = true := beq_self_eq_true _
  go_region_held3 (fun W => (W.cell? ⟨w.heap.size, 0, none⟩ = some (.slice a0 n0 k0) ∧ W.cell? ⟨w.heap.size, 1, none⟩ = some (.slice a1 n1 k1) ∧ W.cell? ⟨w.heap.size, 2, none⟩ = some (.slice a2 n2 k2) ∧ W.cell? ⟨w.heap.size, 3, none⟩ = some (.slice a3 n3 k3) ∧ W.cell? ⟨w.heap.size, 4, none⟩ = some (.slice a4 n4 k4) ∧ W.cell? ⟨w.heap.size, 5, none⟩ = some (.slice a5 n5 k5) ∧ W.cell? ⟨w.heap.size, 6, none⟩ = some (.slice a6 n6 k6) ∧ W.cell? ⟨w.heap.size, 7, none⟩ = some (.slice a7 n7 k7)) ∧ (W.cell? ⟨w.heap.size + 1, 0, none⟩ = some (.int .i64 pa) ∧ W.cell? ⟨w.heap.size + 1, 1, none⟩ = some (.int .i64 re) ∧ W.cell? ⟨w.heap.size + 1, 2, none⟩ = some (.bool rs) ∧ W.cell? ⟨w.heap.size + 1, 3, none⟩ = some (.slice ca bn cc)))
    (first | go_keep | exact hk | fail)
    (first
      | (go_at_call 9; refine (unhide HGm _ (unhide HWb)).mono ?_; rintro e w4 ⟨u0, u1, u2, u3, u4, u5, u6, u7, rfl, hlm, hb4⟩; have HLM := hide (hlm.moved (g' := fun b => b < w4.heap.size) (fun k hk _ => ⟨hk, rfl⟩) (Nat.le_refl _)); obtain ⟨⟨x0, y0, rfl⟩, ⟨x1, y1, rfl⟩, ⟨x2, y2, rfl⟩, ⟨x3, y3, rfl⟩, ⟨x4, y4, rfl⟩, ⟨x5, y5, rfl⟩, ⟨x6, y6, rfl⟩, ⟨x7, y7, rfl⟩⟩ := unhide HSh _ _ _ _ _ _ _ _ _ _ hlm; have HWb := hide ((unhide HWb).trans (hb4.mono (unhide HWb).size)); have HWc := hide ((unhide HWc).trans (hb4.mono (unhide HWc).size)); have hk := unhide HCe _ (unhide HWc); clear hlm hb4)
      | (go_at_call 10; refine (unhide HGc _ (unhide HWb)).mono ?_; rintro e w5 ⟨vc, rfl, hlc, hb5⟩; obtain ⟨ac, kc, rfl⟩ := bls_shape3 hlc; have HLc := hide hlc; have HLM2 := hide ((unhide HLM).moved (g' := fun b => b < w5.heap.size) (Gm.Mv.below hb5 (fun k hk _ => Nat.lt_of_lt_of_le hk hb5.size)) hb5.size); have HWb := hide ((unhide HWb).trans (hb5.mono (unhide HWb).size)); have HWc := hide ((unhide HWc).trans (hb5.mono (unhide HWc).size)); have hk := unhide HCe _ (unhide HWc); rw [unhide HBn]; clear hb5 hlc)
      | (go_at_call 8; refine (unhide HFi _ (unhide HWb) _ _ _ _ _ _ _ _ _ _ _ (unhide HLM2) (fun k hk => hk) (by have h := unhide HLc; rw [unhide HBn] at h; exact h)).mono ?_; rintro e w6 ⟨rfl, hb6⟩; have HWb := hide ((unhide HWb).trans (hb6.mono (unhide HWb).size)); have HWc := hide ((unhide HWc).trans (hb6.mono (unhide HWc).size)); have hk := unhide HCe _ (unhide HWc); clear hb6)
      | (go_at_call 7; refine (unhide HNu _ _ (unhide HWb)).mono ?_; rintro e w7 ⟨rfl, hb7⟩; have HWb := hide ((unhide HWb).trans (hb7.mono (unhide HWb).size)); have HWc := hide ((unhide HWc).trans (hb7.mono (unhide HWc).size)); have hk := unhide HCe _ (unhide HWc); clear hb7)
      | (go_at_call 11; refine (unhide HRf _ (unhide HWb)).mono ?_; rintro e w8 ⟨rfl, hb8⟩; have HWb := hide ((unhide HWb).trans (hb8.mono (unhide HWb).size)); have HWc := hide ((unhide HWc).trans (hb8.mono (unhide HWc).size)); have hk := unhide HCe _ (unhide HWc); clear hb8)
      | (go_at_call 6; refine (unhide HSu _ (unhide HWb)).mono ?_; rintro e w9 ⟨rfl, hb9⟩; have HWb := hide ((unhide HWb).trans (hb9.mono (unhide HWb).size)); have HWc := hide ((unhide HWc).trans (hb9.mono (unhide HWc).size)); have hk := unhide HCe _ (unhide HWc); clear hb9)
      | fail)
  all_goals go_wp2
  all_goals go_ret
  all_goals exact ⟨ret_bool (by simp), unhide HWb⟩
end Vc
end Go.Proofs.YtheopjcmhclgdaaGreatDoor

/- Code that comes in, opened, however long. -/
namespace Go.Proofs.YtheopjcmhclgdaaGreatDoor
open Go.ChangeShapes Go.WideShapes Go.ChangeAt Go.RowKit
namespace Vc
set_option linter.unusedVariables false
set_option linter.unusedSimpArgs false

theorem cell_at {cs : List Value} {k n : Nat} {x : Value} (hl : cs.length = n) (hk : k < n) (h : (cs.drop k).take 1 = [x]) : cs[k]? = some x := by
  have h1 : ((cs.drop k).take 1)[0]? = some x := by rw [h]; rfl
  rw [List.getElem?_take_of_lt (by omega), List.getElem?_drop] at h1
  simpa using h1
theorem list3 {cs : List Value} {x0 x1 x2 : Value} (h : cs.length = 3) (h0 : cs[0]? = some x0) (h1 : cs[1]? = some x1) (h2 : cs[2]? = some x2) : cs = [x0, x1, x2] := by
  match cs, h with
  | [y0, y1, y2], _ => simp_all
theorem list4 {cs : List Value} {x0 x1 x2 x3 : Value} (h : cs.length = 4) (h0 : cs[0]? = some x0) (h1 : cs[1]? = some x1) (h2 : cs[2]? = some x2) (h3 : cs[3]? = some x3) : cs = [x0, x1, x2, x3] := by
  match cs, h with
  | [y0, y1, y2, y3], _ => simp_all
theorem list5 {cs : List Value} {x0 x1 x2 x3 x4 : Value} (h : cs.length = 5) (h0 : cs[0]? = some x0) (h1 : cs[1]? = some x1) (h2 : cs[2]? = some x2) (h3 : cs[3]? = some x3) (h4 : cs[4]? = some x4) : cs = [x0, x1, x2, x3, x4] := by
  match cs, h with
  | [y0, y1, y2, y3, y4], _ => simp_all
theorem open_nums {H : Type} {enc : TypeId × Value → H} {w : World} {base fuel : Nat} {cs : List Value} {x : DataW H × List MemPlace}
    (h : DataW.trod enc Tryz.prog w base (fun _ => true) true fuel 77 cs = some x) : ∃ (ls : List Int) (v : Value), cs = [v] ∧ NumsL w (fun _ => True) ls v ∧ (∀ z ∈ ls, i64 z) ∧ ls.length ≤ 9223372036854775807 := by
  rcases open_ints Tryz.underlying77 Tryz.underlying3 (by kernel_rfl) h with ⟨hcs, hx⟩ | ⟨a, len, cap, zs, hcs, _, hl, hm, hz, hx, hc, hw⟩
  · exact ⟨[], _, hcs, ⟨none, 0, rfl, Nat.le_refl _, fun _ => rfl, fun h => by simp at h⟩, by simp, by simp⟩
  · have hzl : zs.length = cap := by simpa using hz
    have hlt : (zs.take len).length = len := by simp; omega
    refine ⟨zs.take len, .slice (some a) len cap, hcs, ⟨some a, cap, by rw [hlt], by omega, by simp, fun h0 => ?_⟩, fun z hzm => ?_, ?_⟩
    · obtain ⟨b, off, spot⟩ := a
      have h00 := hc 0 (by omega)
      have hspot : spot = none := by simpa [Addr.add] using World.cell?_spot h00
      subst hspot
      refine ⟨b, off, rfl, trivial, fun i hi => ?_⟩
      have := hc i (by omega)
      rw [Addr.add_lit] at this
      rw [this]; simp [List.getD, show i < len by omega]
    · have := bounds_i64 (hw z (List.mem_of_mem_take hzm)); exact ⟨this.1, this.2⟩
    · have : cap ≤ 9223372036854775807 := hm
      omega
theorem open_list {H α : Type} [Inhabited α] {enc : TypeId × Value → H} {w : World} {base fuel : Nat} {cs : List Value} {x : DataW H × List MemPlace} {It : World → (Nat → Prop) → α → List Value → Prop} {c : Nat} {S T : TypeId} {Wf : α → Prop}
    (hu : Tryz.prog.underlying S = some (.slice T)) (hc8 : Tryz.prog.cellsOf T = c) (hc0 : 0 < c)
    (item : ∀ m cs y, DataW.trod enc Tryz.prog w base (fun _ => true) true m T cs = some y → ∃ a : α, cs.length = c ∧ It w (fun _ => True) a cs ∧ Wf a)
    (h : DataW.trod enc Tryz.prog w base (fun _ => true) true fuel S cs = some x) : ∃ (l : List α) (v : Value), cs = [v] ∧ LL It c w (fun _ => True) l v ∧ (∀ a ∈ l, Wf a) ∧ l.length ≤ 9223372036854775807 := by
  rcases DataW.trod_slice hu h with ⟨hcs, hx⟩ | ⟨a, len, cap, elems, rest, n, hfn, hcs, hx, _, hl, hm, hel, hE, _, _⟩
  · exact ⟨[], _, hcs, LL_nil _ _ _ _, by simp, Nat.zero_le _⟩
  · rw [hc8] at hE
    obtain ⟨A, hA⟩ := Go.Deep.choose_lt (α := α) (n := len) (p := fun j i => (∃ cs, cs.length = c ∧ It w (fun _ => True) i cs ∧ ∀ k u, cs[k]? = some u → w.cell? ((a.add (j * c)).add k) = some u) ∧ Wf i) (fun j hj => by
      have h1 := hE j hj
      rw [List.getElem?_eq_getElem (show j < elems.length by omega)] at h1
      obtain ⟨cs', h2, h3⟩ := Option.bind_eq_some_iff.1 h1
      obtain ⟨_, hcl, hc⟩ := World.cells?_some h2
      obtain ⟨i, q1, q2, q3⟩ := item n cs' _ h3
      refine ⟨i, ⟨cs', q1, q2, fun k u hu => ?_⟩, q3⟩
      have hk := (List.getElem?_eq_some_iff.1 hu).1
      exact (hc k (by omega)).trans hu)
    have hll : ((List.range len).map A).length = len := by simp
    refine ⟨(List.range len).map A, .slice (some a) len cap, hcs, ⟨some a, cap, by rw [hll], by omega, by simp, fun h0 => ?_⟩, fun i hi => ?_, ?_⟩
    · obtain ⟨b, off, spot⟩ := a
      have hfirst : w.cell? ((Addr.add ⟨b, off, spot⟩ (0 * c)).add 0) ≠ none := by
        obtain ⟨⟨cs', h1, _, h2⟩, _⟩ := hA 0 (by omega)
        rw [h2 0 (cs'[0]'(by omega)) (List.getElem?_eq_getElem _)]; simp
      obtain ⟨u0, hu0⟩ := Option.ne_none_iff_exists'.1 hfirst
      have hsp : spot = none := by simpa [Addr.add] using World.cell?_spot hu0
      subst hsp
      have hblt : b < w.heap.size := by
        have : w.cell? ⟨b, off, none⟩ = some u0 := by simpa [Addr.add] using hu0
        exact block_lt_of_cell this
      refine ⟨b, off, rfl, trivial, hblt, fun j y hy => ?_⟩
      have hj : j < len := by have := (List.getElem?_eq_some_iff.1 hy).1; simpa using this
      obtain ⟨⟨cs', q1, q2, q3⟩, _⟩ := hA j hj
      have hAj : y = A j := by
        have := (List.getElem?_eq_some_iff.1 hy).2; rw [← this]; simp
      rw [hAj]
      refine ⟨cs', q1, q2, fun k u hu => ?_⟩
      have := q3 k u hu
      simp only [Addr.add_lit] at this
      exact this
    · obtain ⟨j, hj, rfl⟩ := List.getElem_of_mem hi
      have hAj : ((List.range len).map A)[j] = A j := by simp
      rw [hAj]
      exact (hA j (by simpa using hj)).2
    · have : cap ≤ 9223372036854775807 := hm
      rw [hll]; omega
theorem open_in {H : Type} {enc : TypeId × Value → H} {w : World} {base fuel : Nat} {cs : List Value} {d : DataW H × List MemPlace}
    (h : DataW.trod enc Tryz.prog w base (fun _ => true) true fuel 81 cs = some d) : ∃ x : In, cs.length = 5 ∧ InC w (fun _ => True) x cs ∧ WfI0 x := by
  obtain ⟨xs, n, hfn, hx, hl, hlen, hf⟩ := DataW.trod_struct Tryz.underlying81 h
  have hl8 : cs.length = 5 := hl.trans (by kernel_rfl)
  have hxl : xs.length = 5 := hlen
  have g0 := hf 0 _ rfl
  have g1 := hf 1 _ rfl
  have g2 := hf 2 _ rfl
  have g3 := hf 3 _ rfl
  have g4 := hf 4 _ rfl
  rw [List.getElem?_eq_getElem (by omega)] at g0 g1 g2 g3 g4
  have c0 : Tryz.prog.cellsOf 5 = 1 := by kernel_rfl
  have c1 : Tryz.prog.cellsOf 3 = 1 := by kernel_rfl
  have c2 : Tryz.prog.cellsOf 77 = 1 := by kernel_rfl
  have c3 : Tryz.prog.cellsOf 2 = 1 := by kernel_rfl
  have c4 : Tryz.prog.cellsOf 60 = 1 := by kernel_rfl
  obtain ⟨z0, e0, _, w0⟩ := DataW.trod_int Tryz.underlying5 g0
  obtain ⟨z1, e1, _, w1⟩ := DataW.trod_int Tryz.underlying3 g1
  obtain ⟨z2, v2, e2, q2, w2, k2⟩ := open_nums g2
  obtain ⟨z3, e3, _, w3⟩ := DataW.trod_int Tryz.underlying2 g3
  obtain ⟨z4, e4, _, w4⟩ := DataW.trod_int Tryz.underlying60 g4
  have f0 : (cs.drop 0).take (Tryz.prog.cellsOf 5) = [.int .u8 z0] := e0
  have f1 : (cs.drop 1).take (Tryz.prog.cellsOf 3) = [.int .i64 z1] := e1
  have f2 : (cs.drop 2).take (Tryz.prog.cellsOf 77) = [v2] := e2
  have f3 : (cs.drop 3).take (Tryz.prog.cellsOf 2) = [.int .i64 z3] := e3
  have f4 : (cs.drop 4).take (Tryz.prog.cellsOf 60) = [.int .u32 z4] := e4
  rw [c0] at f0; rw [c1] at f1; rw [c2] at f2; rw [c3] at f3; rw [c4] at f4
  have hcs := list5 hl8 (cell_at hl8 (by omega) f0) (cell_at hl8 (by omega) f1) (cell_at hl8 (by omega) f2) (cell_at hl8 (by omega) f3) (cell_at hl8 (by omega) f4)
  have b0 := bounds_u8 w0; have b1 := bounds_i64 w1; have b3 := bounds_i64 w3; have b4 := bounds_u32 w4
  obtain ⟨m0, rfl⟩ : ∃ m : Nat, z0 = m := ⟨z0.toNat, by omega⟩
  exact ⟨⟨m0, z1, z2, z3, z4⟩, hl8, ⟨v2, hcs, q2⟩, ⟨by show m0 < 256; omega, ⟨b1.1, b1.2⟩, w2, ⟨b3.1, b3.2⟩, b4.1, by show z4 ≤ 4294967295; omega, by show z2.length ≤ _; omega⟩⟩
theorem open_bl {H : Type} {enc : TypeId × Value → H} {w : World} {base fuel : Nat} {cs : List Value} {d : DataW H × List MemPlace}
    (h : DataW.trod enc Tryz.prog w base (fun _ => true) true fuel 79 cs = some d) : ∃ x : Bl, cs.length = 3 ∧ BlC w (fun _ => True) x cs ∧ WfB0 x := by
  haveI : Inhabited In := ⟨⟨0, 0, [], 0, 0⟩⟩
  obtain ⟨xs, n, hfn, hx, hl, hlen, hf⟩ := DataW.trod_struct Tryz.underlying79 h
  have hl8 : cs.length = 3 := hl.trans (by kernel_rfl)
  have hxl : xs.length = 3 := hlen
  have g0 := hf 0 _ rfl
  have g1 := hf 1 _ rfl
  have g2 := hf 2 _ rfl
  rw [List.getElem?_eq_getElem (by omega)] at g0 g1 g2
  have c0 : Tryz.prog.cellsOf 76 = 1 := by kernel_rfl
  have c1 : Tryz.prog.cellsOf 77 = 1 := by kernel_rfl
  have c2 : Tryz.prog.cellsOf 3 = 1 := by kernel_rfl
  obtain ⟨l0, v0, e0, q0, w0, k0⟩ := open_list (It := InC) (c := 5) (Wf := WfI0) Tryz.underlying76 (by kernel_rfl) (by decide) (fun m cs y hy => open_in hy) g0
  obtain ⟨z1, v1, e1, q1, w1, k1⟩ := open_nums g1
  obtain ⟨z2, e2, _, w2⟩ := DataW.trod_int Tryz.underlying3 g2
  have f0 : (cs.drop 0).take (Tryz.prog.cellsOf 76) = [v0] := e0
  have f1 : (cs.drop 1).take (Tryz.prog.cellsOf 77) = [v1] := e1
  have f2 : (cs.drop 2).take (Tryz.prog.cellsOf 3) = [.int .i64 z2] := e2
  rw [c0] at f0; rw [c1] at f1; rw [c2] at f2
  have hcs := list3 hl8 (cell_at hl8 (by omega) f0) (cell_at hl8 (by omega) f1) (cell_at hl8 (by omega) f2)
  have b2 := bounds_i64 w2
  exact ⟨⟨l0, z1, z2⟩, hl8, ⟨v0, v1, hcs, q0, q1⟩, ⟨w0, w1, ⟨b2.1, b2.2⟩, by show l0.length ≤ _; omega, by show z1.length ≤ _; omega⟩⟩
theorem Bls.low {w : World} {l : List Bl} {v : Value} (h : Bls w (fun _ => True) l v) : Bls w (fun k => k < w.heap.size) l v := h.moved (fun k hk _ => ⟨hk, rfl⟩) (Nat.le_refl _)
theorem open_co {H : Type} {enc : TypeId × Value → H} {w : World} {cs : Array Value} {d : DataW H} {p : List MemPlace}
    (h : DataW.Trod enc Tryz.prog w 0 (fun _ => true) true 33 (.agg cs) d p) : ∃ (c : Co) (v : Value), cs = #[.int .i64 c.pa, .int .i64 c.re, .bool c.rs, v] ∧ Bls w (fun k => k < w.heap.size) c.bl v ∧ WfC0 c := by
  haveI : Inhabited Bl := ⟨⟨[], [], 0⟩⟩
  obtain ⟨fuel, hf0⟩ := h
  obtain ⟨xs, n, hfn, hx, hl, hlen, hf⟩ := DataW.trod_struct Tryz.underlying33 hf0
  have hl8 : cs.toList.length = 4 := hl.trans (by kernel_rfl)
  have hxl : xs.length = 4 := hlen
  have g0 := hf 0 _ rfl
  have g1 := hf 1 _ rfl
  have g2 := hf 2 _ rfl
  have g3 := hf 3 _ rfl
  rw [List.getElem?_eq_getElem (by omega)] at g0 g1 g2 g3
  have c0 : Tryz.prog.cellsOf 3 = 1 := by kernel_rfl
  have c2 : Tryz.prog.cellsOf 4 = 1 := by kernel_rfl
  have c3 : Tryz.prog.cellsOf 31 = 1 := by kernel_rfl
  obtain ⟨z0, e0, _, w0⟩ := DataW.trod_int Tryz.underlying3 g0
  obtain ⟨z1, e1, _, w1⟩ := DataW.trod_int Tryz.underlying3 g1
  obtain ⟨z2, e2, _⟩ := DataW.trod_bool Tryz.underlying4 g2
  obtain ⟨l3, v3, e3, q3, w3, k3⟩ := open_list (It := BlC) (c := 3) (Wf := WfB0) Tryz.underlying31 (by kernel_rfl) (by decide) (fun m cs y hy => open_bl hy) g3
  have f0 : (cs.toList.drop 0).take (Tryz.prog.cellsOf 3) = [.int .i64 z0] := e0
  have f1 : (cs.toList.drop 1).take (Tryz.prog.cellsOf 3) = [.int .i64 z1] := e1
  have f2 : (cs.toList.drop 2).take (Tryz.prog.cellsOf 4) = [.bool z2] := e2
  have f3 : (cs.toList.drop 3).take (Tryz.prog.cellsOf 31) = [v3] := e3
  rw [c0] at f0 f1; rw [c2] at f2; rw [c3] at f3
  have hcs := list4 hl8 (cell_at hl8 (by omega) f0) (cell_at hl8 (by omega) f1) (cell_at hl8 (by omega) f2) (cell_at hl8 (by omega) f3)
  have b0 := bounds_i64 w0; have b1 := bounds_i64 w1
  refine ⟨⟨z0, z1, z2, l3⟩, v3, Array.ext' hcs, Bls.low q3, ⟨⟨b0.1, b0.2⟩, ⟨b1.1, b1.2⟩, w3, by show l3.length ≤ _; omega⟩⟩
end Vc
end Go.Proofs.YtheopjcmhclgdaaGreatDoor

/- From the rows' condition on ops' tables to what the walks ask of them. -/
namespace Go.Proofs.YtheopjcmhclgdaaGreatDoor
open Go.RowKit
set_option linter.unusedVariables false

theorem tc_of_head {P : Program} {W : World} {name : String} {d : DataW Unit} {rest : List (String × DataW Unit)} {g : Nat} {t : TypeId}
    (hg : P.globalNamed name = some g) (hty : (P.globals[g]?).map (·.type) = some t) (h : laidMet P ((name, d) :: rest) W) {vs : List Value}
    (hc : ∀ fuel (xs : List Value) p, DataW.trod (fun _ => ()) P W 0 (fun _ => true) false fuel t xs = some (d, p) → xs = vs) : TC W g vs := by
  obtain ⟨ps, ⟨g', t', cs', fuel, p, q, hg', ht', hvar, hd, _, _⟩, _⟩ := h
  obtain rfl := Option.some.inj (hg.symm.trans hg')
  obtain rfl := Option.some.inj (hty.symm.trans ht')
  have e := hc _ _ _ hd
  simp only [World.var?, hg, Option.bind_some] at hvar
  split at hvar
  · rename_i cs t fr hh
    obtain rfl := Option.some.inj hvar
    subst e
    exact ⟨(Array.getElem?_eq_some_iff.1 hh).1, t, fr, hh⟩
  · cases hvar

theorem flat_one {α : Type} (f : α → Value) : ∀ l : List α, (l.flatMap fun s => [f s]) = l.map f
  | [] => rfl
  | a :: l => by rw [List.flatMap_cons, flat_one f l]; rfl
theorem ts_of_tc {W : World} {g : Nat} {l : List (List UInt8)} (h : TC W g (l.flatMap fun s => [Value.string (str s)])) : TS W g l := by
  obtain ⟨_, t, fr, hr⟩ := h
  intro j s hj
  rw [cell_of_row W g j _ _ _ hr, flat_one]
  simp [hj]

theorem fam_of_trod {W : World} (fuel : Nat) (xs : List Value) (x : Fam) (p : List MemPlace)
    (h : DataW.trod (fun _ => ()) Tryz.prog W 0 (fun _ => true) false fuel 174 xs = some (.agg [.lit (.int .u8 x.f), .lit (.int .u8 x.l), .lit (.int .i64 x.o), .lit (.int .u8 x.x), .lit (.int .u8 x.y), .lit (.int .u8 x.g)], p)) : xs = fmC x := by
  obtain ⟨fs, hfs⟩ : ∃ fs, Tryz.prog.underlying 174 = some (.struct fs) := ⟨_, Tryz.underlying174⟩
  have hty : (Tryz.prog.underlying 174).map (fun d => match d with | .struct fs => fs.toList.map (fun f => (f.type, f.offset)) | _ => []) = some [(5, 0), (5, 1), (3, 2), (95, 3), (95, 4), (95, 5)] := by kernel_rfl
  rw [hfs] at hty
  simp only [Option.map_some, Option.some.injEq] at hty
  obtain ⟨ys, k, rfl, hx, hlen, hyl, hall⟩ := DataW.trod_struct hfs h
  rw [show Tryz.prog.cellsOf 174 = 6 by kernel_rfl] at hlen
  have hm : ys.map (·.1) = [DataW.lit (.int .u8 x.f), .lit (.int .u8 x.l), .lit (.int .i64 x.o), .lit (.int .u8 x.x), .lit (.int .u8 x.y), .lit (.int .u8 x.g)] := by
    have := congrArg Prod.fst hx
    simpa using this.symm
  have key : ∀ (i : Nat) (t : TypeId) (kd : IntKind) (z : Int), (fs.toList.map (fun f => (f.type, f.offset)))[i]? = some (t, i) → Tryz.prog.underlying t = some (.int kd) → Tryz.prog.cellsOf t = 1 → (ys.map (·.1))[i]? = some (DataW.lit (.int kd z)) → xs[i]? = some (.int kd z) := by
    intro i t kd z e1 e2 e3 e4
    simp only [List.getElem?_map, Option.map_eq_some_iff] at e1 e4
    obtain ⟨f, hf, hft⟩ := e1
    obtain ⟨y, hy, hy1⟩ := e4
    have h1 := hall i f (by simpa using hf)
    have ht : f.type = t := congrArg Prod.fst hft
    have ho : f.offset = i := congrArg Prod.snd hft
    rw [ht, ho, e3, hy] at h1
    obtain ⟨y1, y2⟩ := y
    simp only at hy1
    subst hy1
    have := int_of_trod e2 _ _ _ _ h1
    have := congrArg (·[0]?) this
    simpa [List.getElem?_take, List.getElem?_drop] using this
  have u8 : Tryz.prog.underlying 5 = some (.int .u8) := by kernel_rfl
  have ui : Tryz.prog.underlying 3 = some (.int .i64) := by kernel_rfl
  have uk : Tryz.prog.underlying 95 = some (.int .u8) := by kernel_rfl
  have s8 : Tryz.prog.cellsOf 5 = 1 := by kernel_rfl
  have si : Tryz.prog.cellsOf 3 = 1 := by kernel_rfl
  have sk : Tryz.prog.cellsOf 95 = 1 := by kernel_rfl
  rw [hty, hm] at key
  have k0 := key 0 _ _ _ rfl u8 s8 rfl
  have k1 := key 1 _ _ _ rfl u8 s8 rfl
  have k2 := key 2 _ _ _ rfl ui si rfl
  have k3 := key 3 _ _ _ rfl uk sk rfl
  have k4 := key 4 _ _ _ rfl uk sk rfl
  have k5 := key 5 _ _ _ rfl uk sk rfl
  clear key hall hx h hm hty hfs
  match xs, hlen with
  | [a, b, c, d, e, f], _ =>
    simp at k0 k1 k2 k3 k4 k5
    subst k0 k1 k2 k3 k4 k5
    rfl

theorem names_laid {W : World} {rest : List (String × DataW Unit)} (h : laidMet Tryz.prog (("mandrel/ops.names", Rows.laid_mandrel_ops_names) :: rest) W) : TS W 1 nms := by
  have h' : laidMet Tryz.prog (("mandrel/ops.names", .agg (nms.map fun s => .lit (.string s))) :: rest) W := h
  exact ts_of_tc (tc_of_head (t := 192) (by kernel_rfl) (by kernel_rfl) h' fun fuel xs p hp => cells_of_arr (n := 67) (fun s => .lit (.string s)) (fun s => [Value.string (str s)]) (str_of_trod (e := 9) (by kernel_rfl)) (by kernel_rfl) (m := 1) (by kernel_rfl) (by kernel_rfl) hp)
theorem tests_laid {W : World} {rest : List (String × DataW Unit)} (h : laidMet Tryz.prog (("mandrel/ops.testNames", Rows.laid_mandrel_ops_testNames) :: rest) W) : TS W 2 tns := by
  have h' : laidMet Tryz.prog (("mandrel/ops.testNames", .agg (tns.map fun s => .lit (.string s))) :: rest) W := h
  exact ts_of_tc (tc_of_head (t := 193) (by kernel_rfl) (by kernel_rfl) h' fun fuel xs p hp => cells_of_arr (n := 22) (fun s => .lit (.string s)) (fun s => [Value.string (str s)]) (str_of_trod (e := 9) (by kernel_rfl)) (by kernel_rfl) (m := 1) (by kernel_rfl) (by kernel_rfl) hp)
theorem reckons_laid {W : World} {rest : List (String × DataW Unit)} (h : laidMet Tryz.prog (("mandrel/ops.reckonNames", Rows.laid_mandrel_ops_reckonNames) :: rest) W) : TS W 3 rns := by
  have h' : laidMet Tryz.prog (("mandrel/ops.reckonNames", .agg (rns.map fun s => .lit (.string s))) :: rest) W := h
  exact ts_of_tc (tc_of_head (t := 194) (by kernel_rfl) (by kernel_rfl) h' fun fuel xs p hp => cells_of_arr (n := 36) (fun s => .lit (.string s)) (fun s => [Value.string (str s)]) (str_of_trod (e := 9) (by kernel_rfl)) (by kernel_rfl) (m := 1) (by kernel_rfl) (by kernel_rfl) hp)
theorem families_laid {W : World} {rest : List (String × DataW Unit)} (h : laidMet Tryz.prog (("mandrel/ops.families", Rows.laid_mandrel_ops_families) :: rest) W) : TC W 4 fmV := by
  have h' : laidMet Tryz.prog (("mandrel/ops.families", .agg (fms.map fun x => .agg [.lit (.int .u8 x.f), .lit (.int .u8 x.l), .lit (.int .i64 x.o), .lit (.int .u8 x.x), .lit (.int .u8 x.y), .lit (.int .u8 x.g)])) :: rest) W := h
  exact tc_of_head (t := 195) (by kernel_rfl) (by kernel_rfl) h' fun fuel xs p hp => cells_of_arr (n := 32) (e := 174) (m := 6) (fun x : Fam => .agg [.lit (.int .u8 x.f), .lit (.int .u8 x.l), .lit (.int .i64 x.o), .lit (.int .u8 x.x), .lit (.int .u8 x.y), .lit (.int .u8 x.g)]) fmC
    fam_of_trod (by kernel_rfl) (by kernel_rfl) (by kernel_rfl) hp
theorem pow_laid {W : World} {rest : List (String × DataW Unit)} (h : laidMet Tryz.prog (("internal/strconv.uint64pow10", Rows.laid_internal_strconv_uint64pow10) :: rest) W) : Vc.P10 W := by
  have h' : laidMet Tryz.prog (("internal/strconv.uint64pow10", Lib.tabData .u64 Lib.pow10Tab) :: rest) W := h
  have hg : Tryz.prog.globalNamed "internal/strconv.uint64pow10" = some 5 := by kernel_rfl
  exact Lib.tabIs_of_head hg (t := 205) (e := 147) (n := 20) (by kernel_rfl) (by kernel_rfl) (by kernel_rfl) (by kernel_rfl) (by kernel_rfl) h'
end Go.Proofs.YtheopjcmhclgdaaGreatDoor

/- From the rows' condition on errors.errorType (beside other variables) to the variable's cell. After the guide's worked toy of errors.As. -/
namespace Go.Proofs.YtheopjcmhclgdaaGreatDoor
open Go.ChangeShapes Go.WideShapes Go.RowKit

theorem hownKnob : ownKnob Tryz.prog.godebug = none := by kernel_rfl
theorem het : Tryz.prog.globalNamed "errors.errorType" = some 0 := by kernel_rfl
theorem honeRow : ((List.range 241).filter fun t => Tryz.prog.rowNamed t [101, 114, 114, 111, 114]) = [39] := by kernel_rfl
theorem hsize : Tryz.prog.types.size = 241 := by kernel_rfl

theorem handle_of_met {W : World} (h : handlesMet Tryz.prog [("errors.errorType", Rows.laid_errors_errorType)] W) : ErrT W := by
  obtain ⟨name, u, ty, e1, e2, e3, e4, e5⟩ := h _ (List.mem_singleton.2 rfl)
  have en : name = [101, 114, 114, 111, 114] := (Option.some.inj e1).symm
  subst en
  obtain rfl : 151 = u := Option.some.inj (Eq.trans (by kernel_rfl) e2)
  have hm : ty ∈ (List.range 241).filter fun t => Tryz.prog.rowNamed t [101, 114, 114, 111, 114] := List.mem_filter.2 ⟨List.mem_range.2 (by rw [← hsize]; exact e3), e4⟩
  rw [honeRow] at hm
  obtain rfl := List.mem_singleton.1 hm
  have hh : typeHandle Tryz.prog 39 = .pointer (some ⟨8, 39, none⟩) := by kernel_rfl
  rw [hh] at e5
  have := World.var?_cell het e5 0
  unfold ErrT
  simpa using this
end Go.Proofs.YtheopjcmhclgdaaGreatDoor

/- VcodeFits returns true for every module, every number and every code that together hold at most 1048576 values and letters, and leaves them: whether the code can be that of the function of the module, or the error, is the document's. Of ops' tables, of internal/strconv's powers of ten, of two tables of math/bits and of errors.errorType it takes what the program's text lays (the card ties it). -/
namespace Go.Proofs.YtheopjcmhclgdaaGreatDoor.vcodeFits
open Go.ChangeShapes Go.WideShapes Go.ChangeAt Go.RowKit
set_option linter.unusedVariables false

theorem own : ownKnob Tryz.prog.godebug = none := by kernel_rfl
theorem laidOut : laidOutB Tryz.prog = true := by kernel_rfl

theorem walk (M0 : Gm.Mod) (x00 x01 x02 x03 x04 x05 x06 x07 : Value) (a1 : Int) (c2 : Vc.Co) (x2 : Value) (w : World) (hErr : ErrT w) (hTb : Tb w) (hPow : Vc.P10 w) (h0 : Gm.ModL w (fun _ => True) M0 x00 x01 x02 x03 x04 x05 x06 x07) (f0 : Gm.WfM M0) (b0 : Gm.SzM M0) (w1 : (Lit.int .i64 a1).wf = true) (h2 : Vc.Bls w (fun k => k < w.heap.size) c2.bl x2) (f2 : Vc.WfC0 c2) :
    Calls Tryz.prog 3 #[.agg #[x00, x01, x02, x03, x04, x05, x06, x07], .int .i64 a1, .agg #[.int .i64 c2.pa, .int .i64 c2.re, .bool c2.rs, x2]] w fun e w' => e = .returned (.bool true) ∧ Below w.heap.size w w' := by
  exact Vc.vfits_walk h0 f0 b0 a1 c2 f2 x2 h2 hTb.2 hTb.1 hPow hErr

noncomputable def laidWorld (os : Os) : World := ({ World.holding Tryz.prog os ⟨#[], #[], []⟩ with heap := (((((((((World.holding Tryz.prog os ⟨#[], #[], []⟩).heap.modify 6 fun | .cells _ t frozen => .cells #[.int .u8 0, .int .u8 1, .int .u8 28, .int .u8 2, .int .u8 29, .int .u8 14, .int .u8 24, .int .u8 3, .int .u8 30, .int .u8 22, .int .u8 20, .int .u8 15, .int .u8 25, .int .u8 17, .int .u8 4, .int .u8 8, .int .u8 31, .int .u8 27, .int .u8 13, .int .u8 23, .int .u8 21, .int .u8 19, .int .u8 16, .int .u8 7, .int .u8 26, .int .u8 12, .int .u8 18, .int .u8 6, .int .u8 11, .int .u8 5, .int .u8 10, .int .u8 9] t frozen | o => o).modify 7 fun | .cells _ t frozen => .cells #[.int .u8 0, .int .u8 1, .int .u8 56, .int .u8 2, .int .u8 57, .int .u8 49, .int .u8 28, .int .u8 3, .int .u8 61, .int .u8 58, .int .u8 42, .int .u8 50, .int .u8 38, .int .u8 29, .int .u8 17, .int .u8 4, .int .u8 62, .int .u8 47, .int .u8 59, .int .u8 36, .int .u8 45, .int .u8 43, .int .u8 51, .int .u8 22, .int .u8 53, .int .u8 39, .int .u8 33, .int .u8 30, .int .u8 24, .int .u8 18, .int .u8 12, .int .u8 5, .int .u8 63, .int .u8 55, .int .u8 48, .int .u8 27, .int .u8 60, .int .u8 41, .int .u8 37, .int .u8 16, .int .u8 46, .int .u8 35, .int .u8 44, .int .u8 21, .int .u8 52, .int .u8 32, .int .u8 23, .int .u8 11, .int .u8 54, .int .u8 26, .int .u8 40, .int .u8 15, .int .u8 34, .int .u8 20, .int .u8 31, .int .u8 10, .int .u8 25, .int .u8 14, .int .u8 19, .int .u8 9, .int .u8 13, .int .u8 8, .int .u8 7, .int .u8 6] t frozen | o => o).modify 5 fun | .cells _ t frozen => .cells #[.int .u64 1, .int .u64 10, .int .u64 100, .int .u64 1000, .int .u64 10000, .int .u64 100000, .int .u64 1000000, .int .u64 10000000, .int .u64 100000000, .int .u64 1000000000, .int .u64 10000000000, .int .u64 100000000000, .int .u64 1000000000000, .int .u64 10000000000000, .int .u64 100000000000000, .int .u64 1000000000000000, .int .u64 10000000000000000, .int .u64 100000000000000000, .int .u64 1000000000000000000, .int .u64 10000000000000000000] t frozen | o => o).modify 0 fun | .cells _ t frozen => .cells #[.iface 151 (.agg #[.pointer (some ⟨8, 39, none⟩)])] t frozen | o => o).modify 1 fun | .cells _ t frozen => .cells #[.string ⟨#[117, 110, 114, 101, 97, 99, 104, 97, 98, 108, 101]⟩, .string ⟨#[110, 111, 112]⟩, .string ⟨#[98, 108, 111, 99, 107]⟩, .string ⟨#[108, 111, 111, 112]⟩, .string ⟨#[105, 102]⟩, .string ⟨#[]⟩, .string ⟨#[]⟩, .string ⟨#[]⟩, .string ⟨#[]⟩, .string ⟨#[]⟩, .string ⟨#[]⟩, .string ⟨#[]⟩, .string ⟨#[98, 114]⟩, .string ⟨#[98, 114, 95, 105, 102]⟩, .string ⟨#[98, 114, 95, 116, 97, 98, 108, 101]⟩, .string ⟨#[114, 101, 116, 117, 114, 110]⟩, .string ⟨#[99, 97, 108, 108]⟩, .string ⟨#[99, 97, 108, 108, 95, 105, 110, 100, 105, 114, 101, 99, 116]⟩, .string ⟨#[]⟩, .string ⟨#[]⟩, .string ⟨#[]⟩, .string ⟨#[]⟩, .string ⟨#[]⟩, .string ⟨#[]⟩, .string ⟨#[]⟩, .string ⟨#[]⟩, .string ⟨#[100, 114, 111, 112]⟩, .string ⟨#[115, 101, 108, 101, 99, 116]⟩, .string ⟨#[]⟩, .string ⟨#[]⟩, .string ⟨#[]⟩, .string ⟨#[]⟩, .string ⟨#[108, 111, 99, 97, 108, 46, 103, 101, 116]⟩, .string ⟨#[108, 111, 99, 97, 108, 46, 115, 101, 116]⟩, .string ⟨#[108, 111, 99, 97, 108, 46, 116, 101, 101]⟩, .string ⟨#[103, 108, 111, 98, 97, 108, 46, 103, 101, 116]⟩, .string ⟨#[103, 108, 111, 98, 97, 108, 46, 115, 101, 116]⟩, .string ⟨#[]⟩, .string ⟨#[]⟩, .string ⟨#[]⟩, .string ⟨#[105, 51, 50, 46, 108, 111, 97, 100]⟩, .string ⟨#[105, 54, 52, 46, 108, 111, 97, 100]⟩, .string ⟨#[]⟩, .string ⟨#[]⟩, .string ⟨#[105, 51, 50, 46, 108, 111, 97, 100, 56, 95, 115]⟩, .string ⟨#[105, 51, 50, 46, 108, 111, 97, 100, 56, 95, 117]⟩, .string ⟨#[105, 51, 50, 46, 108, 111, 97, 100, 49, 54, 95, 115]⟩, .string ⟨#[105, 51, 50, 46, 108, 111, 97, 100, 49, 54, 95, 117]⟩, .string ⟨#[105, 54, 52, 46, 108, 111, 97, 100, 56, 95, 115]⟩, .string ⟨#[105, 54, 52, 46, 108, 111, 97, 100, 56, 95, 117]⟩, .string ⟨#[105, 54, 52, 46, 108, 111, 97, 100, 49, 54, 95, 115]⟩, .string ⟨#[105, 54, 52, 46, 108, 111, 97, 100, 49, 54, 95, 117]⟩, .string ⟨#[105, 54, 52, 46, 108, 111, 97, 100, 51, 50, 95, 115]⟩, .string ⟨#[105, 54, 52, 46, 108, 111, 97, 100, 51, 50, 95, 117]⟩, .string ⟨#[105, 51, 50, 46, 115, 116, 111, 114, 101]⟩, .string ⟨#[105, 54, 52, 46, 115, 116, 111, 114, 101]⟩, .string ⟨#[]⟩, .string ⟨#[]⟩, .string ⟨#[105, 51, 50, 46, 115, 116, 111, 114, 101, 56]⟩, .string ⟨#[105, 51, 50, 46, 115, 116, 111, 114, 101, 49, 54]⟩, .string ⟨#[105, 54, 52, 46, 115, 116, 111, 114, 101, 56]⟩, .string ⟨#[105, 54, 52, 46, 115, 116, 111, 114, 101, 49, 54]⟩, .string ⟨#[105, 54, 52, 46, 115, 116, 111, 114, 101, 51, 50]⟩, .string ⟨#[109, 101, 109, 111, 114, 121, 46, 115, 105, 122, 101]⟩, .string ⟨#[109, 101, 109, 111, 114, 121, 46, 103, 114, 111, 119]⟩, .string ⟨#[105, 51, 50, 46, 99, 111, 110, 115, 116]⟩, .string ⟨#[105, 54, 52, 46, 99, 111, 110, 115, 116]⟩] t frozen | o => o).modify 2 fun | .cells _ t frozen => .cells #[.string ⟨#[105, 51, 50, 46, 101, 113, 122]⟩, .string ⟨#[105, 51, 50, 46, 101, 113]⟩, .string ⟨#[105, 51, 50, 46, 110, 101]⟩, .string ⟨#[105, 51, 50, 46, 108, 116, 95, 115]⟩, .string ⟨#[105, 51, 50, 46, 108, 116, 95, 117]⟩, .string ⟨#[105, 51, 50, 46, 103, 116, 95, 115]⟩, .string ⟨#[105, 51, 50, 46, 103, 116, 95, 117]⟩, .string ⟨#[105, 51, 50, 46, 108, 101, 95, 115]⟩, .string ⟨#[105, 51, 50, 46, 108, 101, 95, 117]⟩, .string ⟨#[105, 51, 50, 46, 103, 101, 95, 115]⟩, .string ⟨#[105, 51, 50, 46, 103, 101, 95, 117]⟩, .string ⟨#[105, 54, 52, 46, 101, 113, 122]⟩, .string ⟨#[105, 54, 52, 46, 101, 113]⟩, .string ⟨#[105, 54, 52, 46, 110, 101]⟩, .string ⟨#[105, 54, 52, 46, 108, 116, 95, 115]⟩, .string ⟨#[105, 54, 52, 46, 108, 116, 95, 117]⟩, .string ⟨#[105, 54, 52, 46, 103, 116, 95, 115]⟩, .string ⟨#[105, 54, 52, 46, 103, 116, 95, 117]⟩, .string ⟨#[105, 54, 52, 46, 108, 101, 95, 115]⟩, .string ⟨#[105, 54, 52, 46, 108, 101, 95, 117]⟩, .string ⟨#[105, 54, 52, 46, 103, 101, 95, 115]⟩, .string ⟨#[105, 54, 52, 46, 103, 101, 95, 117]⟩] t frozen | o => o).modify 3 fun | .cells _ t frozen => .cells #[.string ⟨#[105, 51, 50, 46, 99, 108, 122]⟩, .string ⟨#[105, 51, 50, 46, 99, 116, 122]⟩, .string ⟨#[105, 51, 50, 46, 112, 111, 112, 99, 110, 116]⟩, .string ⟨#[105, 51, 50, 46, 97, 100, 100]⟩, .string ⟨#[105, 51, 50, 46, 115, 117, 98]⟩, .string ⟨#[105, 51, 50, 46, 109, 117, 108]⟩, .string ⟨#[105, 51, 50, 46, 100, 105, 118, 95, 115]⟩, .string ⟨#[105, 51, 50, 46, 100, 105, 118, 95, 117]⟩, .string ⟨#[105, 51, 50, 46, 114, 101, 109, 95, 115]⟩, .string ⟨#[105, 51, 50, 46, 114, 101, 109, 95, 117]⟩, .string ⟨#[105, 51, 50, 46, 97, 110, 100]⟩, .string ⟨#[105, 51, 50, 46, 111, 114]⟩, .string ⟨#[105, 51, 50, 46, 120, 111, 114]⟩, .string ⟨#[105, 51, 50, 46, 115, 104, 108]⟩, .string ⟨#[105, 51, 50, 46, 115, 104, 114, 95, 115]⟩, .string ⟨#[105, 51, 50, 46, 115, 104, 114, 95, 117]⟩, .string ⟨#[105, 51, 50, 46, 114, 111, 116, 108]⟩, .string ⟨#[105, 51, 50, 46, 114, 111, 116, 114]⟩, .string ⟨#[105, 54, 52, 46, 99, 108, 122]⟩, .string ⟨#[105, 54, 52, 46, 99, 116, 122]⟩, .string ⟨#[105, 54, 52, 46, 112, 111, 112, 99, 110, 116]⟩, .string ⟨#[105, 54, 52, 46, 97, 100, 100]⟩, .string ⟨#[105, 54, 52, 46, 115, 117, 98]⟩, .string ⟨#[105, 54, 52, 46, 109, 117, 108]⟩, .string ⟨#[105, 54, 52, 46, 100, 105, 118, 95, 115]⟩, .string ⟨#[105, 54, 52, 46, 100, 105, 118, 95, 117]⟩, .string ⟨#[105, 54, 52, 46, 114, 101, 109, 95, 115]⟩, .string ⟨#[105, 54, 52, 46, 114, 101, 109, 95, 117]⟩, .string ⟨#[105, 54, 52, 46, 97, 110, 100]⟩, .string ⟨#[105, 54, 52, 46, 111, 114]⟩, .string ⟨#[105, 54, 52, 46, 120, 111, 114]⟩, .string ⟨#[105, 54, 52, 46, 115, 104, 108]⟩, .string ⟨#[105, 54, 52, 46, 115, 104, 114, 95, 115]⟩, .string ⟨#[105, 54, 52, 46, 115, 104, 114, 95, 117]⟩, .string ⟨#[105, 54, 52, 46, 114, 111, 116, 108]⟩, .string ⟨#[105, 54, 52, 46, 114, 111, 116, 114]⟩] t frozen | o => o).modify 4 fun | .cells _ t frozen => .cells #[.int .u8 0, .int .u8 1, .int .i64 0, .int .u8 0, .int .u8 0, .int .u8 0, .int .u8 2, .int .u8 3, .int .i64 6, .int .u8 0, .int .u8 0, .int .u8 0, .int .u8 4, .int .u8 4, .int .i64 7, .int .u8 0, .int .u8 0, .int .u8 0, .int .u8 12, .int .u8 13, .int .i64 3, .int .u8 0, .int .u8 0, .int .u8 0, .int .u8 14, .int .u8 14, .int .i64 8, .int .u8 0, .int .u8 0, .int .u8 0, .int .u8 15, .int .u8 15, .int .i64 0, .int .u8 0, .int .u8 0, .int .u8 0, .int .u8 16, .int .u8 16, .int .i64 3, .int .u8 0, .int .u8 0, .int .u8 0, .int .u8 17, .int .u8 17, .int .i64 9, .int .u8 0, .int .u8 0, .int .u8 0, .int .u8 26, .int .u8 27, .int .i64 0, .int .u8 0, .int .u8 0, .int .u8 0, .int .u8 32, .int .u8 36, .int .i64 3, .int .u8 0, .int .u8 0, .int .u8 0, .int .u8 40, .int .u8 40, .int .i64 4, .int .u8 127, .int .u8 0, .int .u8 127, .int .u8 41, .int .u8 41, .int .i64 4, .int .u8 127, .int .u8 0, .int .u8 126, .int .u8 44, .int .u8 47, .int .i64 4, .int .u8 127, .int .u8 0, .int .u8 127, .int .u8 48, .int .u8 53, .int .i64 4, .int .u8 127, .int .u8 0, .int .u8 126, .int .u8 54, .int .u8 54, .int .i64 4, .int .u8 127, .int .u8 127, .int .u8 0, .int .u8 55, .int .u8 55, .int .i64 4, .int .u8 127, .int .u8 126, .int .u8 0, .int .u8 58, .int .u8 59, .int .i64 4, .int .u8 127, .int .u8 127, .int .u8 0, .int .u8 60, .int .u8 62, .int .i64 4, .int .u8 127, .int .u8 126, .int .u8 0, .int .u8 63, .int .u8 63, .int .i64 5, .int .u8 0, .int .u8 0, .int .u8 127, .int .u8 64, .int .u8 64, .int .i64 5, .int .u8 127, .int .u8 0, .int .u8 127, .int .u8 65, .int .u8 65, .int .i64 1, .int .u8 0, .int .u8 0, .int .u8 127, .int .u8 66, .int .u8 66, .int .i64 2, .int .u8 0, .int .u8 0, .int .u8 126, .int .u8 69, .int .u8 69, .int .i64 0, .int .u8 127, .int .u8 0, .int .u8 127, .int .u8 70, .int .u8 79, .int .i64 0, .int .u8 127, .int .u8 127, .int .u8 127, .int .u8 80, .int .u8 80, .int .i64 0, .int .u8 126, .int .u8 0, .int .u8 127, .int .u8 81, .int .u8 90, .int .i64 0, .int .u8 126, .int .u8 126, .int .u8 127, .int .u8 103, .int .u8 105, .int .i64 0, .int .u8 127, .int .u8 0, .int .u8 127, .int .u8 106, .int .u8 120, .int .i64 0, .int .u8 127, .int .u8 127, .int .u8 127, .int .u8 121, .int .u8 123, .int .i64 0, .int .u8 126, .int .u8 0, .int .u8 126, .int .u8 124, .int .u8 138, .int .i64 0, .int .u8 126, .int .u8 126, .int .u8 126, .int .u8 167, .int .u8 167, .int .i64 0, .int .u8 126, .int .u8 0, .int .u8 127, .int .u8 172, .int .u8 173, .int .i64 0, .int .u8 127, .int .u8 0, .int .u8 126] t frozen | o => o) } : World)
set_option maxRecDepth 100000 in
theorem laid_met (os : Os) : laidMetH Tryz.prog Rows.vcodeFitsUptoRow.laid ((laidWorld os).forCall (fun _ _ => 0) ⟨#[], #[.agg #[.slice none 0 0, .slice none 0 0, .slice none 0 0, .slice none 0 0, .slice none 0 0, .slice none 0 0, .slice none 0 0, .slice none 0 0], .int .i64 0, .agg #[.int .i64 0, .int .i64 0, .bool false, .slice none 0 0]], []⟩).memory :=
  laidMetH_of_parts (laidMet_of_run' 8 (by kernel_rfl) (by kernel_rfl)) (by kernel_rfl)
set_option maxRecDepth 100000 in
theorem reads (os : Os) {H : Type} (enc : TypeId × Value → H) : ∃ places, DataW.whole enc Tryz.prog ((laidWorld os).forCall (fun _ _ => 0) ⟨#[], #[.agg #[.slice none 0 0, .slice none 0 0, .slice none 0 0, .slice none 0 0, .slice none 0 0, .slice none 0 0, .slice none 0 0, .slice none 0 0], .int .i64 0, .agg #[.int .i64 0, .int .i64 0, .bool false, .slice none 0 0]], []⟩).memory Tryz.f3.params.toList Rows.vcodeFitsSpec.vars false (#[.agg #[.slice none 0 0, .slice none 0 0, .slice none 0 0, .slice none 0 0, .slice none 0 0, .slice none 0 0, .slice none 0 0, .slice none 0 0], .int .i64 0, .agg #[.int .i64 0, .int .i64 0, .bool false, .slice none 0 0]] : Array Value).toList 8 = some ([.agg [.nil, .nil, .nil, .nil, .nil, .nil, .nil, .nil], .lit (.int .i64 0), .agg [.lit (.int .i64 0), .lit (.int .i64 0), .lit (.bool false), .nil]], [], places) :=
  ⟨[], by kernel_rfl⟩

set_option maxRecDepth 100000 in
theorem contract (H : Type) (enc : TypeId × Value → H) (W : World) (base : Nat) (args : Array Value) (ds gs : List (DataW H)) (before : List MemPlace)
    (hval0 : ∀ (j : Nat) t v, Tryz.f3.params[j]? = some t → args[j]? = some v → Value.okWide Tryz.prog W .any base t v)
    (hW : DataW.Whole enc Tryz.prog Tryz.f3.params.toList Rows.vcodeFitsSpec.vars false W args.toList ds gs before) (hL : laidMetH Tryz.prog Rows.vcodeFitsUptoRow.laid W) (hk0 : Rows.uptoSmall H (ds ++ gs) = true) :
    Calls Tryz.prog 3 args W fun e W' => ∃ v, e = .returned v ∧ Rows.vcodeFitsSpec.post enc Tryz.prog Tryz.f3 false true false false W args v W' := by
  have hLL : laidMet Tryz.prog [("math/bits.deBruijn32tab", Rows.laid_math_bits_deBruijn32tab), ("math/bits.deBruijn64tab", Rows.laid_math_bits_deBruijn64tab), ("internal/strconv.uint64pow10", Rows.laid_internal_strconv_uint64pow10), ("mandrel/ops.names", Rows.laid_mandrel_ops_names), ("mandrel/ops.testNames", Rows.laid_mandrel_ops_testNames), ("mandrel/ops.reckonNames", Rows.laid_mandrel_ops_reckonNames), ("mandrel/ops.families", Rows.laid_mandrel_ops_families)] W ∧ handlesMet Tryz.prog [("errors.errorType", Rows.laid_errors_errorType)] W := hL
  have hg : ErrT W := handle_of_met hLL.2
  have hgTb : Tb W := ⟨⟨names_laid hLL.1.tail.tail.tail, tests_laid hLL.1.tail.tail.tail.tail, reckons_laid hLL.1.tail.tail.tail.tail.tail⟩, families_laid hLL.1.tail.tail.tail.tail.tail.tail⟩
  have hgP : Vc.P10 W := pow_laid hLL.1.tail.tail
  have hval : ∀ (j : Nat) t v, Tryz.f3.params[j]? = some t → args[j]? = some v → Value.okWide Tryz.prog W .any base t v := hval0
  have hk1 := Ex.small_of hk0
  have hW' := hW
  obtain ⟨p, q, hA0, hV, rfl, hfz, hnd⟩ := hW
  have hA : DataW.TrodAll enc Tryz.prog W 0 (fun _ => true) true Tryz.f3.params.toList args.toList ds p := hA0
  rw [Tryz.params3] at hA hval
  obtain ⟨v0, vs0, d0, ds0, p0, q0, hargs, rfl, rfl, h0, r0⟩ := trodAll_cons hA
  obtain ⟨v1, vs1, d1, ds1, p1, q1, rfl, rfl, rfl, h1, r1⟩ := trodAll_cons r0
  obtain ⟨v2, vs2, d2, ds2, p2, q2, rfl, rfl, rfl, h2, r2⟩ := trodAll_cons r1
  obtain ⟨rfl, rfl, rfl⟩ := trodAll_nil r2
  obtain rfl : args = #[v0, v1, v2] := by cases args; simp_all
  obtain ⟨rfl, rfl⟩ := trodVars_none hV
  have hk : Rows.uptoBulkAll [d0, d1, d2] ≤ 1048576 := hk1
  have m0 := h0
  have lt0 : ∀ x ∈ p0, x.block < W.heap.size := by obtain ⟨m, hm⟩ := m0; exact DataW.trod_lt m _ _ _ hm
  obtain ⟨cs0, hcs0, _⟩ := okWide_struct Tryz.underlying30 (hval 0 30 v0 rfl rfl)
  obtain ⟨M0, x00, x01, x02, x03, x04, x05, x06, x07, rfl, h0c, f0, b0'⟩ := Gm.open_mod hcs0 h0
  have b0 := b0' (Nat.le_trans (Ex.bulk_at (ds := _) (i := 0) rfl) hk)
  obtain ⟨a1, rfl, rfl, rfl, w1⟩ := open_int Tryz.underlying3 (hval 1 3 v1 rfl rfl) h1
  have m2 := h2
  have lt2 : ∀ x ∈ p2, x.block < W.heap.size := by obtain ⟨m, hm⟩ := m2; exact DataW.trod_lt m _ _ _ hm
  obtain ⟨cs2, hcs2, _⟩ := okWide_struct Tryz.underlying33 (hval 2 33 v2 rfl rfl)
  subst hcs2
  obtain ⟨c2, x2, rfl, h2c, f2⟩ := Vc.open_co h2
  clear hA0 hval0
  refine (walk M0 x00 x01 x02 x03 x04 x05 x06 x07 a1 c2 x2 W hg hgTb hgP h0c f0 b0 w1 h2c f2).mono fun e W' ⟨he, bel⟩ => ?_
  subst he
  exact ⟨_, rfl, _, _, _, [], _, [], hW', trodAll_mk1 (shut_bool Tryz.underlying4 _), (trodAll_cons_mk (Below.trod laidOut (by kernel_rfl) (of_decide_eq_true (by kernel_rfl)) m0 bel lt0) (trodAll_cons_mk (shut_int Tryz.underlying3 w1) (trodAll_cons_mk (Below.trod laidOut (by kernel_rfl) (of_decide_eq_true (by kernel_rfl)) m2 bel lt2) trodAll_mk0))), rfl, bel.frame _, fun h => by cases h⟩

set_option maxRecDepth 100000 in
theorem lifted (os : Os) (started : os.Started) (H : Type) (enc : TypeId × Value → H) (F : Stop.Interp) :
    ReturnsInHanded {} Tryz.checked os 3 .any ((Rows.OpenSpec.upto Rows.vcodeFitsSpec).preRow enc Tryz.prog Tryz.f3 Rows.vcodeFitsUptoRow.domain false Rows.vcodeFitsUptoRow.laid) (((Rows.OpenSpec.upto Rows.vcodeFitsSpec).at F).post enc Tryz.prog Tryz.f3 false true false false) := by
  obtain ⟨places, hx⟩ := reads os enc
  refine returnsInHanded_of_row (C := Tryz.checked) (s := Rows.OpenSpec.upto Rows.vcodeFitsSpec) own started (by kernel_rfl) Tryz.func3
    (witness_row_at (enc := enc) (C := Tryz.checked) false (laidWorld os) #[.agg #[.slice none 0 0, .slice none 0 0, .slice none 0 0, .slice none 0 0, .slice none 0 0, .slice none 0 0, .slice none 0 0, .slice none 0 0], .int .i64 0, .agg #[.int .i64 0, .int .i64 0, .bool false, .slice none 0 0]] rfl (by kernel_rfl) (by kernel_rfl) (by kernel_rfl)
      (OpenSpec.preRow_of_cond 8 hx (by kernel_rfl) (fun k hk => by cases hk; kernel_rfl) (by kernel_rfl) (laid_met os))) ?_
  intro W base args ds gs before hval hW _ hcond _ hL _ _
  exact contract H enc W base args ds gs before hval hW hL (hcond _ rfl)

theorem proved : Rows.VcodeFitsUptoSaid :=
  OpenClaim.holds_of_cond 3 Tryz.f3 rfl rfl rfl rfl rfl rfl rfl ⟨rfl, rfl, rfl, rfl, rfl⟩ rfl rfl rfl rfl rfl (by kernel_rfl) Tryz.func3 (by kernel_rfl)
    (of_decide_eq_true (by kernel_rfl)) (by unfold Func.isWrapper; first | (rw [if_pos (by decide +kernel)]; kernel_rfl) | (rw [if_neg (by decide +kernel)]; exact ⟨rfl, rfl⟩))
    (fun os started H enc _ F => by rw [OpenClaim.pre_eq_preRow]; exact lifted os started H enc F)
end Go.Proofs.YtheopjcmhclgdaaGreatDoor.vcodeFits

namespace Go.Proofs.YtheopjcmhclgdaaGreatDoor
theorem vcodeFits_upto_card : Rows.VcodeFitsUptoCardSaid :=
  Claim7.holds_tied_plain_at .later [] _ _ _ _ vcodeFits.proved (fun _ h => by cases h) (by kernel_rfl) (fun _ h => by cases h) vcodeFitsUpto_row_tie rfl ⟨rfl, rfl⟩ (by kernel_rfl) rfl
    (fun f fn hf hfn => by
      obtain rfl : 3 = f := Option.some.inj (Eq.trans (by kernel_rfl) hf)
      obtain rfl : fn = Tryz.f3 := (Option.some.inj (Tryz.func3.symm.trans hfn)).symm
      exact ⟨by kernel_rfl, fun j t ht => by
        rw [Tryz.params3] at ht
        rcases j with _ | _ | _ | j
        · obtain rfl : t = 30 := by simpa using ht.symm
          exact (show Tryz.prog.wantsStandIn 30 = false by kernel_rfl)
        · obtain rfl : t = 3 := by simpa using ht.symm
          exact (show Tryz.prog.wantsStandIn 3 = false by kernel_rfl)
        · obtain rfl : t = 33 := by simpa using ht.symm
          exact (show Tryz.prog.wantsStandIn 33 = false by kernel_rfl)
        · simp at ht⟩)
    (by kernel_rfl)
end Go.Proofs.YtheopjcmhclgdaaGreatDoor
