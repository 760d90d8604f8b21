/- mandrellaw08.sure: its walk. By mksu.py. -/
import Derived.Test.YtcpknafaocdjdaaGreatDoorBase
import Derived.LaidEql
import Derived.Stop.Asserts
import Derived.RowKitTokens
import Derived.Test.YtcpknafaocdjdaaGreatDoorWK

/- errors.As at the target *api.Errno, and the statements' own num: an error's number. After the guide's worked toy of errors.As. -/
namespace Go.Proofs.YtcpknafaocdjdaaGreatDoor
open Go.RowKit Go.Extern.Stop Go.Stop Go.Extern
set_option linter.unusedVariables false

/-- what the package variable errors.errorType holds -/
def ErrT (w : World) : Prop := w.cell? ⟨0, 0, none⟩ = some (.iface 182 (.agg #[.pointer (some ⟨6, 44, none⟩)]))

theorem as_nil (t : Value) (w : World) :
    Calls Tryz.prog 32 #[.nilIface, t] w fun e w' => e = .returned (.bool false) ∧ w' = w := by
  go_enter Tryz.func32, Tryz.ntmps32
  go_wp2
  go_ret
  exact ⟨rfl, rfl⟩

theorem asValueOfP (t : Addr) (w : World) : (ReflectliteValue.unpack (.iface 115 (.pointer (some t)))).run Tryz.prog w
    = .ok (.agg #[.pointer (some ⟨6, 115, none⟩), .pointer (some ⟨w.heap.size, 0, none⟩), .int .u64 150]) (w.alloc (.cells #[.pointer (some t)] 115)) := by kernel_rfl
theorem asTypeP (a : Addr) (w : World) : (ReflectliteValue.methodAny (ReflectliteValue.valueError "reflectlite.Value.Type" 0) (fun t _ _ _ => ReflectliteType.toType t) #[.agg #[.pointer (some ⟨6, 115, none⟩), .pointer (some a), .int .u64 150]]).run Tryz.prog w
    = .ok (.iface 182 (.agg #[.pointer (some ⟨6, 115, none⟩)])) w := by kernel_rfl
theorem asMethodKind (h : Value) (w : World) : (Go.method 381 182 (.agg #[h]) "Kind").run Tryz.prog w = .ok (166, h) w := by kernel_rfl
theorem asKindP (w : World) : ((ReflectliteType.abiMethod fun t => (fun a : Nat => Value.int IntKind.u8 (a : Int)) <$> Rtype.kind t) #[.pointer (some ⟨6, 115, none⟩)]).run Tryz.prog w = .ok (.int .u8 22) w := by kernel_rfl
theorem asKindE (w : World) : ((ReflectliteType.abiMethod fun t => (fun a : Nat => Value.int IntKind.u8 (a : Int)) <$> Rtype.kind t) #[.pointer (some ⟨6, 102, none⟩)]).run Tryz.prog w = .ok (.int .u8 2) w := by kernel_rfl

theorem asPartsP (a : Addr) (w : World) : (ReflectliteValue.parts (.agg #[.pointer (some ⟨6, 115, none⟩), .pointer (some a), .int .u64 150])).run Tryz.prog w = .ok (some (115, a, 150)) w := by kernel_rfl
theorem asIsNilP (a p : Addr) (W : World) (ha : W.cell? a = some (.pointer (some p))) :
    (ReflectliteValue.method (ReflectliteValue.valueError "reflectlite.Value.IsNil" 0) ReflectliteValue.isNil #[.agg #[.pointer (some ⟨6, 115, none⟩), .pointer (some a), .int .u64 150]]).run Tryz.prog W = .ok (.bool false) W := by
  show Sem.run Tryz.prog (ReflectliteValue.parts (.agg #[.pointer (some ⟨6, 115, none⟩), .pointer (some a), .int .u64 150]) >>= fun q => _) W = _
  simp only [Sem.run_bind, asPartsP, Result.andThen]
  simp [ReflectliteValue.isNil, loadVar, isAgg, underlying, Tryz.underlying115, ha, Result.andThen]

theorem asMethodElem (h : Value) (w : World) : (Go.method 381 182 (.agg #[h]) "Elem").run Tryz.prog w = .ok (176, .agg #[h]) w := by kernel_rfl
theorem asMethodImplements (h : Value) (w : World) : (Go.method 381 182 (.agg #[h]) "Implements").run Tryz.prog w = .ok (177, .agg #[h]) w := by kernel_rfl
theorem asMethodAssignableTo (h : Value) (w : World) : (Go.method 381 182 (.agg #[h]) "AssignableTo").run Tryz.prog w = .ok (174, .agg #[h]) w := by kernel_rfl
theorem asElemP (w : World) : (ReflectliteType.method ReflectliteType.elem #[.agg #[.pointer (some ⟨6, 115, none⟩)]]).run Tryz.prog w = .ok (.iface 182 (.agg #[.pointer (some ⟨6, 102, none⟩)])) w := by kernel_rfl
theorem asImplementsE (w : World) : (ReflectliteType.relation "Implements" ReflectliteType.implements_ #[.agg #[.pointer (some ⟨6, 102, none⟩)], .iface 182 (.agg #[.pointer (some ⟨6, 44, none⟩)])]).run Tryz.prog w = .ok (.bool true) w := by kernel_rfl
theorem asTypeOfE (v : Value) (w : World) : (ReflectliteType.typeOf #[.iface 102 v]).run Tryz.prog w = .ok (.iface 182 (.agg #[.pointer (some ⟨6, 102, none⟩)])) w := by kernel_rfl
theorem asAssignableE (w : World) : (ReflectliteType.relation "AssignableTo" ReflectliteType.assignableTo #[.agg #[.pointer (some ⟨6, 102, none⟩)], .iface 182 (.agg #[.pointer (some ⟨6, 102, none⟩)])]).run Tryz.prog w = .ok (.bool true) w := by kernel_rfl
theorem asValueOfE (k : Int) (w : World) : (ReflectliteValue.unpack (.iface 102 (.int .i64 k))).run Tryz.prog w
    = .ok (.agg #[.pointer (some ⟨6, 102, none⟩), .pointer (some ⟨w.heap.size, 0, none⟩), .int .u64 130]) (w.alloc (.cells #[.int .i64 k] 102)) := by kernel_rfl

theorem asElemOfP (w : World) : (Rtype.elem? 115).run Tryz.prog w = .ok (some 102) w := by kernel_rfl
theorem asMkE (p : Addr) (w : World) : (ReflectliteValue.mk 102 p ReflectliteValue.flagAddr).run Tryz.prog w = .ok (.agg #[.pointer (some ⟨6, 102, none⟩), .pointer (some p), .int .u64 386]) w := by kernel_rfl
theorem asElemVP (a p : Addr) (W : World) (ha : W.cell? a = some (.pointer (some p))) :
    (ReflectliteValue.method (ReflectliteValue.valueError "reflectlite.Value.Elem" 0) ReflectliteValue.elem #[.agg #[.pointer (some ⟨6, 115, none⟩), .pointer (some a), .int .u64 150]]).run Tryz.prog W
      = .ok (.agg #[.pointer (some ⟨6, 102, none⟩), .pointer (some p), .int .u64 386]) W := by
  show Sem.run Tryz.prog (ReflectliteValue.parts (.agg #[.pointer (some ⟨6, 115, none⟩), .pointer (some a), .int .u64 150]) >>= fun q => _) W = _
  simp only [Sem.run_bind, asPartsP, Result.andThen]
  simp [ReflectliteValue.elem, loadVar, isAgg, underlying, Tryz.underlying115, ha, Result.andThen, asElemOfP, asMkE]
theorem asPartsEa (a : Addr) (w : World) : (ReflectliteValue.parts (.agg #[.pointer (some ⟨6, 102, none⟩), .pointer (some a), .int .u64 386])).run Tryz.prog w = .ok (some (102, a, 386)) w := by kernel_rfl
theorem asPartsE (a : Addr) (w : World) : (ReflectliteValue.parts (.agg #[.pointer (some ⟨6, 102, none⟩), .pointer (some a), .int .u64 130])).run Tryz.prog w = .ok (some (102, a, 130)) w := by kernel_rfl
theorem asDirectE (w : World) : (Rtype.directlyAssignable 102 102).run Tryz.prog w = .ok true w := by kernel_rfl
theorem asSetE (ta b : Addr) (k : Int) (old : Value) (W : World) (hb : W.cell? b = some (.int .i64 k)) (ht : W.cell? ta = some old) (hf : W.frozen? ta = false) :
    (ReflectliteValue.set #[.agg #[.pointer (some ⟨6, 102, none⟩), .pointer (some ta), .int .u64 386], .agg #[.pointer (some ⟨6, 102, none⟩), .pointer (some b), .int .u64 130]]).run Tryz.prog W
      = .ok (.tuple #[]) (W.setCell ta (.int .i64 k)) := by
  show Sem.run Tryz.prog (ReflectliteValue.parts (.agg #[.pointer (some ⟨6, 102, none⟩), .pointer (some ta), .int .u64 386]) >>= fun p => ReflectliteValue.parts (.agg #[.pointer (some ⟨6, 102, none⟩), .pointer (some b), .int .u64 130]) >>= fun q => _) W = _
  simp only [Sem.run_bind, asPartsEa, asPartsE, Result.andThen]
  simp [ReflectliteValue.flagAddr, loadVar, isAgg, underlying, Tryz.underlying102, hb, Result.andThen, asDirectE, storeVar, Value.cells, storeCells, Addr.add]
  rw [run_store Tryz.prog W ta _ _ (by rfl)]
  simp [ht, hf]

set_option maxHeartbeats 4000000 in
theorem as_hit (k : Int) (t : Addr) (old : Value) (w : World) (hg : w.cell? ⟨0, 0, none⟩ = some (.iface 182 (.agg #[.pointer (some ⟨6, 44, none⟩)]))) (ht0 : w.cell? t = some old) (hf0 : w.frozen? t = false) :
    Calls Tryz.prog 32 #[.iface 102 (.int .i64 k), .iface 115 (.pointer (some t))] w fun ev w' => ev = .returned (.bool true) ∧ w' = ((((w.alloc (.cells #[.pointer (some t)] 115)).alloc (.cells #[.pointer (some ⟨6, 115, none⟩), .pointer (some ⟨w.heap.size, 0, none⟩), .int .u64 150] 152)).alloc (.cells #[.pointer (some ⟨6, 115, none⟩), .pointer (some ⟨w.heap.size, 0, none⟩), .int .u64 150] 152)).alloc (.cells #[.int .i64 k] 102)).setCell t (.int .i64 k) := by
  have x24 := @run_callFunc_extern Tryz.prog 70 _ (fun args => ReflectliteValue.unpack (args.getD 0 (.tuple #[]))) Tryz.func70 (by kernel_rfl) (by kernel_rfl) (by kernel_rfl) (by kernel_rfl)
  have x25 := @run_callFunc_extern Tryz.prog 71 _ (ReflectliteValue.methodAny (ReflectliteValue.valueError "reflectlite.Value.Type" 0) (fun t _ _ _ => ReflectliteType.toType t)) Tryz.func71 (by kernel_rfl) (by kernel_rfl) (by kernel_rfl) (by kernel_rfl)
  have x26 := @run_callFunc_extern Tryz.prog 72 _ (ReflectliteValue.method (ReflectliteValue.valueError "reflectlite.Value.IsNil" 0) ReflectliteValue.isNil) Tryz.func72 (by kernel_rfl) (by kernel_rfl) (by kernel_rfl) (by kernel_rfl)
  have x46 := @run_callFunc_extern Tryz.prog 166 _ (ReflectliteType.abiMethod fun t => do pure (.int .u8 (← Rtype.kind t))) Tryz.func166 (by kernel_rfl) (by kernel_rfl) (by kernel_rfl) (by kernel_rfl)
  have x56 := @run_callFunc_extern Tryz.prog 176 _ (ReflectliteType.method ReflectliteType.elem) Tryz.func176 (by kernel_rfl) (by kernel_rfl) (by kernel_rfl) (by kernel_rfl)
  have x57 := @run_callFunc_extern Tryz.prog 177 _ (ReflectliteType.relation "Implements" ReflectliteType.implements_) Tryz.func177 (by kernel_rfl) (by kernel_rfl) (by kernel_rfl) (by kernel_rfl)
  have x29 := @run_callFunc_extern Tryz.prog 103 _ ReflectliteType.typeOf Tryz.func103 (by kernel_rfl) (by kernel_rfl) (by kernel_rfl) (by kernel_rfl)
  have x54 := @run_callFunc_extern Tryz.prog 174 _ (ReflectliteType.relation "AssignableTo" ReflectliteType.assignableTo) Tryz.func174 (by kernel_rfl) (by kernel_rfl) (by kernel_rfl) (by kernel_rfl)
  have x30 := @run_callFunc_extern Tryz.prog 104 _ (ReflectliteValue.method (ReflectliteValue.valueError "reflectlite.Value.Elem" 0) ReflectliteValue.elem) Tryz.func104 (by kernel_rfl) (by kernel_rfl) (by kernel_rfl) (by kernel_rfl)
  have x31 := @run_callFunc_extern Tryz.prog 105 _ ReflectliteValue.set Tryz.func105 (by kernel_rfl) (by kernel_rfl) (by kernel_rfl) (by kernel_rfl)
  have y0 := asTypeOfE
  have y1 := asMethodAssignableTo
  have y2 := asAssignableE
  have y3 := asValueOfE
  have y4 := asValueOfP
  have y5 := asTypeP
  have y6 := asMethodKind
  have y7 := asMethodElem
  have y8 := asMethodImplements
  have y9 := asKindP
  have y10 := asKindE
  have y11 := asElemP
  have y12 := asImplementsE
  have n8 := asIsNilP ⟨w.heap.size, 0, none⟩ t ((w.alloc (.cells #[.pointer (some t)] 115)).alloc (.cells #[.pointer (some ⟨6, 115, none⟩), .pointer (some ⟨w.heap.size, 0, none⟩), .int .u64 150] 152)) (by simp)
  have hlt : 0 < w.heap.size := block_lt_of_cell hg
  have hg2 : ((w.alloc (.cells #[.pointer (some t)] 115)).alloc (.cells #[.pointer (some ⟨6, 115, none⟩), .pointer (some ⟨w.heap.size, 0, none⟩), .int .u64 150] 152)).cell? ⟨0, 0, none⟩ = some (.iface 182 (.agg #[.pointer (some ⟨6, 44, none⟩)])) := by
    rw [World.cell?_alloc_lt _ _ ⟨0, 0, none⟩ (by simp <;> omega), World.cell?_alloc_lt _ _ ⟨0, 0, none⟩ hlt]; exact hg
  have htl : t.block < w.heap.size := block_lt_of_cell ht0
  have el := asElemVP ⟨w.heap.size, 0, none⟩ t (((w.alloc (.cells #[.pointer (some t)] 115)).alloc (.cells #[.pointer (some ⟨6, 115, none⟩), .pointer (some ⟨w.heap.size, 0, none⟩), .int .u64 150] 152)).alloc (.cells #[.pointer (some ⟨6, 115, none⟩), .pointer (some ⟨w.heap.size, 0, none⟩), .int .u64 150] 152)) (by rw [World.cell?_alloc_lt _ _ ⟨w.heap.size, 0, none⟩ (by simp; omega)]; simp)
  have st := asSetE t ⟨w.heap.size + 1 + 1 + 1, 0, none⟩ k old ((((w.alloc (.cells #[.pointer (some t)] 115)).alloc (.cells #[.pointer (some ⟨6, 115, none⟩), .pointer (some ⟨w.heap.size, 0, none⟩), .int .u64 150] 152)).alloc (.cells #[.pointer (some ⟨6, 115, none⟩), .pointer (some ⟨w.heap.size, 0, none⟩), .int .u64 150] 152)).alloc (.cells #[.int .i64 k] 102))
    (by rw [World.cell?_alloc_at _ _ _ _ (by simp)]; rfl)
    (by rw [World.cell?_alloc_lt _ _ t (by simp; omega), World.cell?_alloc_lt _ _ t (by simp; omega), World.cell?_alloc_lt _ _ t (by simp; omega), World.cell?_alloc_lt _ _ t htl]; exact ht0)
    (by rw [World.frozen?_alloc_old _ _ t (by simp; omega), World.frozen?_alloc_old _ _ t (by simp; omega), World.frozen?_alloc_old _ _ t (by simp; omega), World.frozen?_alloc_old _ _ t (Nat.ne_of_lt htl)]; exact hf0)
  go_enter Tryz.func32, Tryz.ntmps32
  go_wp2
  refine wp_loop_rounds 1 ?_
  rw [rounds_succ]
  go_wp2
  go_ret
  exact ⟨rfl, rfl⟩
end Go.Proofs.YtcpknafaocdjdaaGreatDoor

/- the statements' own function that tells an error's number, by errors.As. -/
namespace Go.Proofs.YtcpknafaocdjdaaGreatDoor
open Go.RowKit
set_option linter.unusedVariables false

theorem ErrT.lt {w : World} (h : ErrT w) : 0 < w.heap.size := block_lt_of_cell h
theorem ErrT.below {w w' : World} (h : ErrT w) {B : Nat} (hB : w.heap.size ≤ B) (hb : Below B w w') : ErrT w' :=
  (hb.cell (p := ⟨0, 0, none⟩) (by have := h.lt; simp; omega)).trans h

theorem as_use (k : Int) (t : Addr) (old : Value) (w : World) (hg : w.cell? ⟨0, 0, none⟩ = some (.iface 182 (.agg #[.pointer (some ⟨6, 44, none⟩)]))) (ht0 : w.cell? t = some old) (hf0 : w.frozen? t = false) :
    Calls Tryz.prog 32 #[.iface 102 (.int .i64 k), .iface 115 (.pointer (some t))] w fun ev w' => ev = .returned (.bool true) ∧ w'.cell? t = some (.int .i64 k) ∧ ∀ B, B ≤ t.block → Below B w w' := by
  refine (as_hit k t old w hg ht0 hf0).mono ?_
  rintro e w' ⟨he, hw⟩
  have htl : t.block < w.heap.size := block_lt_of_cell ht0
  refine ⟨he, ?_, fun B hB => ?_⟩
  · rw [hw]
    refine World.cell?_setCell_same _ _ _ (u := old) ?_
    rw [World.cell?_alloc_lt _ _ t (by simp; omega), World.cell?_alloc_lt _ _ t (by simp; omega), World.cell?_alloc_lt _ _ t (by simp; omega), World.cell?_alloc_lt _ _ t htl]; exact ht0
  · rw [hw]
    refine Below.setCell ?_ hB _
    exact ((((Below.refl B w).alloc (by omega) _).alloc (by simp; omega) _).alloc (by simp; omega) _).alloc (by simp; omega) _

set_option maxHeartbeats 400000 in
theorem num_nil (w : World) : Calls Tryz.prog 17 #[.nilIface] w fun e w' => e = .returned (.int .i64 0) ∧ Below w.heap.size w w' := by
  go_enter Tryz.func17, Tryz.ntmps17
  go_wp2
  go_ret
  exact ⟨rfl, (Below.refl _ _).alloc (Nat.le_refl _) _⟩

set_option maxHeartbeats 400000 in
theorem num_hit (k : Int) (w : World) (hg : ErrT w) : Calls Tryz.prog 17 #[.iface 102 (.int .i64 k)] w fun e w' => e = .returned (.int .i64 k) ∧ Below w.heap.size w w' := by
  have hlt := hg.lt
  have hg1 : (w.alloc (.cells #[.int .i64 0] 102)).cell? ⟨0, 0, none⟩ = some (.iface 182 (.agg #[.pointer (some ⟨6, 44, none⟩)])) := by
    rw [World.cell?_alloc_lt _ _ ⟨0, 0, none⟩ hlt]; exact hg
  have HG := hide hg1; clear hg1 hg
  go_enter Tryz.func17, Tryz.ntmps17
  go_wp2_with fail
  refine (as_use k ⟨w.heap.size, 0, none⟩ (.int .i64 0) _ (unhide HG) (by simp) (by simp)).mono ?_
  rintro e w1 ⟨rfl, hc, hb⟩
  have hb1 := ((Below.refl w.heap.size w).alloc (Nat.le_refl _) _).trans (hb w.heap.size (Nat.le_refl _))
  have HB := hide hb1; clear hb hb1 HG
  go_wp2
  go_ret
  exact ⟨rfl, unhide HB⟩
theorem num_any (k : Int) (w : World) (hg : ErrT w) : Calls Tryz.prog 17 #[errV k] w fun e w' => e = .returned (.int .i64 k) ∧ Below w.heap.size w w' := by
  by_cases h : k = 0
  · subst h; rw [errV_0]; exact num_nil w
  · have : errV k = .iface 102 (.int .i64 k) := by simp [errV, h]
    rw [this]; exact num_hit k w hg
end Go.Proofs.YtcpknafaocdjdaaGreatDoor

/- mandrellaw08.sure: its walk. By mksu.py. -/
namespace Go.Proofs.YtcpknafaocdjdaaGreatDoor
open Go.RowKit Go.Shelf
namespace Vw
set_option linter.unusedVariables false
set_option linter.unusedSimpArgs false
open Ex (Ins Lies Lab cnt)
open Gm (Mod Typ Fnc Byts ModL WfM LL TypC FncC)
theorem five_al (w : World) (c0 c1 c2 c3 c4 : Array Value) (t0 t1 t2 t3 t4 : TypeId) : ∃ WX, ((((w.alloc (.cells c0 t0)).alloc (.cells c1 t1)).alloc (.cells c2 t2)).alloc (.cells c3 t3)).alloc (.cells c4 t4) = WX ∧ Below w.heap.size w WX ∧ WX.heap[w.heap.size]? = some (.cells c0 t0 (0, 0)) ∧ WX.heap[w.heap.size + 1]? = some (.cells c1 t1 (0, 0)) ∧ WX.heap[w.heap.size + 2]? = some (.cells c2 t2 (0, 0)) ∧ WX.heap[w.heap.size + 3]? = some (.cells c3 t3 (0, 0)) ∧ WX.heap[w.heap.size + 4]? = some (.cells c4 t4 (0, 0)) := by
  obtain ⟨W3, h3, b3, z3, r0, r1, r2⟩ := three_al w c0 c1 c2 t0 t1 t2
  rw [h3]
  obtain ⟨WX, hX, bX, zX, r3, r4⟩ := two_al W3 c3 c4 t3 t4
  rw [z3] at r3 r4
  exact ⟨WX, hX, Below.on0 b3 bX b3.size, (bX.block _ (by omega)).trans r0, (bX.block _ (by omega)).trans r1, (bX.block _ (by omega)).trans r2, r3, r4⟩
theorem Ms_kinds : kinds Ms = true := by decide
theorem Ms_n0 : hgN Ms 0 = 0 := by
  have : (Gm.ty? Ms 0).isSome = true := by decide
  unfold hgN; rw [this, Ms_kinds, show (0 : Int).toNat = 0 from rfl, Ms_over0]; rfl
theorem Ms_e0 : hgE Ms 0 = 0 := by
  have : (Gm.ty? Ms 0).isSome = true := by decide
  unfold hgE; rw [this, Ms_kinds, show (0 : Int).toNat = 0 from rfl, Ms_over0]; rfl
theorem Ms_e1 : hgE Ms 1 = 7 := by
  have : (Gm.ty? Ms 1).isSome = true := by decide
  unfold hgE; rw [this, Ms_kinds, show (1 : Int).toNat = 1 from rfl, Ms_over1]; rfl
theorem Ms_ck {e : Ending} (h : CkP Ms e) : e = .returned (.tuple #[.int .i64 1, .iface 102 (.int .i64 7)]) := by
  obtain ⟨a, er, rfl, h | ⟨rfl, k, hk, rfl, ho, hl⟩⟩ := h
  · have := h.2.2 1 (by decide); rw [Ms_over1] at this; cases this
  · have hk2 : k < 2 := hk
    match k, hk2 with
    | 0, _ => rw [Ms_over0] at ho; cases ho
    | 1, _ => rw [errV_7]; rfl

set_option maxRecDepth 100000 in
set_option maxHeartbeats 4000000 in
theorem sure08 (w : World) (hT : Tb w) (hE : ErrT w) : Calls Tryz.prog 10 #[] w fun e w' => e = .returned (.bool true) ∧ Below w.heap.size w w' := by
  obtain ⟨WX, hWX, hBX, r0, r1, r2, r3, r4⟩ := five_al w #[.slice none 0 0, .int .u8 0] #[.int .u8 0, .int .i64 0, .int .u32 0, .int .u32 0, .int .u8 0, .slice none 0 0, .slice none 0 0, .slice none 0 0, .int .u8 26, .int .i64 0, .int .u32 0, .int .u32 0, .int .u8 0, .slice none 0 0, .slice none 0 0, .slice none 0 0] #[.int .u8 26, .int .i64 0, .int .u32 0, .int .u32 0, .int .u8 0, .slice none 0 0, .slice none 0 0, .slice none 0 0] #[.int .u32 0, .slice none 0 0, .slice (some ⟨w.heap.size + 1, 0, none⟩) 2 2, .int .u32 0, .slice none 0 0, .slice (some ⟨w.heap.size + 2, 0, none⟩) 1 1] #[.slice (some ⟨w.heap.size, 0, none⟩) 1 1, .slice (some ⟨w.heap.size + 3, 0, none⟩) 2 2, .slice none 0 0, .slice none 0 0, .slice none 0 0, .slice none 0 0, .slice none 0 0, .slice none 0 0] 96 63 63 66 41
  have hmd := Ms_lies r0 r1 r2 r3
  have hmw := fun U (hU : Below WX.heap.size WX U) => hmd.moved (g' := fun b => b < U.heap.size) (Gm.Mv.below hU (fun k hk _ => Nat.lt_of_lt_of_le hk hU.size)) hU.size
  have htb := fun U (hU : Below WX.heap.size WX U) => hT.below (Below.on0 hBX hU hBX.size)
  have hhe := fun U (hU : Below WX.heap.size WX U) => height_any ciOk (hmw U hU) Ms_wf (htb U hU) Ms_sz 0
  have hb0 := fun U (hU : Below WX.heap.size WX U) => body_any ciOk (hmw U hU) Ms_wf (htb U hU) Ms_sz 0
  have hb1 := fun U (hU : Below WX.heap.size WX U) => body_any ciOk (hmw U hU) Ms_wf (htb U hU) Ms_sz 1
  have hck := fun U (hU : Below WX.heap.size WX U) => check_nil (hmw U hU) Ms_wf (htb U hU) Ms_sz Ms_kinds Ms_ty
  have hnu := fun U (hU : Below WX.heap.size WX U) => num_hit 7 U (hE.below (Nat.le_refl _) (Below.on0 hBX hU hBX.size))
  rw [Ms_n0, Ms_e0, errV_0] at hhe
  rw [Ms_e0, errV_0] at hb0
  rw [Ms_e1, errV_7] at hb1
  have HHe := hide hhe; have Hb0 := hide hb0; have Hb1 := hide hb1; have HCk := hide hck; have HNu := hide hnu; have HWX := hide hWX; have HBX := hide hBX
  obtain ⟨p0, p1, p2, p3, p4, p5, p6, p7⟩ := mbox r4
  have HRx := hide r4
  have hltx := (Array.getElem?_eq_some_iff.1 r4).1
  have HBx := hide (Below.refl WX.heap.size WX)
  clear hhe hb0 hb1 hck hnu hWX hBX htb hmw hmd r0 r1 r2 r3 r4 hT hE
  go_enter Tryz.func10, Tryz.ntmps10
  go_upto_region 2 with fail
  rw [unhide HWX]
  clear HWX
  go_wp2_with fail
  refine (unhide HHe WX (unhide HBx)).mono ?_
  rintro e w1 ⟨rfl, hb1⟩
  have hr1 := (hb1.block _ (Array.getElem?_eq_some_iff.1 (unhide HRx)).1).trans (unhide HRx)
  have hlt1 := (Array.getElem?_eq_some_iff.1 hr1).1
  have HB1 := hide ((unhide HBx).trans (hb1.mono (unhide HBx).size)); have HR1 := hide hr1
  clear hb1 p0 p1 p2 p3 p4 p5 p6 p7
  obtain ⟨p0, p1, p2, p3, p4, p5, p6, p7⟩ := mbox hr1
  clear hr1
  go_wp2_with fail
  refine (unhide HCk w1 (unhide HB1)).mono ?_
  rintro e w2 ⟨he2, hb2⟩
  obtain rfl := Ms_ck he2
  clear he2
  have hr2 := (hb2.block _ (Array.getElem?_eq_some_iff.1 (unhide HR1)).1).trans (unhide HR1)
  have hlt2 := (Array.getElem?_eq_some_iff.1 hr2).1
  have HB2 := hide ((unhide HB1).trans (hb2.mono (unhide HB1).size)); have HR2 := hide hr2
  clear hb2 p0 p1 p2 p3 p4 p5 p6 p7
  obtain ⟨p0, p1, p2, p3, p4, p5, p6, p7⟩ := mbox hr2
  clear hr2
  go_wp2_with fail
  refine (unhide Hb0 w2 (unhide HB2)).mono ?_
  rintro e w3 ⟨rfl, hb3⟩
  have hr3 := (hb3.block _ (Array.getElem?_eq_some_iff.1 (unhide HR2)).1).trans (unhide HR2)
  have hlt3 := (Array.getElem?_eq_some_iff.1 hr3).1
  have HB3 := hide ((unhide HB2).trans (hb3.mono (unhide HB2).size)); have HR3 := hide hr3
  clear hb3 p0 p1 p2 p3 p4 p5 p6 p7
  obtain ⟨p0, p1, p2, p3, p4, p5, p6, p7⟩ := mbox hr3
  clear hr3
  go_wp2_with fail
  refine (unhide Hb1 w3 (unhide HB3)).mono ?_
  rintro e w4 ⟨rfl, hb4⟩
  have hr4 := (hb4.block _ (Array.getElem?_eq_some_iff.1 (unhide HR3)).1).trans (unhide HR3)
  have hlt4 := (Array.getElem?_eq_some_iff.1 hr4).1
  have HB4 := hide ((unhide HB3).trans (hb4.mono (unhide HB3).size)); have HR4 := hide hr4
  clear hb4 p0 p1 p2 p3 p4 p5 p6 p7
  obtain ⟨p0, p1, p2, p3, p4, p5, p6, p7⟩ := mbox hr4
  clear hr4
  go_wp2_with fail
  refine (unhide HNu w4 (unhide HB4)).mono ?_
  rintro e w5 ⟨rfl, hb5⟩
  have hr5 := (hb5.block _ (Array.getElem?_eq_some_iff.1 (unhide HR4)).1).trans (unhide HR4)
  have hlt5 := (Array.getElem?_eq_some_iff.1 hr5).1
  have HB5 := hide ((unhide HB4).trans (hb5.mono (unhide HB4).size)); have HR5 := hide hr5
  clear hb5 p0 p1 p2 p3 p4 p5 p6 p7
  obtain ⟨p0, p1, p2, p3, p4, p5, p6, p7⟩ := mbox hr5
  clear hr5
  go_wp2_with fail
  refine (unhide HNu w5 (unhide HB5)).mono ?_
  rintro e w6 ⟨rfl, hb6⟩
  have HBz := hide (Below.on0 (unhide HBX) ((unhide HB5).trans (hb6.mono (unhide HB5).size)) (unhide HBX).size)
  clear hb6
  go_wp2
  go_ret
  exact ⟨rfl, unhide HBz⟩
end Vw
end Go.Proofs.YtcpknafaocdjdaaGreatDoor
