/- K33: what follows, part by part: each part tells what it holds. -/
import Derived.Test.YtglehoekehiaiaaGreatDoorK2
import Derived.Test.YtglehoekehiaiaaGreatDoorBase
import Derived.LaidEql
import Derived.Stop.Asserts
import Derived.RowKitTokens
namespace Go.Proofs.YtglehoekehiaiaaGreatDoor
open Go.RowKit
set_option linter.unusedVariables false
set_option linter.unusedSimpArgs false
set_option maxRecDepth 100000
set_option maxHeartbeats 32000000
namespace Vc
/- The statements' heavy: how much code there is. -/
def totI (l : List In) : Nat := (l.map fun x => 1 + x.src.length).sum
def tot (l : List Bl) : Nat := (l.map fun b => b.next.length + totI b.ins).sum
theorem totI_take (l : List In) (j : Nat) (x : In) (h : l[j]? = some x) : totI (l.take (j + 1)) = totI (l.take j) + 1 + x.src.length := by
  have hj := (List.getElem?_eq_some_iff.1 h).1
  have hb : l[j] = x := (List.getElem?_eq_some_iff.1 h).2
  unfold totI
  rw [List.take_succ_eq_append_getElem hj, hb]; simp; omega
theorem tot_take (l : List Bl) (j : Nat) (x : Bl) (h : l[j]? = some x) : tot (l.take (j + 1)) = tot (l.take j) + x.next.length + totI x.ins := by
  have hj := (List.getElem?_eq_some_iff.1 h).1
  have hb : l[j] = x := (List.getElem?_eq_some_iff.1 h).2
  unfold tot
  rw [List.take_succ_eq_append_getElem hj, hb]; simp; omega
/-- numbers that a machine's are; lists as long as may be -/
structure WfI0 (x : In) : Prop where
  op : x.op < 256
  dst : i64 x.dst
  src : ∀ z ∈ x.src, i64 z
  n : i64 x.n
  of0 : 0 ≤ x.of
  of1 : x.of ≤ 4294967295
  len : x.src.length ≤ 9223372036854775807
structure WfB0 (x : Bl) : Prop where
  ins : ∀ y ∈ x.ins, WfI0 y
  next : ∀ z ∈ x.next, i64 z
  dep : i64 x.dep
  len : x.ins.length ≤ 9223372036854775807
  nlen : x.next.length ≤ 9223372036854775807
structure WfC0 (c : Co) : Prop where
  pa : i64 c.pa
  re : i64 c.re
  bl : ∀ b ∈ c.bl, WfB0 b
  len : c.bl.length ≤ 9223372036854775807
theorem le_sum {α : Type} (f : α → Nat) : ∀ {l : List α} {x : α}, x ∈ l → f x ≤ (l.map f).sum
  | [], _, h => by simp at h
  | y :: l, x, h => by
    rcases List.mem_cons.1 h with rfl | h
    · simp
    · have := le_sum f h; simp; omega
theorem len_totI (l : List In) : l.length ≤ totI l := by
  induction l with
  | nil => simp
  | cons x l ih => unfold totI at *; simp; omega
theorem WfC0.up {c : Co} (h : WfC0 c) (h1 : c.bl.length ≤ 200) (h2 : tot c.bl ≤ 1500) : WfC c := by
  refine ⟨h.pa, h.re, fun b hb => ?_, by omega⟩
  have hw := h.bl b hb
  have h3 : b.next.length + totI b.ins ≤ tot c.bl := le_sum (fun b : Bl => b.next.length + totI b.ins) hb
  have h4 := len_totI b.ins
  refine ⟨fun y hy => ?_, hw.next, hw.dep, by omega, by omega⟩
  have hy0 := hw.ins y hy
  have h5 : 1 + y.src.length ≤ totI b.ins := le_sum (fun x : In => 1 + x.src.length) hy
  exact ⟨hy0.op, hy0.dst, hy0.src, hy0.n, hy0.of0, hy0.of1, by omega⟩
/-- what heavy says -/
def HvP (e : Ending) (l : List Bl) : Prop := ∃ b, e = .returned (.bool b) ∧ (b = false → l.length ≤ 200 ∧ tot l ≤ 1500)
theorem heavy_any (pa re : Int) (rs : Bool) (bl : List Bl) (hwf : ∀ b ∈ bl, WfB0 b) (g : Nat → Prop) (v : Value) (w : World) (hv : Bls w g bl v) (hl : bl.length ≤ 9223372036854775807) :
    Calls Tryz.prog 5 #[.agg #[.int .i64 pa, .int .i64 re, .bool rs, v]] w fun e w' => HvP e bl ∧ Below w.heap.size w w' := by
  obtain ⟨a, cp, rfl, hcp, _, hA⟩ := hv
  have htt := fun j x h => tot_take bl j x h
  have ht0 : tot (bl.take 0) = 0 := by simp [tot]
  have htn : tot (bl.take bl.length) = tot bl := by simp
  have HA := hide hA; have HTt := hide htt; have HT0 := hide ht0; have HTn := hide htn; have HWf := hide hwf
  clear hA htt ht0 htn hwf
  have hb0 := one_alloc w (.cells #[.int .i64 pa, .int .i64 re, .bool rs, .slice a bl.length cp] 24)
  have rB := heap_alloc_new w (.cells #[.int .i64 pa, .int .i64 re, .bool rs, .slice a bl.length cp] 24)
  have HB0 := hide hb0
  generalize hL : bl.length = n at *
  have HL := hide hL; clear hL
  by_cases h2 : (200 : Int) < n
  · clear hb0 rB
    go_enter Tryz.func5, Tryz.ntmps5
    go_wp2
    go_ret
    exact ⟨⟨true, rfl, fun h => by cases h⟩, unhide HB0⟩
  have t2 : decide ((200 : Int) < n) = false := by simpa using h2
  have h3 : n ≤ 200 := by omega
  clear h2
  go_enter Tryz.func5, Tryz.ntmps5
  go_wp2_with fail
  generalize w.alloc (.cells #[.int .i64 pa, .int .i64 re, .bool rs, .slice a n cp] 24) = W at *
  have k3 : W.cell? ⟨w.heap.size, 3, none⟩ = some (.slice a n cp) := by rw [cell_of_row W _ 3 _ _ _ rB]; rfl
  clear rB
  go_loopw [3, 4] (fun s c wr => ∃ (j m : Nat), s = .int .i64 m ∧ c = .int .i64 j ∧ (j : Int) ≤ n ∧ (m : Int) ≤ 20000 ∧ (m < 4000 → m = tot (bl.take j)) ∧ wr = W) (fun _ c _ => n - (intOf c).toNat)
  case atStart => exact ⟨0, 0, rfl, rfl, by omega, by omega, fun _ => (unhide HT0).symm, rfl⟩
  case round =>
    obtain ⟨j, m, rfl, rfl, hj, hm, hmt, rfl⟩ := hrel
    have HMt := hide hmt; clear hmt
    by_cases hlt : (j : Int) < n
    · by_cases hm4 : (m : Int) < 4000
      · obtain ⟨x, hx⟩ : ∃ x, bl[j]? = some x := ⟨_, List.getElem?_eq_getElem (by have := unhide HL; omega)⟩
        have hwx := unhide HWf x (List.mem_of_getElem? hx)
        obtain ⟨b, o, rfl, hg, hblt, hit⟩ := unhide HA (by omega)
        obtain ⟨cs, hcl, ⟨vi, vn, rfl, hi, hn⟩, hce⟩ := hit j x hx
        have cc := fun i u hu => ((unhide HB0).cell (p := ⟨b, o + j * 3 + i, none⟩) hblt).trans (hce i u hu)
        have e0 := cc 0 _ rfl; have e1 := cc 1 _ rfl; have e2 := cc 2 _ rfl
        simp only [Nat.add_zero] at e0
        have hq := unhide HTt j x hx
        obtain ⟨ai, ci, rfl, hci, _, hII⟩ := hi
        obtain ⟨an, cn, rfl, _⟩ := hn
        have hls := hwx.len; have hns := hwx.nlen
        have hit2 := fun k y h => totI_take x.ins k y h
        have hi0 : totI (x.ins.take 0) = 0 := by simp [totI]
        have hin : totI (x.ins.take x.ins.length) = totI x.ins := by simp
        have hsl := fun y (hy : y ∈ x.ins) => (hwx.ins y hy).len
        obtain ⟨ins, next, dep⟩ := x
        simp only at *
        have HQ := hide hq; have HII := hide hII; have HIt2 := hide hit2; have HI0 := hide hi0; have HIn := hide hin; have HSl := hide hsl
        clear hx hit hcl hce cc hq hII hit2 hi0 hin hwx hsl hj
        generalize hil : ins.length = il at *
        generalize hnl : next.length = nl at *
        have Hil := hide hil; have Hnl := hide hnl; clear hil hnl
        have hmm : m = tot (bl.take j) := unhide HMt (by omega)
        have HMm := hide hmm; clear hmm
        by_cases hnl4 : (nl : Int) ≤ 4000
        all_goals
          go_wp2_with fail
          go_loopw [3, 5] (fun s c wr' => ∃ (k p : Nat), s = .int .i64 p ∧ c = .int .i64 k ∧ (k : Int) ≤ il ∧ (p : Int) ≤ 20000 ∧ (p < 4000 → p = m + nl + totI (ins.take k)) ∧ wr' = wr) (fun _ c _ => il - (intOf c).toNat)
          case atStart => first | exact ⟨0, m + nl, by go_num, rfl, by omega, by omega, fun _ => by rw [unhide HI0]; omega, rfl⟩ | exact ⟨0, m + 4000, by go_num, rfl, by omega, by omega, fun h => by omega, rfl⟩
          case round =>
            obtain ⟨k, p, rfl, rfl, hk, hp, hpt, rfl⟩ := hrel
            have HPt := hide hpt; clear hpt
            by_cases hklt : (k : Int) < il
            · by_cases hp4 : (p : Int) < 4000
              · obtain ⟨y, hy⟩ : ∃ y, ins[k]? = some y := ⟨_, List.getElem?_eq_getElem (by have := unhide Hil; omega)⟩
                obtain ⟨bi, oi, rfl, _, hbi, hit⟩ := unhide HII (by have := unhide Hil; omega)
                obtain ⟨cs, hcl, ⟨vs, rfl, hs⟩, hce⟩ := hit k y hy
                have cc := fun i u hu => ((unhide HB0).cell (p := ⟨bi, oi + k * 5 + i, none⟩) hbi).trans (hce i u hu)
                have f2 := cc 2 _ rfl
                have hq2 := unhide HIt2 k y hy
                have hsl := unhide HSl y (List.mem_of_getElem? hy)
                obtain ⟨sa, sc, rfl, _⟩ := hs
                obtain ⟨op, dst, src, nn, of⟩ := y
                simp only at *
                have HQ2 := hide hq2
                clear hy hit hcl hce cc hq2 hk
                generalize src.length = sl at *
                by_cases hsl4 : (sl : Int) ≤ 4000
                · go_wp2
                  go_roundw
                  case rel => exact ⟨k + 1, p + 1 + sl, by go_num, by go_num, by omega, by omega, fun _ => by have := unhide HPt (by omega); have := unhide HQ2; omega, trivial⟩
                  case measure => simp [intOf]; omega
                · go_wp2
                  go_roundw
                  case rel => exact ⟨k + 1, p + 1 + 4000, by go_num, by go_num, by omega, by omega, fun h => by omega, trivial⟩
                  case measure => simp [intOf]; omega
              · have tp : decide ((p : Int) < 4000) = false := by simpa using hp4
                go_wp2
                go_roundw
                case rel => exact ⟨j + 1, p, rfl, by go_num, by omega, by omega, fun h => by omega, trivial⟩
                case measure => simp [intOf]; omega
            · have tk : decide ((k : Int) < il) = false := by simpa using hklt
              have hke : k = il := by omega
              go_wp2
              go_roundw
              case rel => exact ⟨j + 1, p, rfl, by go_num, by omega, by omega, fun h => by have h1 := unhide HPt h; have h2 := unhide HQ; have h3 := unhide HMm; have h4 := unhide HIn; rw [hke] at h1; omega, trivial⟩
              case measure => simp [intOf]; omega
      · have tm : decide ((m : Int) < 4000) = false := by simpa using hm4
        have t15 : (1500 : Int) < m := by omega
        clear hm4 hj
        go_wp2
        go_ret
        exact ⟨⟨true, rfl, fun h => by cases h⟩, unhide HB0⟩
    · obtain rfl : j = n := by omega
      clear hj hlt
      by_cases h15 : (1500 : Int) < m
      · go_wp2
        go_ret
        exact ⟨⟨true, rfl, fun h => by cases h⟩, unhide HB0⟩
      · have t15 : decide ((1500 : Int) < m) = false := by simpa using h15
        have HF := hide (show bl.length ≤ 200 ∧ tot bl ≤ 1500 from ⟨by have := unhide HL; omega, by have := unhide HMt (by omega); have := unhide HTn; omega⟩)
        clear h15
        go_wp2
        go_ret
        exact ⟨⟨false, rfl, fun _ => unhide HF⟩, unhide HB0⟩
end Vc
section
open Go.RowKit Go.Extern.Stop Go.Stop Go.Extern
/- errors.As at the target *api.Errno, and the statements' own num: an error's number. After the guide's worked toy of errors.As. -/
/-- what the package variable errors.errorType holds -/
def ErrT (w : World) : Prop := w.cell? ⟨0, 0, none⟩ = some (.iface 148 (.agg #[.pointer (some ⟨2, 33, none⟩)]))
theorem asValueOfP (t : Addr) (w : World) : (ReflectliteValue.unpack (.iface 78 (.pointer (some t)))).run Tryz.prog w
    = .ok (.agg #[.pointer (some ⟨2, 78, none⟩), .pointer (some ⟨w.heap.size, 0, none⟩), .int .u64 150]) (w.alloc (.cells #[.pointer (some t)] 78)) := by kernel_rfl
theorem asTypeP (a : Addr) (w : World) : (ReflectliteValue.methodAny (ReflectliteValue.valueError "reflectlite.Value.Type" 0) (fun t _ _ _ => ReflectliteType.toType t) #[.agg #[.pointer (some ⟨2, 78, none⟩), .pointer (some a), .int .u64 150]]).run Tryz.prog w
    = .ok (.iface 148 (.agg #[.pointer (some ⟨2, 78, none⟩)])) w := by kernel_rfl
theorem asMethodKind (h : Value) (w : World) : (Go.method 339 148 (.agg #[h]) "Kind").run Tryz.prog w = .ok (145, h) w := by kernel_rfl
theorem asKindP (w : World) : ((ReflectliteType.abiMethod fun t => (fun a : Nat => Value.int IntKind.u8 (a : Int)) <$> Rtype.kind t) #[.pointer (some ⟨2, 78, none⟩)]).run Tryz.prog w = .ok (.int .u8 22) w := by kernel_rfl
theorem asKindE (w : World) : ((ReflectliteType.abiMethod fun t => (fun a : Nat => Value.int IntKind.u8 (a : Int)) <$> Rtype.kind t) #[.pointer (some ⟨2, 76, none⟩)]).run Tryz.prog w = .ok (.int .u8 2) w := by kernel_rfl
theorem asPartsP (a : Addr) (w : World) : (ReflectliteValue.parts (.agg #[.pointer (some ⟨2, 78, none⟩), .pointer (some a), .int .u64 150])).run Tryz.prog w = .ok (some (78, a, 150)) w := by kernel_rfl
theorem asIsNilP (a p : Addr) (W : World) (ha : W.cell? a = some (.pointer (some p))) :
    (ReflectliteValue.method (ReflectliteValue.valueError "reflectlite.Value.IsNil" 0) ReflectliteValue.isNil #[.agg #[.pointer (some ⟨2, 78, none⟩), .pointer (some a), .int .u64 150]]).run Tryz.prog W = .ok (.bool false) W := by
  show Sem.run Tryz.prog (ReflectliteValue.parts (.agg #[.pointer (some ⟨2, 78, none⟩), .pointer (some a), .int .u64 150]) >>= fun q => _) W = _
  simp only [Sem.run_bind, asPartsP, Result.andThen]
  simp [ReflectliteValue.isNil, loadVar, isAgg, underlying, Tryz.underlying78, ha, Result.andThen]
theorem asMethodElem (h : Value) (w : World) : (Go.method 339 148 (.agg #[h]) "Elem").run Tryz.prog w = .ok (155, .agg #[h]) w := by kernel_rfl
theorem asMethodImplements (h : Value) (w : World) : (Go.method 339 148 (.agg #[h]) "Implements").run Tryz.prog w = .ok (156, .agg #[h]) w := by kernel_rfl
theorem asMethodAssignableTo (h : Value) (w : World) : (Go.method 339 148 (.agg #[h]) "AssignableTo").run Tryz.prog w = .ok (153, .agg #[h]) w := by kernel_rfl
theorem asElemP (w : World) : (ReflectliteType.method ReflectliteType.elem #[.agg #[.pointer (some ⟨2, 78, none⟩)]]).run Tryz.prog w = .ok (.iface 148 (.agg #[.pointer (some ⟨2, 76, none⟩)])) w := by kernel_rfl
theorem asImplementsE (w : World) : (ReflectliteType.relation "Implements" ReflectliteType.implements_ #[.agg #[.pointer (some ⟨2, 76, none⟩)], .iface 148 (.agg #[.pointer (some ⟨2, 33, none⟩)])]).run Tryz.prog w = .ok (.bool true) w := by kernel_rfl
theorem asTypeOfE (v : Value) (w : World) : (ReflectliteType.typeOf #[.iface 76 v]).run Tryz.prog w = .ok (.iface 148 (.agg #[.pointer (some ⟨2, 76, none⟩)])) w := by kernel_rfl
theorem asAssignableE (w : World) : (ReflectliteType.relation "AssignableTo" ReflectliteType.assignableTo #[.agg #[.pointer (some ⟨2, 76, none⟩)], .iface 148 (.agg #[.pointer (some ⟨2, 76, none⟩)])]).run Tryz.prog w = .ok (.bool true) w := by kernel_rfl
theorem asValueOfE (k : Int) (w : World) : (ReflectliteValue.unpack (.iface 76 (.int .i64 k))).run Tryz.prog w
    = .ok (.agg #[.pointer (some ⟨2, 76, none⟩), .pointer (some ⟨w.heap.size, 0, none⟩), .int .u64 130]) (w.alloc (.cells #[.int .i64 k] 76)) := by kernel_rfl
theorem asElemOfP (w : World) : (Rtype.elem? 78).run Tryz.prog w = .ok (some 76) w := by kernel_rfl
theorem asMkE (p : Addr) (w : World) : (ReflectliteValue.mk 76 p ReflectliteValue.flagAddr).run Tryz.prog w = .ok (.agg #[.pointer (some ⟨2, 76, none⟩), .pointer (some p), .int .u64 386]) w := by kernel_rfl
theorem asElemVP (a p : Addr) (W : World) (ha : W.cell? a = some (.pointer (some p))) :
    (ReflectliteValue.method (ReflectliteValue.valueError "reflectlite.Value.Elem" 0) ReflectliteValue.elem #[.agg #[.pointer (some ⟨2, 78, none⟩), .pointer (some a), .int .u64 150]]).run Tryz.prog W
      = .ok (.agg #[.pointer (some ⟨2, 76, none⟩), .pointer (some p), .int .u64 386]) W := by
  show Sem.run Tryz.prog (ReflectliteValue.parts (.agg #[.pointer (some ⟨2, 78, none⟩), .pointer (some a), .int .u64 150]) >>= fun q => _) W = _
  simp only [Sem.run_bind, asPartsP, Result.andThen]
  simp [ReflectliteValue.elem, loadVar, isAgg, underlying, Tryz.underlying78, ha, Result.andThen, asElemOfP, asMkE]
theorem asPartsEa (a : Addr) (w : World) : (ReflectliteValue.parts (.agg #[.pointer (some ⟨2, 76, none⟩), .pointer (some a), .int .u64 386])).run Tryz.prog w = .ok (some (76, a, 386)) w := by kernel_rfl
theorem asPartsE (a : Addr) (w : World) : (ReflectliteValue.parts (.agg #[.pointer (some ⟨2, 76, none⟩), .pointer (some a), .int .u64 130])).run Tryz.prog w = .ok (some (76, a, 130)) w := by kernel_rfl
theorem asDirectE (w : World) : (Rtype.directlyAssignable 76 76).run Tryz.prog w = .ok true w := by kernel_rfl
theorem asSetE (ta b : Addr) (k : Int) (old : Value) (W : World) (hb : W.cell? b = some (.int .i64 k)) (ht : W.cell? ta = some old) (hf : W.frozen? ta = false) :
    (ReflectliteValue.set #[.agg #[.pointer (some ⟨2, 76, none⟩), .pointer (some ta), .int .u64 386], .agg #[.pointer (some ⟨2, 76, none⟩), .pointer (some b), .int .u64 130]]).run Tryz.prog W
      = .ok (.tuple #[]) (W.setCell ta (.int .i64 k)) := by
  show Sem.run Tryz.prog (ReflectliteValue.parts (.agg #[.pointer (some ⟨2, 76, none⟩), .pointer (some ta), .int .u64 386]) >>= fun p => ReflectliteValue.parts (.agg #[.pointer (some ⟨2, 76, none⟩), .pointer (some b), .int .u64 130]) >>= fun q => _) W = _
  simp only [Sem.run_bind, asPartsEa, asPartsE, Result.andThen]
  simp [ReflectliteValue.flagAddr, loadVar, isAgg, underlying, Tryz.underlying76, hb, Result.andThen, asDirectE, storeVar, Value.cells, storeCells, Addr.add]
  rw [run_store Tryz.prog W ta _ _ (by rfl)]
  simp [ht, hf]
theorem as_hit (k : Int) (t : Addr) (old : Value) (w : World) (hg : w.cell? ⟨0, 0, none⟩ = some (.iface 148 (.agg #[.pointer (some ⟨2, 33, none⟩)]))) (ht0 : w.cell? t = some old) (hf0 : w.frozen? t = false) :
    Calls Tryz.prog 36 #[.iface 76 (.int .i64 k), .iface 78 (.pointer (some t))] w fun ev w' => ev = .returned (.bool true) ∧ w' = ((((w.alloc (.cells #[.pointer (some t)] 78)).alloc (.cells #[.pointer (some ⟨2, 78, none⟩), .pointer (some ⟨w.heap.size, 0, none⟩), .int .u64 150] 108)).alloc (.cells #[.pointer (some ⟨2, 78, none⟩), .pointer (some ⟨w.heap.size, 0, none⟩), .int .u64 150] 108)).alloc (.cells #[.int .i64 k] 76)).setCell t (.int .i64 k) := by
  have x24 := @run_callFunc_extern Tryz.prog 62 _ (fun args => ReflectliteValue.unpack (args.getD 0 (.tuple #[]))) Tryz.func62 (by kernel_rfl) (by kernel_rfl) (by kernel_rfl) (by kernel_rfl)
  have x25 := @run_callFunc_extern Tryz.prog 63 _ (ReflectliteValue.methodAny (ReflectliteValue.valueError "reflectlite.Value.Type" 0) (fun t _ _ _ => ReflectliteType.toType t)) Tryz.func63 (by kernel_rfl) (by kernel_rfl) (by kernel_rfl) (by kernel_rfl)
  have x26 := @run_callFunc_extern Tryz.prog 64 _ (ReflectliteValue.method (ReflectliteValue.valueError "reflectlite.Value.IsNil" 0) ReflectliteValue.isNil) Tryz.func64 (by kernel_rfl) (by kernel_rfl) (by kernel_rfl) (by kernel_rfl)
  have x46 := @run_callFunc_extern Tryz.prog 145 _ (ReflectliteType.abiMethod fun t => do pure (.int .u8 (← Rtype.kind t))) Tryz.func145 (by kernel_rfl) (by kernel_rfl) (by kernel_rfl) (by kernel_rfl)
  have x56 := @run_callFunc_extern Tryz.prog 155 _ (ReflectliteType.method ReflectliteType.elem) Tryz.func155 (by kernel_rfl) (by kernel_rfl) (by kernel_rfl) (by kernel_rfl)
  have x57 := @run_callFunc_extern Tryz.prog 156 _ (ReflectliteType.relation "Implements" ReflectliteType.implements_) Tryz.func156 (by kernel_rfl) (by kernel_rfl) (by kernel_rfl) (by kernel_rfl)
  have x29 := @run_callFunc_extern Tryz.prog 90 _ ReflectliteType.typeOf Tryz.func90 (by kernel_rfl) (by kernel_rfl) (by kernel_rfl) (by kernel_rfl)
  have x54 := @run_callFunc_extern Tryz.prog 153 _ (ReflectliteType.relation "AssignableTo" ReflectliteType.assignableTo) Tryz.func153 (by kernel_rfl) (by kernel_rfl) (by kernel_rfl) (by kernel_rfl)
  have x30 := @run_callFunc_extern Tryz.prog 91 _ (ReflectliteValue.method (ReflectliteValue.valueError "reflectlite.Value.Elem" 0) ReflectliteValue.elem) Tryz.func91 (by kernel_rfl) (by kernel_rfl) (by kernel_rfl) (by kernel_rfl)
  have x31 := @run_callFunc_extern Tryz.prog 92 _ ReflectliteValue.set Tryz.func92 (by kernel_rfl) (by kernel_rfl) (by kernel_rfl) (by kernel_rfl)
  have y0 := asTypeOfE
  have y1 := asMethodAssignableTo
  have y2 := asAssignableE
  have y3 := asValueOfE
  have y4 := asValueOfP
  have y5 := asTypeP
  have y6 := asMethodKind
  have y7 := asMethodElem
  have y8 := asMethodImplements
  have y9 := asKindP
  have y10 := asKindE
  have y11 := asElemP
  have y12 := asImplementsE
  have n8 := asIsNilP ⟨w.heap.size, 0, none⟩ t ((w.alloc (.cells #[.pointer (some t)] 78)).alloc (.cells #[.pointer (some ⟨2, 78, none⟩), .pointer (some ⟨w.heap.size, 0, none⟩), .int .u64 150] 108)) (by simp)
  have hlt : 0 < w.heap.size := block_lt_of_cell hg
  have hg2 : ((w.alloc (.cells #[.pointer (some t)] 78)).alloc (.cells #[.pointer (some ⟨2, 78, none⟩), .pointer (some ⟨w.heap.size, 0, none⟩), .int .u64 150] 108)).cell? ⟨0, 0, none⟩ = some (.iface 148 (.agg #[.pointer (some ⟨2, 33, none⟩)])) := by
    rw [World.cell?_alloc_lt _ _ ⟨0, 0, none⟩ (by simp <;> omega), World.cell?_alloc_lt _ _ ⟨0, 0, none⟩ hlt]; exact hg
  have htl : t.block < w.heap.size := block_lt_of_cell ht0
  have el := asElemVP ⟨w.heap.size, 0, none⟩ t (((w.alloc (.cells #[.pointer (some t)] 78)).alloc (.cells #[.pointer (some ⟨2, 78, none⟩), .pointer (some ⟨w.heap.size, 0, none⟩), .int .u64 150] 108)).alloc (.cells #[.pointer (some ⟨2, 78, none⟩), .pointer (some ⟨w.heap.size, 0, none⟩), .int .u64 150] 108)) (by rw [World.cell?_alloc_lt _ _ ⟨w.heap.size, 0, none⟩ (by simp; omega)]; simp)
  have st := asSetE t ⟨w.heap.size + 1 + 1 + 1, 0, none⟩ k old ((((w.alloc (.cells #[.pointer (some t)] 78)).alloc (.cells #[.pointer (some ⟨2, 78, none⟩), .pointer (some ⟨w.heap.size, 0, none⟩), .int .u64 150] 108)).alloc (.cells #[.pointer (some ⟨2, 78, none⟩), .pointer (some ⟨w.heap.size, 0, none⟩), .int .u64 150] 108)).alloc (.cells #[.int .i64 k] 76))
    (by rw [World.cell?_alloc_at _ _ _ _ (by simp)]; rfl)
    (by rw [World.cell?_alloc_lt _ _ t (by simp; omega), World.cell?_alloc_lt _ _ t (by simp; omega), World.cell?_alloc_lt _ _ t (by simp; omega), World.cell?_alloc_lt _ _ t htl]; exact ht0)
    (by rw [World.frozen?_alloc_old _ _ t (by simp; omega), World.frozen?_alloc_old _ _ t (by simp; omega), World.frozen?_alloc_old _ _ t (by simp; omega), World.frozen?_alloc_old _ _ t (Nat.ne_of_lt htl)]; exact hf0)
  go_enter Tryz.func36, Tryz.ntmps36
  go_wp2
  refine wp_loop_rounds 1 ?_
  rw [rounds_succ]
  go_wp2
  go_ret
  exact ⟨rfl, rfl⟩
end
/- the statements' own function that tells an error's number, by errors.As. -/
theorem ErrT.lt {w : World} (h : ErrT w) : 0 < w.heap.size := block_lt_of_cell h
theorem ErrT.below {w w' : World} (h : ErrT w) {B : Nat} (hB : w.heap.size ≤ B) (hb : Below B w w') : ErrT w' :=
  (hb.cell (p := ⟨0, 0, none⟩) (by have := h.lt; simp; omega)).trans h
theorem as_use (k : Int) (t : Addr) (old : Value) (w : World) (hg : w.cell? ⟨0, 0, none⟩ = some (.iface 148 (.agg #[.pointer (some ⟨2, 33, none⟩)]))) (ht0 : w.cell? t = some old) (hf0 : w.frozen? t = false) :
    Calls Tryz.prog 36 #[.iface 76 (.int .i64 k), .iface 78 (.pointer (some t))] w fun ev w' => ev = .returned (.bool true) ∧ w'.cell? t = some (.int .i64 k) ∧ ∀ B, B ≤ t.block → Below B w w' := by
  refine (as_hit k t old w hg ht0 hf0).mono ?_
  rintro e w' ⟨he, hw⟩
  have htl : t.block < w.heap.size := block_lt_of_cell ht0
  refine ⟨he, ?_, fun B hB => ?_⟩
  · rw [hw]
    refine World.cell?_setCell_same _ _ _ (u := old) ?_
    rw [World.cell?_alloc_lt _ _ t (by simp; omega), World.cell?_alloc_lt _ _ t (by simp; omega), World.cell?_alloc_lt _ _ t (by simp; omega), World.cell?_alloc_lt _ _ t htl]; exact ht0
  · rw [hw]
    refine Below.setCell ?_ hB _
    exact ((((Below.refl B w).alloc (by omega) _).alloc (by simp; omega) _).alloc (by simp; omega) _).alloc (by simp; omega) _
theorem num_hit (k : Int) (w : World) (hg : ErrT w) : Calls Tryz.prog 12 #[.iface 76 (.int .i64 k)] w fun e w' => e = .returned (.int .i64 k) ∧ Below w.heap.size w w' := by
  have hlt := hg.lt
  have hg1 : (w.alloc (.cells #[.int .i64 0] 76)).cell? ⟨0, 0, none⟩ = some (.iface 148 (.agg #[.pointer (some ⟨2, 33, none⟩)])) := by
    rw [World.cell?_alloc_lt _ _ ⟨0, 0, none⟩ hlt]; exact hg
  have HG := hide hg1; clear hg1 hg
  go_enter Tryz.func12, Tryz.ntmps12
  go_wp2_with fail
  refine (as_use k ⟨w.heap.size, 0, none⟩ (.int .i64 0) _ (unhide HG) (by simp) (by simp)).mono ?_
  rintro e w1 ⟨rfl, hc, hb⟩
  have hb1 := ((Below.refl w.heap.size w).alloc (Nat.le_refl _) _).trans (hb w.heap.size (Nat.le_refl _))
  have HB := hide hb1; clear hb hb1 HG
  go_wp2
  go_ret
  exact ⟨rfl, unhide HB⟩
end Go.Proofs.YtglehoekehiaiaaGreatDoor
