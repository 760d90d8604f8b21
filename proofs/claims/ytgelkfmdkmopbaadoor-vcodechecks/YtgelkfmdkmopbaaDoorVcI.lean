/- A builder of bytes: rows of the call's own, also one that came of a text; append of a text, of bytes. -/
import Derived.Test.YtgelkfmdkmopbaaDoorVcH
import Derived.Lib.AppendStr
import Derived.Lib.ConvBytes
import Derived.RegionTactic
namespace Go.Proofs.YtgelkfmdkmopbaaDoor
open Go.RowKit
namespace Vc
set_option linter.unusedVariables false
set_option linter.unusedSimpArgs false

theorem infoB : (Tryd.prog.info? 5).map (fun i => (i.zero, i.size, i.bytes)) = some (some (.int .u8 0), 1, 1) := by kernel_rfl
def bc (l : List UInt8) : List Value := l.map fun b => Value.int .u8 b.toNat
theorem bc_len (l : List UInt8) : (bc l).length = l.length := by simp [bc]
theorem bc_one (l : List UInt8) : ∀ u ∈ bc l, u.oneCell' = true := by
  intro u hu
  simp only [bc, List.mem_map] at hu
  obtain ⟨b, _, rfl⟩ := hu
  rfl
theorem str_cells (l : List UInt8) : Lib.strCells (str l) = bc l := rfl
theorem str_size (l : List UInt8) : (str l).size = l.length := rfl
/-- bytes of the call's own -/
def Bd (w : World) (B : Nat) (v : Value) (xs : List UInt8) : Prop :=
  (v = .slice none 0 0 ∧ xs = []) ∨ ∃ g cap cur fz, v = .slice (some ⟨g, 0, none⟩) xs.length cap ∧ B ≤ g ∧ w.heap[g]? = some (.cells cur 5 fz) ∧ (fz = (0, 0) ∨ cap ≤ fz.1) ∧ xs.length ≤ cap ∧ cap ≤ maxLen ∧ cur.size = cap ∧ cur.toList.take xs.length = bc xs
theorem Bd.shape {w : World} {B : Nat} {v : Value} {xs : List UInt8} (h : Bd w B v xs) : ∃ a c, v = .slice a xs.length c ∧ xs.length ≤ c := by
  rcases h with ⟨rfl, rfl⟩ | ⟨g, cap, cur, fz, rfl, _, _, _, h, _⟩
  · exact ⟨none, 0, rfl, Nat.le_refl _⟩
  · exact ⟨_, cap, rfl, h⟩
theorem Bd.lt {w : World} {B : Nat} {v : Value} {xs : List UInt8} (h : Bd w B v xs) : ∀ k, v.ownBlock = some k → B ≤ k ∧ ∃ cur fz, w.heap[k]? = some (.cells cur 5 fz) := by
  rcases h with ⟨rfl, rfl⟩ | ⟨g, cap, cur, fz, rfl, hg, hh, _⟩
  · intro k hk; cases hk
  · intro k hk; cases hk; exact ⟨hg, cur, fz, hh⟩
theorem Bd.move {w w' : World} {B : Nat} {v : Value} {xs : List UInt8} (h : Bd w B v xs) (ho : ∀ k, v.ownBlock = some k → w'.heap[k]? = w.heap[k]?) : Bd w' B v xs := by
  rcases h with ⟨rfl, rfl⟩ | ⟨g, cap, cur, fz, rfl, hg, hh, h4⟩
  · exact .inl ⟨rfl, rfl⟩
  · exact .inr ⟨g, cap, cur, fz, rfl, hg, (ho g rfl).trans hh, h4⟩
theorem Bd.below {w w' : World} {B : Nat} {v : Value} {xs : List UInt8} (h : Bd w B v xs) (hb : Below w.heap.size w w') : Bd w' B v xs :=
  h.move fun k hk => hb.block k (by obtain ⟨_, cur, fz, hh⟩ := h.lt k hk; exact (Array.getElem?_eq_some_iff.1 hh).1)
/-- blocks that are none of bytes stay -/
def Kt (w w' : World) : Prop := ∀ (q : Nat) (A : Array Value) (t : TypeId) (z : Nat × Nat), t ≠ 5 → w.heap[q]? = some (Obj.cells A t z) → w'.heap[q]? = w.heap[q]?
theorem Kt.on {w w1 w2 : World} (h : Kt w w1) (h2 : Kt w1 w2) : Kt w w2 := fun q A t z ht hq => (h2 q A t z ht ((h q A t z ht hq).trans hq)).trans (h q A t z ht hq)
theorem Kt.of {w w' : World} (h : Below w.heap.size w w') : Kt w w' := fun q A t z ht hq => h.block q (Array.getElem?_eq_some_iff.1 hq).1
theorem Kt.refl (w : World) : Kt w w := fun _ _ _ _ _ _ => rfl
/-- what an append leaves -/
def Fr (B : Nat) (w w' : World) : Prop := Below B w w' ∧ Kt w w'
theorem Fr.refl (B : Nat) (w : World) : Fr B w w := ⟨Below.refl _ _, Kt.refl _⟩
theorem Fr.on {B : Nat} {w w1 w2 : World} (h : Fr B w w1) (h2 : Fr B w1 w2) : Fr B w w2 := ⟨h.1.trans h2.1, h.2.on h2.2⟩
theorem Fr.of {B : Nat} {w w' : World} (hB : B ≤ w.heap.size) (h : Below w.heap.size w w') : Fr B w w' := ⟨h.mono hB, Kt.of h⟩
theorem Fr.row {B : Nat} {w w' : World} (h : Fr B w w') {q : Nat} {A : Array Value} {t : TypeId} {z : Nat × Nat} (ht : t ≠ 5) (hq : w.heap[q]? = some (.cells A t z)) : w'.heap[q]? = some (.cells A t z) := (h.2 q A t z ht hq).trans hq

theorem run_storeC (P : Program) (g o : Nat) (t : TypeId) (fz : Nat × Nat) : ∀ (vs : List Value) (i : Nat) (cur : Array Value) (w : World), w.heap[g]? = some (.cells cur t fz) → (fz = (0, 0) ∨ cur.size ≤ fz.1) → o + i + vs.length ≤ cur.size → (∀ v ∈ vs, v.oneCell' = true) →
    (storeCells ⟨g, o, none⟩ vs i).run P w = .ok () (w.setRow g (cur.toList.take (o + i) ++ vs ++ cur.toList.drop (o + i + vs.length)).toArray)
  | [], i, cur, w, hg, _, _, _ => by
    simp only [storeCells, List.append_nil, List.length_nil, Nat.add_zero, List.take_append_drop, Array.toArray_toList]
    rw [setRow_self w g cur t fz hg]
    rfl
  | v :: rest, i, cur, w, hg, hfz, hl, h1 => by
    have hi : o + i < cur.size := by simp at hl; omega
    have hadd : (⟨g, o, none⟩ : Addr).add i = ⟨g, o + i, none⟩ := by unfold Addr.add; split <;> simp_all
    have hcell : w.cell? ⟨g, o + i, none⟩ = some cur[o + i] := by simp [World.cell?, hg, hi]
    have hfro : w.frozen? ⟨g, o + i, none⟩ = false := by
      obtain ⟨lo, hi'⟩ := fz
      simp only [World.frozen?, hg, Bool.and_eq_false_iff, decide_eq_false_iff_not]
      rcases hfz with h | h
      · simp only [Prod.mk.injEq] at h; right; omega
      · left; simp only at h; omega
    have hst : (store ((⟨g, o, none⟩ : Addr).add i) v).run P w = .ok () (w.setRow g (cur.setIfInBounds (o + i) v)) := by
      rw [hadd, run_store P w _ v _ (h1 v (by simp)), hcell]
      simp [hfro, setCell_eq_setRow w g (o + i) cur t fz v hg]
    have ih := run_storeC P g o t fz rest (i + 1) (cur.setIfInBounds (o + i) v) (w.setRow g (cur.setIfInBounds (o + i) v)) (setRow_heap w g cur _ t _ hg) (by simpa using hfz) (by simp at hl ⊢; omega) (fun x hx => h1 x (by simp [hx]))
    simp only [storeCells, Sem.run_bind, hst, Result.andThen_ok, ih, setRow_setRow]
    congr 3
    have e := list_seg_step cur.toList (o + i) v rest (by simp at hl ⊢; omega)
    simpa [Array.toList_setIfInBounds, Nat.add_assoc] using e

theorem bd_new {w : World} {B : Nat} {xs ys : List UInt8} (hB : B ≤ w.heap.size) (old : Nat) (hb : xs.length + ys.length ≤ 1099511627776) :
    Bd (w.drew.alloc (.cells ((bc xs).toArray ++ (bc ys).toArray ++ Builtin.zeroCells (Value.int .u8 0).cells (grownCap w (xs.length + ys.length) old 5 - (xs.length + ys.length))) 5)) B
      (.slice (some ⟨w.heap.size, 0, none⟩) (xs.length + ys.length) (grownCap w (xs.length + ys.length) old 5)) (xs ++ ys) ∧
    Below w.heap.size w (w.drew.alloc (.cells ((bc xs).toArray ++ (bc ys).toArray ++ Builtin.zeroCells (Value.int .u8 0).cells (grownCap w (xs.length + ys.length) old 5 - (xs.length + ys.length))) 5)) := by
  have hge := grownCap_ge w (xs.length + ys.length) old 5
  have hcm := grownCap_le_maxLen w (xs.length + ys.length) old 5 (by unfold maxLen; omega)
  have hz1 : (Value.int IntKind.u8 0).cells.size = 1 := rfl
  refine ⟨.inr ⟨w.heap.size, _, _, (0, 0), by rw [List.length_append], hB, heap_alloc_new w.drew _, .inl rfl, by rw [List.length_append]; exact hge, hcm, ?_, ?_⟩, (Below.refl w.heap.size w).drew.alloc (Nat.le_refl _) _⟩
  · simp only [Array.size_append, List.size_toArray, size_zeroCells, hz1, bc_len]; omega
  · simp only [Array.toList_append, bc, List.map_append]
    exact List.take_left' (by simp)
theorem bd_room {w : World} {B g cap : Nat} {xs ys : List UInt8} {cur : Array Value} {fz : Nat × Nat} (hg : B ≤ g) (hh : w.heap[g]? = some (.cells cur 5 fz)) (hfz : fz = (0, 0) ∨ cap ≤ fz.1) (hcm : cap ≤ maxLen) (hcs : cur.size = cap) (ht : cur.toList.take xs.length = bc xs) (hr : xs.length + ys.length ≤ cap) :
    Bd (w.setRow g (cur.toList.take xs.length ++ bc ys ++ cur.toList.drop (xs.length + ys.length)).toArray) B (.slice (some ⟨g, 0, none⟩) (xs.length + ys.length) cap) (xs ++ ys) := by
  refine .inr ⟨g, cap, _, fz, by rw [List.length_append], hg, setRow_heap w g cur _ 5 _ hh, hfz, by rw [List.length_append]; exact hr, hcm, ?_, ?_⟩
  · simp only [List.size_toArray, List.length_append, List.length_take, List.length_drop, Array.length_toList, bc_len]; omega
  · rw [ht]
    simp only [bc, List.map_append]
    exact List.take_left' (by simp)
theorem fr_grown {w w' : World} {B : Nat} {v : Value} {xs : List UInt8} (h : Bd w B v xs) (hB : B ≤ w.heap.size) (hg : w.grownBy w' v.ownBlock) : Fr B w w' := by
  refine ⟨(Below.refl B w).grown hg hB (fun k hk => (h.lt k hk).1), fun q A t z ht hq => hg.block q (Array.getElem?_eq_some_iff.1 hq).1 (fun e => ?_)⟩
  obtain ⟨_, cur, fz, hh⟩ := h.lt q e.symm
  have := hq.symm.trans hh
  simp at this
  exact ht this.2.1
/-- append(own, text...) -/
theorem app_str (w : World) (ty : TypeId) (B : Nat) (v : Value) (xs ys : List UInt8) (hown : Bd w B v xs) (hb : xs.length + ys.length ≤ 1099511627776) (hB : B ≤ w.heap.size) :
    ∃ a' n' c' w', (Builtin.append_ #[56, 9] ty #[v, .string (str ys)]).run Tryd.prog w = .ok (.slice a' n' c') w' ∧ Bd w' B (.slice a' n' c') (xs ++ ys) ∧ Fr B w w' := by
  obtain ⟨i0, hi, hz0, hz1, hz2⟩ := info_parts infoB
  have h0 := hown
  rcases hown with ⟨rfl, rfl⟩ | ⟨g, cap, cur, fz, rfl, hg, hh, hfz, hnc, hcm, hcs, htake⟩
  · by_cases hm : ys.length = 0
    · have : ys = [] := List.eq_nil_of_length_eq_zero hm
      subst this
      refine ⟨none, 0, 0, w, ?_, h0, Fr.refl _ _⟩
      have hf := Lib.run_firstCells_string (P := Tryd.prog) w 1 (str [])
      rw [str_size, List.length_nil] at hf
      simp [Builtin.append_, run_underlying Tryd.underlying56, run_underlying Tryd.underlying9, sizeOf, typeInfo, hi, hz1, Builtin.lenOf, str_size, hf]
    · have hr := run_append_nil_string (P := Tryd.prog) w 56 9 ty 5 i0 (.int .u8 0) Tryd.underlying56 Tryd.underlying9 hi hz0 (str ys) (by rw [str_size]; omega) (by rw [str_size]; simp at hb; omega) (by rw [hz2, str_size]; simp at hb; omega)
      have hn := bd_new (w := w) (xs := []) (ys := ys) hB 0 hb
      simp only [List.length_nil, Nat.zero_add, List.nil_append] at hn
      have e1 : ((str ys).data.map fun b => Value.int .u8 b.toNat) = (bc ([] : List UInt8)).toArray ++ (bc ys).toArray := by
        apply Array.ext'; simp [bc, str]
      rw [e1] at hr
      exact ⟨_, _, _, _, hr, hn.1, Fr.of hB hn.2⟩
  · by_cases hroom : xs.length + ys.length ≤ cap
    · have hf := Lib.run_firstCells_string (P := Tryd.prog) w 1 (str ys)
      rw [str_size, str_cells] at hf
      have hst := run_storeC Tryd.prog g xs.length 5 fz (bc ys) 0 cur w hh (by rw [hcs]; exact hfz) (by rw [bc_len, hcs]; omega) (bc_one ys)
      simp only [Nat.add_zero, bc_len] at hst
      have hrun : (Builtin.append_ #[56, 9] ty #[.slice (some ⟨g, 0, none⟩) xs.length cap, .string (str ys)]).run Tryd.prog w = .ok (.slice (some ⟨g, 0, none⟩) (xs.length + ys.length) cap) (w.setRow g (cur.toList.take xs.length ++ bc ys ++ cur.toList.drop (xs.length + ys.length)).toArray) := by
        simp [Builtin.append_, run_underlying Tryd.underlying56, run_underlying Tryd.underlying9, sizeOf, typeInfo, hi, hz1, Builtin.lenOf, str_size, hroom, hf, Addr.add_lit, hst]
      exact ⟨_, _, _, _, hrun, bd_room hg hh hfz hcm hcs htake hroom, fr_grown h0 hB ⟨rfl, rfl, rfl, by simp, fun k _ hk => setRow_other w g k _ (fun e => hk (by simp [Value.ownBlock, e]))⟩⟩
    · have holds : ∀ j u, (bc xs)[j]? = some u → w.cell? ((⟨g, 0, none⟩ : Addr).add j) = some u := by
        intro j u hu
        rw [Addr.add_lit, Nat.zero_add, cell_of_row w g j cur _ _ hh]
        rw [← htake, List.getElem?_take] at hu
        split at hu
        · simpa using hu
        · cases hu
      have hr := Lib.run_append_grow_string (P := Tryd.prog) w 56 9 ty 5 i0 (.int .u8 0) Tryd.underlying56 Tryd.underlying9 hi hz0 ⟨g, 0, none⟩ xs.length cap (bc xs) (by rw [hz1, bc_len, Nat.mul_one]) holds (str ys) (by rw [str_size]; omega) (by rw [str_size]; omega) (by rw [hz2, str_size]; exact growslice_fits (by omega) (by omega))
      rw [str_size, str_cells] at hr
      have hn := bd_new (w := w) (xs := xs) (ys := ys) hB cap hb
      exact ⟨_, _, _, _, hr, hn.1, Fr.of hB hn.2⟩
/-- append(own, byte) -/
theorem app_row (w : World) (ty : TypeId) (B : Nat) (v : Value) (xs ys : List UInt8) (hx : 0 < xs.length) (hown : Bd w B v xs) (ad : Addr) (c : Nat) (hnews : ∀ j u, (bc ys)[j]? = some u → w.cell? (ad.add j) = some u) (hb : xs.length + ys.length ≤ 1099511627776) (hB : B ≤ w.heap.size) :
    ∃ a' n' c' w', (Builtin.append_ #[56, 56] ty #[v, .slice (some ad) ys.length c]).run Tryd.prog w = .ok (.slice a' n' c') w' ∧ Bd w' B (.slice a' n' c') (xs ++ ys) ∧ Fr B w w' := by
  obtain ⟨i0, hi, hz0, hz1, hz2⟩ := info_parts infoB
  have h0 := hown
  rcases hown with ⟨rfl, rfl⟩ | ⟨g, cap, cur, fz, rfl, hg, hh, hfz, hnc, hcm, hcs, htake⟩
  · simp at hx
  · by_cases hroom : xs.length + ys.length ≤ cap
    · have hf := run_firstCells_some (P := Tryd.prog) w 1 ys.length ad ys.length c (bc ys) (by rw [bc_len, Nat.mul_one]) hnews
      have hst := run_storeC Tryd.prog g xs.length 5 fz (bc ys) 0 cur w hh (by rw [hcs]; exact hfz) (by rw [bc_len, hcs]; omega) (bc_one ys)
      simp only [Nat.add_zero, bc_len] at hst
      have hrun : (Builtin.append_ #[56, 56] ty #[.slice (some ⟨g, 0, none⟩) xs.length cap, .slice (some ad) ys.length c]).run Tryd.prog w = .ok (.slice (some ⟨g, 0, none⟩) (xs.length + ys.length) cap) (w.setRow g (cur.toList.take xs.length ++ bc ys ++ cur.toList.drop (xs.length + ys.length)).toArray) := by
        simp [Builtin.append_, run_underlying Tryd.underlying56, sizeOf, typeInfo, hi, hz1, Builtin.lenOf, hroom, hf, Addr.add_lit, hst]
      exact ⟨_, _, _, _, hrun, bd_room hg hh hfz hcm hcs htake hroom, fr_grown h0 hB ⟨rfl, rfl, rfl, by simp, fun k _ hk => setRow_other w g k _ (fun e => hk (by simp [Value.ownBlock, e]))⟩⟩
    · have holds : ∀ j u, (bc xs)[j]? = some u → w.cell? ((⟨g, 0, none⟩ : Addr).add j) = some u := by
        intro j u hu
        rw [Addr.add_lit, Nat.zero_add, cell_of_row w g j cur _ _ hh]
        rw [← htake, List.getElem?_take] at hu
        split at hu
        · simpa using hu
        · cases hu
      have hr := run_append_grow (P := Tryd.prog) w 56 ty 5 i0 (.int .u8 0) Tryd.underlying56 hi hz0 ⟨g, 0, none⟩ xs.length cap (bc xs) (by rw [hz1, bc_len, Nat.mul_one]) holds ad ys.length c (bc ys) (by rw [hz1, bc_len, Nat.mul_one]) hnews (by omega) (by omega) (by rw [hz2]; exact growslice_fits (by omega) (by omega))
      have hn := bd_new (w := w) (xs := xs) (ys := ys) hB cap hb
      exact ⟨_, _, _, _, hr, hn.1, Fr.of hB hn.2⟩
theorem wp_app {ops : Array Oper} {rest : List Oper} {o : Oper} {a : Act} {Q : Exit → Act → World → Prop} (w : World) (hgd : o.guard = none) (s x : Operand)
    (ho : o.op = .call { callee := .builtin .append, args := #[s, x], argTypes := #[56, 9] })
    (B : Nat) (v : Value) (xs ys : List UInt8) (hs : a.eval s = v) (hown : Bd w B v xs) (hx : a.eval x = .string (str ys)) (hb : xs.length + ys.length ≤ 1099511627776) (hB : B ≤ w.heap.size)
    (h : ∀ a' n' c' w', Bd w' B (.slice a' n' c') (xs ++ ys) → Fr B w w' → wpList Tryd.prog ops Q rest (a.put o.dst (.slice a' n' c')) w') : wpList Tryd.prog ops Q (o :: rest) a w := by
  obtain ⟨a', n', c', w', hrun, h1, h2⟩ := app_str w o.type B v xs ys hown hb hB
  refine wpList_plain hgd fun _ hK => ?_
  unfold Oper.wp
  simp [execOp, ho, resolve, invoke, builtin, hs, hx, hrun, Result.andThen]
  exact hK _ _ (h a' n' c' w' h1 h2)
theorem wp_appb {ops : Array Oper} {rest : List Oper} {o : Oper} {a : Act} {Q : Exit → Act → World → Prop} (w : World) (hgd : o.guard = none) (s x : Operand)
    (ho : o.op = .call { callee := .builtin .append, args := #[s, x], argTypes := #[56, 56] })
    (B : Nat) (v : Value) (xs ys : List UInt8) (h0 : 0 < xs.length) (hs : a.eval s = v) (hown : Bd w B v xs) (ad : Addr) (c m : Nat) (hm : m = ys.length) (hx : a.eval x = .slice (some ad) m c) (hnews : ∀ j u, (bc ys)[j]? = some u → w.cell? (ad.add j) = some u) (hb : xs.length + ys.length ≤ 1099511627776) (hB : B ≤ w.heap.size)
    (h : ∀ a' n' c' w', Bd w' B (.slice a' n' c') (xs ++ ys) → Fr B w w' → wpList Tryd.prog ops Q rest (a.put o.dst (.slice a' n' c')) w') : wpList Tryd.prog ops Q (o :: rest) a w := by
  subst hm
  obtain ⟨a', n', c', w', hrun, h1, h2⟩ := app_row w o.type B v xs ys h0 hown ad c hnews hb hB
  refine wpList_plain hgd fun _ hK => ?_
  unfold Oper.wp
  simp [execOp, ho, resolve, invoke, builtin, hs, hx, hrun, Result.andThen]
  exact hK _ _ (h a' n' c' w' h1 h2)
theorem step_app {ops : Array Oper} {o : Oper} {a : Act} {K : Act → World → Prop} {Q : Exit → Act → World → Prop} {E : Prop} (w : World) (hgd : o.guard = none) (s x : Operand)
    (ho : o.op = .call { callee := .builtin .append, args := #[s, x], argTypes := #[56, 9] })
    (B : Nat) (v : Value) (xs ys : List UInt8) (hs : a.eval s = v) (hown : Bd w B v xs) (hx : a.eval x = .string (str ys)) (hb : xs.length + ys.length ≤ 1099511627776) (hB : B ≤ w.heap.size)
    (h : ∀ a' n' c' w', Bd w' B (.slice a' n' c') (xs ++ ys) → Fr B w w' → K (a.put o.dst (.slice a' n' c')) w') :
    if Region.wanted o (yielded ops a.tmps) = true then Oper.wp Tryd.prog o a w K Q else E := by
  have hw : Region.wanted o (yielded ops a.tmps) = true := by simp [Region.wanted, hgd]
  rw [if_pos hw]
  obtain ⟨a', n', c', w', hrun, h1, h2⟩ := app_str w o.type B v xs ys hown hb hB
  unfold Oper.wp
  simp [execOp, ho, resolve, invoke, builtin, hs, hx, hrun, Result.andThen]
  exact h a' n' c' w' h1 h2
/-- []byte(text) -/
theorem conv_bd (w : World) (l : List UInt8) (hl : l.length ≤ 1099511627776) : ∃ c w', (convert 9 56 (.string (str l))).run Tryd.prog w = .ok (.slice (some ⟨w.heap.size, 0, none⟩) l.length c) w' ∧ Bd w' w.heap.size (.slice (some ⟨w.heap.size, 0, none⟩) l.length c) l ∧ Below w.heap.size w w' := by
  have hr := Lib.run_convert_string_bytes (P := Tryd.prog) w 9 56 5 (str l) Tryd.underlying9 Tryd.underlying56 Tryd.underlying5
  have hge := grownCap_ge w l.length 0 5
  have hcm := grownCap_le_maxLen w l.length 0 5 (by unfold maxLen; omega)
  have hsz : (Lib.bytesCells w 5 (str l)).size = grownCap w l.length 0 5 := by
    simp only [Lib.bytesCells, Array.size_append, Array.size_map, Array.size_replicate, str_size]
    show l.length + _ = _
    omega
  rw [str_size] at hr
  refine ⟨_, _, hr, .inr ⟨_, _, _, _, rfl, Nat.le_refl _, Lib.bytesWorld_at_new w 5 (str l), .inr (by rw [hsz]; exact Nat.le_refl _), hge, hcm, hsz, ?_⟩, ⟨rfl, rfl, rfl, by rw [Lib.bytesWorld_size]; omega, fun k hk => Lib.bytesWorld_at_old w _ _ k hk⟩⟩
  simp only [Lib.bytesCells, Array.toList_append]
  have e : (Array.map (fun b => Value.int IntKind.u8 ↑b.toNat) (str l).data).toList = bc l := by simp [bc, str]
  rw [e]
  exact List.take_left' (bc_len l)
/-- string(bytes) -/
theorem back_bd {w : World} {B : Nat} {a : Option Addr} {n c : Nat} {xs : List UInt8} (h : Bd w B (.slice a n c) xs) : (convert 56 9 (.slice a n c)).run Tryd.prog w = .ok (.string (str xs)) w := by
  rcases h with ⟨e, rfl⟩ | ⟨g, cap, cur, fz, e, hg, hh, _, _, _, _, ht⟩
  · cases e
    rw [run_convert_bytes_nil (P := Tryd.prog) w 56 5 Tryd.underlying56 Tryd.underlying5 0 0 9 Tryd.underlying9]
    rfl
  · simp only [Value.slice.injEq] at e
    obtain ⟨rfl, rfl, rfl⟩ := e
    exact run_convert_bytes_back (P := Tryd.prog) w 56 9 5 ⟨g, 0, none⟩ _ xs Tryd.underlying56 Tryd.underlying5 Tryd.underlying9 (fun j hj => by
      rw [Addr.add_lit, Nat.zero_add, cell_of_row w g j cur _ _ hh]
      have : (cur.toList.take xs.length)[j]? = (bc xs)[j]? := by rw [ht]
      rw [List.getElem?_take, if_pos hj] at this
      rw [← Array.getElem?_toList, this]
      simp [bc, hj])
end Vc
end Go.Proofs.YtgelkfmdkmopbaaDoor
